package impl

const OK = 0
const ErrForm = 1
const ErrMany = 2
const ErrRange = 3
const ErrNone = 4
const ErrText = 5
const ErrZero = 6
const ErrTaken = 7
const ErrOff = 8
const ErrDown = 9
const ErrLost = 10
const ErrBusy = 11
const ErrWiped = 12
const MaxBytes = 4000

// The highest bit that doubling pushes out stands for x^8, which modulo the
// field's polynomial is x^4 + x^3 + x^2 + 1.
const foldedBit byte = 0x1d

const maxMixed = 20
const maxSolved = 16
const maxCauchy = 16

type BytesResult struct {
	Code  int64
	Bytes []byte
}
type IntResult struct {
	Code  int64
	Value int64
}
type IntsResult struct {
	Code int64
	List []int64
}

func MulG(a byte, b byte) byte {
	return productFrom(doublings(a), b)
}

func PowG(a byte, n int64) byte {
	if n < 0 {
		return 0
	}
	power := byte(1)
	for n > 0 {
		if n%2 == 1 {
			power = MulG(power, a)
		}
		a = MulG(a, a)
		n /= 2
	}
	return power
}

func DivG(a byte, b byte) IntResult {
	if b == 0 {
		return IntResult{Code: ErrZero}
	}
	return IntResult{Value: int64(MulG(a, inverse(b)))}
}

func AddBytes(a []byte, b []byte) BytesResult {
	if len(a) != len(b) {
		return BytesResult{Code: ErrForm}
	}
	if len(a) > MaxBytes {
		return BytesResult{Code: ErrMany}
	}
	sums := make([]byte, len(a))
	for i := range len(a) {
		sums[i] = a[i] ^ b[i]
	}
	return BytesResult{Bytes: sums}
}

func ScaleBytes(list []byte, c byte) BytesResult {
	if len(list) > MaxBytes {
		return BytesResult{Code: ErrMany}
	}
	return BytesResult{Bytes: scaled(list, c)}
}

func MixBytes(lists [][]byte, by []byte) BytesResult {
	if len(lists) == 0 || len(by) != len(lists) || !equallyLong(lists) {
		return BytesResult{Code: ErrForm}
	}
	if len(lists) > maxMixed || len(lists[0]) > MaxBytes {
		return BytesResult{Code: ErrMany}
	}
	sums := make([]byte, len(lists[0]))
	for i := range len(lists) {
		addScaled(sums, lists[i], by[i])
	}
	return BytesResult{Bytes: sums}
}

func CauchyG(rows int64, columns int64) BytesResult {
	if rows < 0 || rows > maxCauchy || columns < 1 || columns > maxCauchy {
		return BytesResult{Code: ErrRange}
	}
	matrix := make([]byte, 0, rows*columns)
	for j := range rows {
		for i := range columns {
			// Both are below 16, so bit 7 stays and there is an inverse.
			matrix = append(matrix, inverse(byte((128+j)^i)))
		}
	}
	return BytesResult{Bytes: matrix}
}

func SolveG(rows [][]byte, right []byte) BytesResult {
	size := len(rows)
	if size > maxSolved {
		return BytesResult{Code: ErrMany}
	}
	if size == 0 || len(right) != size || !equallyLong(rows) || len(rows[0]) != size {
		return BytesResult{Code: ErrForm}
	}
	work := make([][]byte, size)
	for i := range size {
		work[i] = joined(rows[i], right[i:i+1])
	}
	if reduceRows(work, size) < size {
		return BytesResult{Code: ErrNone}
	}
	solution := make([]byte, size)
	for i := range size {
		solution[i] = work[i][size]
	}
	return BytesResult{Bytes: solution}
}

func RankG(rows [][]byte) IntResult {
	if len(rows) > maxSolved || oneLonger(rows, maxSolved) {
		return IntResult{Code: ErrMany}
	}
	if !equallyLong(rows) {
		return IntResult{Code: ErrForm}
	}
	if len(rows) == 0 {
		return IntResult{}
	}
	work := make([][]byte, len(rows))
	for i := range len(rows) {
		work[i] = joined(rows[i], nil)
	}
	return IntResult{Value: int64(reduceRows(work, len(rows[0])))}
}

// doublings holds a times x^0 to x^7: every product of a is a sum of these,
// so a factor of 0 needs no case of its own.
func doublings(a byte) [8]byte {
	var table [8]byte
	for i := range 8 {
		table[i] = a
		pushedOut := a >= 128
		a <<= 1
		if pushedOut {
			a ^= foldedBit
		}
	}
	return table
}

func productFrom(table [8]byte, b byte) byte {
	product := byte(0)
	for i := range 8 {
		if b>>i&1 == 1 {
			product ^= table[i]
		}
	}
	return product
}

// inverse wants a b that is not 0: its power 255 is 1, so the power 254 undoes it.
func inverse(b byte) byte {
	return PowG(b, 254)
}

// addScaled changes sums, which must be the caller's own memory.
func addScaled(sums []byte, list []byte, c byte) {
	table := doublings(c)
	for i := range len(list) {
		sums[i] ^= productFrom(table, list[i])
	}
}

func scaled(list []byte, c byte) []byte {
	products := make([]byte, len(list))
	addScaled(products, list, c)
	return products
}

func joined(head []byte, tail []byte) []byte {
	list := make([]byte, len(head)+len(tail))
	copy(list, head)
	copy(list[len(head):], tail)
	return list
}

func equallyLong(lists [][]byte) bool {
	for i := range len(lists) {
		if len(lists[i]) != len(lists[0]) {
			return false
		}
	}
	return true
}

func oneLonger(lists [][]byte, most int) bool {
	for i := range len(lists) {
		if len(lists[i]) > most {
			return true
		}
	}
	return false
}

// reduceRows changes rows, which must be the caller's own memory, until each
// leading 1 within the first columns stands alone in its column, the leading
// ones in order; it tells how many there are. What stands behind these columns
// goes along.
func reduceRows(rows [][]byte, columns int) int {
	done := 0
	for column := range columns {
		from := firstLeading(rows, done, column)
		if from == len(rows) {
			continue
		}
		rows[done], rows[from] = rows[from], rows[done]
		rows[done] = scaled(rows[done], inverse(rows[done][column]))
		clearColumn(rows, done, column)
		done++
	}
	return done
}

// firstLeading is the first row from start on that is not 0 in the column, or
// the number of rows if there is none.
func firstLeading(rows [][]byte, start int, column int) int {
	for i := start; i < len(rows); i++ {
		if rows[i][column] != 0 {
			return i
		}
	}
	return len(rows)
}

func clearColumn(rows [][]byte, leading int, column int) {
	for i := range len(rows) {
		if i != leading {
			addScaled(rows[i], rows[leading], rows[i][column])
		}
	}
}
