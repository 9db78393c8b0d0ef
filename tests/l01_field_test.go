package tests

import (
	"math"
	"testing"

	"loop.example/g00089/impl"
)

// longProduct multiplies polynomials of bits without reducing, then divides:
// another way than the program's to the same product.
func longProduct(a, b byte) byte {
	product := 0
	for i := range 8 {
		if b&(1<<i) != 0 {
			product ^= int(a) << i
		}
	}
	for i := 14; i >= 8; i-- {
		if product&(1<<i) != 0 {
			product ^= 0x11d << (i - 8)
		}
	}
	return byte(product)
}

// dot is the sum of the products of two lists, place by place.
func dot(a, b []byte) byte {
	sum := byte(0)
	for i := range a {
		sum ^= longProduct(a[i], b[i])
	}
	return sum
}

func TestErrorCodes(t *testing.T) {
	codes := []int64{impl.OK, impl.ErrForm, impl.ErrMany, impl.ErrRange, impl.ErrNone, impl.ErrText, impl.ErrZero, impl.ErrTaken, impl.ErrOff, impl.ErrDown, impl.ErrLost, impl.ErrBusy, impl.ErrWiped}
	for i, code := range codes {
		if code != int64(i) {
			t.Errorf("code %d stands at %d", code, i)
		}
	}
	if impl.MaxBytes != 4000 {
		t.Error("MaxBytes")
	}
}

func TestProductsOfAllPairs(t *testing.T) {
	for a := range 256 {
		for b := range 256 {
			if got, want := impl.MulG(byte(a), byte(b)), longProduct(byte(a), byte(b)); got != want {
				t.Fatalf("MulG(%d, %d) = %d, want %d", a, b, got, want)
			}
		}
		if impl.MulG(byte(a), 0) != 0 || impl.MulG(0, byte(a)) != 0 {
			t.Errorf("%d and a factor of 0", a)
		}
		if impl.MulG(byte(a), 1) != byte(a) || impl.MulG(1, byte(a)) != byte(a) {
			t.Errorf("%d and a factor of 1", a)
		}
	}
	if impl.MulG(2, 128) != 29 {
		t.Error("x times x^7")
	}
}

func TestProductsSpreadOverSums(t *testing.T) {
	for a := range 256 {
		for b := range 256 {
			for c := 0; c < 256; c += 7 {
				x, y, z := byte(a), byte(b), byte(c)
				if impl.MulG(x, y^z) != impl.MulG(x, y)^impl.MulG(x, z) {
					t.Fatalf("%d times the sum of %d and %d", a, b, c)
				}
			}
		}
	}
}

func TestPowers(t *testing.T) {
	for a := range 256 {
		power := byte(1)
		for n := range int64(600) {
			if got := impl.PowG(byte(a), n); got != power {
				t.Fatalf("PowG(%d, %d) = %d, want %d", a, n, got, power)
			}
			power = longProduct(power, byte(a))
		}
	}
}

func TestPowersAtTheEdges(t *testing.T) {
	for a := range 256 {
		for _, n := range []int64{-1, -2, -254, -255, math.MinInt64, math.MinInt64 + 1} {
			if got := impl.PowG(byte(a), n); got != 0 {
				t.Errorf("PowG(%d, %d) = %d, want 0", a, n, got)
			}
		}
		if got := impl.PowG(byte(a), 0); got != 1 {
			t.Errorf("PowG(%d, 0) = %d, want 1", a, got)
		}
		for _, n := range []int64{math.MaxInt64, math.MaxInt64 - 1, 1 << 62, 1 << 32, 1<<31 - 1} {
			want := byte(0)
			if a != 0 {
				want = impl.PowG(byte(a), n%255)
			}
			if got := impl.PowG(byte(a), n); got != want {
				t.Errorf("PowG(%d, %d) = %d, want %d", a, n, got, want)
			}
		}
	}
}

func TestQuotientsOfAllPairs(t *testing.T) {
	for a := range 256 {
		wantInt(t, "by 0", impl.DivG(byte(a), 0), impl.IntResult{Code: impl.ErrZero})
		for b := 1; b < 256; b++ {
			q := impl.DivG(byte(a), byte(b))
			if q.Code != impl.OK || q.Value < 0 || q.Value > 255 || longProduct(byte(q.Value), byte(b)) != byte(a) {
				t.Fatalf("DivG(%d, %d) = %v", a, b, q)
			}
			wantInt(t, "product by its factor", impl.DivG(impl.MulG(byte(a), byte(b)), byte(b)), impl.IntResult{Value: int64(a)})
		}
	}
	wantInt(t, "29 by 2", impl.DivG(29, 2), impl.IntResult{Value: 128})
	wantInt(t, "0 by 1", impl.DivG(0, 1), impl.IntResult{})
}

func TestAddBytes(t *testing.T) {
	wantBytes(t, "two lists", impl.AddBytes([]byte{1, 2, 255, 0}, []byte{3, 2, 1, 7}), []byte{2, 0, 254, 7})
	wantBytes(t, "no bytes", impl.AddBytes(nil, []byte{}), nil)
	s := &sequence{state: 1}
	a, b := s.list(impl.MaxBytes), s.list(impl.MaxBytes)
	sum := impl.AddBytes(a, b)
	wantCode(t, "as many as may be", sum, impl.OK)
	wantBytes(t, "a sum and its part", impl.AddBytes(sum.Bytes, b), a)
	wantCode(t, "lengths differ", impl.AddBytes([]byte{1}, []byte{1, 2}), impl.ErrForm)
	wantCode(t, "lengths differ", impl.AddBytes([]byte{1}, nil), impl.ErrForm)
	long := make([]byte, impl.MaxBytes+1)
	wantCode(t, "one too many", impl.AddBytes(long, long), impl.ErrMany)
	wantCode(t, "too many, lengths differ", impl.AddBytes(long, make([]byte, impl.MaxBytes+2)), impl.ErrForm)
	wantCode(t, "too many, lengths differ", impl.AddBytes(a, long), impl.ErrForm)
}

func TestScaleBytes(t *testing.T) {
	all := make([]byte, 256)
	for i := range all {
		all[i] = byte(i)
	}
	for c := range 256 {
		want := make([]byte, len(all))
		for i := range all {
			want[i] = longProduct(all[i], byte(c))
		}
		wantBytes(t, "all bytes", impl.ScaleBytes(all, byte(c)), want)
	}
	wantBytes(t, "no bytes", impl.ScaleBytes(nil, 7), nil)
	most := (&sequence{state: 2}).list(impl.MaxBytes)
	wantBytes(t, "as many as may be", impl.ScaleBytes(most, 1), most)
	wantCode(t, "one too many", impl.ScaleBytes(make([]byte, impl.MaxBytes+1), 0), impl.ErrMany)
}

func TestMixBytes(t *testing.T) {
	wantBytes(t, "one list", impl.MixBytes([][]byte{{1, 2, 128}}, []byte{2}), []byte{2, 4, 29})
	wantBytes(t, "two lists", impl.MixBytes([][]byte{{1, 2}, {5, 128}}, []byte{1, 2}), []byte{11, 31})
	wantBytes(t, "a list twice", impl.MixBytes([][]byte{{9, 8}, {9, 8}}, []byte{3, 3}), []byte{0, 0})
	wantBytes(t, "lists of no bytes", impl.MixBytes([][]byte{nil, {}}, []byte{3, 4}), nil)
	s := &sequence{state: 3}
	lists, by := s.rows(20, impl.MaxBytes), s.list(20)
	mixed := impl.MixBytes(lists, by)
	wantCode(t, "as many as may be", mixed, impl.OK)
	if len(mixed.Bytes) != impl.MaxBytes {
		t.Fatal("length of a mix", len(mixed.Bytes))
	}
	for k := range mixed.Bytes {
		column := make([]byte, 20)
		for i := range lists {
			column[i] = lists[i][k]
		}
		if mixed.Bytes[k] != dot(column, by) {
			t.Fatalf("place %d of a mix", k)
		}
	}
}

func TestMixBytesCodes(t *testing.T) {
	long := make([]byte, impl.MaxBytes+1)
	s := &sequence{state: 4}
	for _, c := range []struct {
		what  string
		lists [][]byte
		by    []byte
		code  int64
	}{
		{"nothing", nil, nil, impl.ErrForm},
		{"no lists", [][]byte{}, []byte{1}, impl.ErrForm},
		{"a factor too few", [][]byte{{1}, {2}}, []byte{1}, impl.ErrForm},
		{"a factor too many", [][]byte{{1}, {2}}, []byte{1, 2, 3}, impl.ErrForm},
		{"lengths differ", [][]byte{{1}, {2, 3}}, []byte{1, 2}, impl.ErrForm},
		{"the last length differs", [][]byte{{1}, {2}, nil}, []byte{1, 2, 0}, impl.ErrForm},
		{"a list too many", s.rows(21, 1), s.list(21), impl.ErrMany},
		{"a list of no bytes too many", make([][]byte, 21), s.list(21), impl.ErrMany},
		{"a byte too many", [][]byte{long}, []byte{1}, impl.ErrMany},
		{"a byte too many in all lists", [][]byte{long, long}, []byte{1, 0}, impl.ErrMany},
		{"a list too many, a factor too few", s.rows(21, 1), s.list(20), impl.ErrForm},
		{"a byte too many, lengths differ", [][]byte{{1}, long}, []byte{1, 1}, impl.ErrForm},
		{"a list too many, lengths differ", append(s.rows(20, 1), nil), s.list(21), impl.ErrForm},
	} {
		wantCode(t, c.what, impl.MixBytes(c.lists, c.by), c.code)
	}
}

func TestCauchy(t *testing.T) {
	for rows := range int64(17) {
		for columns := int64(1); columns <= 16; columns++ {
			c := impl.CauchyG(rows, columns)
			if c.Code != impl.OK || int64(len(c.Bytes)) != rows*columns {
				t.Fatalf("CauchyG(%d, %d): code %d, %d bytes", rows, columns, c.Code, len(c.Bytes))
			}
			for k, b := range c.Bytes {
				j, i := int64(k)/columns, int64(k)%columns
				if longProduct(b, byte(128+j)^byte(i)) != 1 {
					t.Fatalf("CauchyG(%d, %d) at row %d, column %d: %d", rows, columns, j, i, b)
				}
			}
		}
	}
}

func TestCauchySquaresAreIndependent(t *testing.T) {
	whole := impl.CauchyG(16, 16).Bytes
	for first := range 16 {
		for size := 1; first+size <= 16; size++ {
			var rows [][]byte
			for j := range size {
				at := (first+j)*16 + 16 - first - size
				rows = append(rows, whole[at:at+size])
			}
			wantInt(t, "a square of it", impl.RankG(rows), impl.IntResult{Value: int64(size)})
		}
	}
}

func TestCauchyCodes(t *testing.T) {
	wrong := []int64{-1, 17, 18, 256, math.MinInt64, math.MaxInt64}
	for _, n := range wrong {
		wantCode(t, "rows", impl.CauchyG(n, 1), impl.ErrRange)
		wantCode(t, "columns", impl.CauchyG(1, n), impl.ErrRange)
		wantCode(t, "columns of no rows", impl.CauchyG(0, n), impl.ErrRange)
		wantCode(t, "both", impl.CauchyG(n, n), impl.ErrRange)
	}
	wantCode(t, "no columns", impl.CauchyG(1, 0), impl.ErrRange)
	wantCode(t, "no rows, no columns", impl.CauchyG(0, 0), impl.ErrRange)
	wantBytes(t, "no rows", impl.CauchyG(0, 16), nil)
}

func solves(rows [][]byte, right, x []byte) bool {
	if len(x) != len(rows) {
		return false
	}
	for i := range rows {
		if dot(rows[i], x) != right[i] {
			return false
		}
	}
	return true
}

func TestSolveMixedRows(t *testing.T) {
	s := &sequence{state: 5}
	solved := 0
	for size := 1; size <= 16; size++ {
		for range 40 {
			rows, right := s.rows(size, size), s.list(size)
			got := impl.SolveG(rows, right)
			full := impl.RankG(rows) == impl.IntResult{Value: int64(size)}
			switch {
			case full && got.Code == impl.OK && solves(rows, right, got.Bytes):
				solved++
			case full || got.Code != impl.ErrNone:
				t.Fatalf("rows %v, right %v: %v", rows, right, got)
			}
		}
	}
	if solved < 600 {
		t.Error("hardly any rows were independent:", solved)
	}
}

func TestSolveWhereRowsChangePlaces(t *testing.T) {
	wantBytes(t, "two rows", impl.SolveG([][]byte{{0, 1}, {1, 0}}, []byte{5, 6}), []byte{6, 5})
	wantBytes(t, "a 0 that appears underway", impl.SolveG([][]byte{{1, 1, 0}, {1, 1, 1}, {0, 1, 1}}, []byte{3, 7, 6}), []byte{1, 2, 4})
	s := &sequence{state: 6}
	for size := 2; size <= 16; size++ {
		for shift := 1; shift < size; shift++ {
			rows, x, right := make([][]byte, size), s.list(size), make([]byte, size)
			for i := range rows {
				rows[i] = make([]byte, size)
				rows[i][(i+shift)%size] = byte(s.next())%255 + 1
				right[i] = dot(rows[i], x)
			}
			wantBytes(t, "rows of one byte that is not 0", impl.SolveG(rows, right), x)
		}
	}
}

func TestSolveOneRow(t *testing.T) {
	for a := 1; a < 256; a++ {
		got := impl.SolveG([][]byte{{byte(a)}}, []byte{77})
		if got.Code != impl.OK || !solves([][]byte{{byte(a)}}, []byte{77}, got.Bytes) {
			t.Fatalf("%d times x is 77: %v", a, got)
		}
	}
	wantCode(t, "0 times x is 1", impl.SolveG([][]byte{{0}}, []byte{1}), impl.ErrNone)
	wantCode(t, "0 times x is 0", impl.SolveG([][]byte{{0}}, []byte{0}), impl.ErrNone)
}

func TestSolveRowsThatAreNotIndependent(t *testing.T) {
	row := []byte{1, 2}
	wantCode(t, "one row twice", impl.SolveG([][]byte{row, row}, []byte{3, 3}), impl.ErrNone)
	wantCode(t, "one row scaled", impl.SolveG([][]byte{row, {2, 4}}, []byte{3, 6}), impl.ErrNone)
	wantCode(t, "a row of zeros", impl.SolveG([][]byte{{0, 0}, row}, []byte{0, 1}), impl.ErrNone)
	wantCode(t, "a column of zeros", impl.SolveG([][]byte{{0, 5}, {0, 6}}, []byte{1, 2}), impl.ErrNone)
	s := &sequence{state: 7}
	for size := 3; size <= 16; size++ {
		for place := range size {
			rows, by := s.rows(size, size), s.list(size)
			by[place] = 0
			rows[place] = impl.MixBytes(rows, by).Bytes
			wantCode(t, "a row mixed of the others", impl.SolveG(rows, s.list(size)), impl.ErrNone)
			if r := impl.RankG(rows); r.Code != impl.OK || r.Value >= int64(size) {
				t.Errorf("rank of %d rows, one mixed of the others: %v", size, r)
			}
		}
	}
}

func TestSolveCodes(t *testing.T) {
	s := &sequence{state: 8}
	wantCode(t, "no row", impl.SolveG(nil, nil), impl.ErrForm)
	wantCode(t, "no row, but a right", impl.SolveG([][]byte{}, []byte{1}), impl.ErrForm)
	wantCode(t, "a row too many", impl.SolveG(s.rows(17, 17), s.list(17)), impl.ErrMany)
	wantCode(t, "a row too many, no right", impl.SolveG(s.rows(17, 1), nil), impl.ErrMany)
	wantCode(t, "far too many", impl.SolveG(make([][]byte, 5000), nil), impl.ErrMany)
	wantCode(t, "rows too short", impl.SolveG(s.rows(2, 1), s.list(2)), impl.ErrForm)
	wantCode(t, "rows too long", impl.SolveG(s.rows(2, 3), s.list(2)), impl.ErrForm)
	wantCode(t, "a row far too long", impl.SolveG([][]byte{s.list(5000)}, s.list(1)), impl.ErrForm)
	wantCode(t, "the last row too short", impl.SolveG([][]byte{{1, 0}, {1}}, s.list(2)), impl.ErrForm)
	wantCode(t, "the last row too long", impl.SolveG([][]byte{{1, 0}, {0, 1, 0}}, s.list(2)), impl.ErrForm)
	wantCode(t, "the first row empty", impl.SolveG([][]byte{nil, {0, 1}}, s.list(2)), impl.ErrForm)
	wantCode(t, "right too short", impl.SolveG(s.rows(2, 2), s.list(1)), impl.ErrForm)
	wantCode(t, "right too long", impl.SolveG(s.rows(2, 2), s.list(3)), impl.ErrForm)
	wantCode(t, "an empty row", impl.SolveG(make([][]byte, 1), s.list(1)), impl.ErrForm)
	wantCode(t, "zeros, right too long", impl.SolveG([][]byte{{0, 0}, {0, 0}}, s.list(3)), impl.ErrForm)
}

func TestRank(t *testing.T) {
	for _, c := range []struct {
		rows [][]byte
		rank int64
	}{
		{nil, 0},
		{[][]byte{nil}, 0},
		{make([][]byte, 16), 0},
		{[][]byte{{0, 0}, {0, 0}}, 0},
		{[][]byte{{0, 7}}, 1},
		{[][]byte{{1, 1}, {1, 1}}, 1},
		{[][]byte{{1, 2}, {2, 4}, {4, 8}}, 1},
		{[][]byte{{0, 1}, {1, 0}}, 2},
		{[][]byte{{0, 0, 1}, {0, 0, 0}, {0, 1, 0}}, 2},
		{[][]byte{{1}, {2}, {3}}, 1},
		{[][]byte{{1, 2, 3}, {4, 5, 6}, {5, 7, 5}}, 2},
		{[][]byte{{0, 0, 0, 9}, {0, 0, 5, 9}, {0, 3, 5, 9}}, 3},
	} {
		wantInt(t, "rank", impl.RankG(c.rows), impl.IntResult{Value: c.rank})
	}
}

// Rows mixed of so many rows of a CauchyG, which are independent, by those of
// another one have just that rank.
func TestRankOfMixedRows(t *testing.T) {
	for rank := int64(1); rank <= 16; rank++ {
		base := cut(impl.CauchyG(rank, 16).Bytes, 16)
		by := cut(impl.CauchyG(16, rank).Bytes, int(rank))
		rows := make([][]byte, 16)
		for i := range rows {
			rows[i] = impl.MixBytes(base, by[i]).Bytes
		}
		wantInt(t, "mixed rows", impl.RankG(rows), impl.IntResult{Value: rank})
		wantInt(t, "their base", impl.RankG(base), impl.IntResult{Value: rank})
		wantInt(t, "their factors", impl.RankG(by), impl.IntResult{Value: rank})
	}
}

func cut(list []byte, length int) [][]byte {
	var lists [][]byte
	for at := 0; at < len(list); at += length {
		lists = append(lists, list[at:at+length])
	}
	return lists
}

func TestRankCodes(t *testing.T) {
	s := &sequence{state: 9}
	many, form := impl.IntResult{Code: impl.ErrMany}, impl.IntResult{Code: impl.ErrForm}
	wantInt(t, "a row too many", impl.RankG(s.rows(17, 1)), many)
	wantInt(t, "an empty row too many", impl.RankG(make([][]byte, 17)), many)
	wantInt(t, "a byte too many", impl.RankG(s.rows(1, 17)), many)
	wantInt(t, "a byte too many, lengths differ", impl.RankG([][]byte{{1}, s.list(17)}), many)
	wantInt(t, "a row too many, lengths differ", impl.RankG(append(s.rows(16, 1), nil)), many)
	wantInt(t, "far too many", impl.RankG([][]byte{s.list(5000)}), many)
	wantInt(t, "lengths differ", impl.RankG([][]byte{{1}, {1, 2}}), form)
	wantInt(t, "the last length differs", impl.RankG([][]byte{{1, 2}, {1, 2}, nil}), form)
	wantInt(t, "the first length differs", impl.RankG([][]byte{nil, {1, 2}}), form)
}

// Each call is made with arguments that have room behind them; whatever is
// done with its answer, they stay, and a second call answers alike.
func TestFieldKeepsItsArguments(t *testing.T) {
	s := &sequence{state: 10}
	for size := 1; size <= 16; size++ {
		a, b := roomy(s.list(size)), roomy(s.list(size))
		rows := roomyRows(s.rows(size, size))
		dependent := roomyRows(append(s.rows(size-1, size), make([]byte, size)))
		for name, call := range map[string]func() impl.BytesResult{
			"AddBytes":        func() impl.BytesResult { return impl.AddBytes(a, b) },
			"ScaleBytes by 0": func() impl.BytesResult { return impl.ScaleBytes(a, 0) },
			"ScaleBytes by 1": func() impl.BytesResult { return impl.ScaleBytes(a, 1) },
			"ScaleBytes by 2": func() impl.BytesResult { return impl.ScaleBytes(a, 2) },
			"MixBytes":        func() impl.BytesResult { return impl.MixBytes(rows, b) },
			"MixBytes of one": func() impl.BytesResult { return impl.MixBytes(rows[:1], []byte{1}) },
			"SolveG":          func() impl.BytesResult { return impl.SolveG(rows, a) },
			"SolveG of none":  func() impl.BytesResult { return impl.SolveG(dependent, a) },
			"CauchyG":         func() impl.BytesResult { return impl.CauchyG(int64(size), int64(size)) },
			"RankG":           func() impl.BytesResult { return impl.BytesResult{Bytes: []byte{byte(impl.RankG(rows).Value)}} },
		} {
			wantKept(t, name, call, [][]byte{a, b}, rows, dependent)
		}
	}
}
