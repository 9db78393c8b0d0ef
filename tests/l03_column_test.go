package tests

import (
	"bytes"
	"fmt"
	"math"
	"math/bits"
	"slices"
	"testing"

	"loop.example/g00089/impl"
)

// eachColumn goes through all shapes that a column may have.
func eachColumn(t *testing.T, check func(t *testing.T, groups, column int64)) {
	for groups := int64(1); groups <= impl.MaxGroups; groups++ {
		for column := int64(0); column <= impl.MaxColumn; column++ {
			t.Run(fmt.Sprintf("%d and %d", groups, column), func(t *testing.T) { check(t, groups, column) })
		}
	}
}

// plainColumn says again, byte by byte, what the document says of a column;
// it tells all its lists.
func plainColumn(lists [][]byte, column int64) [][]byte {
	all := cloneRows(lists)
	for j := range column {
		parity := make([]byte, len(lists[0]))
		for i := range lists {
			factor := undoing(byte(136+j) ^ byte(i))
			for k := range parity {
				parity[k] ^= longProduct(lists[i][k], factor)
			}
		}
		all = append(all, parity)
	}
	return all
}

// wrongColumns are pairs of groups and column one of which leaves its bounds.
func wrongColumns() [][2]int64 {
	wrong := [][2]int64{}
	for _, groups := range []int64{math.MinInt64, -1, 0, impl.MaxGroups + 1, 1 << 32, 1 << 62, math.MaxInt64} {
		wrong = append(wrong, [2]int64{groups, 0}, [2]int64{groups, impl.MaxColumn}, [2]int64{groups, -1}, [2]int64{groups, -groups})
	}
	for _, column := range wrongColumnCounts() {
		wrong = append(wrong, [2]int64{1, column}, [2]int64{impl.MaxGroups, column}, [2]int64{0, column})
	}
	return wrong
}

func wrongColumnCounts() []int64 {
	return []int64{math.MinInt64, math.MinInt64 + 1, -1 << 32, -2, -1, impl.MaxColumn + 1, impl.MaxColumn + 2, 1 << 32, 1 << 62, math.MaxInt64}
}

func TestColumnConstants(t *testing.T) {
	if impl.MaxGroups != 4 || impl.MaxColumn != 2 {
		t.Error(impl.MaxGroups, impl.MaxColumn)
	}
}

func TestEncodeColumn(t *testing.T) {
	eachColumn(t, func(t *testing.T, groups, column int64) {
		s := &sequence{state: 30}
		for length := range 20 {
			lists := s.rows(int(groups), length)
			wantLists(t, "mixed lists", impl.EncodeColumn(lists, column), plainColumn(lists, column)[groups:])
		}
		for i := range groups {
			lists := threes(groups)
			wantLists(t, "zeros", impl.EncodeColumn(lists, column), threes(column))
			lists[i][1] = 1
			wantLists(t, "one byte", impl.EncodeColumn(lists, column), plainColumn(lists, column)[groups:])
		}
		wantLists(t, "lists of nothing", impl.EncodeColumn(make([][]byte, groups), column), make([][]byte, column))
	})
}

// threes are lists of three zeros.
func threes(count int64) [][]byte {
	return cut(make([]byte, 3*count), 3)
}

func TestFactorOf(t *testing.T) {
	eachColumn(t, func(t *testing.T, groups, column int64) {
		for group := range groups {
			for parity := range column {
				got := impl.FactorOf(groups, column, group, parity)
				wantInt(t, "the factor", got, impl.IntResult{Value: int64(undoing(byte(136+parity) ^ byte(group)))})
				lists := threes(groups)
				lists[group] = []byte{1, 2, 255}
				want := impl.ScaleBytes(lists[group], byte(got.Value))
				told := impl.EncodeColumn(lists, column)
				wantBytes(t, "the parity of one list", impl.BytesResult{Code: told.Code, Bytes: told.Lists[parity]}, want.Bytes)
			}
		}
	})
}

func TestAnyListsTellTheColumn(t *testing.T) {
	eachColumn(t, func(t *testing.T, groups, column int64) {
		s := &sequence{state: 31}
		for length := 1; length < 12; length++ {
			lists := s.rows(int(groups), length)
			all := append(cloneRows(lists), impl.EncodeColumn(lists, column).Lists...)
			for mask := range uint(1) << (groups + column) {
				decoded := impl.DecodeColumn(groups, column, masked(all, mask))
				if int64(bits.OnesCount(mask)) < groups {
					wantListsCode(t, "too few", decoded, impl.ErrLost)
				} else {
					wantLists(t, "all lists", decoded, all)
				}
			}
		}
	})
}

// Lists that are no column's: of those that are there only the first groups count.
func TestFirstListsAreTaken(t *testing.T) {
	eachColumn(t, func(t *testing.T, groups, column int64) {
		s := &sequence{state: 32}
		for range 20 {
			lists := s.rows(int(groups+column), 3)
			for mask := range uint(1) << (groups + column) {
				there := placesOf(mask)
				if int64(len(there)) < groups {
					continue
				}
				told := impl.DecodeColumn(groups, column, masked(lists, mask))
				if told.Code != impl.OK || int64(len(told.Lists)) != groups+column {
					t.Fatalf("those at %v: %v", there, told)
				}
				wantLists(t, "a column", told, plainColumn(told.Lists[:groups], column))
				for _, place := range there[:groups] {
					wantBytes(t, "one that is taken", impl.BytesResult{Bytes: told.Lists[place]}, lists[place])
				}
			}
		}
	})
}

func TestListsOfZerosAreThere(t *testing.T) {
	wantLists(t, "zeros", impl.DecodeColumn(1, 1, [][]byte{{0}, {7}}), [][]byte{{0}, {0}})
	wantLists(t, "zeros of parity", impl.DecodeColumn(1, 2, [][]byte{{}, {0}, {7}}), [][]byte{{0}, {0}, {0}})
}

// shareFrom sums lists up by AddShare, in the order that is given.
func shareFrom(t *testing.T, all [][]byte, have []int64, weights []byte, order []int) []byte {
	t.Helper()
	sum := make([]byte, len(all[0]))
	for _, k := range order {
		told := impl.AddShare(sum, all[have[k]], weights[k])
		wantCode(t, "a share", told, impl.OK)
		sum = told.Bytes
	}
	return sum
}

// eachOrder goes through all orders of count things, the first one rising.
func eachOrder(count int, visit func(order []int)) {
	order := make([]int, 0, count)
	var place func()
	place = func() {
		if len(order) == count {
			visit(order)
			return
		}
		for k := range count {
			if !slices.Contains(order, k) {
				order = append(order, k)
				place()
				order = order[:len(order)-1]
			}
		}
	}
	place()
}

func TestSharesSumUpInAnyOrder(t *testing.T) {
	eachColumn(t, func(t *testing.T, groups, column int64) {
		s := &sequence{state: 33}
		for mask := range uint(1) << (groups + column) {
			have := placesOf(mask)
			for want := range groups + column {
				if int64(len(have)) < groups || slices.Contains(have, want) {
					continue
				}
				shares := impl.ShareOf(groups, column, have, want)
				if shares.Code != impl.OK || len(shares.Bytes) != len(have) {
					t.Fatalf("have %v, want %d: %v", have, want, shares)
				}
				for _, weight := range shares.Bytes[groups:] {
					if weight != 0 {
						t.Errorf("have %v, want %d: %v weighs one behind the first", have, want, shares)
					}
				}
				all := plainColumn(s.rows(int(groups), 5), column)
				eachOrder(len(have), func(order []int) {
					if !bytes.Equal(shareFrom(t, all, have, shares.Bytes, order), all[want]) {
						t.Fatalf("have %v, want %d, order %v: not the list", have, want, order)
					}
				})
			}
		}
	})
}

// Only the first groups of have weigh, whatever stands behind them.
func TestSharesOfMoreAreThoseOfTheFirst(t *testing.T) {
	eachColumn(t, func(t *testing.T, groups, column int64) {
		for mask := range uint(1) << (groups + column) {
			have := placesOf(mask)
			for want := range groups + column {
				if int64(len(have)) <= groups || slices.Contains(have, want) {
					continue
				}
				first := impl.ShareOf(groups, column, have[:groups], want)
				more := make([]byte, len(have))
				copy(more, first.Bytes)
				wantBytes(t, fmt.Sprint("have ", have), impl.ShareOf(groups, column, have, want), more)
			}
		}
	})
}

func TestColumnFits(t *testing.T) {
	eachColumn(t, func(t *testing.T, groups, column int64) {
		s := &sequence{state: 34}
		for range 10 {
			all := plainColumn(s.rows(int(groups), 4), column)
			if !impl.ColumnFits(all, column) {
				t.Fatal("a column", all)
			}
			for i := range all {
				for k := range 4 {
					for _, change := range []byte{1, 128, 255} {
						other := cloneRows(all)
						other[i][k] ^= change
						// Without parity lists nothing binds those of data.
						if impl.ColumnFits(other, column) != (column == 0) {
							t.Fatalf("list %d, byte %d is another", i, k)
						}
					}
				}
			}
		}
		if !impl.ColumnFits(make([][]byte, groups+column), column) {
			t.Error("lists of nothing")
		}
		// No bound of bytes is named for it.
		long := plainColumn(s.rows(int(groups), impl.MaxBytes+1), column)
		if !impl.ColumnFits(long, column) {
			t.Error("long lists")
		}
		long[groups+column-1][impl.MaxBytes] ^= 1
		if impl.ColumnFits(long, column) != (column == 0) {
			t.Error("long lists, the last byte is another")
		}
	})
}

func TestColumnFitsWrongInputs(t *testing.T) {
	eachColumn(t, func(t *testing.T, groups, column int64) {
		zeros := threes(groups + column)
		for i := range zeros {
			for _, length := range []int{0, 1, 2, 4, 6} {
				other := cloneRows(zeros)
				other[i] = make([]byte, length)
				if impl.ColumnFits(other, column) != (len(other) == 1) {
					t.Errorf("list %d of %d bytes beside others of 3", i, length)
				}
			}
		}
	})
	for count := range int64(9) {
		for column := int64(0); column <= impl.MaxColumn; column++ {
			groups := count - column
			if impl.ColumnFits(threes(count), column) != (groups >= 1 && groups <= impl.MaxGroups) {
				t.Errorf("%d lists, %d of them parity", count, column)
			}
		}
		for _, column := range wrongColumnCounts() {
			if impl.ColumnFits(threes(count), column) {
				t.Errorf("%d lists, %d of them parity", count, column)
			}
		}
	}
	if impl.ColumnFits(nil, 0) || impl.ColumnFits(make([][]byte, 5000), 0) {
		t.Error("no lists, or many")
	}
}

func TestColumnShapesBeyondTheirBounds(t *testing.T) {
	for _, c := range wrongColumns() {
		what := fmt.Sprint("shape ", c)
		wantCode(t, what, impl.ShareOf(c[0], c[1], []int64{0}, 1), impl.ErrRange)
		wantCode(t, what, impl.ShareOf(c[0], c[1], nil, 0), impl.ErrRange)
		wantCode(t, what, impl.ShareOf(c[0], c[1], []int64{5, -1}, -1), impl.ErrRange)
		wantListsCode(t, what, impl.DecodeColumn(c[0], c[1], [][]byte{{1}}), impl.ErrRange)
		wantListsCode(t, what, impl.DecodeColumn(c[0], c[1], nil), impl.ErrRange)
		wantListsCode(t, what, impl.DecodeColumn(c[0], c[1], [][]byte{{1}, {1, 2}, make([]byte, 5000)}), impl.ErrRange)
		wantInt(t, what, impl.FactorOf(c[0], c[1], 0, 0), impl.IntResult{Code: impl.ErrRange})
	}
	uneven := func(count int) [][]byte {
		lists := make([][]byte, count)
		for i := range lists {
			lists[i] = make([]byte, i*4001)
		}
		return lists
	}
	for _, count := range []int{0, impl.MaxGroups + 1, impl.MaxGroups + 2, 5000} {
		for _, column := range []int64{0, 1, impl.MaxColumn} {
			wantListsCode(t, "a wrong number of lists", impl.EncodeColumn(make([][]byte, count), column), impl.ErrRange)
		}
	}
	wantListsCode(t, "too many uneven lists", impl.EncodeColumn(uneven(impl.MaxGroups+1), 0), impl.ErrRange)
	for count := 1; count <= impl.MaxGroups; count++ {
		for _, column := range wrongColumnCounts() {
			wantListsCode(t, "a wrong column", impl.EncodeColumn(threes(int64(count)), column), impl.ErrRange)
			wantListsCode(t, "a wrong column of uneven lists", impl.EncodeColumn(uneven(count), column), impl.ErrRange)
		}
	}
}

func TestEncodeColumnCodes(t *testing.T) {
	eachColumn(t, func(t *testing.T, groups, column int64) {
		s := &sequence{state: 35}
		most := s.rows(int(groups), impl.MaxBytes)
		wantLists(t, "as many bytes as may be", impl.EncodeColumn(most, column), plainColumn(most, column)[groups:])
		wantListsCode(t, "one byte more", impl.EncodeColumn(s.rows(int(groups), impl.MaxBytes+1), column), impl.ErrMany)
		for i := range groups {
			for _, length := range []int{0, 2, 4, impl.MaxBytes + 1} {
				lists := threes(groups)
				lists[i] = make([]byte, length)
				code := int64(impl.ErrForm)
				if groups == 1 {
					code = impl.OK
				}
				if groups == 1 && length > impl.MaxBytes {
					code = impl.ErrMany
				}
				wantListsCode(t, fmt.Sprintf("list %d of %d bytes beside others of 3", i, length), impl.EncodeColumn(lists, column), code)
			}
			if groups > 1 {
				long := s.rows(int(groups), impl.MaxBytes+1)
				long[i] = long[i][1:]
				wantListsCode(t, "long, and not equally", impl.EncodeColumn(long, column), impl.ErrForm)
			}
		}
	})
}

func TestShareOfCodes(t *testing.T) {
	eachColumn(t, func(t *testing.T, groups, column int64) {
		all := placesOf(1<<(groups+column) - 1)
		form := [][]int64{{-1}, {groups + column}, {math.MinInt64}, {math.MaxInt64}, make([]int64, 5000), append(slices.Clone(all), groups+column)}
		for i := range all {
			for _, number := range []int64{-1, groups + column, math.MinInt64, math.MaxInt64} {
				other := slices.Clone(all)
				other[i] = number
				form = append(form, other)
			}
			for k := range i {
				twice, swapped := slices.Clone(all), slices.Clone(all)
				twice[i] = twice[k]
				swapped[i], swapped[k] = swapped[k], swapped[i]
				form = append(form, twice, swapped, []int64{int64(i), int64(k)}, []int64{int64(i), int64(i)})
			}
		}
		beyond := []int64{-1, groups + column, groups + column + 1, math.MinInt64, math.MaxInt64}
		for _, have := range form {
			for _, want := range append([]int64{0, groups + column - 1}, beyond...) {
				wantCode(t, fmt.Sprintf("have %v, want %d", have, want), impl.ShareOf(groups, column, have, want), impl.ErrForm)
			}
		}
		for mask := range uint(1) << (groups + column) {
			have := placesOf(mask)
			for _, want := range beyond {
				wantCode(t, fmt.Sprintf("have %v, want %d", have, want), impl.ShareOf(groups, column, have, want), impl.ErrRange)
			}
			for want := range groups + column {
				code := int64(impl.OK)
				if int64(len(have)) < groups {
					code = impl.ErrLost
				}
				if slices.Contains(have, want) {
					code = impl.ErrTaken
				}
				wantCode(t, fmt.Sprintf("have %v, want %d", have, want), impl.ShareOf(groups, column, have, want), code)
			}
		}
	})
}

func TestDecodeColumnCodes(t *testing.T) {
	eachColumn(t, func(t *testing.T, groups, column int64) {
		all, none := threes(groups+column), make([][]byte, groups+column)
		long := make([]byte, impl.MaxBytes+1)
		form := [][][]byte{nil, all[1:], none[1:], append(cloneRows(all), nil), append(cloneRows(none), nil), append(cloneRows(none), long), make([][]byte, 5000)}
		for i := range all {
			for k := range i {
				for _, length := range []int{1, 2, 4, impl.MaxBytes + 1} {
					for _, others := range [][][]byte{all, none} {
						lists := cloneRows(others)
						lists[k], lists[i] = make([]byte, 3), make([]byte, length)
						form = append(form, lists)
						lists = cloneRows(others)
						lists[i], lists[k] = make([]byte, 3), make([]byte, length)
						form = append(form, lists)
					}
				}
			}
		}
		for _, lists := range form {
			wantListsCode(t, fmt.Sprint(len(lists), " lists"), impl.DecodeColumn(groups, column, lists), impl.ErrForm)
		}
		wantListsCode(t, "none there", impl.DecodeColumn(groups, column, none), impl.ErrLost)
		for mask := uint(1); mask < 1<<(groups+column); mask++ {
			lists := make([][]byte, groups+column)
			for _, place := range placesOf(mask) {
				lists[place] = long
			}
			wantListsCode(t, "one byte more, though too few are there", impl.DecodeColumn(groups, column, lists), impl.ErrMany)
		}
		s := &sequence{state: 36}
		most := plainColumn(s.rows(int(groups), impl.MaxBytes), column)
		wantLists(t, "as many bytes as may be", impl.DecodeColumn(groups, column, masked(most, (1<<groups-1)<<column)), most)
	})
}

func TestFactorOfCodes(t *testing.T) {
	eachColumn(t, func(t *testing.T, groups, column int64) {
		none := impl.IntResult{Code: impl.ErrRange}
		for _, wrong := range []int64{-1, math.MinInt64, math.MaxInt64, 1 << 32} {
			wantInt(t, "group", impl.FactorOf(groups, column, wrong, 0), none)
			wantInt(t, "parity", impl.FactorOf(groups, column, 0, wrong), none)
		}
		wantInt(t, "the group behind the last", impl.FactorOf(groups, column, groups, 0), none)
		wantInt(t, "the parity behind the last", impl.FactorOf(groups, column, 0, column), none)
	})
}

func TestAddShare(t *testing.T) {
	s := &sequence{state: 37}
	for weight := range 256 {
		sum, list := s.list(9), s.list(9)
		want := make([]byte, 9)
		for i := range want {
			want[i] = sum[i] ^ longProduct(list[i], byte(weight))
		}
		wantBytes(t, "a share", impl.AddShare(sum, list, byte(weight)), want)
	}
	wantBytes(t, "by 0", impl.AddShare([]byte{1, 2}, []byte{3, 4}, 0), []byte{1, 2})
	wantBytes(t, "by 1", impl.AddShare([]byte{1, 2}, []byte{3, 4}, 1), []byte{2, 6})
	wantBytes(t, "nothing", impl.AddShare(nil, []byte{}, 5), nil)
	wantCode(t, "one longer", impl.AddShare(make([]byte, 3), make([]byte, 4), 1), impl.ErrForm)
	wantCode(t, "one shorter", impl.AddShare(make([]byte, 4), make([]byte, 3), 0), impl.ErrForm)
	wantCode(t, "one of nothing", impl.AddShare(nil, make([]byte, 1), 0), impl.ErrForm)
	wantCode(t, "long, and not equally", impl.AddShare(make([]byte, 5000), make([]byte, 5001), 0), impl.ErrForm)
	wantCode(t, "one byte more", impl.AddShare(make([]byte, impl.MaxBytes+1), make([]byte, impl.MaxBytes+1), 0), impl.ErrMany)
	most := s.list(impl.MaxBytes)
	wantBytes(t, "as many bytes as may be", impl.AddShare(make([]byte, impl.MaxBytes), most, 1), most)
}

func TestColumnsKeepTheirArguments(t *testing.T) {
	eachColumn(t, func(t *testing.T, groups, column int64) {
		s := &sequence{state: 38}
		lists := roomyRows(s.rows(int(groups), 6))
		all := roomyRows(plainColumn(lists, column))
		last := masked(all, (1<<groups-1)<<column)
		arguments := [][][]byte{lists, all, last}
		calls := map[string]func() impl.ListsResult{
			"EncodeColumn":             func() impl.ListsResult { return impl.EncodeColumn(lists, column) },
			"DecodeColumn of all":      func() impl.ListsResult { return impl.DecodeColumn(groups, column, all) },
			"DecodeColumn of the last": func() impl.ListsResult { return impl.DecodeColumn(groups, column, last) },
		}
		for name, call := range calls {
			wantListsKept(t, name, func() (int64, [][]byte) {
				answer := call()
				return answer.Code, answer.Lists
			}, arguments...)
			told := call()
			want := cloneRows(told.Lists)
			for i := range told.Lists {
				_ = append(told.Lists[i], 1, 2, 3)
			}
			wantLists(t, name+", appended to", told, want)
		}
		wantKept(t, "ColumnFits", func() impl.BytesResult {
			if impl.ColumnFits(all, column) {
				return impl.BytesResult{Bytes: []byte{1}}
			}
			return impl.BytesResult{}
		}, arguments...)
		wantKept(t, "AddShare", func() impl.BytesResult { return impl.AddShare(all[0], all[groups+column-1], 3) }, arguments...)
		wantKept(t, "AddShare of one list twice", func() impl.BytesResult { return impl.AddShare(all[0], all[0], 0) }, arguments...)
	})
}

func TestShareOfKeepsHave(t *testing.T) {
	eachColumn(t, func(t *testing.T, groups, column int64) {
		for want := range groups + column {
			whole := placesOf((1<<(groups+column) - 1) &^ (1 << want))
			count := len(whole)
			whole = append(whole, 77, 78)
			before := slices.Clone(whole)
			wantKept(t, "ShareOf", func() impl.BytesResult { return impl.ShareOf(groups, column, whole[:count], want) })
			if !slices.Equal(whole, before) {
				t.Error("have is changed")
			}
		}
	})
}
