package tests

import (
	"fmt"
	"math"
	"slices"
	"strings"
	"sync"
	"testing"

	"loop.example/g00089/impl"
)

func wantThings(t *testing.T, what string, got impl.ThingsResult, want ...impl.Thing) {
	t.Helper()
	if got.Code != impl.OK || !same(got.Things, want) {
		t.Errorf("%s: code %d, things %v, want %v", what, got.Code, got.Things, want)
	}
}

// wantTrueItem wants an item to be told by TrueItem, and by TruthOf once; where
// it is lost by the one with a code, by the other as Lost.
func wantTrueItem(t *testing.T, what string, w impl.World, name string, code int64, list []byte) {
	t.Helper()
	told := impl.TrueItem(w, name)
	wantCode(t, what, told, code)
	if code == impl.OK {
		wantBytes(t, what, told, list)
	}
	var things []impl.Thing
	for _, thing := range impl.TruthOf(w).Things {
		if thing.Name == name {
			things = append(things, thing)
		}
	}
	var want []impl.Thing
	switch code {
	case impl.OK:
		want = []impl.Thing{{Name: name, Bytes: list}}
	case impl.ErrLost:
		want = []impl.Thing{{Name: name, Lost: true}}
	}
	if !same(things, want) {
		t.Errorf("%s: things %v, want %v", what, things, want)
	}
}

// rowsOf are the bytes of rows of the group, one behind the other.
func rowsOf(w impl.World, group int64, rows ...int64) []byte {
	var list []byte
	for _, row := range rows {
		list = append(list, rowAhead(onlyOn(w, group), group, row)...)
	}
	return list
}

// The home of "a" is the group 1, that of "b" the group 0.
func TestTrueItems(t *testing.T) {
	s := middleShape()
	w := stampedWorld(&sequence{state: 140}, s)
	for _, c := range []struct {
		name string
		recs []impl.Rec
		code int64
		want []byte
	}{
		{"nothing", nil, impl.ErrNone, nil},
		{"another name", []impl.Rec{dataItem(60, "ab", []byte{1}), dataItem(61, "b", []byte{2})}, impl.ErrNone, nil},
		{"one byte that waits", []impl.Rec{dataItem(60, "a", []byte{7})}, impl.OK, []byte{7}},
		{"zeros that wait", []impl.Rec{dataItem(60, "a", make([]byte, 24))}, impl.OK, make([]byte, 24)},
		{"one byte of a row", []impl.Rec{rowsItem(60, "a", 1, 2)}, impl.OK, rowsOf(w, 1, 2)[:1]},
		{"a whole row", []impl.Rec{rowsItem(60, "a", 8, 0)}, impl.OK, rowsOf(w, 1, 0)},
		{"two rows", []impl.Rec{rowsItem(60, "a", 9, 2, 0)}, impl.OK, rowsOf(w, 1, 2, 0)[:9]},
		{"three rows", []impl.Rec{rowsItem(60, "a", 24, 1, 0, 2)}, impl.OK, rowsOf(w, 1, 1, 0, 2)},
		{"deleted", []impl.Rec{dataItem(60, "a", []byte{7}), deletedItem(61, "a")}, impl.ErrNone, nil},
		{"deleted in its rows", []impl.Rec{rowsItem(60, "a", 8, 0), deletedItem(61, "a")}, impl.ErrNone, nil},
		{"put again", []impl.Rec{deletedItem(61, "a"), dataItem(62, "a", []byte{7})}, impl.OK, []byte{7}},
		{"destaged", []impl.Rec{dataItem(60, "a", []byte{7}), rowsItem(61, "a", 8, 0)}, impl.OK, rowsOf(w, 1, 0)},
		{"put over", []impl.Rec{rowsItem(60, "a", 8, 0), dataItem(61, "a", []byte{9, 8})}, impl.OK, []byte{9, 8}},
		{"its row is to be moved", []impl.Rec{rowsItem(60, "a", 3, 0), moved(s, 61, 1, 0, 4)}, impl.OK, []byte{4, 4, 4}},
		{"its row is moved", []impl.Rec{rowsItem(60, "a", 3, 0), moved(s, 61, 1, 0, 4), doneOf(61, 1)}, impl.OK, rowsOf(w, 1, 0)[:3]},
		{"one of its rows is to be moved", []impl.Rec{rowsItem(60, "a", 16, 1, 0), moved(s, 61, 1, 0, 4)}, impl.OK, append(rowsOf(w, 1, 1), 4, 4, 4, 4, 4, 4, 4, 4)},
		{"a row of another group is to be moved", []impl.Rec{rowsItem(60, "a", 3, 0), moved(s, 61, 0, 0, 4)}, impl.OK, rowsOf(w, 1, 0)[:3]},
	} {
		eachLaying(w, c.recs, func(what string, w impl.World) {
			wantTrueItem(t, c.name+", "+what, w, "a", c.code, c.want)
			wantTrueItem(t, c.name+", no power, "+what, withoutPower(w), "a", c.code, c.want)
			wantTrueItem(t, c.name+", on, "+what, onlyOn(w, 1), "a", c.code, c.want)
		})
	}
}

// An item in rows of a dead group is told by the others, and is lost where one
// of its rows is; one that waits is never lost.
func TestTrueItemsOfDeadGroups(t *testing.T) {
	s := middleShape()
	was := stampedWorld(&sequence{state: 141}, s)
	recs := []impl.Rec{rowsItem(60, "a", 8, 0), rowsItem(61, "c", 20, 0, 2, 1), rowsItem(62, "e", 16, 1, 2), rowsItem(63, "b", 9, 1, 0), dataItem(64, "g", []byte{5})}
	was.Tapes[0].Recs = recs
	waits := impl.Thing{Name: "g", Bytes: []byte{5}}
	told := func(name string, length int, group int64, rows ...int64) impl.Thing {
		return impl.Thing{Name: name, Bytes: rowsOf(was, group, rows...)[:length]}
	}
	a, b, c, e := told("a", 8, 1, 0), told("b", 9, 0, 1, 0), told("c", 20, 1, 0, 2, 1), told("e", 16, 1, 1, 2)
	for mask := range uint(8) {
		want := []impl.Thing{a, b, c, e, waits}
		lost := len(placesOf(mask)) > 1
		for i := range want[:4] {
			home := homeOfName(s, want[i].Name)
			if lost && mask>>home&1 == 1 {
				want[i] = impl.Thing{Name: want[i].Name, Lost: true}
			}
		}
		w := killed(was, mask)
		wantThings(t, fmt.Sprint("dead ", placesOf(mask)), impl.TruthOf(w), want...)
		for _, thing := range want {
			wantTrueItem(t, fmt.Sprint("dead ", placesOf(mask)), w, thing.Name, okOr(impl.ErrLost, !thing.Lost), thing.Bytes)
		}
	}
}

// Of two dead groups the one with a move of a row lets that row alone be told
// of the other.
func TestOneRowAloneIsLost(t *testing.T) {
	s := middleShape()
	was := stampedWorld(&sequence{state: 142}, s)
	for row := range int64(3) {
		w := killed(staged(was, 60, 0, row, fours(2)), 3)
		for other := range int64(3) {
			one, both, back := rowsItem(61, "a", 8, other), rowsItem(62, "c", 16, row, other), rowsItem(63, "e", 16, other, row)
			w.Tapes[0].Recs = append(w.Tapes[0].Recs[:1:1], one)
			if other != row {
				w.Tapes[0].Recs = append(w.Tapes[0].Recs, both, back)
			}
			what := fmt.Sprint("moved ", row, ", other ", other)
			if other == row {
				wantTrueItem(t, what, w, "a", impl.OK, rowsOf(was, 1, other))
				continue
			}
			for _, name := range []string{"a", "c", "e"} {
				wantTrueItem(t, what, w, name, impl.ErrLost, nil)
			}
		}
	}
}

func TestTruthInTheOrderOfItems(t *testing.T) {
	s := middleShape()
	w := stampedWorld(&sequence{state: 143}, s)
	wantThings(t, "no item", impl.TruthOf(w))
	wantThings(t, "a new world", impl.TruthOf(plainWorld(s)))
	w.Tapes[1].Recs = []impl.Rec{deletedItem(3, "a"), doneOf(4, 1)}
	wantThings(t, "a deleted one", impl.TruthOf(w))
	names := []string{"a", "a0", "a1", "a10", "aa", "ab", "b", "z", "zzzzzzzz"}
	for shift := range names {
		var recs []impl.Rec
		var want []impl.Thing
		for i := range names {
			recs = append(recs, dataItem(int64(i+1), names[(i+shift)%len(names)], []byte{byte((i + shift) % len(names))}))
			want = append(want, impl.Thing{Name: names[i], Bytes: []byte{byte(i)}})
		}
		eachLaying(w, recs, func(what string, w impl.World) {
			wantThings(t, what, impl.TruthOf(w), want...)
			if items := impl.ItemsOf(w).Recs; len(items) != len(names) || items[1].Name != "a0" {
				t.Error("the items are in another order")
			}
		})
	}
}

// A full world has so many things as two tapes may say of.
func TestTruthOfFullTapes(t *testing.T) {
	w := plainWorld(greatestShape())
	for i := range 200 {
		w.Tapes[0].Recs = append(w.Tapes[0].Recs, dataItem(int64(i+1), fmt.Sprint("a", i), fours(9)))
		w.Tapes[1].Recs = append(w.Tapes[1].Recs, rowsItem(int64(i+1), fmt.Sprint("b", i), 36, 5, 0, 3))
	}
	truth := impl.TruthOf(w)
	if truth.Code != impl.OK || len(truth.Things) != 400 || !same(truth.Things[399], impl.Thing{Name: "b99", Bytes: make([]byte, 36)}) {
		t.Errorf("code %d, %d things", truth.Code, len(truth.Things))
	}
	w.Tapes[0].Recs = append(w.Tapes[0].Recs, dataItem(201, "c", []byte{1}))
	if got := impl.TruthOf(w); got.Code != impl.ErrMany || len(got.Things) != 0 {
		t.Errorf("one more: %v", got)
	}
}

func TestTrueItemNames(t *testing.T) {
	w := withTapes(middleShape(), []impl.Rec{dataItem(1, "a", []byte{1})}, nil)
	for _, name := range []string{"", "A", "9", "a_", "a b", "ninebytes", "ä", "a\n", strings.Repeat("a", 300)} {
		wantCode(t, name, impl.TrueItem(w, name), impl.ErrText)
	}
	for _, name := range []string{"aa", "b", "a0", "zzzzzzzz"} {
		wantCode(t, name, impl.TrueItem(w, name), impl.ErrNone)
	}
}

func TestTrueColumnRows(t *testing.T) {
	columnShapes(func(s impl.Shape) {
		w := stampedWorld(&sequence{state: 144}, s)
		for _, row := range []int64{math.MinInt64, -1 << 32, -1, s.Rows, s.Rows + 1, 1 << 32, math.MaxInt64} {
			wantHolds(t, fmt.Sprint(s, ", row ", row), impl.TrueColumn(w, row), false)
			wantHolds(t, fmt.Sprint(s, ", row ", row), impl.TrueColumn(withoutPower(w), row), false)
		}
		for row := range s.Rows {
			wantHolds(t, fmt.Sprint(s, ", row ", row), impl.TrueColumn(w, row), true)
			wantHolds(t, fmt.Sprint(s, ", row ", row), impl.TrueColumn(withoutPower(w), row), true)
			wantHolds(t, fmt.Sprint(s, ", row ", row), impl.TrueColumn(plainWorld(s), row), true)
		}
	})
}

func TestNoTrueColumnInAFaultyWorld(t *testing.T) {
	for _, f := range worldFlaws() {
		w := stampedWorld(&sequence{state: 145}, middleShape())
		w.Tapes[0].Recs, w.Tapes[1].Recs = []impl.Rec{doneOf(2, 0)}, []impl.Rec{doneOf(2, 0)}
		w.On = []int64{1}
		wantHolds(t, "without a fault", impl.TrueColumn(w, 2), true)
		f.make(&w)
		for row := range int64(3) {
			wantHolds(t, f.name, impl.TrueColumn(w, row), false)
		}
	}
	wantHolds(t, "nothing", impl.TrueColumn(impl.World{}, 0), false)
}

// A byte that is turned in a data block is seen by its own row alone, if there
// are groups of parity; one in a spare block only when it is needed.
func TestTrueColumnsOneByteOff(t *testing.T) {
	q := &sequence{state: 146}
	for _, s := range sharesShapes() {
		w := stampedWorld(q, s)
		eachBlock(s, func(group, drive, row int64) {
			w.Groups[group][drive].Blocks[row].Bytes[q.pick(4)] ^= 8
			what := fmt.Sprint(s, ", group ", group, ", drive ", drive, ", row ", row)
			for other := range s.Rows {
				wantHolds(t, what, impl.TrueColumn(w, other), other != row || s.Column == 0 || drive >= s.Data)
			}
			if s.Spare > 0 && s.Column > 0 {
				w.Groups[group][0].Wiped = true
				wantHolds(t, what+", wiped", impl.TrueColumn(w, row), drive == 0 || drive > s.Data)
			}
			w = stampedWorld(q, s)
		})
	}
}

// With moves that are undone a column fits that does not fit without them,
// wherever they are done by now: only if nobody made them, or all, it fits too.
func TestMovesByWhichAColumnFits(t *testing.T) {
	q := &sequence{state: 147}
	columnShapes(func(s impl.Shape) {
		if s.Groups == 1 || s.Column == 0 {
			return
		}
		for one := range s.Groups {
			other := (one + 1) % s.Groups
			w := staged(staged(stampedWorld(q, s), 60, one, 1, q.list(int(4*s.Data))), 61, other, 1, q.list(int(4*s.Data)))
			moves := uint(1)<<one | uint(1)<<other | (uint(1)<<s.Column-1)<<s.Groups
			for mask := range uint(1) << (s.Groups + s.Column) {
				redone := w
				for _, group := range placesOf(mask) {
					redone = impl.RedoAll(onlyOn(redone, group), group).World
				}
				what := fmt.Sprint(s, ", moved ", one, " and ", other, ", done in ", placesOf(mask))
				wantHolds(t, what, impl.TrueColumn(redone, 1), true)
				redone.Tapes = []impl.Tape{{}, {}}
				wantHolds(t, what+", not told", impl.TrueColumn(redone, 1), mask&moves == 0 || mask&moves == moves)
			}
		}
	})
}

// A move whose Delta is not what it should be lets the column not fit.
func TestAMoveByWhichAColumnDoesNotFit(t *testing.T) {
	s := middleShape()
	w := staged(stampedWorld(&sequence{state: 148}, s), 60, 0, 1, fours(2))
	wantHolds(t, "as it should be", impl.TrueColumn(w, 1), true)
	for tape := range w.Tapes {
		w.Tapes[tape].Recs[0].Delta[5]++
	}
	wantHolds(t, "one byte off", impl.TrueColumn(w, 1), false)
	wantHolds(t, "another row", impl.TrueColumn(w, 0), true)
}

// One world may be asked from many sides at once.
func TestTruthFromManySides(t *testing.T) {
	eachUnsettled(1340, 2, func(what string, q *sequence, w impl.World) {
		var sides sync.WaitGroup
		eachTruth(w, func(f worker, q request) {
			want := f.plain(q)
			for range 3 {
				sides.Add(1)
				go func() {
					defer sides.Done()
					if got := f.call(q); !same(got, want) {
						t.Errorf("%s, %s: %+v, want %+v", f.name, what, got, want)
					}
				}()
			}
		})
		sides.Wait()
	})
}

// Worlds whose groups and tapes share memory are told as others are.
func TestTruthOfAWorldThatSharesItsMemory(t *testing.T) {
	s := middleShape()
	block := []byte{1, 2, 3, 4}
	drives := []impl.Drive{}
	for range 3 {
		drives = append(drives, impl.Drive{Blocks: slices.Repeat([]impl.Block{{Stamp: 3, Bytes: block}}, 3)})
	}
	recs := []impl.Rec{moved(s, 5, 0, 1, 9), rowsItem(6, "a", 9, 0, 1), rowsItem(7, "b", 9, 1, 0)}
	w := impl.World{Shape: s, Groups: [][]impl.Drive{drives, drives, drives}, Tapes: []impl.Tape{{Recs: recs}, {Recs: recs}}, Stop: -1}
	before := deepCopy(w, 0)
	eachTruth(w, func(f worker, q request) {
		wantOutcome(t, f.name, f.call(q), f.plain(request{World: before, Group: q.Group, Row: q.Row, Name: q.Name}))
		wantNew(t, f.name, func() outcome { return f.call(q) })
	})
	if !same(w, before) {
		t.Error("a world was written to")
	}
}
