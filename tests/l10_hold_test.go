package tests

import (
	"fmt"
	"math"
	"testing"

	"loop.example/g00089/impl"
)

func TestNothingHoldsInAFaultyWorld(t *testing.T) {
	for _, f := range worldFlaws() {
		w := columnWorld(&sequence{state: 103}, middleShape())
		w.On = []int64{1}
		w.Tapes[0].Recs = []impl.Rec{doneOf(2, 0)}
		w.Tapes[1].Recs = []impl.Rec{doneOf(2, 0)}
		if !impl.ColumnHolds(w, 2) || !impl.GroupHolds(w, 1) {
			t.Fatal("without a fault it does not hold")
		}
		f.make(&w)
		if impl.WorldFault(w) == impl.OK {
			t.Fatal(f.name, ": no fault")
		}
		for number := range int64(3) {
			if impl.ColumnHolds(w, number) || impl.GroupHolds(w, number) {
				t.Errorf("%s: %d holds", f.name, number)
			}
		}
	}
	if impl.ColumnHolds(impl.World{}, 0) || impl.GroupHolds(impl.World{}, 0) {
		t.Error("nothing holds")
	}
}

func wantHolds(t *testing.T, what string, got, want bool) {
	t.Helper()
	if got != want {
		t.Errorf("%s: %v", what, got)
	}
}

// A single byte that is turned is seen by its own group, if it has more
// drives that are not wiped than it has data ones, and by its own row, if
// there are groups of parity.
func TestAByteThatIsTurned(t *testing.T) {
	q := &sequence{state: 104}
	for _, s := range sharesShapes() {
		w := columnWorld(q, s)
		w.On = nil
		eachBlock(s, func(group, drive, row int64) {
			at := q.next() % 4
			w.Groups[group][drive].Blocks[row].Bytes[at] ^= 16
			what := fmt.Sprint(s, ", group ", group, ", drive ", drive, ", row ", row)
			for other := range s.Groups + s.Column {
				wantHolds(t, what, impl.GroupHolds(w, other), other != group || s.Spare == 0)
			}
			for other := range s.Rows {
				wantHolds(t, what, impl.ColumnHolds(w, other), other != row || s.Column == 0 || drive >= s.Data)
			}
			w.Groups[group][drive].Wiped = true
			for other := range s.Groups + s.Column {
				wantHolds(t, what+" wiped", impl.GroupHolds(w, other), other != group || s.Spare > 0)
			}
			for other := range s.Rows {
				wantHolds(t, what+" wiped", impl.ColumnHolds(w, other), s.Spare > 0)
			}
			w.Groups[group][drive].Wiped = false
			w.Groups[group][drive].Blocks[row].Bytes[at] ^= 16
		})
		for group := range s.Groups + s.Column {
			wantHolds(t, "turned back", impl.GroupHolds(w, group), true)
		}
	}
}

// With some drives wiped the others are still held against each other, as long
// as there are more of them than data ones.
func TestGroupsThatHoldInPart(t *testing.T) {
	q := &sequence{state: 105}
	eachRow(t, func(t *testing.T, data, spare int64) {
		list := q.list(int(4 * data))
		for mask := range uint(1) << (data + spare) {
			w := rowWorld(data, spare, list, mask)
			wiped := int64(len(placesOf(mask)))
			wantHolds(t, fmt.Sprint("wiped ", mask), impl.GroupHolds(w, 0), wiped <= spare)
			wantHolds(t, fmt.Sprint("wiped ", mask), impl.ColumnHolds(w, 1), wiped <= spare)
			for drive := range data + spare {
				if mask>>drive&1 == 1 || wiped > spare {
					continue
				}
				w.Groups[0][drive].Blocks[1].Bytes[3]++
				wantHolds(t, fmt.Sprint("wiped ", mask, ", turned ", drive), impl.GroupHolds(w, 0), wiped == spare)
				w.Groups[0][drive].Blocks[1].Bytes[3]--
			}
		}
	})
}

// A group of parity with rows that are rows, but not those of the column.
func TestRowsOfAnotherColumn(t *testing.T) {
	q := &sequence{state: 106}
	columnShapes(func(s impl.Shape) {
		for group := range s.Groups + s.Column {
			w := columnWorld(q, s)
			w.On = nil
			for drive, block := range plainBlocks(s.Data, s.Spare, q.list(int(4*s.Data))) {
				w.Groups[group][drive].Blocks[1].Bytes = block
			}
			wantHolds(t, fmt.Sprint(s, group), impl.GroupHolds(w, group), true)
			wantHolds(t, fmt.Sprint(s, group), impl.ColumnHolds(w, 0), true)
			wantHolds(t, fmt.Sprint(s, group), impl.ColumnHolds(w, 1), s.Column == 0)
		}
	})
}

// A counted move of the row, done or not, on whatever tape, lets it not hold;
// other records do not matter.
func TestColumnsThatAreMoved(t *testing.T) {
	s := middleShape()
	for _, c := range []struct {
		name  string
		recs  []impl.Rec
		holds [3]bool
	}{
		{"nothing", nil, [3]bool{true, true, true}},
		{"other kinds", []impl.Rec{shareOf(s, 1, 0, 0), doneOf(2, 1), rowsItem(3, "a", 2, 0), dataItem(4, "b", []byte{1})}, [3]bool{true, true, true}},
		{"a move", []impl.Rec{moveOf(s, 1, 0, 0)}, [3]bool{false, true, true}},
		{"a move of another group", []impl.Rec{moveOf(s, 1, 1, 2)}, [3]bool{true, true, false}},
		{"a move that is done", []impl.Rec{moveOf(s, 1, 0, 1), doneOf(1, 0), doneOf(1, 2)}, [3]bool{true, false, true}},
		{"two moves", []impl.Rec{moveOf(s, 1, 0, 1), moveOf(s, 2, 1, 0)}, [3]bool{false, false, true}},
	} {
		for tape := range 3 {
			w := columnWorld(&sequence{state: 107}, s)
			w.On = nil
			for other := range w.Tapes {
				if tape == other || tape == 2 {
					w.Tapes[other].Recs = c.recs
				}
			}
			for row, want := range c.holds {
				wantHolds(t, fmt.Sprint(c.name, ", row ", row), impl.ColumnHolds(w, int64(row)), want)
				wantHolds(t, fmt.Sprint(c.name, ", no power"), impl.ColumnHolds(withoutPower(w), int64(row)), want)
				wantHolds(t, fmt.Sprint(c.name, ", group ", row), impl.GroupHolds(w, int64(row)), true)
			}
		}
	}
}

// A dead group does not hold, and lets no row hold; one that is not dead does,
// whether it is on or not.
func TestWhatHoldsBesideTheDead(t *testing.T) {
	q := &sequence{state: 108}
	columnShapes(func(s impl.Shape) {
		for group := range s.Groups + s.Column {
			for count := range s.Data + s.Spare + 1 {
				w := columnWorld(q, s)
				w.On = nil
				wipe(w, group, count)
				dead := count > s.Spare
				for other := range s.Groups + s.Column {
					for _, on := range [][]int64{nil, {other}} {
						w.On = on
						wantHolds(t, fmt.Sprint(s, group, other), impl.GroupHolds(w, other), other != group || !dead)
						wantHolds(t, fmt.Sprint(s, group), impl.ColumnHolds(w, other%2), !dead)
					}
				}
			}
		}
	})
}

func TestHoldsKeepItsArguments(t *testing.T) {
	for _, number := range []int64{math.MinInt64, -1, 0, 1, 2, 3, math.MaxInt64} {
		for _, f := range holders() {
			w := columnWorld(&sequence{state: 109}, middleShape())
			w.On, w.Tapes[1].Recs = []int64{1}, []impl.Rec{shareOf(w.Shape, 3, 1, 1), moveOf(w.Shape, 4, 1, 1)}
			q := deepCopy(request{World: w, Group: number, Row: number}, 2)
			wantNew(t, f.name, func() outcome { return f.call(q) }, q)
			q.World = mixedWorld(middleShape(), 2)
			wantNew(t, f.name, func() outcome { return f.call(q) }, q)
		}
	}
}
