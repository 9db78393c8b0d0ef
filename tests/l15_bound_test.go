package tests

import (
	"fmt"
	"math"
	"testing"

	"loop.example/g00089/impl"
)

func TestReadBounds(t *testing.T) {
	for _, s := range groupShapes() {
		groups := s.Groups + s.Column
		for s.Batch = 1; s.Batch <= 4; s.Batch++ {
			for s.Queue = 1; s.Queue <= 6; s.Queue++ {
				served := int64(0)
				rounds := int64(0)
				for place := range s.Queue {
					// The round in which one is served that has so many ahead.
					if place == served {
						served, rounds = served+s.Batch, rounds+1
					}
					wantInt(t, fmt.Sprint(s, place), impl.ReadBound(s, place), impl.IntResult{Value: rounds * groups})
				}
				for _, place := range beyond(0, s.Queue-1) {
					wantInt(t, fmt.Sprint(s, place), impl.ReadBound(s, place), impl.IntResult{Code: impl.ErrRange})
				}
			}
		}
	}
	s := middleShape()
	s.Queue = 6
	for batch, want := range map[int64][]int64{1: {3, 6, 9, 12, 15, 18}, 2: {3, 3, 6, 6, 9, 9}, 3: {3, 3, 3, 6, 6, 6}, 4: {3, 3, 3, 3, 6, 6}} {
		s.Batch = batch
		for place, value := range want {
			wantInt(t, fmt.Sprint("batch ", batch, ", place ", place), impl.ReadBound(s, int64(place)), impl.IntResult{Value: value})
		}
	}
}

// Only the shape is asked ahead of the place.
func TestReadBoundsOfWrongShapes(t *testing.T) {
	for _, s := range append(wrongShapesOfAll(), impl.Shape{}) {
		for _, place := range []int64{math.MinInt64, -1, 0, 1, 5, 6, math.MaxInt64} {
			wantInt(t, fmt.Sprint(s, place), impl.ReadBound(s, place), impl.IntResult{Code: impl.ErrRange})
		}
	}
	eachExtreme(func(s impl.Shape) {
		if got := impl.ReadBound(s, s.Queue-1); got.Code != impl.OK || got.Value < s.Groups+s.Column {
			t.Errorf("%v: %+v", s, got)
		}
	})
}

func TestDrainBounds(t *testing.T) {
	for _, s := range groupShapes() {
		groups := s.Groups + s.Column
		for count := range int64(200) {
			a := impl.NewArchive(s).Archive
			for i := range count {
				a.World.Tapes[i%2].Recs = append(a.World.Tapes[i%2].Recs, dataItem(i+1, fmt.Sprint("x", i), []byte{byte(i)}))
			}
			wantInt(t, fmt.Sprint(s, ", items ", count), impl.DrainBound(a), impl.IntResult{Value: 2*groups + 2*groups*count})
			if count > 8 && s.Groups != 2 {
				break
			}
		}
	}
}

// Items count once, and only those that wait; what else the tapes say, the
// desk, dead groups and power do not matter.
func TestDrainBoundsOfManyRecords(t *testing.T) {
	s := middleShape()
	for _, c := range []struct {
		what  string
		recs  []impl.Rec
		value int64
	}{
		{"nothing", nil, 6},
		{"an item that waits", []impl.Rec{dataItem(1, "a", []byte{0})}, 12},
		{"an item of many bytes", []impl.Rec{dataItem(1, "a", fours(6))}, 12},
		{"an item that lies", []impl.Rec{rowsItem(1, "a", 24, 0, 2, 1)}, 6},
		{"an item that is deleted", []impl.Rec{dataItem(1, "a", []byte{0}), deletedItem(2, "a")}, 6},
		{"an item that waited", []impl.Rec{dataItem(1, "a", []byte{0}), rowsItem(2, "a", 1, 2)}, 6},
		{"an item put twice", []impl.Rec{dataItem(1, "a", []byte{0}), dataItem(2, "a", []byte{1})}, 12},
		{"an item put again", []impl.Rec{dataItem(1, "a", []byte{0}), deletedItem(2, "a"), dataItem(3, "a", []byte{1})}, 12},
		{"two homes", []impl.Rec{dataItem(1, "a", []byte{0}), dataItem(2, "b", []byte{1})}, 18},
		{"one home", []impl.Rec{dataItem(1, "a", []byte{0}), dataItem(2, "c", []byte{1}), rowsItem(3, "e", 3, 0)}, 18},
		{"other records", []impl.Rec{moveOf(s, 1, 1, 0), doneOf(1, 0), shareOf(s, 2, 0, 1)}, 6},
		{"all kinds", []impl.Rec{moveOf(s, 1, 1, 0), dataItem(4, "a", []byte{0}), doneOf(1, 0), shareOf(s, 2, 0, 1)}, 12},
	} {
		eachLaying(plainWorld(s), c.recs, func(what string, w impl.World) {
			a := impl.Archive{World: w, Desk: middleDesk()}
			wantInt(t, c.what+", "+what, impl.DrainBound(a), impl.IntResult{Value: c.value})
			wantInt(t, c.what+", no power", impl.DrainBound(impl.CutArchive(a).Archive), impl.IntResult{Value: c.value})
			wipe(a.World, 1, 3)
			wantInt(t, c.what+", a dead group", impl.DrainBound(a), impl.IntResult{Value: c.value})
		})
	}
}

// The turn of a name's home comes now, or behind those of the groups between.
func TestWaitingFor(t *testing.T) {
	for _, s := range groupShapes() {
		groups := s.Groups + s.Column
		for _, from := range []int64{0, 7 * groups, 600, 999999990} {
			for turn := from; turn <= min(from+2*groups, 1000000000); turn++ {
				a := impl.NewArchive(s).Archive
				a.Desk.Turn = turn
				for _, name := range []string{"a", "b", "c", "d", "z9", "zzzzzzzz"} {
					n := int64(1)
					for at := turn % groups; at != homeOfName(s, name); at = (at + 1) % groups {
						n++
					}
					wantInt(t, fmt.Sprint(s, ", turn ", turn, ", ", name), impl.WaitingFor(a, name), impl.IntResult{Value: n})
					wantInt(t, fmt.Sprint(s, ", no power, turn ", turn, ", ", name), impl.WaitingFor(impl.CutArchive(a).Archive, name), impl.IntResult{Value: n})
				}
			}
		}
	}
}

// Near the last turn it is told as anywhere else, though no turn may be left.
func TestWaitingForTheLastTurns(t *testing.T) {
	for _, s := range groupShapes() {
		for left := range int64(8) {
			a := impl.NewArchive(s).Archive
			a.Desk.Turn = 1000000000 - left
			for _, name := range []string{"a", "b", "c", "d"} {
				q := auditRequest{Archive: a, Name: name}
				wantAudit(t, fmt.Sprint(s, ", ", left, " left"), waitingForCall(q), plainWaitingFor(q))
				if got := impl.WaitingFor(a, name); got.Value < 1 || got.Value > s.Groups+s.Column {
					t.Errorf("%v, %d left: %+v", s, left, got)
				}
			}
		}
	}
}

// Who waits, what the tapes say and which groups are dead do not matter, nor
// whether there is such an object.
func TestWaitingForAnyName(t *testing.T) {
	a := middleArchive()
	for _, name := range []string{"a", "b", "c", "nothing1"} {
		want := impl.IntResult{Value: 1 + (homeOfName(a.World.Shape, name)+2)%3}
		wantInt(t, name, impl.WaitingFor(a, name), want)
		broken := deepCopy(a, 0)
		wipe(broken.World, 0, 3)
		wipe(broken.World, 1, 3)
		wantInt(t, name+", dead groups", impl.WaitingFor(broken, name), want)
	}
	for _, name := range []string{"", "A", "1a", "a-b", "ninebytes", "é", "a\x00", "\xff", "a\n"} {
		wantInt(t, fmt.Sprintf("%q", name), impl.WaitingFor(a, name), impl.IntResult{Code: impl.ErrText})
	}
}
