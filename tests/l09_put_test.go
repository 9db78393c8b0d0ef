package tests

import (
	"fmt"
	"strings"
	"testing"

	"loop.example/g00089/impl"
)

func TestPutItems(t *testing.T) {
	w := mixedWorld(middleShape())
	for i, name := range []string{"c", "b", "a", "c", "zzzzzzzz"} {
		list := fours(int64(i%2 + 1))
		told := impl.PutItem(w, name, list)
		wantLaid(t, name, told, w, dataItem(int64(6+i), name, list))
		wantBytes(t, name, impl.ItemBytes(told.World, name), list)
		w = told.World
	}
}

// What waits and what comes are no more together than may wait; what lies in
// rows, is deleted or has a newer one does not wait.
func TestPutUpToStage(t *testing.T) {
	recs := []impl.Rec{dataItem(1, "a", fours(2)), rowsItem(2, "b", 24, 0, 1, 2), dataItem(3, "c", fours(5)), deletedItem(4, "c"),
		dataItem(5, "d", fours(6)), dataItem(6, "d", fours(1)), dataItem(7, "e", fours(4)), rowsItem(8, "e", 16, 0, 1)}
	waiting := []int64{0, 8, 8, 28, 8, 32, 12, 28, 12}
	for count, waits := range waiting {
		for _, length := range []int64{1, 8, 23, 24} {
			for _, name := range []string{"a", "new"} {
				w := withTapes(middleShape(), recs[:count], recs[:count/2])
				list := make([]byte, length)
				what := fmt.Sprint(count, " records, ", length, " bytes of ", name)
				w.Shape.Stage = waits + length
				wantLaid(t, what, impl.PutItem(w, name, list), w, dataItem(int64(count)+1, name, list))
				w.Shape.Stage = waits + length - 1
				wantNoWorld(t, what, impl.PutItem(w, name, list), impl.ErrBusy)
				w.Shape.Stage = 0
				wantNoWorld(t, what, impl.PutItem(w, name, list), impl.ErrBusy)
			}
		}
	}
}

// More may wait on tapes than a shape lets come to them.
func TestPutWhereTooMuchWaits(t *testing.T) {
	w := withTapes(greatestShape(), nil, nil)
	for i := range 200 {
		w.Tapes[0].Recs = append(w.Tapes[0].Recs, dataItem(int64(i+1), fmt.Sprint("a", i), fours(9)))
		w.Tapes[1].Recs = append(w.Tapes[1].Recs, dataItem(int64(i+1), fmt.Sprint("b", i), fours(9)))
	}
	wantNoWorld(t, "one byte", impl.PutItem(w, "c", []byte{1}), impl.ErrBusy)
}

func TestPutLengths(t *testing.T) {
	for data := int64(1); data <= 3; data++ {
		s := shapeOfData(data)
		s.Stage = 400
		w := plainWorld(s)
		for length := range 40 * data {
			told := impl.PutItem(w, "a", make([]byte, length))
			switch {
			case length == 0:
				wantNoWorld(t, "no bytes", told, impl.ErrZero)
			case length > 12*data:
				wantNoWorld(t, fmt.Sprint(length, " bytes"), told, impl.ErrMany)
			default:
				wantLaid(t, fmt.Sprint(length, " bytes"), told, w, dataItem(1, "a", make([]byte, length)))
			}
		}
	}
}

func TestPutNames(t *testing.T) {
	w := mixedWorld(middleShape())
	for _, name := range []string{"", "A", "9", "a_", "a b", "ninebytes", "ä", strings.Repeat("a", 300)} {
		wantNoWorld(t, name, impl.PutItem(w, name, []byte{1}), impl.ErrText)
		wantNoWorld(t, name, impl.PutItem(w, name, nil), impl.ErrText)
		wantNoWorld(t, name, impl.DropItem(w, name), impl.ErrText)
		wantCode(t, name, impl.ItemBytes(w, name), impl.ErrText)
	}
}

func TestDroppedItems(t *testing.T) {
	waits, lies := dataItem(3, "a", []byte{1}), rowsItem(4, "a", 9, 0, 2)
	for _, c := range []struct {
		name  string
		recs  []impl.Rec
		there bool
	}{
		{"nothing", nil, false},
		{"another name", []impl.Rec{dataItem(3, "ab", []byte{1})}, false},
		{"one that waits", []impl.Rec{waits}, true},
		{"one in rows", []impl.Rec{lies}, true},
		{"one that waited", []impl.Rec{waits, lies}, true},
		{"one that is deleted", []impl.Rec{waits, lies, deletedItem(9, "a")}, false},
		{"one that was never there", []impl.Rec{deletedItem(9, "a")}, false},
		{"one that is put again", []impl.Rec{waits, deletedItem(9, "a"), dataItem(12, "a", []byte{1})}, true},
	} {
		w := withTapes(middleShape(), c.recs, nil)
		told := impl.DropItem(w, "a")
		if !c.there {
			wantNoWorld(t, c.name, told, impl.ErrNone)
			wantCode(t, c.name, impl.ItemBytes(w, "a"), impl.ErrNone)
			continue
		}
		wantLaid(t, c.name, told, w, deletedItem(impl.NextSeq(w).Value, "a"))
		wantNoWorld(t, c.name+", twice", impl.DropItem(told.World, "a"), impl.ErrNone)
		wantCode(t, c.name, impl.ItemBytes(told.World, "a"), impl.ErrNone)
	}
}

// A dropped item's rows are free, and its name may be put again.
func TestDroppedAndPutAgain(t *testing.T) {
	w := destaged(t, putWorld(t, middleShape(), "a", fours(6)), 1)
	wantNoWorld(t, "no rows", impl.DestageOne(impl.PutItem(w, "c", fours(1)).World, 1), impl.ErrNone)
	w = impl.PutItem(impl.DropItem(w, "a").World, "a", []byte("again")).World
	wantBytes(t, "ahead", impl.ItemBytes(w, "a"), []byte("again"))
	w = impl.CleanTapes(impl.RedoAll(impl.SwitchOn(w, 2).World, 2).World).World
	w = destaged(t, w, 1)
	wantBytes(t, "behind", impl.ItemBytes(w, "a"), []byte("again"))
}

// One that waits is read whoever is on and whatever is dead; one in rows is
// read where its home is on and lives.
func TestItemsReadInTheirHomes(t *testing.T) {
	waits, lies := dataItem(2000, "a", fours(3)), rowsItem(2000, "a", 12, 2, 0)
	for _, on := range [][]int64{nil, {0}, {1}, {2, 0}, {2, 1}} {
		for count := range int64(4) {
			what := fmt.Sprint("on ", on, ", wiped ", count)
			w := withTapes(middleShape(), []impl.Rec{waits}, nil)
			w.On = on
			wipe(w, 1, count)
			wantBytes(t, what, impl.ItemBytes(w, "a"), fours(3))
			w.Tapes[0].Recs[0] = lies
			got := impl.ItemBytes(w, "a")
			switch {
			case len(on) == 0 || on[len(on)-1] != 1:
				wantCode(t, what, got, impl.ErrOff)
			case count > 1:
				wantCode(t, what, got, impl.ErrLost)
			default:
				rows := append(impl.RowBytes(w, 1, 2).Bytes, impl.RowBytes(w, 1, 0).Bytes...)
				wantBytes(t, what, got, rows[:12])
			}
		}
	}
}

// What another group has lost is no matter.
func TestItemsReadBesideTheDead(t *testing.T) {
	w := withTapes(middleShape(), nil, []impl.Rec{rowsItem(2000, "a", 3, 1)})
	w.On = []int64{1}
	wipe(w, 0, 3)
	wipe(w, 2, 3)
	wantBytes(t, "read", impl.ItemBytes(w, "a"), impl.RowBytes(w, 1, 1).Bytes[:3])
}

// putWorld is a new world to which one object came, all its groups off.
func putWorld(t *testing.T, s impl.Shape, name string, list []byte) impl.World {
	t.Helper()
	told := impl.PutItem(plainWorld(s), name, list)
	if told.Code != impl.OK {
		t.Fatalf("%v: %d bytes are not put: code %d", s, len(list), told.Code)
	}
	return told.World
}

// onAlone lets one group be on, and no other.
func onAlone(w impl.World, group int64) impl.World {
	for _, other := range w.On {
		w = impl.SwitchOff(w, other).World
	}
	return impl.SwitchOn(w, group).World
}

// destaged wants an object to be destaged in the group, which stays on.
func destaged(t *testing.T, w impl.World, group int64) impl.World {
	t.Helper()
	told := impl.DestageOne(onAlone(w, group), group)
	if told.Code != impl.OK {
		t.Fatalf("group %d is not destaged: code %d", group, told.Code)
	}
	return told.World
}

// wantRead wants an object to be read in a world that has power.
func wantRead(t *testing.T, what string, w impl.World, name string, list []byte) {
	t.Helper()
	home := homeOfName(w.Shape, name)
	wantBytes(t, what+": "+name, impl.ItemBytes(onAlone(w, home), name), list)
}

// wantParityDone redoes all moves in the groups of parity; then rows and
// columns of all groups fit.
func wantParityDone(t *testing.T, what string, w impl.World) {
	t.Helper()
	s := w.Shape
	for group := s.Groups; group < s.Groups+s.Column; group++ {
		w = impl.RedoAll(onAlone(w, group), group).World
	}
	w.Shape.Cap, w.On = 6, upTo(s.Groups+s.Column)
	wantColumns(t, what, w)
}

// eachExtreme goes through shapes whose numbers are all the least or the greatest.
func eachExtreme(check func(s impl.Shape)) {
	most := greatestShape()
	fields := shapeFields()
	for mask := range 1 << 6 {
		s := leastShape()
		s.Stage = impl.MaxStage
		for i, field := range fields[:6] {
			if mask>>i&1 == 1 {
				*field.at(&s) = *field.at(&most)
			}
		}
		check(s)
	}
}

// What was put is read, ahead of its destaging and behind it.
func TestWhatWasPutIsRead(t *testing.T) {
	q := &sequence{state: 95}
	eachExtreme(func(s impl.Shape) {
		for length := int64(1); length <= 12*s.Data; length++ {
			name := []string{"a", "b", "c", "d"}[length%4]
			what, list := fmt.Sprint(s, ", ", length, " bytes"), q.list(int(length))
			home := homeOfName(s, name)
			w := putWorld(t, s, name, list)
			wantBytes(t, what+", all off", impl.ItemBytes(w, name), list)
			wantRead(t, what+", ahead", w, name, list)
			if partsOf(s.Data, length) > s.Rows {
				wantNoWorld(t, what, impl.DestageOne(onAlone(w, home), home), impl.ErrNone)
				continue
			}
			w = destaged(t, w, home)
			wantRead(t, what+", behind", w, name, list)
			wantInt(t, what, impl.WaitingBytes(w), impl.IntResult{})
			wantNext(t, what, w, home)
			wantParityDone(t, what, w)
			wantCode(t, what, impl.ItemBytes(impl.SwitchOff(w, home).World, name), impl.ErrOff)
		}
	})
}

// Many objects of all homes, put, put again, dropped and destaged as it comes,
// are what they were.
func TestManyObjectsAreRead(t *testing.T) {
	q := &sequence{state: 96}
	for _, s := range recShapes()[1:] {
		s.Cap, s.Stage = 1, 100
		w := plainWorld(s)
		objects := map[string][]byte{}
		for range 150 {
			name, group := anyName(q), int64(q.next()%uint64(s.Groups+s.Column))
			var told impl.WorldResult
			switch list := q.list(1 + int(q.next()%uint64(12*s.Data))); q.next() % 5 {
			case 0:
				if told = impl.PutItem(w, name, list); told.Code == impl.OK {
					objects[name] = list
				}
			case 1:
				if told = impl.DropItem(w, name); told.Code == impl.OK {
					delete(objects, name)
				}
			case 2:
				told = impl.RedoAll(onAlone(w, group), group)
			case 3:
				told = impl.CleanTapes(w)
			case 4:
				told = impl.DestageOne(onAlone(w, group), group)
			}
			if told.Code == impl.OK {
				w = told.World
			}
			for name, list := range objects {
				wantRead(t, "an object", w, name, list)
			}
		}
		wantParityDone(t, fmt.Sprint(s), w)
	}
}

// Wherever power is cut a put is wholly there or not at all, and what is put
// again is read.
func TestPutAndPower(t *testing.T) {
	for _, s := range []impl.Shape{middleShape(), greatestShape()} {
		old, list := []byte("old"), fours(2)
		for _, first := range []string{"a", "c"} {
			w := impl.CutPower(putWorld(t, s, first, old)).World
			for stop := range int64(2) {
				what := fmt.Sprint("a put behind ", first, ", cut at ", stop)
				cut := impl.PutItem(impl.RaisePower(w, stop).World, "a", list)
				if cut.Code != impl.ErrDown || !cut.World.Down || cut.World.Writes != stop {
					t.Fatalf("%s: code %d", what, cut.Code)
				}
				there := poweredAgain(cut.World, nil, -1)
				switch {
				case stop == 1:
					wantRead(t, what, there, "a", list)
				case first == "a":
					wantRead(t, what, there, "a", old)
				default:
					wantCode(t, what, impl.ItemBytes(there, "a"), impl.ErrNone)
				}
				for _, again := range []impl.World{there, impl.RepairTapes(there).World} {
					again = impl.PutItem(again, "a", list).World
					wantRead(t, what+", put again", again, "a", list)
					for len(impl.NewestItem(again, "a").Recs[0].Data) > 0 {
						again = destaged(t, again, 1)
					}
					wantRead(t, what+", destaged", again, "a", list)
				}
			}
		}
	}
}

// Wherever power is cut an item is wholly dropped or not at all.
func TestDroppedAndPower(t *testing.T) {
	w := impl.CutPower(destaged(t, putWorld(t, middleShape(), "a", fours(3)), 1)).World
	for stop := range int64(2) {
		cut := impl.DropItem(impl.RaisePower(w, stop).World, "a")
		if cut.Code != impl.ErrDown || cut.World.Writes != stop {
			t.Fatalf("cut at %d: code %d", stop, cut.Code)
		}
		there := poweredAgain(cut.World, []int64{1}, -1)
		if stop == 0 {
			wantBytes(t, "not at all", impl.ItemBytes(there, "a"), fours(3))
			there = impl.DropItem(there, "a").World
		}
		wantCode(t, "wholly", impl.ItemBytes(there, "a"), impl.ErrNone)
	}
}
