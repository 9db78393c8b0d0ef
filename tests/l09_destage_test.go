package tests

import (
	"fmt"
	"slices"
	"testing"

	"loop.example/g00089/impl"
)

func TestDestageConstants(t *testing.T) {
	if impl.MaxMoves != 6 {
		t.Errorf("MaxMoves %d", impl.MaxMoves)
	}
}

func TestDestageCodesAndTheirOrder(t *testing.T) {
	for _, f := range destagers() {
		wantFlawless(t, f)
	}
}

func TestDestagingKeepsItsArguments(t *testing.T) {
	for _, f := range destagers() {
		wantKeeper(t, f)
	}
}

func TestManyWorldsAreDestaged(t *testing.T) {
	eachStaging(900, 120, func(what string, q request) {
		wantWorldCode(t, what, q.World, impl.OK)
		wantAllPlain(t, what, destagers(), q)
	})
}

// Only NextDestage is answered without power.
func TestDestagingWithoutPower(t *testing.T) {
	eachStaging(910, 10, func(what string, q request) {
		there := impl.NextDestage(q.World, q.Group)
		q.World = withoutPower(q.World)
		wantAllPlain(t, what, destagers(), q)
		wantOutcome(t, what, recsOutcome(impl.NextDestage(q.World, q.Group)), recsOutcome(there))
	})
}

func TestDestagingAndPowerThatFails(t *testing.T) {
	eachStaging(920, 20, func(what string, q request) {
		for _, f := range destageWriters() {
			wantCutAnywhere(t, what, f, q)
		}
	})
}

// Lists that share memory in a world, and with the bytes, share none in what is told.
func TestDestagedIsParted(t *testing.T) {
	bytes := fours(2)
	block := impl.Block{Bytes: bytes[:4]}
	drive := impl.Drive{Blocks: []impl.Block{block, block, block}}
	drives := []impl.Drive{drive, drive, drive}
	recs := []impl.Rec{dataItem(1, "c", bytes), dataItem(2, "d", bytes), dataItem(3, "e", bytes)}
	for _, f := range destagers() {
		q := f.given()
		q.World.Groups, q.World.Tapes = [][]impl.Drive{drives, drives, drives}, []impl.Tape{{Recs: recs}, {Recs: recs}}
		q.Bytes, q.Name = bytes, "c"
		wantNew(t, f.name, func() outcome { return f.call(q) })
		if got := f.call(q); got.Code != impl.OK {
			t.Errorf("%s: code %d", f.name, got.Code)
		}
	}
}

// wantNext wants the item that is destaged next, or none.
func wantNext(t *testing.T, what string, w impl.World, group int64, next ...impl.Rec) {
	t.Helper()
	got := impl.NextDestage(w, group)
	if len(next) == 0 {
		wantNoRecs(t, what, got, impl.ErrNone)
		return
	}
	wantRecs(t, what, got, next)
}

// The home of a, c and e is the group 1 of two, that of b and d the group 0.
func TestNextToBeDestaged(t *testing.T) {
	s := middleShape()
	one, two, three := dataItem(4, "a", fours(1)), dataItem(5, "c", fours(4)), dataItem(6, "e", fours(6))
	other := dataItem(3, "b", fours(1))
	for _, c := range []struct {
		name string
		recs []impl.Rec
		next []impl.Rec
	}{
		{"nothing", nil, nil},
		{"no items", []impl.Rec{doneOf(1, 1)}, nil},
		{"one", []impl.Rec{one}, []impl.Rec{one}},
		{"one of another home", []impl.Rec{other}, nil},
		{"one of each home", []impl.Rec{other, two}, []impl.Rec{two}},
		{"a deleted one", []impl.Rec{one, deletedItem(9, "a")}, nil},
		{"one that is put again", []impl.Rec{deletedItem(3, "a"), one}, []impl.Rec{one}},
		{"one in rows", []impl.Rec{rowsItem(4, "a", 4, 0)}, nil},
		{"one that was destaged", []impl.Rec{one, rowsItem(9, "a", 4, 0)}, nil},
		{"one in rows that is put again", []impl.Rec{rowsItem(3, "a", 4, 0), one}, []impl.Rec{one}},
		{"a newer one", []impl.Rec{one, two, dataItem(9, "a", fours(2))}, []impl.Rec{two}},
		{"a newer one alone", []impl.Rec{one, dataItem(9, "a", fours(2))}, []impl.Rec{dataItem(9, "a", fours(2))}},
		{"the least Seq", []impl.Rec{three, two, one}, []impl.Rec{one}},
		{"three parts, three rows", []impl.Rec{three}, []impl.Rec{three}},
		{"three parts, two rows", []impl.Rec{three, rowsItem(1, "g", 1, 1)}, nil},
		{"three parts, a move", []impl.Rec{three, moveOf(s, 1, 1, 1)}, nil},
		{"three parts, a move of another group", []impl.Rec{three, moveOf(s, 1, 0, 1)}, []impl.Rec{three}},
		{"three parts, a share of another group", []impl.Rec{three, shareOf(s, 1, 0, 1)}, nil},
		{"two parts, two rows", []impl.Rec{two, moveOf(s, 1, 1, 2)}, []impl.Rec{two}},
		{"two parts, one row", []impl.Rec{two, rowsItem(1, "g", 9, 2, 0)}, nil},
		{"one part, one row", []impl.Rec{one, rowsItem(1, "g", 9, 2, 0)}, []impl.Rec{one}},
		{"one part, no row", []impl.Rec{one, rowsItem(1, "g", 17, 2, 0, 1)}, nil},
		{"the first does not fit", []impl.Rec{dataItem(2, "e", fours(6)), two, moveOf(s, 1, 1, 2)}, []impl.Rec{two}},
		{"the first two do not fit", []impl.Rec{dataItem(2, "e", fours(6)), dataItem(3, "c", fours(3)), one, rowsItem(1, "g", 9, 2, 0)}, []impl.Rec{one}},
		{"none fits", []impl.Rec{two, three, rowsItem(1, "g", 9, 2, 0)}, nil},
		{"its own rows become free", []impl.Rec{rowsItem(1, "e", 24, 0, 1, 2), three}, []impl.Rec{three}},
		{"two of one Seq", []impl.Rec{dataItem(4, "c", fours(4)), one}, []impl.Rec{one}},
	} {
		wantNext(t, c.name, withTapes(s, c.recs, nil), 1, c.next...)
		backwards := slices.Clone(c.recs)
		slices.Reverse(backwards)
		wantNext(t, c.name, withTapes(s, c.recs[:len(c.recs)/2], backwards), 1, c.next...)
	}
}

// Whether the group is on or dead is not asked.
func TestNextOfAnyGroup(t *testing.T) {
	item := dataItem(4, "a", fours(1))
	for _, on := range [][]int64{nil, {0}, {1, 2}} {
		w := withTapes(middleShape(), []impl.Rec{item}, nil)
		w.On = on
		wantNext(t, "living", w, 1, item)
		wipe(w, 1, 3)
		wantNext(t, "dead", w, 1, item)
		for _, group := range append(beyond(0, 1), 2) {
			wantNoRecs(t, fmt.Sprint("group ", group), impl.NextDestage(w, group), impl.ErrRange)
		}
	}
}

// A row of a group of parity is told as well, but is not moved.
func TestOldBytesOfEachPlace(t *testing.T) {
	q := &sequence{state: 93}
	s := greatestShape()
	s.Rows = 2
	w := mixedWorld(s, upTo(6)...)
	eachPlace(s, func(group, row int64) {
		list := q.list(12)
		sum := impl.RowBytes(w, group, row).Bytes
		for i := range sum {
			sum[i] ^= list[i]
		}
		wantBytes(t, fmt.Sprint(group, row), impl.OldBytes(w, group, row, list), sum)
		wantBytes(t, "zeros", impl.OldBytes(w, group, row, make([]byte, 12)), impl.RowBytes(w, group, row).Bytes)
		if told := impl.MoveRow(w, group, row, list); told.Code != okOr(impl.ErrRange, group < 4) {
			t.Errorf("group %d, row %d: code %d", group, row, told.Code)
		}
	})
}

// Up to as many wiped drives as are spare a row is moved, on the others; with one more it is lost.
func TestRowsMovedOnWipedDrives(t *testing.T) {
	q := &sequence{state: 94}
	eachRow(t, func(t *testing.T, data, spare int64) {
		for mask := range uint(1) << (data + spare) {
			was, list := q.list(int(data*4)), q.list(int(data*4))
			w := rowWorld(data, spare, was, mask)
			w.Tapes[1].Recs = []impl.Rec{doneOf(50, 0)}
			what, wiped := fmt.Sprint("wiped ", mask), int64(len(placesOf(mask)))
			old, told := impl.OldBytes(w, 0, 1, list), impl.MoveRow(w, 0, 1, list)
			wantOutcome(t, what, worldOutcome(told), plainMoveRow(request{World: w, Row: 1, Bytes: list}))
			if wiped > spare {
				wantCode(t, what, old, impl.ErrLost)
				wantNoWorld(t, what, told, impl.ErrLost)
				continue
			}
			wantBytes(t, what, old, impl.AddBytes(was, list).Bytes)
			wantBytes(t, what, impl.RowBytes(told.World, 0, 1), list)
			wantBytes(t, "the other row", impl.RowBytes(told.World, 0, 0), make([]byte, data*4))
			if told.World.Writes != 4+data+spare-wiped {
				t.Errorf("%s: %d writes", what, told.World.Writes)
			}
		}
	})
}

// What is laid says what the row becomes and by what it changes.
func TestMovedRows(t *testing.T) {
	w := mixedWorld(middleShape(), 1)
	w.Tapes[1].Recs = append(w.Tapes[1].Recs, doneOf(1500, 2))
	list := []byte{0, 1, 2, 3, 4, 5, 6, 255}
	delta := impl.AddBytes(impl.RowBytes(w, 1, 2).Bytes, list).Bytes
	want := deepCopy(w, 0)
	for drive, block := range plainBlocks(2, 1, list) {
		want.Groups[1][drive].Blocks[2] = impl.Block{Stamp: 1501, Bytes: block}
	}
	want.Writes += 3
	wantLaid(t, "moved", impl.MoveRow(w, 1, 2, list), want,
		impl.Rec{Kind: impl.RecMove, Seq: 1501, Group: 1, Row: 2, Data: list, Delta: delta}, doneOf(1501, 1))
}

// A block whose stamp is that of the move, or above it, stays as it is.
func TestMovedByStamps(t *testing.T) {
	for _, last := range []int64{48, 49, 50, 51} {
		w := withTapes(middleShape(), []impl.Rec{doneOf(last, 0)}, nil)
		w.On = []int64{1}
		for drive := range w.Groups[1] {
			w.Groups[1][drive].Blocks[0].Stamp = int64(49 + drive)
		}
		told := impl.MoveRow(w, 1, 0, fours(2))
		wantOutcome(t, fmt.Sprint(last), worldOutcome(told), plainMoveRow(request{World: w, Group: 1, Bytes: fours(2)}))
		if told.World.Writes-w.Writes != 4+min(3, last-48) {
			t.Errorf("behind %d: %d writes", last, told.World.Writes-w.Writes)
		}
	}
}

// filledUp has as many records more ahead of those of its tapes as they need
// to have so many.
func filledUp(w impl.World, first, second int) impl.World {
	w = deepCopy(w, 0)
	for tape, count := range []int{first, second} {
		recs := w.Tapes[tape].Recs
		w.Tapes[tape].Recs = append(plainRecs(count-len(recs)), recs...)
	}
	return w
}

// wantRoom wants so many records more on both tapes, of so many as are there.
// Where there is no room no write is tried.
func wantRoom(t *testing.T, f worker, q request, first, second, room int) {
	t.Helper()
	what := fmt.Sprint(f.name, " on tapes of ", first, " and ", second)
	fits := max(first, second)+room <= 200
	q.World = filledUp(q.World, first, second)
	q.World.Stop = -1
	got := f.call(q)
	if !fits {
		wantOutcome(t, what, got, outcome{Code: impl.ErrMany})
	} else if got.Code != impl.OK || len(got.World.Tapes[0].Recs) != first+room || len(got.World.Tapes[1].Recs) != second+room {
		t.Errorf("%s: code %d", what, got.Code)
	}
	q.World.Stop = q.World.Writes
	want := outcome{Code: impl.ErrMany}
	if fits {
		want = outcome{Code: impl.ErrDown, World: withoutPower(q.World)}
	}
	wantOutcome(t, what+", no write", f.call(q), want)
}

// bareRequest has nothing on its tapes but one item on both.
func bareRequest(item impl.Rec) request {
	q := moveRowRequest()
	q.World.Tapes = []impl.Tape{{Recs: []impl.Rec{item}}, {Recs: []impl.Rec{item}}}
	q.Bytes = fours(2)
	return q
}

func TestRoomForRecords(t *testing.T) {
	for _, c := range []struct {
		name string
		room int
		item impl.Rec
	}{
		{"MoveRow", 2, dataItem(2001, "c", fours(1))},
		{"PutItem", 1, dataItem(2001, "c", fours(1))},
		{"DropItem", 1, dataItem(2001, "c", fours(1))},
		{"DestageOne", 3, dataItem(2001, "c", fours(1))},
		{"DestageOne", 3, dataItem(2001, "c", fours(2))},
		{"DestageOne", 5, dataItem(2001, "c", fours(3))},
		{"DestageOne", 5, dataItem(2001, "c", fours(4))},
		{"DestageOne", 7, dataItem(2001, "c", fours(5))},
		{"DestageOne", 7, dataItem(2001, "c", fours(6))},
	} {
		f, q := destager(c.name), bareRequest(c.item)
		most := 200 - c.room
		for _, counts := range [][2]int{{1, 1}, {most, 1}, {1, most}, {most, most}} {
			wantRoom(t, f, q, counts[0], counts[1], c.room)
		}
		for count := most + 1; count <= 200; count++ {
			for _, counts := range [][2]int{{count, 1}, {1, count}, {count, most}, {most, count}, {count, count}} {
				wantRoom(t, f, q, counts[0], counts[1], c.room)
			}
		}
	}
}

// So many numbers are left as each one needs, or one fewer.
func TestNumbersForRecords(t *testing.T) {
	for _, c := range []struct {
		name  string
		needs int64
		bytes []byte
	}{
		{"MoveRow", 1, fours(1)}, {"PutItem", 1, fours(1)}, {"DropItem", 1, fours(1)},
		{"DestageOne", 2, fours(1)}, {"DestageOne", 3, fours(3)}, {"DestageOne", 4, fours(5)}, {"DestageOne", 4, fours(6)},
	} {
		for left := range c.needs + 2 {
			for _, last := range []impl.Rec{dataItem(impl.MaxSeq-left, "c", c.bytes), doneOf(impl.MaxSeq-left, 0)} {
				f, q := destager(c.name), bareRequest(dataItem(2001, "c", c.bytes))
				q.World.Tapes[1].Recs = []impl.Rec{last}
				got := f.call(q)
				what := fmt.Sprint(c.name, ", ", left, " numbers left")
				wantOutcome(t, what, got, f.plain(q))
				if got.Code != okOr(impl.ErrMany, left >= c.needs) {
					t.Errorf("%s: code %d", what, got.Code)
				}
				q.World.Stop = q.World.Writes
				if got := f.call(q); left < c.needs && got.Code != impl.ErrMany {
					t.Errorf("%s: a write is tried: code %d", what, got.Code)
				}
			}
		}
	}
}

// With the last number that there is the item is laid, and is read.
func TestTheLastNumbers(t *testing.T) {
	for parts := int64(1); parts <= 3; parts++ {
		q := bareRequest(dataItem(impl.MaxSeq-parts-1, "c", fours(2*parts)))
		told := impl.DestageOne(q.World, 1)
		if told.Code != impl.OK || impl.NewestItem(told.World, "c").Recs[0].Seq != impl.MaxSeq {
			t.Fatalf("%d parts: code %d", parts, told.Code)
		}
		wantBytes(t, "read", impl.ItemBytes(told.World, "c"), fours(2*parts))
		wantNoWorld(t, "no more", impl.DropItem(told.World, "c"), impl.ErrMany)
	}
}

// Parts go into the rows that are free at the beginning, the first into the first.
func TestRowsFreeAtTheBeginning(t *testing.T) {
	s := greatestShape()
	for mask := range uint(1) << 6 {
		taken := placesOf(mask)
		w := mixedWorld(s, 1)
		w.Tapes[0].Recs, w.Tapes[1].Recs = nil, []impl.Rec{dataItem(2000, "a", fours(8))}
		for _, row := range taken {
			w.Tapes[0].Recs = append(w.Tapes[0].Recs, rowsItem(row+1, []string{"e", "i", "m", "q", "u", "y"}[row], 1, row))
		}
		free := slices.DeleteFunc(upTo(6), func(row int64) bool { return slices.Contains(taken, row) })
		told := impl.DestageOne(w, 1)
		if len(free) < 3 {
			wantNoWorld(t, fmt.Sprint("taken ", taken), told, impl.ErrNone)
			continue
		}
		wantRecs(t, fmt.Sprint("taken ", taken), impl.NewestItem(told.World, "a"), []impl.Rec{rowsItem(2004, "a", 32, free[:3]...)})
		for i, row := range free[:3] {
			part := append(fours(8), 0, 0, 0, 0)[12*i : 12*i+12]
			wantBytes(t, fmt.Sprint("part ", i), impl.RowBytes(told.World, 1, row), part)
		}
		for _, row := range append(taken, free[3:]...) {
			wantBytes(t, fmt.Sprint("row ", row), impl.RowBytes(told.World, 1, row), impl.RowBytes(w, 1, row).Bytes)
		}
	}
}

// Behind the last part, which is not full, stand zeros.
func TestLastPartNotFull(t *testing.T) {
	w := mixedWorld(middleShape(), 1)
	w.Tapes[0].Recs, w.Tapes[1].Recs = []impl.Rec{dataItem(2000, "a", []byte("seventeen bytes !"))}, nil
	told := impl.DestageOne(w, 1)
	for row, part := range []string{"seventee", "n bytes ", "!\x00\x00\x00\x00\x00\x00\x00"} {
		wantBytes(t, part, impl.RowBytes(told.World, 1, int64(row)), []byte(part))
	}
	wantBytes(t, "read", impl.ItemBytes(told.World, "a"), []byte("seventeen bytes !"))
	if told.World.Writes != w.Writes+3*7+2 {
		t.Errorf("%d writes", told.World.Writes-w.Writes)
	}
}

// An item without a length is a fault of the world.
func TestItemsOfNoLength(t *testing.T) {
	for _, item := range []impl.Rec{dataItem(2001, "c", nil), rowsItem(2001, "c", 0), rowsItem(2001, "c", 0, 1)} {
		for _, f := range destagers() {
			q := f.given()
			q.World.Tapes[1].Recs = append(q.World.Tapes[1].Recs, item)
			wantOutcome(t, f.name, f.call(q), outcome{Code: impl.ErrRange})
		}
	}
}

// One item is destaged at a time, by Seq, until none is left that fits.
func TestDestagedOneByOne(t *testing.T) {
	s := middleShape()
	recs := []impl.Rec{dataItem(2001, "a", fours(4)), dataItem(2000, "c", fours(1)), dataItem(2002, "e", fours(2)), dataItem(2003, "b", fours(1))}
	w := withTapes(s, recs, recs)
	w.On, w.Stop = []int64{1, 0}, -1
	for _, name := range []string{"c", "a"} {
		wantNext(t, name, w, 1, impl.NewestItem(w, name).Recs...)
		told := impl.DestageOne(w, 1)
		if told.Code != impl.OK || len(impl.NewestItem(told.World, name).Recs[0].Data) != 0 {
			t.Fatalf("%s: code %d", name, told.Code)
		}
		w = told.World
	}
	wantNoWorld(t, "no row is left", impl.DestageOne(w, 1), impl.ErrNone)
	wantNext(t, "the other home", w, 0, recs[3])
	wantInt(t, "what waits", impl.WaitingBytes(w), impl.IntResult{Value: 12})
}

func TestGroupsToBeDestaged(t *testing.T) {
	for _, c := range []struct {
		name  string
		on    []int64
		wiped int64
		code  int64
	}{
		{"on", []int64{1}, 0, impl.OK}, {"on with others", []int64{2, 1}, 0, impl.OK}, {"none is on", nil, 0, impl.ErrOff}, {"others are on", []int64{0, 2}, 0, impl.ErrOff},
		{"a wiped drive", []int64{1}, 1, impl.OK}, {"dead", []int64{1}, 2, impl.ErrLost}, {"all wiped", []int64{1}, 3, impl.ErrLost}, {"dead and off", []int64{2}, 2, impl.ErrOff},
	} {
		for _, f := range []worker{destager("MoveRow"), destager("DestageOne")} {
			q := destageRequest()
			q.World.On = c.on
			wipe(q.World, 1, c.wiped)
			got := f.call(q)
			wantOutcome(t, f.name+", "+c.name, got, f.plain(q))
			if got.Code != c.code {
				t.Errorf("%s, %s: code %d, want %d", f.name, c.name, got.Code, c.code)
			}
		}
	}
}
