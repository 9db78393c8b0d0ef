package tests

import (
	"fmt"
	"runtime"
	"slices"
	"testing"

	"loop.example/g00089/impl"
)

func TestRebuildConstants(t *testing.T) {
	if impl.MaxWrites != 400 {
		t.Errorf("MaxWrites %d", impl.MaxWrites)
	}
}

func TestRebuildCodesAndTheirOrder(t *testing.T) {
	for _, f := range rebuilders() {
		wantFlawless(t, f)
	}
}

func TestRebuildingKeepsItsArguments(t *testing.T) {
	for _, f := range rebuilders() {
		wantKeeper(t, f)
	}
}

func TestManyWorldsAreRebuilt(t *testing.T) {
	eachBroken(1000, 150, func(what string, q request) {
		wantWorldCode(t, what, q.World, impl.OK)
		wantAllPlain(t, what, rebuilders(), q)
		wantAllPlain(t, what, holders(), q)
	})
}

// Only what writes asks whether there is power.
func TestRebuildingWithoutPower(t *testing.T) {
	eachBroken(1010, 20, func(what string, q request) {
		q.World = withoutPower(q.World)
		wantAllPlain(t, what, rebuilders(), q)
		wantAllPlain(t, what, holders(), q)
	})
}

func TestRebuildingAndPowerThatFails(t *testing.T) {
	eachBroken(1020, 20, func(what string, q request) {
		for _, f := range rebuildWriters() {
			wantCutAnywhere(t, what, f, q)
		}
	})
}

// The same is answered however the rows' goroutines are scheduled.
func TestRebuiltTheSameAgain(t *testing.T) {
	defer runtime.GOMAXPROCS(runtime.GOMAXPROCS(0))
	for _, processors := range []int{1, 2, 8} {
		runtime.GOMAXPROCS(processors)
		eachBroken(1030, 6, func(what string, q request) {
			want := plainRebuild(q)
			for range 10 {
				wantOutcome(t, what, worldOutcome(impl.RebuildGroup(q.World, q.Group)), want)
			}
		})
	}
}

// Blocks and records that share memory in a world share none in what is told.
func TestRebuiltIsParted(t *testing.T) {
	for _, f := range rebuilders() {
		for _, count := range []int64{1, 2, 3} {
			q := readyRequest()
			recs := q.World.Tapes[0].Recs
			for i := range recs[5:] {
				recs[5+i].Data, recs[5+i].Delta, recs[5+i].Rows = recs[4].Data, recs[4].Delta, recs[4].Rows
			}
			q.World.Tapes[1] = q.World.Tapes[0]
			wipe(q.World, 1, count)
			q.World.Groups[2] = q.World.Groups[1]
			q.World.Groups[1][1].Blocks = q.World.Groups[1][2].Blocks
			wantNew(t, f.name, func() outcome { return f.call(q) })
			if got := f.call(q); got.Code != impl.OK && f.name != "BeginAll" {
				t.Errorf("%s: code %d", f.name, got.Code)
			}
		}
	}
}

func wantList(t *testing.T, what string, got impl.IntsResult, want []int64) {
	t.Helper()
	if got.Code != impl.OK || !same(got.List, want) {
		t.Errorf("%s: code %d, list %v, want %v", what, got.Code, got.List, want)
	}
}

func wantNoList(t *testing.T, what string, got impl.IntsResult, code int64) {
	t.Helper()
	if got.Code != code || len(got.List) != 0 {
		t.Errorf("%s: code %d, want %d, list %v", what, got.Code, code, got.List)
	}
}

// wipedBy lets just the drives of the mask be wiped.
func wipedBy(w impl.World, group int64, mask uint) {
	for drive := range w.Groups[group] {
		w.Groups[group][drive].Wiped = mask>>drive&1 == 1
	}
}

func TestWipedOf(t *testing.T) {
	eachShape(func(s impl.Shape) {
		if s.Rows > 1 {
			return
		}
		w := plainWorld(s)
		for group := range s.Groups + s.Column {
			for mask := range uint(1) << (s.Data + s.Spare) {
				wipedBy(w, group, mask)
				wantList(t, fmt.Sprint(s, group), impl.WipedOf(w, group), placesOf(mask))
				wantList(t, fmt.Sprint(s, group, " no power"), impl.WipedOf(withoutPower(w), group), placesOf(mask))
			}
		}
		wantList(t, "all of another", impl.WipedOf(w, 0), upTo(s.Data+s.Spare))
	})
}

// groupsBeyond are no groups of the shape.
func groupsBeyond(s impl.Shape) []int64 { return beyond(0, s.Groups+s.Column-1) }

func TestNoSuchGroupOrRow(t *testing.T) {
	for _, s := range sharesShapes() {
		w := onlyOn(plainWorld(s), 0)
		for _, group := range groupsBeyond(s) {
			wantNoList(t, "WipedOf", impl.WipedOf(w, group), impl.ErrRange)
			wantNoList(t, "NotReady", impl.NotReady(w, group), impl.ErrRange)
			wantNoWorld(t, "BeginAll", impl.BeginAll(w, group), impl.ErrRange)
			wantNoWorld(t, "RebuildGroup", impl.RebuildGroup(w, group), impl.ErrRange)
			if impl.GroupHolds(w, group) {
				t.Errorf("the group %d holds", group)
			}
		}
		for _, row := range beyond(0, s.Rows-1) {
			if impl.ColumnHolds(w, row) {
				t.Errorf("the row %d holds", row)
			}
		}
		for row := range s.Rows {
			if !impl.ColumnHolds(w, row) {
				t.Errorf("the row %d does not hold", row)
			}
		}
	}
}

// A group that is not dead is left alone, whatever else is so.
func TestNothingIsBegun(t *testing.T) {
	for group := range int64(3) {
		for count := range int64(2) {
			w := withTapes(middleShape(), append(plainRecs(199), doneOf(impl.MaxSeq, 0)), plainRecs(200))
			wipe(w, group, count)
			wipe(w, (group+1)%3, 2)
			w.Stop = 0
			what := fmt.Sprint("group ", group, ", ", count, " wiped")
			wantWorld(t, what, impl.BeginAll(w, group), w)
			wantList(t, what, impl.NotReady(w, group), nil)
		}
	}
}

// Rows that have an open share already are left alone; those whose share is
// spent are begun anew.
func TestBegunRows(t *testing.T) {
	s := middleShape()
	open := func(row int64, rows ...int64) impl.Rec { return shareOf(s, 10+row, 1, row, rows...) }
	for _, c := range []struct {
		name          string
		first, second []impl.Rec
		rows          []int64
		next          int64
	}{
		{"no shares", nil, nil, []int64{0, 1, 2}, 1},
		{"shares of other groups", []impl.Rec{shareOf(s, 10, 0, 0), shareOf(s, 11, 2, 1)}, nil, []int64{0, 1, 2}, 12},
		{"the first is open", []impl.Rec{open(0)}, nil, []int64{1, 2}, 11},
		{"the second is open", nil, []impl.Rec{open(1, 2)}, []int64{0, 2}, 12},
		{"the last is whole", []impl.Rec{open(2, 0, 2)}, []impl.Rec{open(2, 0, 2)}, []int64{0, 1}, 13},
		{"two are open", []impl.Rec{open(0)}, []impl.Rec{open(2)}, []int64{1}, 13},
		{"all are open", []impl.Rec{open(0), open(1)}, []impl.Rec{open(2, 0)}, nil, 13},
		{"the first is spent", []impl.Rec{open(0), open(1), open(2)}, []impl.Rec{doneOf(10, 1)}, []int64{0}, 13},
		{"the first is spent by another group", []impl.Rec{open(0), open(1), doneOf(10, 2)}, nil, []int64{0, 2}, 12},
		{"all are spent", []impl.Rec{open(0), open(1), open(2)}, []impl.Rec{doneOf(12, 1), doneOf(11, 1), doneOf(10, 1)}, []int64{0, 1, 2}, 13},
		{"an older one is open no more", []impl.Rec{open(0), shareOf(s, 20, 1, 0)}, []impl.Rec{doneOf(20, 1)}, []int64{0, 1, 2}, 21},
	} {
		w := withTapes(s, c.first, c.second)
		wipe(w, 1, 2)
		var laid []impl.Rec
		for i, row := range c.rows {
			laid = append(laid, begunShare(w, c.next+int64(i), 1, row))
		}
		told := impl.BeginAll(w, 1)
		wantLaid(t, c.name, told, w, laid...)
		wantWorld(t, c.name+", begun twice", impl.BeginAll(told.World, 1), told.World)
		for row := range int64(3) {
			if got := impl.OpenShare(told.World, 1, row); got.Code != impl.OK {
				t.Errorf("%s: no open share of the row %d", c.name, row)
			}
		}
	}
}

// All groups, of data and of parity, are begun, whether they are on or not.
func TestBegunGroups(t *testing.T) {
	for _, s := range sharesShapes() {
		for group := range s.Groups + s.Column {
			for _, on := range [][]int64{nil, {0}, {s.Groups + s.Column - 1}} {
				w := withTapes(s, nil, nil)
				w.On, w.Stop = on, -1
				wipe(w, group, s.Spare+1)
				what := fmt.Sprint(s, ", group ", group)
				if s.Column == 0 {
					wantNoWorld(t, what, impl.BeginAll(w, group), impl.ErrLost)
					continue
				}
				var laid []impl.Rec
				for row := range s.Rows {
					laid = append(laid, begunShare(w, 1+row, group, row))
				}
				wantLaid(t, what, impl.BeginAll(w, group), w, laid...)
			}
		}
	}
}

// The code of a later row's share ends it as that of the first one does: power
// that fails ahead of it is told in its place, and no world beside it.
func TestBegunUpToACode(t *testing.T) {
	begin := rebuilder("BeginAll")
	for left := range int64(5) {
		code, writes := int64(impl.ErrMany), 2*left
		if left >= 3 {
			code, writes = impl.OK, 6
		}
		for tape := range 2 {
			counts := [2]int{3, 3}
			counts[tape] = 200 - int(left)
			w := withTapes(middleShape(), plainRecs(counts[0]), plainRecs(counts[1]))
			wipe(w, 1, 3)
			w.Writes, w.Stop = 0, -1
			wantManyAt(t, fmt.Sprint("room for ", left), w, begin, code, writes)
			w.Tapes[0].Recs, w.Tapes[1].Recs = nil, nil
			w.Tapes[tape].Recs = []impl.Rec{doneOf(impl.MaxSeq-left, 0)}
			wantManyAt(t, fmt.Sprint(left, " numbers left"), w, begin, code, writes)
		}
	}
}

// Where too few others live a row is begun no more, but such as are begun
// already are no matter.
func TestBegunWhereTooFewLive(t *testing.T) {
	s := middleShape()
	shares := []impl.Rec{shareOf(s, 10, 1, 0), shareOf(s, 11, 1, 1), shareOf(s, 12, 1, 2)}
	for count := range 4 {
		for _, stop := range []int64{-1, 0} {
			w := withTapes(s, shares[:count], nil)
			wipe(w, 1, 2)
			wipe(w, 0, 2)
			w.Stop = stop
			if count < 3 {
				wantNoWorld(t, fmt.Sprint(count, " begun"), impl.BeginAll(w, 1), impl.ErrLost)
			} else {
				wantWorld(t, "all begun", impl.BeginAll(w, 1), w)
			}
		}
	}
}

func TestNotReady(t *testing.T) {
	s := middleShape()
	whole := func(row int64) impl.Rec { return shareOf(s, 10+row, 1, row, 0, 2) }
	for _, c := range []struct {
		name          string
		first, second []impl.Rec
		rows          []int64
	}{
		{"no share", nil, nil, []int64{0, 1, 2}},
		{"shares of other groups", []impl.Rec{shareOf(s, 10, 0, 0, 1, 2), shareOf(s, 11, 2, 1, 0, 1)}, nil, []int64{0, 1, 2}},
		{"shares that are not whole", []impl.Rec{shareOf(s, 10, 1, 0), shareOf(s, 11, 1, 1, 0)}, []impl.Rec{shareOf(s, 12, 1, 2, 2)}, []int64{0, 1, 2}},
		{"the first is whole", []impl.Rec{whole(0)}, nil, []int64{1, 2}},
		{"the second is whole", []impl.Rec{whole(1), shareOf(s, 13, 1, 0, 0)}, nil, []int64{0, 2}},
		{"the first and the last", []impl.Rec{whole(2)}, []impl.Rec{whole(0)}, []int64{1}},
		{"all", []impl.Rec{whole(2), whole(0)}, []impl.Rec{whole(1)}, nil},
		{"one is done", []impl.Rec{whole(2), whole(0)}, []impl.Rec{whole(1), doneOf(11, 1)}, []int64{1}},
		{"one is begun anew", []impl.Rec{whole(2), whole(0)}, []impl.Rec{whole(1), shareOf(s, 20, 1, 2)}, []int64{2}},
		{"one is given anew", []impl.Rec{whole(2), shareOf(s, 3, 1, 0), whole(0)}, []impl.Rec{whole(1)}, nil},
	} {
		w := withTapes(s, c.first, c.second)
		for count := range int64(4) {
			w.On = nil
			wipedBy(w, 1, 1<<count-1)
			var want []int64
			if count > 1 {
				want = c.rows
			}
			what := fmt.Sprint(c.name, ", ", count, " wiped")
			wantList(t, what, impl.NotReady(w, 1), want)
			wantList(t, what+", changed about", impl.NotReady(swapped(w), 1), want)
			wantList(t, what+", no power", impl.NotReady(withoutPower(w), 1), want)
			w.On, w.Stop = []int64{1}, -1
			if count > 1 && len(c.rows) > 0 {
				wantNoWorld(t, what, impl.RebuildGroup(w, 1), impl.ErrZero)
			} else if code := impl.RebuildGroup(w, 1).Code; code != okOr(impl.ErrNone, count > 0) {
				t.Errorf("%s: code %d", what, code)
			}
		}
	}
}

// Shares of a group that is not dead are not asked whether they are whole, but
// they are done with when it is rebuilt.
func TestRebuiltBesideOpenShares(t *testing.T) {
	s := middleShape()
	w := withTapes(s, []impl.Rec{shareOf(s, 10, 1, 2), shareOf(s, 11, 0, 2)}, []impl.Rec{shareOf(s, 12, 1, 0, 0)})
	w.On, w.Stop = []int64{1}, -1
	wipe(w, 1, 1)
	told := impl.RebuildGroup(w, 1)
	wantOutcome(t, "two shares", worldOutcome(told), plainRebuild(request{World: w, Group: 1}))
	for tape := range 2 {
		recs := told.World.Tapes[tape].Recs
		if got := recs[len(w.Tapes[tape].Recs):]; !same(got, []impl.Rec{doneOf(12, 1), doneOf(10, 1)}) {
			t.Errorf("tape %d: %+v", tape, got)
		}
	}
	wantOpen(t, "of another group", told.World, 0, 2, w.Tapes[0].Recs[1])
}

// Shares of one Seq in two rows are done with one by one, as they are open at
// the beginning.
func TestRebuiltBesideSharesOfOneSeq(t *testing.T) {
	s := middleShape()
	w := withTapes(s, []impl.Rec{shareOf(s, 2010, 1, 2), shareOf(s, 2010, 1, 0)}, nil)
	w.On, w.Writes, w.Stop = []int64{1}, 0, -1
	wipe(w, 1, 1)
	told := impl.RebuildGroup(w, 1)
	if got := told.World.Tapes[1].Recs; told.Code != impl.OK || !same(got, []impl.Rec{doneOf(2010, 1), doneOf(2010, 1)}) {
		t.Errorf("code %d, records %+v", told.Code, got)
	}
	wantRoom(t, rebuilder("RebuildGroup"), request{World: w, Group: 1}, 198, 0, 2)
	wantRoom(t, rebuilder("RebuildGroup"), request{World: w, Group: 1}, 199, 0, 2)
}

// The room that is asked is that of the open shares, whether the group is dead
// or not, and without shares there is none.
func TestRoomForARebuiltGroup(t *testing.T) {
	s := middleShape()
	f := rebuilder("RebuildGroup")
	for _, c := range []struct {
		rows  []int64
		wiped int64
	}{{nil, 1}, {[]int64{1}, 1}, {[]int64{0, 2}, 1}, {[]int64{0, 1, 2}, 1}, {[]int64{0, 1, 2}, 2}, {[]int64{0, 1, 2}, 3}} {
		var shares []impl.Rec
		for _, row := range c.rows {
			shares = append(shares, shareOf(s, 2000+row, 1, row, 0, 2))
		}
		w := withTapes(s, append([]impl.Rec{shareOf(s, 1990, 0, 1), shareOf(s, 1991, 1, 1), doneOf(1991, 1)}, shares...), shares)
		w.On = []int64{1}
		wipe(w, 1, c.wiped)
		room := len(c.rows)
		most := 200 - room
		for _, counts := range [][2]int{{6, 6}, {most, 6}, {6, most}, {most, most}} {
			wantRoom(t, f, request{World: w, Group: 1}, counts[0], counts[1], room)
		}
		for count := most + 1; count <= 200; count++ {
			for _, counts := range [][2]int{{count, 6}, {6, count}, {count, most}, {most, count}, {count, count}} {
				wantRoom(t, f, request{World: w, Group: 1}, counts[0], counts[1], room)
			}
		}
	}
}

// No new Seq is needed.
func TestRebuiltAtTheLastSeq(t *testing.T) {
	s := middleShape()
	w := withTapes(s, nil, []impl.Rec{doneOf(impl.MaxSeq-1, 0)})
	for row := range int64(3) {
		w.Tapes[0].Recs = append(w.Tapes[0].Recs, shareOf(s, impl.MaxSeq-2*row, 1, row, 0, 2))
	}
	w.On, w.Stop = []int64{1}, -1
	wipe(w, 1, 2)
	told := impl.RebuildGroup(w, 1)
	wantOutcome(t, "the last Seq", worldOutcome(told), plainRebuild(request{World: w, Group: 1}))
	for row := range int64(3) {
		wantInt(t, "stamp", impl.RowStamp(told.World, 1, row), impl.IntResult{Value: impl.MaxSeq - 2*row})
	}
}

// The stamp of a group that is not dead is the greatest of the drives that are
// not wiped, row by row; what a wiped drive has is asked for nothing.
func TestStampsOfRebuiltRows(t *testing.T) {
	s := middleShape()
	for drive := range 3 {
		w := columnWorld(&sequence{state: 101}, s)
		w.On = []int64{1}
		var want [3]int64
		for row := range 3 {
			for d := range 3 {
				stamp := int64(10*row + (d+row)%3)
				w.Groups[1][d].Blocks[row].Stamp = stamp
				if d != drive {
					want[row] = max(want[row], stamp)
				}
			}
			w.Groups[1][drive].Blocks[row] = impl.Block{Stamp: impl.MaxSeq, Bytes: []byte{1, 2, 3, byte(row)}}
		}
		w.Groups[1][drive].Wiped = true
		told := impl.RebuildGroup(w, 1)
		for row := range 3 {
			if got := told.World.Groups[1][drive].Blocks[row].Stamp; told.Code != impl.OK || got != want[row] {
				t.Errorf("drive %d, row %d: code %d, stamp %d, want %d", drive, row, told.Code, got, want[row])
			}
		}
		for d := range 3 {
			if d != drive && !same(told.World.Groups[1][d], w.Groups[1][d]) {
				t.Errorf("drive %d: the drive %d is changed", drive, d)
			}
		}
	}
}

// A dead group has, on the drives that were wiped, what its shares tell and
// their numbers, whatever the drive that is left has.
func TestStampsOfDeadRows(t *testing.T) {
	for mask := uint(1); mask < 8; mask++ {
		q := readyRequest()
		wipedBy(q.World, 1, mask)
		if len(placesOf(mask)) < 2 {
			continue
		}
		told := impl.RebuildGroup(q.World, 1)
		for row := range int64(3) {
			share := impl.OpenShare(q.World, 1, row).Recs[0]
			blocks := plainBlocks(2, 1, share.Data)
			for drive := range 3 {
				want := q.World.Groups[1][drive].Blocks[row]
				if mask>>drive&1 == 1 {
					want = impl.Block{Stamp: 2000 + row, Bytes: blocks[drive]}
				}
				if got := told.World.Groups[1][drive].Blocks[row]; told.Code != impl.OK || !same(got, want) {
					t.Errorf("mask %b, row %d, drive %d: %v, want %v", mask, row, drive, got, want)
				}
			}
			wantOpen(t, "rebuilt", told.World, 1, row)
		}
		if len(impl.WipedOf(told.World, 1).List) != 0 {
			t.Errorf("mask %b: a drive is wiped", mask)
		}
		wantNoWorld(t, "rebuilt twice", impl.RebuildGroup(told.World, 1), impl.ErrNone)
	}
}

// writtenBy is the number of the first write behind which a thing is so.
func writtenBy(t *testing.T, w impl.World, group int64, so func(w impl.World) bool) int64 {
	t.Helper()
	for stop := int64(0); stop < 100; stop++ {
		w.Writes, w.Stop = 0, stop
		if told := impl.RebuildGroup(w, group); so(told.World) {
			return stop
		}
	}
	t.Fatal("it is never so")
	return 0
}

// Row by row, the wiped drives rising in each; then the drives are trusted,
// rising; then the records are laid, by row, on the tape 0 first.
func TestOrderOfRawWrites(t *testing.T) {
	q := readyRequest()
	wipedBy(q.World, 1, 5)
	var order []int64
	ask := func(so func(w impl.World) bool) { order = append(order, writtenBy(t, q.World, 1, so)) }
	for row := range 3 {
		for _, drive := range []int{0, 2} {
			ask(func(w impl.World) bool { return w.Groups[1][drive].Blocks[row].Stamp == int64(2000+row) })
		}
	}
	for _, drive := range []int{0, 2} {
		ask(func(w impl.World) bool { return !w.Groups[1][drive].Wiped })
	}
	for row := range int64(3) {
		for tape := range 2 {
			ask(func(w impl.World) bool { return holds(w.Tapes[tape].Recs, doneOf(2000+row, 1)) })
		}
	}
	if want := upTo(15)[1:]; !slices.Equal(order, want) {
		t.Errorf("order %v, want %v", order, want)
	}
}

// No drive is trusted ahead of the last row's last write.
func TestTrustedLast(t *testing.T) {
	q := &sequence{state: 102}
	for _, s := range sharesShapes() {
		for group := range s.Groups + s.Column {
			for count := int64(1); count <= s.Data+s.Spare; count++ {
				w := readyWorld(q, s, group, count)
				all := impl.WipedOf(w, group).List
				for stop := range s.Rows*count + count {
					w.Writes, w.Stop = 0, stop
					told := impl.RebuildGroup(w, group)
					trusted := max(0, stop-s.Rows*count)
					what := fmt.Sprint(s, ", group ", group, ", ", count, " wiped, cut at ", stop)
					wantList(t, what, impl.WipedOf(told.World, group), all[trusted:])
					if told.Code != impl.ErrDown || !same(told.World.Tapes, w.Tapes) {
						t.Errorf("%s: code %d", what, told.Code)
					}
				}
			}
		}
	}
}

// readyWorld has a group, alone on, of which the last so many drives are wiped,
// and that is ready if it is dead.
func readyWorld(q *sequence, s impl.Shape, group, count int64) impl.World {
	w := onlyOn(columnWorld(q, s), group)
	wipedBy(w, group, (1<<count-1)<<(s.Data+s.Spare-count))
	for row := range s.Rows {
		w.Tapes[0].Recs = append(w.Tapes[0].Recs, anyWhole(q, s, group, row, true))
	}
	return w
}
