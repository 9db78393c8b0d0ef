package tests

import (
	"fmt"
	"slices"
	"testing"

	"loop.example/g00089/impl"
)

// stampedWorld has whole columns, each row of each group with one stamp, no
// group on, and one may be.
func stampedWorld(q *sequence, s impl.Shape) impl.World {
	s.Cap = 1
	w := columnWorld(q, s)
	w.On = nil
	eachPlace(s, func(group, row int64) {
		stamp := int64(q.next() % 50)
		for drive := range w.Groups[group] {
			w.Groups[group][drive].Blocks[row].Stamp = stamp
		}
	})
	return w
}

// lost lets the drives of the mask lose what they had.
func lost(w impl.World, group int64, mask uint) impl.World {
	for _, drive := range placesOf(mask) {
		w = impl.WipeDrive(w, group, drive).World
	}
	return w
}

// wantAsItWas wants every block's bytes as they were, and no drive wiped.
func wantAsItWas(t *testing.T, what string, w, was impl.World) {
	t.Helper()
	for group, drives := range was.Groups {
		for drive, d := range drives {
			now := w.Groups[group][drive]
			for row, block := range d.Blocks {
				if now.Wiped || !slices.Equal(now.Blocks[row].Bytes, block.Bytes) {
					t.Fatalf("%s: group %d, drive %d, row %d: wiped %v, bytes %v, want %v", what, group, drive, row, now.Wiped, now.Blocks[row].Bytes, block.Bytes)
				}
			}
		}
	}
	for number := range max(w.Shape.Rows, int64(len(w.Groups))) {
		wantHolds(t, what+", row", impl.ColumnHolds(w, number), number < w.Shape.Rows)
		wantHolds(t, what+", group", impl.GroupHolds(w, number), number < int64(len(w.Groups)))
	}
}

// eachLoss goes through all groups of the shape and all choices of its drives
// of which at least one and at most so many are lost.
func eachLoss(s impl.Shape, least, most int64, check func(group int64, mask uint)) {
	for group := range s.Groups + s.Column {
		for mask := range uint(1) << (s.Data + s.Spare) {
			if count := int64(len(placesOf(mask))); count >= least && count <= most {
				check(group, mask)
			}
		}
	}
}

// A group that lost at most as many drives as it has spare ones is rebuilt as
// it was, its stamps with it.
func TestRebuiltAsItWas(t *testing.T) {
	q := &sequence{state: 110}
	eachExtreme(func(s impl.Shape) {
		was := stampedWorld(q, s)
		eachLoss(s, 1, s.Spare, func(group int64, mask uint) {
			what := fmt.Sprint(s, ", group ", group, ", lost ", placesOf(mask))
			w := onAlone(lost(was, group, mask), group)
			wantList(t, what, impl.WipedOf(w, group), placesOf(mask))
			told := impl.RebuildGroup(w, group)
			if told.Code != impl.OK || !same(told.World.Groups, was.Groups) || !same(told.World.Tapes, was.Tapes) {
				t.Errorf("%s: code %d", what, told.Code)
			}
			wantAsItWas(t, what, told.World, was)
			if told.World.Writes != int64(len(placesOf(mask)))*(s.Rows+1) {
				t.Errorf("%s: %d writes", what, told.World.Writes)
			}
			wantNoWorld(t, what+", again", impl.RebuildGroup(told.World, group), impl.ErrNone)
		})
	})
}

// With every data and spare there is, too.
func TestRebuiltForEachCode(t *testing.T) {
	q := &sequence{state: 111}
	eachRow(t, func(t *testing.T, data, spare int64) {
		s := impl.Shape{Groups: 2, Column: 1, Data: data, Spare: spare, Rows: 3, Cap: 1, Batch: 1, Queue: 1}
		was := stampedWorld(q, s)
		eachLoss(s, 1, spare, func(group int64, mask uint) {
			told := impl.RebuildGroup(onAlone(lost(was, group, mask), group), group)
			wantAsItWas(t, fmt.Sprint(s, ", group ", group, ", lost ", placesOf(mask)), told.World, was)
		})
	})
}

// rebuiltOnce rebuilds a group, if a drive of it is wiped.
func rebuiltOnce(t *testing.T, w impl.World, group int64) impl.WorldResult {
	t.Helper()
	on := onAlone(w, group)
	told := impl.RebuildGroup(on, group)
	if told.Code == impl.ErrNone {
		return impl.WorldResult{World: on}
	}
	if told.Code != impl.OK && told.Code != impl.ErrDown {
		t.Fatalf("group %d: code %d", group, told.Code)
	}
	return told
}

// Wherever power is cut, once or twice, what is gone on with is as it was.
func TestRebuiltAndPower(t *testing.T) {
	q := &sequence{state: 112}
	eachExtreme(func(s impl.Shape) {
		was := stampedWorld(q, s)
		eachLoss(s, 1, s.Spare, func(group int64, mask uint) {
			writes := int64(len(placesOf(mask))) * (s.Rows + 1)
			down := impl.CutPower(lost(was, group, mask)).World
			for first := range writes {
				what := fmt.Sprint(s, ", group ", group, ", lost ", placesOf(mask), ", cut at ", first)
				cut := rebuiltOnce(t, poweredAgain(down, nil, first), group)
				if cut.Code != impl.ErrDown || cut.World.Writes != first {
					t.Fatalf("%s: code %d", what, cut.Code)
				}
				whole := rebuiltOnce(t, poweredAgain(cut.World, nil, -1), group)
				if !same(whole.World.Groups, was.Groups) {
					t.Errorf("%s: not as it was", what)
				}
				second := int64(q.next() % uint64(whole.World.Writes))
				cut = rebuiltOnce(t, poweredAgain(cut.World, nil, second), group)
				whole = rebuiltOnce(t, poweredAgain(cut.World, nil, -1), group)
				if !same(whole.World.Groups, was.Groups) {
					t.Errorf("%s and at %d: not as it was", what, second)
				}
			}
		})
	})
}

// While a group is rebuilt its rows are read as they were, wherever power goes.
func TestReadWhileItIsRebuilt(t *testing.T) {
	q := &sequence{state: 113}
	for _, s := range sharesShapes() {
		was := stampedWorld(q, s)
		eachLoss(s, 1, s.Spare, func(group int64, mask uint) {
			down := impl.CutPower(lost(was, group, mask)).World
			for stop := range int64(len(placesOf(mask))) * (s.Rows + 1) {
				cut := rebuiltOnce(t, poweredAgain(down, nil, stop), group)
				w := onAlone(poweredAgain(cut.World, nil, -1), group)
				for row := range s.Rows {
					wantBytes(t, fmt.Sprint(s, group, stop), impl.RowBytes(w, group, row), rowAhead(onlyOn(was, group), group, row))
					wantInt(t, fmt.Sprint(s, group, stop), impl.RowStamp(w, group, row), impl.RowStamp(onlyOn(was, group), group, row))
				}
			}
		})
	}
}

// rebuiltDead brings a dead group back: void shares are dropped, or not, its
// shares are begun, given to by each of the others in its turn, and it is
// rebuilt in its own.
func rebuiltDead(t *testing.T, w impl.World, group int64, drop bool) impl.WorldResult {
	t.Helper()
	steps := []func(w impl.World) impl.WorldResult{func(w impl.World) impl.WorldResult { return impl.BeginAll(w, group) }}
	if drop {
		steps = append([]func(w impl.World) impl.WorldResult{impl.RepairTapes, impl.CleanTapes, impl.DropVoid}, steps...)
	}
	for _, from := range othersOf(w.Shape, group) {
		steps = append(steps, func(w impl.World) impl.WorldResult { return impl.GiveShares(onAlone(w, from), from) })
	}
	steps = append(steps, func(w impl.World) impl.WorldResult { return rebuiltOnce(t, w, group) }, impl.DropVoid)
	for i, step := range steps {
		told := step(w)
		if told.Code == impl.ErrDown {
			return told
		}
		if told.Code != impl.OK {
			t.Fatalf("group %d, step %d: code %d", group, i, told.Code)
		}
		w = told.World
	}
	return impl.WorldResult{World: w}
}

// wantNoShares wants no share that is open or void.
func wantNoShares(t *testing.T, what string, w impl.World) {
	t.Helper()
	eachPlace(w.Shape, func(group, row int64) { wantOpen(t, what, w, group, row) })
}

// A dead group whose shares are whole is rebuilt with what they tell: what it
// was, whatever of its drives were lost.
func TestDeadGroupsAreRebuilt(t *testing.T) {
	q := &sequence{state: 114}
	eachExtreme(func(s impl.Shape) {
		was := stampedWorld(q, s)
		eachLoss(s, s.Spare+1, s.Data+s.Spare, func(group int64, mask uint) {
			what := fmt.Sprint(s, ", group ", group, ", lost ", placesOf(mask))
			w := lost(was, group, mask)
			if s.Column == 0 {
				wantNoWorld(t, what, impl.BeginAll(w, group), impl.ErrLost)
				wantNoWorld(t, what, impl.RebuildGroup(onAlone(w, group), group), impl.ErrZero)
				return
			}
			whole := rebuiltDead(t, w, group, false).World
			wantAsItWas(t, what, whole, was)
			wantNoShares(t, what, whole)
			want := 2*s.Rows*(s.Groups+2) + int64(len(placesOf(mask)))*(s.Rows+1)
			if whole.Writes != want {
				t.Errorf("%s: %d writes, want %d", what, whole.Writes, want)
			}
		})
	})
}

// Wherever power is cut while a dead group comes back, once or twice, it is
// brought back by what is gone on with.
func TestDeadGroupsAndPower(t *testing.T) {
	q := &sequence{state: 115}
	for _, s := range []impl.Shape{
		{Groups: 1, Column: 1, Data: 1, Spare: 0, Rows: 1}, {Groups: 1, Column: 2, Data: 2, Spare: 2, Rows: 2},
		{Groups: 2, Column: 1, Data: 2, Spare: 1, Rows: 3}, {Groups: 4, Column: 2, Data: 3, Spare: 2, Rows: 6},
	} {
		s.Batch, s.Queue = 1, 1
		was := stampedWorld(q, s)
		for group := range s.Groups + s.Column {
			mask := uint(1)<<(s.Spare+1) - 1
			if group%2 == 1 {
				mask = 1<<(s.Data+s.Spare) - 1
			}
			wantBackAgain(t, q, was, group, mask)
		}
	}
}

// wantBackAgain cuts power at each write of all that brings a group back, and
// at one of those of what is gone on with.
func wantBackAgain(t *testing.T, q *sequence, was impl.World, group int64, mask uint) {
	t.Helper()
	down := impl.CutPower(lost(was, group, mask)).World
	writes := rebuiltDead(t, poweredAgain(down, nil, -1), group, false).World.Writes
	for first := range writes {
		drop := first%2 == 0
		what := fmt.Sprint(was.Shape, ", group ", group, ", lost ", placesOf(mask), ", cut at ", first)
		cut := rebuiltDead(t, poweredAgain(down, nil, first), group, drop)
		if cut.Code != impl.ErrDown || cut.World.Writes != first {
			t.Fatalf("%s: code %d", what, cut.Code)
		}
		whole := rebuiltDead(t, poweredAgain(cut.World, nil, -1), group, !drop).World
		wantAsItWas(t, what, whole, was)
		wantNoShares(t, what, whole)
		if whole.Writes == 0 {
			continue
		}
		second := int64(q.next() % uint64(whole.Writes))
		cut = rebuiltDead(t, poweredAgain(cut.World, nil, second), group, !drop)
		whole = rebuiltDead(t, poweredAgain(cut.World, nil, -1), group, drop).World
		wantAsItWas(t, fmt.Sprint(what, " and at ", second), whole, was)
		wantNoShares(t, what, whole)
	}
}

// What BeginAll began ahead of a cut is not begun again: all rows have one
// open share in the end, by rising numbers.
func TestBegunAndPower(t *testing.T) {
	q := &sequence{state: 116}
	check := func(s impl.Shape) {
		for group := range s.Groups + s.Column {
			if s.Column > 0 {
				_, w := deadWorld(q, s, group)
				wantBegunAgain(t, impl.CutPower(w).World, group)
			}
		}
	}
	columnShapes(check)
	eachExtreme(check)
}

func wantBegunAgain(t *testing.T, down impl.World, group int64) {
	t.Helper()
	rows := down.Shape.Rows
	for stop := range 2 * rows {
		what := fmt.Sprint(down.Shape, ", group ", group, ", cut at ", stop)
		cut := impl.BeginAll(poweredAgain(down, nil, stop), group)
		if cut.Code != impl.ErrDown || !cut.World.Down || cut.World.Writes != stop {
			t.Errorf("%s: code %d", what, cut.Code)
		}
		again := impl.BeginAll(poweredAgain(cut.World, nil, -1), group)
		for row := range rows {
			wantOpen(t, what, again.World, group, row, begunShare(down, row+1, group, row))
		}
		if begun := (stop + 1) / 2; again.Code != impl.OK || again.World.Writes != 2*(rows-begun) {
			t.Errorf("%s: code %d, %d writes", what, again.Code, again.World.Writes)
		}
	}
}

// With two groups of parity two dead groups come back, one behind the other or
// begun together.
func TestTwoDeadGroupsAreRebuilt(t *testing.T) {
	q := &sequence{state: 117}
	columnShapes(func(s impl.Shape) {
		if s.Column < 2 {
			return
		}
		was := stampedWorld(q, s)
		for one := range s.Groups + s.Column {
			for other := range one {
				what := fmt.Sprint(s, ", groups ", one, " and ", other)
				all := uint(1)<<(s.Data+s.Spare) - 1
				w := lost(lost(was, one, all), other, all)
				back := rebuiltDead(t, rebuiltDead(t, w, one, false).World, other, true).World
				wantAsItWas(t, what, back, was)
				wantNoShares(t, what, back)
				w = impl.BeginAll(impl.BeginAll(w, one).World, other).World
				back = rebuiltDead(t, rebuiltDead(t, w, other, false).World, one, false).World
				wantAsItWas(t, what+", begun together", back, was)
				wantNoShares(t, what, back)
			}
		}
	})
}

// What was put is read when its home is rebuilt, whatever of it was lost.
func TestObjectsOfARebuiltGroup(t *testing.T) {
	q := &sequence{state: 118}
	eachStagedShape(func(s impl.Shape, length int64) {
		w, lies, waits := stagedWorld(t, q, s, length)
		home := homeOfName(s, "e")
		w = gonePast(t, w, home).World
		for group := s.Groups; group < s.Groups+s.Column; group++ {
			w = impl.RedoAll(onAlone(w, group), group).World
		}
		most := s.Spare
		if s.Column > 0 {
			most = s.Data + s.Spare
		}
		eachLoss(s, 1, most, func(group int64, mask uint) {
			what := fmt.Sprint(s, ", group ", group, ", lost ", placesOf(mask))
			back := rebuiltDead(t, lost(w, group, mask), group, false).World
			wantRead(t, what, back, "a", lies)
			wantRead(t, what, back, "e", waits)
			wantHolds(t, what, impl.GroupHolds(back, group), true)
			wantParityDone(t, what, back)
		})
	})
}
