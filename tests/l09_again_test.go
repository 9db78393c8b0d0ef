package tests

import (
	"fmt"
	"testing"

	"loop.example/g00089/impl"
)

// gonePast is what is gone on with behind a cut: tapes are repaired, moves
// redone in the home and in all groups of parity, one of which is on at a
// time, tapes cleaned, and one object destaged, if there is one that fits.
func gonePast(t *testing.T, w impl.World, home int64) impl.WorldResult {
	t.Helper()
	s := w.Shape
	steps := []func(w impl.World) impl.WorldResult{impl.RepairTapes}
	for group := range s.Groups + s.Column {
		if group == home || group >= s.Groups {
			steps = append(steps, func(w impl.World) impl.WorldResult { return impl.RedoAll(onAlone(w, group), group) })
		}
	}
	steps = append(steps, impl.CleanTapes, impl.CleanTapes)
	for i, step := range steps {
		told := step(w)
		if told.Code == impl.ErrDown {
			return told
		}
		if told.Code != impl.OK {
			t.Fatalf("step %d: code %d", i, told.Code)
		}
		w = told.World
	}
	told := impl.DestageOne(onAlone(w, home), home)
	if told.Code == impl.ErrNone {
		return impl.WorldResult{World: onAlone(w, home)}
	}
	return told
}

// stagedWorld has an object "a" in rows and another one, "e", that waits, both
// of one home.
func stagedWorld(t *testing.T, q *sequence, s impl.Shape, length int64) (w impl.World, lies, waits []byte) {
	t.Helper()
	s.Stage = impl.MaxStage
	lies, waits = q.list(int(4*s.Data)-1), q.list(int(length))
	home := homeOfName(s, "a")
	w = destaged(t, putWorld(t, s, "a", lies), home)
	return impl.PutItem(w, "e", waits).World, lies, waits
}

// eachStagedShape has homes that a and e share, with and without parity and
// spare drives, and with rows for what is moved twice.
func eachStagedShape(check func(s impl.Shape, length int64)) {
	for _, s := range []impl.Shape{
		{Groups: 1, Column: 0, Data: 1, Spare: 0, Rows: 6}, {Groups: 1, Column: 2, Data: 1, Spare: 1, Rows: 2},
		{Groups: 2, Column: 1, Data: 2, Spare: 1, Rows: 6}, {Groups: 2, Column: 1, Data: 2, Spare: 1, Rows: 3}, {Groups: 4, Column: 2, Data: 3, Spare: 2, Rows: 6},
	} {
		s.Cap, s.Batch, s.Queue = 1, 1, 1
		for parts := int64(1); parts < min(4, s.Rows); parts++ {
			for _, less := range []int64{0, 1} {
				check(s, parts*4*s.Data-less)
			}
		}
	}
}

// Wherever power is cut while an object is destaged, it is read at once when
// power comes again, and so is the one beside it.
func TestDestagedAndPower(t *testing.T) {
	q := &sequence{state: 97}
	eachStagedShape(func(s impl.Shape, length int64) {
		home := homeOfName(s, "e")
		w, lies, waits := stagedWorld(t, q, s, length)
		parts := partsOf(s.Data, length)
		down := impl.CutPower(w).World
		writes := parts*(4+s.Data+s.Spare) + 2
		for stop := range writes + 1 {
			what := fmt.Sprint(s, ", ", length, " bytes, cut at ", stop)
			cut := impl.DestageOne(poweredAgain(down, []int64{home}, stop), home)
			if cut.Code != okOr(impl.ErrDown, stop == writes) || cut.World.Writes != stop || cut.World.Down != (stop < writes) {
				t.Fatalf("%s: code %d, %d writes", what, cut.Code, cut.World.Writes)
			}
			if stop == writes {
				cut = impl.CutPower(cut.World)
			}
			there := poweredAgain(cut.World, nil, -1)
			wantRead(t, what, there, "e", waits)
			wantRead(t, what, there, "a", lies)
			wantGoneOn(t, what, cut.World, lies, waits, stop%3)
		}
	})
}

// wantCutReads lets power fail at each write of a call in a world without
// power; what is there then is read, as it is and when all is gone on with.
func wantCutReads(t *testing.T, what string, down impl.World, home int64, call func(w impl.World) impl.WorldResult, read func(what string, w impl.World, stop int64)) {
	t.Helper()
	whole := call(poweredAgain(down, []int64{home}, -1))
	if whole.Code != impl.OK {
		t.Fatalf("%s: code %d", what, whole.Code)
	}
	for stop := range whole.World.Writes {
		what := fmt.Sprint(what, ", cut at ", stop)
		cut := call(poweredAgain(down, []int64{home}, stop))
		if cut.Code != impl.ErrDown || cut.World.Writes != stop {
			t.Fatalf("%s: code %d", what, cut.Code)
		}
		there := poweredAgain(cut.World, nil, -1)
		read(what, there, stop)
		read(what+", gone on with", gonePast(t, there, home).World, stop)
	}
}

// Objects of all lengths, in worlds of all the least and greatest numbers, are
// read wherever power was cut.
func TestCutShortAndRead(t *testing.T) {
	q := &sequence{state: 100}
	eachExtreme(func(s impl.Shape) {
		home := homeOfName(s, "a")
		for length := int64(1); length <= 12*s.Data; length++ {
			what, list := fmt.Sprint(s, ", ", length, " bytes"), q.list(int(length))
			put := func(w impl.World) impl.WorldResult { return impl.PutItem(w, "a", list) }
			wantCutReads(t, what+", put", impl.CutPower(plainWorld(s)).World, home, put, func(what string, w impl.World, stop int64) {
				if stop == 0 {
					wantCode(t, what, impl.ItemBytes(w, "a"), impl.ErrNone)
				} else {
					wantRead(t, what, w, "a", list)
				}
			})
			if partsOf(s.Data, length) > s.Rows {
				continue
			}
			down := impl.CutPower(putWorld(t, s, "a", list)).World
			destage := func(w impl.World) impl.WorldResult { return impl.DestageOne(w, home) }
			wantCutReads(t, what+", destaged", down, home, destage, func(what string, w impl.World, _ int64) {
				wantRead(t, what, w, "a", list)
			})
		}
	})
}

// wantGoneOn goes on at once, and behind all that is done again, with power
// cut once more at each third write of that, from one on.
func wantGoneOn(t *testing.T, what string, down impl.World, lies, waits []byte, from int64) {
	t.Helper()
	home := homeOfName(down.Shape, "e")
	atOnce := impl.DestageOne(poweredAgain(down, []int64{home}, -1), home)
	if atOnce.Code == impl.OK {
		wantRead(t, what+", at once", atOnce.World, "e", waits)
	} else if atOnce.Code != impl.ErrNone {
		t.Errorf("%s: code %d at once", what, atOnce.Code)
	}
	whole := gonePast(t, poweredAgain(down, nil, -1), home)
	wantBoth(t, what, whole.World, lies, waits)
	for stop := from; stop < whole.World.Writes; stop += 3 {
		cut := gonePast(t, poweredAgain(down, nil, stop), home)
		if cut.Code != impl.ErrDown || cut.World.Writes != stop {
			t.Fatalf("%s and at %d: code %d", what, stop, cut.Code)
		}
		there := poweredAgain(cut.World, nil, -1)
		wantRead(t, what, there, "e", waits)
		wantRead(t, what, there, "a", lies)
		wantBoth(t, what, gonePast(t, there, home).World, lies, waits)
	}
}

// wantBoth wants both objects, and rows and columns that fit in the end. With
// rows for all that was begun the second object waits no more.
func wantBoth(t *testing.T, what string, w impl.World, lies, waits []byte) {
	t.Helper()
	wantRead(t, what, w, "e", waits)
	wantRead(t, what, w, "a", lies)
	wantParityDone(t, what, w)
	left := impl.WaitingBytes(w).Value
	if w.Shape.Rows >= 1+2*partsOf(w.Shape.Data, int64(len(waits))) && left != 0 {
		t.Errorf("%s: %d bytes wait", what, left)
	}
}

// Wherever power is cut while a row is moved, it is wholly moved or not at all
// when what is undone is done again, and what lies in other rows is read.
func TestMovedAndPower(t *testing.T) {
	q := &sequence{state: 98}
	eachStagedShape(func(s impl.Shape, length int64) {
		home := homeOfName(s, "e")
		w, lies, waits := stagedWorld(t, q, s, length)
		for row := range min(2, s.Rows) {
			list := q.list(int(4 * s.Data))
			was := impl.RowBytes(w, home, row).Bytes
			down := impl.CutPower(w).World
			for stop := range 4 + s.Data + s.Spare {
				what := fmt.Sprint(s, ", row ", row, ", cut at ", stop)
				cut := impl.MoveRow(poweredAgain(down, []int64{home}, stop), home, row, list)
				if cut.Code != impl.ErrDown || cut.World.Writes != stop {
					t.Fatalf("%s: code %d, %d writes", what, cut.Code, cut.World.Writes)
				}
				told := impl.RedoAll(poweredAgain(cut.World, []int64{home}, -1), home)
				want, read := list, lies
				if stop == 0 {
					want = was
				}
				if row == 0 {
					read = want[:len(lies)]
				}
				wantBytes(t, what, impl.RowBytes(told.World, home, row), want)
				wantRead(t, what, told.World, "a", read)
				wantRead(t, what, told.World, "e", waits)
				wantParityDone(t, what, told.World)
			}
		}
	})
}

// A row that is moved is that of a column again behind each group's turn,
// whatever other rows were moved before, and though drives are wiped.
func TestMovesOfManyRows(t *testing.T) {
	q := &sequence{state: 99}
	for _, s := range recShapes() {
		s.Cap = 1
		w := plainWorld(s)
		rows := map[place][]byte{}
		for range 25 {
			at := place{int64(q.next() % uint64(s.Groups)), int64(q.next() % uint64(s.Rows))}
			list := q.list(int(4 * s.Data))
			told := impl.MoveRow(onAlone(w, at.group), at.group, at.row, list)
			if told.Code != impl.OK {
				t.Fatalf("%v: code %d", at, told.Code)
			}
			w, rows[at] = told.World, list
			if q.next()%3 == 0 && s.Column > 0 {
				parity := s.Groups + int64(q.next()%uint64(s.Column))
				w = impl.CleanTapes(impl.RedoAll(onAlone(w, parity), parity).World).World
			}
			for at, list := range rows {
				wantBytes(t, fmt.Sprint(at), impl.RowBytes(onAlone(w, at.group), at.group, at.row), list)
			}
		}
		wantParityDone(t, fmt.Sprint(s), w)
	}
}
