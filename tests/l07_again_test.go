package tests

import (
	"fmt"
	"slices"
	"testing"

	"loop.example/g00089/impl"
)

// movesWorld has some moves on its tapes, no two of one Seq, some of them done
// somewhere; all groups are on that may be, the named one among them.
func movesWorld(q *sequence, s impl.Shape, group int64) impl.World {
	w := anyMachine(q, s)
	w.Tapes[0], w.Tapes[1] = impl.Tape{}, impl.Tape{}
	for seq := int64(1); seq <= 5; seq++ {
		if q.next()%4 == 0 {
			continue
		}
		for i, r := range []impl.Rec{anyMove(q, s, seq), doneOf(seq, int64(q.next()%uint64(s.Groups+s.Column)))} {
			tape := q.next() % 3
			if i == 1 && q.next()%2 == 0 {
				continue
			}
			if tape != 0 {
				w.Tapes[0].Recs = append(w.Tapes[0].Recs, r)
			}
			if tape != 1 {
				w.Tapes[1].Recs = append(w.Tapes[1].Recs, r)
			}
		}
	}
	w.On, w.Writes, w.Stop = []int64{group}, 0, -1
	return w
}

// eachMove goes through many worlds with moves, and all groups of them.
func eachMove(seed uint64, rounds int, check func(what string, q request)) {
	for i, s := range recShapes() {
		q := &sequence{state: seed + uint64(i)}
		for round := range rounds {
			for group := range s.Groups + s.Column {
				w := movesWorld(q, s, group)
				move := anyMove(q, s, 1+int64(q.next()%8))
				if group < s.Groups {
					move.Group = group
				}
				check(fmt.Sprint("shape ", i, ", round ", round, ", group ", group), request{World: w, Group: group, Rec: move})
			}
		}
	}
}

// poweredAgain lets power come back, and the groups that were on.
func poweredAgain(w impl.World, on []int64, stop int64) impl.World {
	w = impl.RaisePower(w, stop).World
	for _, group := range on {
		w = impl.SwitchOn(w, group).World
	}
	return w
}

// wantSameWork holds two worlds against each other in their blocks, their
// stamps and in what counts on their tapes.
func wantSameWork(t *testing.T, what string, got, want impl.World) {
	t.Helper()
	if !same(got.Groups, want.Groups) {
		t.Errorf("%s: groups %+v, want %+v", what, got.Groups, want.Groups)
	}
	wantSameOnes(t, what, impl.CountedRecs(got).Recs, impl.CountedRecs(want).Recs)
}

// What power cut short, once or twice, and is done again is as if it was never cut short.
func TestCutShortAndDoneAgain(t *testing.T) {
	for _, name := range []string{"RedoMove", "RedoAll", "LayRec", "StrikeBoth"} {
		f := redoer(name)
		eachMove(760, 3, func(what string, q request) {
			what = name + ", " + what
			q.Kind, q.Seq = impl.RecMove, 2
			whole := f.call(q)
			if whole.Code != impl.OK {
				t.Fatalf("%s: code %d", what, whole.Code)
			}
			for first := range whole.World.Writes {
				again := q
				again.World = cutAt(t, what, f, q, first)
				done := f.call(again)
				wantSameWork(t, what, done.World, whole.World)
				for second := range done.World.Writes {
					more := q
					more.World = cutAt(t, what, f, again, second)
					wantSameWork(t, what, f.call(more).World, whole.World)
				}
			}
		})
	}
}

// cutAt lets power fail at a write of the call, and come back for good.
func cutAt(t *testing.T, what string, f worker, q request, stop int64) impl.World {
	t.Helper()
	on := q.World.On
	q.World = poweredAgain(impl.CutPower(q.World).World, on, stop)
	cut := f.call(q)
	if cut.Code != impl.ErrDown || cut.World.Writes != stop {
		t.Fatalf("%s: code %d at the write %d of %d", what, cut.Code, cut.World.Writes, stop)
	}
	return poweredAgain(cut.World, on, -1)
}

// What is done twice is done once: the second call finds nothing to write.
func TestDoneTwiceIsDoneOnce(t *testing.T) {
	for _, name := range []string{"RedoMove", "RedoAll", "RepairTapes"} {
		f := redoer(name)
		eachMove(770, 15, func(what string, q request) {
			once := f.call(q)
			q.World = once.World
			wantOutcome(t, name+", "+what, f.call(q), once)
		})
	}
}

func TestLaidAndStruckTwice(t *testing.T) {
	eachMove(775, 5, func(what string, q request) {
		laid := impl.LayRec(q.World, q.Rec).World
		twice := impl.LayRec(laid, q.Rec).World
		wantRecs(t, what, impl.CountedRecs(twice), impl.CountedRecs(laid).Recs)
		struck := impl.StrikeBoth(laid, impl.RecMove, q.Rec.Seq).World
		again := impl.StrikeBoth(struck, impl.RecMove, q.Rec.Seq).World
		if !same(again.Tapes, struck.Tapes) {
			t.Errorf("%s: tapes %+v, want %+v", what, again.Tapes, struck.Tapes)
		}
	})
}

// Behind RedoAll nothing is undone in its group, and nothing of the others is touched.
func TestNothingIsLeftUndone(t *testing.T) {
	eachMove(780, 15, func(what string, q request) {
		s := q.World.Shape
		left := impl.UndoneAt(q.World, q.Group).Recs
		whole := redoer("RedoAll").call(q)
		if q.Group < s.Groups && isDeadIn(q.World, q.Group) {
			wantOutcome(t, what, whole, outcome{World: q.World})
		} else {
			left = nil
		}
		wantRecs(t, what, impl.UndoneAt(whole.World, q.Group), left)
		for group := range s.Groups + s.Column {
			if group != q.Group && !same(whole.World.Groups[group], q.World.Groups[group]) {
				t.Errorf("%s: the group %d is changed", what, group)
			}
		}
	})
}

// undoneWorld has two moves that the group lacks, its tapes filled up to so
// many records each with what says nothing of it.
func undoneWorld(group int64, first, second int) impl.World {
	s := middleShape()
	w := plainWorld(s)
	w.On = []int64{group}
	moves := []impl.Rec{moveOf(s, 300, min(group, 1), 0), moveOf(s, 301, min(group, 1), 1)}
	w.Tapes[0].Recs, w.Tapes[1].Recs = append(plainRecs(first-2), moves...), append(plainRecs(second-2), moves...)
	return w
}

func TestRedoAllOfFullTapes(t *testing.T) {
	for _, group := range []int64{0, 1, 2} {
		for _, c := range []struct {
			counts [2]int
			code   int64
		}{
			{[2]int{198, 198}, impl.OK}, {[2]int{198, 2}, impl.OK}, {[2]int{2, 198}, impl.OK},
			{[2]int{199, 2}, impl.ErrMany}, {[2]int{2, 199}, impl.ErrMany}, {[2]int{199, 199}, impl.ErrMany},
			{[2]int{200, 2}, impl.ErrMany}, {[2]int{2, 200}, impl.ErrMany}, {[2]int{200, 200}, impl.ErrMany},
		} {
			what := fmt.Sprint("group ", group, ", tapes ", c.counts)
			w := undoneWorld(group, c.counts[0], c.counts[1])
			told := impl.RedoAll(w, group)
			wantOutcome(t, what, worldOutcome(told), plainRedoAll(request{World: w, Group: group}))
			if told.Code != c.code {
				t.Errorf("%s: code %d, want %d", what, told.Code, c.code)
			}
		}
	}
}

// Power that fails ahead of the record for which there is no room is told in
// its place: up to there all is written.
func TestRedoAllOfFullTapesAndPower(t *testing.T) {
	for _, c := range []struct {
		count  int
		writes int64
	}{{200, 3}, {199, 8}} {
		for stop := range c.writes + 2 {
			w := undoneWorld(1, c.count, 2)
			w.Stop = stop
			told := impl.RedoAll(w, 1)
			wantOutcome(t, fmt.Sprint(c, stop), worldOutcome(told), plainRedoAll(request{World: w, Group: 1}))
			want := int64(impl.ErrDown)
			if stop >= c.writes {
				want = impl.ErrMany
			}
			if told.Code != want {
				t.Errorf("%v, stop %d: code %d, want %d", c, stop, told.Code, want)
			}
		}
	}
}

// A dead group of data is left alone, one of parity is not; with just as many
// drives wiped as are spare both are redone.
func TestRedoAllOfDeadGroups(t *testing.T) {
	for group := range int64(3) {
		for count := range int64(4) {
			w := undoneWorld(group, 2, 2)
			wipe(w, group, count)
			told := impl.RedoAll(w, group)
			writes := 2*(3-count) + 4
			if count > 1 && group < 2 {
				writes = 0
				wantWorld(t, "a dead group", told, w)
			}
			if told.Code != impl.OK || told.World.Writes != writes {
				t.Errorf("group %d, %d wiped: code %d, %d writes, want %d", group, count, told.Code, told.World.Writes, writes)
			}
		}
	}
}

func TestNothingUndone(t *testing.T) {
	for group := range int64(3) {
		w := undoneWorld(group, 2, 2)
		w.Tapes[1].Recs = []impl.Rec{doneOf(300, group), doneOf(301, group)}
		w.Stop = 0
		wantWorld(t, "all done", impl.RedoAll(w, group), w)
		w.Tapes[0].Recs, w.Tapes[1].Recs = nil, nil
		wantWorld(t, "no moves", impl.RedoAll(w, group), w)
	}
}

// Moves of one Seq that are unlike are all redone, as they are undone at the beginning.
func TestRedoAllOfOneSeq(t *testing.T) {
	s := middleShape()
	w := withTapes(s, []impl.Rec{moveOf(s, 2000, 0, 0), moveOf(s, 2000, 1, 1), moveOf(s, 2000, 1, 2)}, nil)
	w.On, w.Stop = []int64{1, 2}, -1
	for group, writes := range map[int64]int64{1: 2*3 + 4, 2: 3*3 + 6} {
		told := impl.RedoAll(w, group)
		if told.Code != impl.OK || told.World.Writes != w.Writes+writes {
			t.Errorf("group %d: code %d, %d writes", group, told.Code, told.World.Writes-w.Writes)
		}
		for row := range int64(3) {
			moved := row > 0 || group == 2
			if stamp := impl.RowStamp(told.World, group, row).Value; stamp == 2000 != moved {
				t.Errorf("group %d, row %d: stamp %d", group, row, stamp)
			}
		}
	}
}

// eachUnlikePair goes through tapes with records of all kinds, and such with
// records that are told twice.
func eachUnlikePair(check func(what string, w impl.World)) {
	eachMixOfTapes(func(what string, w impl.World) {
		if len(what)%3 == 0 {
			w.Writes, w.Stop = 0, -1
			check(what, w)
		}
	})
}

// Repaired tapes say what they said, each of them wholly, whenever power went.
func TestRepairedTapesSayTheSame(t *testing.T) {
	eachUnlikePair(func(what string, w impl.World) {
		counted := impl.CountedRecs(w).Recs
		whole := impl.RepairTapes(w)
		if whole.Code != impl.OK || !same(whole.World.Groups, w.Groups) {
			t.Fatalf("%s: code %d", what, whole.Code)
		}
		for tape := range int64(2) {
			wantRecs(t, what, impl.MissingRecs(whole.World, tape), nil)
		}
		wantRecs(t, what, impl.CountedRecs(whole.World), counted)
		for stop := range whole.World.Writes {
			w.Stop = stop
			cut := impl.RepairTapes(w)
			if cut.Code != impl.ErrDown {
				t.Errorf("%s: code %d at %d", what, cut.Code, stop)
			}
			wantRecs(t, what, impl.CountedRecs(cut.World), counted)
			again := impl.RepairTapes(poweredAgain(cut.World, nil, -1))
			if !same(again.World.Tapes, whole.World.Tapes) {
				t.Errorf("%s: tapes %+v, want %+v", what, again.World.Tapes, whole.World.Tapes)
			}
		}
	})
}

func TestRepairedTapes(t *testing.T) {
	s := middleShape()
	a, b, c := dataItem(1, "a", []byte{1}), moveOf(s, 1, 0, 0), doneOf(2, 0)
	for _, k := range []struct{ first, second, firstThen, secondThen []impl.Rec }{
		{[]impl.Rec{a, b, c}, []impl.Rec{c, b, a}, []impl.Rec{a, b, c}, []impl.Rec{c, b, a}},
		{[]impl.Rec{c, a}, []impl.Rec{b, a}, []impl.Rec{c, a, b}, []impl.Rec{b, a, c}},
		{[]impl.Rec{c, b, a, b}, nil, []impl.Rec{c, b, a, b}, []impl.Rec{a, b, c}},
		{nil, []impl.Rec{c, c, a}, []impl.Rec{a, c}, []impl.Rec{c, c, a}},
		{nil, nil, nil, nil},
	} {
		for _, wiped := range []bool{false, true} {
			w, want := withTapes(s, k.first, k.second), withTapes(s, k.firstThen, k.secondThen)
			w.Tapes[0].Wiped, w.Tapes[1].Wiped = wiped && len(k.first) == 0, wiped && len(k.second) == 0
			want.Tapes[0].Wiped, want.Tapes[1].Wiped = wiped && len(k.firstThen) == 0, wiped && len(k.secondThen) == 0
			want.Writes += int64(len(k.firstThen) - len(k.first) + len(k.secondThen) - len(k.second))
			wantWorld(t, fmt.Sprint(k), impl.RepairTapes(w), want)
		}
	}
}

// seqs are records of the Seqs from one to another.
func seqs(from, to int64) []impl.Rec {
	var recs []impl.Rec
	for seq := from; seq <= to; seq++ {
		recs = append(recs, doneOf(seq, 0))
	}
	return recs
}

func TestRepairedTapesAtTheirBound(t *testing.T) {
	twice := slices.Concat(seqs(1, 100), seqs(1, 100))
	for _, c := range []struct {
		name          string
		first, second []impl.Rec
		code          int64
	}{
		{"one alone", seqs(1, 200), nil, impl.OK},
		{"half each", seqs(1, 100), seqs(101, 200), impl.OK},
		{"all but one", seqs(1, 199), seqs(2, 200), impl.OK},
		{"both full and alike", seqs(1, 200), seqs(1, 200), impl.OK},
		{"one more on both", seqs(1, 200), seqs(2, 201), impl.ErrMany},
		{"one more together", seqs(1, 100), seqs(101, 201), impl.ErrMany},
		{"one more on the first", twice, seqs(101, 101), impl.ErrMany},
		{"full of doubles", twice, seqs(1, 100), impl.OK},
		{"room beside doubles", twice[1:], seqs(101, 101), impl.OK},
		{"doubles on one, all on the other", twice, nil, impl.OK},
	} {
		for _, w := range []impl.World{withTapes(middleShape(), c.first, c.second), withTapes(middleShape(), c.second, c.first)} {
			w.Stop = -1
			told := impl.RepairTapes(w)
			if told.Code != c.code {
				t.Errorf("%s: code %d, want %d", c.name, told.Code, c.code)
			}
			wantOutcome(t, c.name, worldOutcome(told), plainRepair(request{World: w}))
			if c.code != impl.OK {
				w.Stop = 0
				wantNoWorld(t, c.name+" and no power", impl.RepairTapes(w), c.code)
			}
		}
	}
}

// Cleaned tapes say what they said but for what was spent, whenever power went.
func TestCleanedTapesSayTheSame(t *testing.T) {
	eachUnlikePair(func(what string, w impl.World) {
		counted, spent := impl.CountedRecs(w).Recs, impl.SpentRecs(w).Recs
		kept := slices.DeleteFunc(slices.Clone(counted), func(r impl.Rec) bool { return holds(spent, r) })
		whole := impl.CleanTapes(w)
		wantRecs(t, what, impl.CountedRecs(whole.World), kept)
		if whole.Code != impl.OK || !same(whole.World.Groups, w.Groups) {
			t.Errorf("%s: code %d", what, whole.Code)
		}
		items := impl.ItemsOf(w).Recs
		wantRecs(t, what, impl.ItemsOf(whole.World), items)
		for stop := range whole.World.Writes {
			w.Stop = stop
			cut := impl.CleanTapes(w)
			left := impl.CountedRecs(cut.World).Recs
			for _, r := range counted {
				if !holds(left, r) && !holds(spent, r) {
					t.Errorf("%s: stop %d: %+v is gone", what, stop, r)
				}
			}
			if cut.Code != impl.ErrDown || len(left) < len(kept) {
				t.Errorf("%s: stop %d: code %d", what, stop, cut.Code)
			}
			wantRecs(t, what, impl.ItemsOf(cut.World), items)
		}
	})
}

// cleanest cleans until nothing is spent.
func cleanest(w impl.World) impl.World {
	for len(impl.SpentRecs(w).Recs) > 0 {
		w = impl.CleanTapes(w).World
	}
	return w
}

// Of items, moves and what is done of them the same is left in the end,
// whenever power went, and what is undone is the same throughout.
func TestCleanedInTheEnd(t *testing.T) {
	eachUnlikePair(func(what string, w impl.World) {
		for tape := range w.Tapes {
			w.Tapes[tape].Recs = slices.DeleteFunc(w.Tapes[tape].Recs, func(r impl.Rec) bool { return r.Kind == impl.RecShare })
		}
		clean := cleanest(w)
		for stop := range impl.CleanTapes(w).World.Writes {
			w.Stop = stop
			cut := poweredAgain(impl.CleanTapes(w).World, nil, -1)
			wantRecs(t, what, impl.CountedRecs(cleanest(cut)), impl.CountedRecs(clean).Recs)
			for group := range w.Shape.Groups + w.Shape.Column {
				wantRecs(t, what, impl.UndoneAt(cut, group), impl.UndoneAt(w, group).Recs)
			}
		}
	})
}

func TestCleanedTapes(t *testing.T) {
	s := middleShape()
	move := moveOf(s, 4, 1, 0)
	old, newer := dataItem(1, "a", []byte{1}), deletedItem(6, "a")
	for _, c := range []struct {
		name                     string
		first, second, firstThen []impl.Rec
		secondThen               []impl.Rec
		strikes                  int64
	}{
		{"nothing there", nil, nil, nil, nil, 0},
		{"none spent", []impl.Rec{move, newer}, []impl.Rec{newer, doneOf(4, 1)}, []impl.Rec{move, newer}, []impl.Rec{newer, doneOf(4, 1)}, 0},
		{"on one tape", []impl.Rec{old}, []impl.Rec{newer}, nil, []impl.Rec{newer}, 1},
		{"on both", []impl.Rec{newer, old}, []impl.Rec{old, newer, old}, []impl.Rec{newer}, []impl.Rec{newer}, 1},
		{"a Kind and Seq twice", []impl.Rec{doneOf(2, 0), newer}, []impl.Rec{doneOf(2, 1), doneOf(2, 2)}, []impl.Rec{newer}, nil, 1},
		{"a Seq of two kinds", []impl.Rec{doneOf(1, 0), old}, []impl.Rec{newer}, nil, []impl.Rec{newer}, 2},
		{"a Kind of two Seqs", []impl.Rec{doneOf(1, 0), doneOf(2, 0)}, []impl.Rec{newer}, nil, []impl.Rec{newer}, 2},
		{"a move, not what is done of it", []impl.Rec{move, newer}, []impl.Rec{doneOf(4, 1), doneOf(4, 2)}, []impl.Rec{newer}, []impl.Rec{doneOf(4, 1), doneOf(4, 2)}, 1},
		{"the greatest Seq stays", []impl.Rec{doneOf(9, 0)}, []impl.Rec{doneOf(9, 1)}, []impl.Rec{doneOf(9, 0)}, []impl.Rec{doneOf(9, 1)}, 0},
	} {
		w := withTapes(s, c.first, c.second)
		told := impl.CleanTapes(w)
		want := withTapes(s, c.firstThen, c.secondThen)
		want.Writes += 2 * c.strikes
		wantWorld(t, c.name, told, want)
	}
}

// Full tapes are cleaned as any others.
func TestCleanedFullTapes(t *testing.T) {
	w := withTapes(middleShape(), plainRecs(200), plainRecs(200))
	w.Stop = -1
	told := impl.CleanTapes(w)
	left := []impl.Rec{doneOf(200, 0)}
	w.Tapes[0].Recs, w.Tapes[1].Recs = left, left
	w.Writes += 398
	wantWorld(t, "full tapes", told, w)
}
