package tests

import (
	"bytes"
	"fmt"
	"slices"
	"testing"

	"loop.example/g00089/impl"
)

// wantTruth wants all that was put to be told once, with its bytes, nothing
// that was dropped, and all rows to be those of columns.
func (w *archiveWalk) wantTruth(t *testing.T, what string, a impl.Archive) {
	t.Helper()
	truth := impl.TruthOf(a.World)
	if truth.Code != impl.OK || !impl.SameThings(truth.Things, w.things) {
		t.Fatalf("%s: the truth is %+v, and there was put %+v", what, truth, w.things)
	}
	for _, name := range walkNames() {
		list, there := w.truth[name]
		told := impl.TrueItem(a.World, name)
		if told.Code != okOr(impl.ErrNone, there) || !bytes.Equal(told.Bytes, list) {
			t.Fatalf("%s: %s is %+v, and there was put %v", what, name, told, list)
		}
		count := 0
		for _, thing := range truth.Things {
			if thing.Name == name {
				count++
			}
		}
		if there != (count == 1) || !there && count != 0 {
			t.Fatalf("%s: %s is told %d times", what, name, count)
		}
	}
	for row := range a.World.Shape.Rows {
		wantHolds(t, fmt.Sprint(what, ", row ", row), impl.TrueColumn(a.World, row), true)
	}
}

// look counts what makes a truth hard to tell.
func (w *archiveWalk) look() {
	world := w.a.World
	s := world.Shape
	dead := impl.DeadGroups(world).Groups
	for _, item := range impl.ItemsOf(world).Recs {
		if len(item.Rows) > 0 && slices.Contains(dead, homeOfName(s, item.Name)) {
			w.met["an item of a dead home"]++
		}
	}
	for group := range s.Groups + s.Column {
		for _, move := range impl.UndoneAt(world, group).Recs {
			kind := "parity"
			if group < s.Groups {
				kind = "data"
			}
			w.met["undone in "+kind]++
			if slices.Contains(dead, group) {
				w.met["undone in dead "+kind]++
			}
			if group != move.Group && slices.Contains(dead, move.Group) {
				w.met["undone beside its dead group"]++
			}
		}
	}
	if world.Down {
		w.met["no power"]++
	}
	if world.Tapes[0].Wiped || world.Tapes[1].Wiped {
		w.met["a wiped tape"]++
	}
	if len(impl.MissingRecs(world, 0).Recs)+len(impl.MissingRecs(world, 1).Recs) > 0 {
		w.met["tapes that are unlike"]++
	}
}

func wantMet(t *testing.T, met map[string]int, least int, all ...string) {
	t.Helper()
	for _, what := range all {
		if met[what] < least {
			t.Errorf("met with %s only %d times", what, met[what])
		}
	}
}

// What is put is true, once, and what is dropped is not.
func TestTrueWalks(t *testing.T) {
	met := map[string]int{}
	for i, s := range walkShapes() {
		for seed := range uint64(2) {
			w := newArchiveWalk(s, 1350+10*uint64(i)+seed)
			w.met = met
			for step := range 1200 {
				w.step(t)
				w.wantTruth(t, fmt.Sprint("shape ", i, ", walk ", seed, ", step ", step), w.a)
				w.look()
			}
		}
	}
	wantMet(t, met, 20, "an item of a dead home", "undone in data", "undone in parity", "undone in dead data", "undone in dead parity", "undone beside its dead group",
		"no power", "a wiped tape", "tapes that are unlike", "put 0", "drop 0", "turn 0", "turn 9", "wipe 0", "cut 0", "open 0")
	wantMet(t, met, 5, "put 9", "drop 9", "tape 0")
}

// wantTrueTurns lets power fail at each write of the turns to come, and at the
// one behind the last: they change nothing of what is true.
func (w *archiveWalk) wantTrueTurns(t *testing.T, what string) {
	t.Helper()
	for turn := range len(w.a.World.Groups) {
		a := deepCopy(w.a, 0)
		a.World.Writes, a.World.Stop = 0, -1
		whole := impl.TurnArchive(a)
		if whole.Code != impl.OK {
			t.Fatalf("%s: code %d", what, whole.Code)
		}
		for stop := range whole.Archive.World.Writes {
			a.World.Stop = stop
			cut := impl.TurnArchive(a)
			w.wantTruth(t, fmt.Sprint(what, ", turn ", turn, ", stop ", stop), cut.Archive)
			if turn == 0 && stop%5 == 0 {
				opened := impl.OpenArchive(cut.Archive, -1).Archive
				w.wantTruth(t, fmt.Sprint(what, ", gone on behind ", stop), impl.TurnArchive(opened).Archive)
			}
		}
		w.wantTruth(t, fmt.Sprint(what, ", turn ", turn), whole.Archive)
		w.met["writes"] += int(whole.Archive.World.Writes)
		w.a = whole.Archive
		w.settle(t, what)
	}
}

func TestTruthWhereverTurnsAreCut(t *testing.T) {
	met := map[string]int{}
	for i, s := range walkShapes() {
		w := newArchiveWalk(s, 1360+uint64(i))
		w.met = met
		for step := range 360 {
			w.step(t)
			if step%36 == 35 && !w.a.World.Down {
				w.wantTrueTurns(t, fmt.Sprint("shape ", i, ", step ", step))
			}
		}
	}
	wantMet(t, met, 500, "writes")
}

// A put, and a drop, is true from the first of its two writes on, and is not
// at all ahead of it.
func TestTruthOfPutsThatAreCut(t *testing.T) {
	for i, s := range walkShapes() {
		w := newArchiveWalk(s, 1370+uint64(i))
		for range 150 {
			w.step(t)
			if w.a.World.Down {
				continue
			}
			name, list := w.name(), w.q.list(1+int(w.q.pick(4*s.Data)))
			for stop := range int64(3) {
				a := deepCopy(w.a, 0)
				a.World.Writes, a.World.Stop = 0, stop
				put, dropped := impl.SubmitPut(a, name, list), impl.SubmitDrop(a, name)
				wantPutOrNot(t, "put", put, w.things, impl.PutThing(w.things, name, list), stop)
				wantPutOrNot(t, "drop", dropped, w.things, impl.DropThing(w.things, name), stop)
			}
		}
	}
}

func wantPutOrNot(t *testing.T, what string, got impl.ArchiveResult, before, behind []impl.Thing, stop int64) {
	t.Helper()
	switch got.Code {
	case impl.ErrBusy, impl.ErrNone:
		return
	case impl.OK, impl.ErrDown:
	default:
		t.Fatalf("%s: code %d", what, got.Code)
	}
	want := behind
	if stop == 0 {
		want = before
	}
	if truth := impl.TruthOf(got.Archive.World).Things; !impl.SameThings(truth, want) || got.Code != okOr(impl.ErrDown, stop == 2) {
		t.Fatalf("%s, stop %d: code %d, things %v, want %v", what, stop, got.Code, truth, want)
	}
}

// wildly wipes drives whatever the columns bear, and reads nothing.
func (w *archiveWalk) wildly(t *testing.T) {
	t.Helper()
	s := w.a.World.Shape
	if w.a.World.Down {
		w.open(t)
		return
	}
	switch pick := w.q.pick(20); {
	case pick < 5:
		w.put(t)
	case pick < 6:
		w.drop(t)
	case pick < 8:
		w.take(t, "wipe", impl.WipeArchive(w.a, w.q.pick(s.Groups+s.Column), w.q.pick(s.Data+s.Spare)))
	case pick < 9:
		w.take(t, "rebuild", impl.SubmitRebuild(w.a, w.q.pick(s.Groups+s.Column)), impl.ErrBusy)
	case pick < 10:
		w.take(t, "cut", impl.CutArchive(w.a))
	default:
		w.turn(t)
	}
}

// However much is wiped: what is not lost is what was put, lost is only what
// stands in rows of a dead group, and nothing that its column bears.
func TestTruthWhereMuchIsLost(t *testing.T) {
	met := map[string]int{}
	for i, s := range walkShapes() {
		for seed := range uint64(30) {
			w := newArchiveWalk(s, 1400+50*uint64(i)+seed)
			w.met = met
			for step := range 70 {
				w.wildly(t)
				w.wantTrueOrLost(t, fmt.Sprint("shape ", i, ", walk ", seed, ", step ", step))
			}
		}
	}
	wantMet(t, met, 50, "lost", "not lost", "dead and not lost")
}

func (w *archiveWalk) wantTrueOrLost(t *testing.T, what string) {
	t.Helper()
	truth := impl.TruthOf(w.a.World)
	dead := impl.DeadGroups(w.a.World).Groups
	if truth.Code != impl.OK || len(truth.Things) != len(w.things) {
		t.Fatalf("%s: the truth is %+v, and there was put %+v", what, truth, w.things)
	}
	for i, thing := range truth.Things {
		atDead := slices.Contains(dead, homeOfName(w.a.World.Shape, thing.Name))
		bears := int64(len(dead)) <= w.a.World.Shape.Column
		switch {
		case thing.Lost && (!atDead || bears || len(thing.Bytes) > 0):
			t.Fatalf("%s: %+v is lost, dead are %v", what, thing, dead)
		case thing.Lost:
			w.met["lost"]++
			thing = w.things[i]
		case atDead:
			w.met["dead and not lost"]++
		default:
			w.met["not lost"]++
		}
		if !impl.SameThings([]impl.Thing{thing}, w.things[i:i+1]) || thing.Name != truth.Things[i].Name {
			t.Fatalf("%s: %+v, and there was put %+v", what, thing, w.things[i])
		}
	}
}
