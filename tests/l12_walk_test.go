package tests

import (
	"bytes"
	"fmt"
	"maps"
	"slices"
	"testing"

	"loop.example/g00089/impl"
)

// archiveWalk makes one call at an archive after the other, and knows what was
// put, as a map and as things, who waits for which object, and what it met with.
type archiveWalk struct {
	q      *sequence
	a      impl.Archive
	truth  map[string][]byte
	things []impl.Thing
	reads  map[int64]string
	met    map[string]int
}

func newArchiveWalk(s impl.Shape, seed uint64) *archiveWalk {
	return &archiveWalk{&sequence{state: seed}, impl.NewArchive(s).Archive, map[string][]byte{}, nil, map[int64]string{}, map[string]int{}}
}

func walkNames() []string {
	return []string{"a", "b", "c", "d", "e", "f1", "g2", "zzzzzzzz"}
}

func (w *archiveWalk) name() string {
	return walkNames()[w.q.pick(8)]
}

// take goes on with what a call tells that has no code, or ErrDown because
// power failed.
func (w *archiveWalk) take(t *testing.T, what string, got impl.ArchiveResult, codes ...int64) bool {
	t.Helper()
	w.met[fmt.Sprint(what, " ", got.Code)]++
	down := got.Code == impl.ErrDown && !w.a.World.Down
	if got.Code != impl.OK && !down {
		if !slices.Contains(codes, got.Code) {
			t.Fatalf("%s: code %d", what, got.Code)
		}
		wantNoArchive(t, what, got, got.Code)
		return false
	}
	w.a = got.Archive
	wantArchiveCode(t, what, w.a, impl.OK)
	if int64(len(w.a.World.On)) > w.a.World.Shape.Cap || down != (w.a.World.Down && what != "cut" && what != "wipe" && what != "tape") {
		t.Fatalf("%s: on %v, down %v", what, w.a.World.On, w.a.World.Down)
	}
	if down && len(flat(idsIn(w.a.Desk))) > 0 {
		t.Fatalf("%s: %v wait without power", what, idsIn(w.a.Desk))
	}
	w.settle(t, what)
	return got.Code == impl.OK
}

// settle holds all reads that are answered by now against what is true.
func (w *archiveWalk) settle(t *testing.T, what string) {
	t.Helper()
	for id, name := range w.reads {
		told := impl.PollArchive(w.a, id)
		if told.Code == impl.ErrBusy {
			continue
		}
		delete(w.reads, id)
		truth, there := w.truth[name]
		w.met[fmt.Sprint("answer ", told.Answer.Code)]++
		switch {
		case told.Code != impl.OK:
			t.Fatalf("%s: the ticket %d is gone: code %d", what, id, told.Code)
		case told.Answer.Code == impl.ErrDown && w.a.World.Down:
		case told.Answer.Code == impl.ErrNone && !there:
		case told.Answer.Code != impl.OK || !there || !bytes.Equal(told.Answer.Bytes, truth):
			t.Fatalf("%s: %s is read as %+v, and is %v", what, name, told.Answer, truth)
		}
	}
}

// readNow wants an object that waits, or that is not there, to be read ahead
// of any turn. A full queue refuses it.
func (w *archiveWalk) readNow(t *testing.T, name string) {
	t.Helper()
	truth, there := w.truth[name]
	told := impl.SubmitRead(w.a, name)
	if told.Code == impl.ErrBusy && len(w.a.Desk.Queues[homeOfName(w.a.World.Shape, name)]) == int(w.a.World.Shape.Queue) {
		w.met["full"]++
		return
	}
	answer := impl.PollArchive(told.Archive, told.Id)
	if told.Code != impl.OK || answer.Code != impl.OK || answer.Answer.Code != okOr(impl.ErrNone, there) || !bytes.Equal(answer.Answer.Bytes, truth) {
		t.Fatalf("%s is read at once as %+v, and is %v", name, answer, truth)
	}
	if w.q.pick(3) == 0 {
		w.a = told.Archive
	}
}

// changed is what is true behind a put or a drop at which power may have
// failed: it is wholly done or not at all.
func (w *archiveWalk) changed(t *testing.T, name string, list []byte, wholly bool) {
	t.Helper()
	newest := impl.NewestItem(w.a.World, name)
	now := newest.Code == impl.ErrNone && list == nil || newest.Code == impl.OK && list != nil && bytes.Equal(newest.Recs[0].Data, list)
	if wholly && !now {
		t.Fatalf("%s is not what was put", name)
	}
	if now && list != nil {
		w.truth[name] = list
		w.things = impl.PutThing(w.things, name, list)
	} else if now {
		delete(w.truth, name)
		w.things = impl.DropThing(w.things, name)
	}
}

func (w *archiveWalk) put(t *testing.T) {
	t.Helper()
	name, list := w.name(), w.q.list(1+int(w.q.pick(12*w.a.World.Shape.Data)))
	if w.take(t, "put", impl.SubmitPut(w.a, name, list), impl.ErrBusy) {
		w.changed(t, name, list, true)
		w.readNow(t, name)
	} else {
		w.changed(t, name, list, false)
	}
}

func (w *archiveWalk) drop(t *testing.T) {
	t.Helper()
	name := w.name()
	_, there := w.truth[name]
	told := impl.SubmitDrop(w.a, name)
	if there == (told.Code == impl.ErrNone) {
		t.Fatalf("drop of %s: code %d", name, told.Code)
	}
	if w.take(t, "drop", told, impl.ErrNone) {
		w.changed(t, name, nil, true)
		w.readNow(t, name)
	} else if there {
		w.changed(t, name, nil, false)
	}
}

func (w *archiveWalk) read(t *testing.T) {
	t.Helper()
	name, id := w.name(), w.a.Desk.Next
	told := impl.SubmitRead(w.a, name)
	if told.Code == impl.OK {
		w.reads[id] = name
	}
	w.take(t, "read", told, impl.ErrBusy)
}

func (w *archiveWalk) turn(t *testing.T) {
	t.Helper()
	group, turn := w.a.Desk.Turn%int64(len(w.a.World.Groups)), w.a.Desk.Turn
	if w.take(t, "turn", impl.TurnArchive(w.a)) {
		if !slices.Contains(w.a.World.On, group) || w.a.Desk.Turn != turn+1 {
			t.Fatalf("turn %d: on %v", turn, w.a.World.On)
		}
	}
}

// wipe takes no more from an archive than its columns bear.
func (w *archiveWalk) wipe(t *testing.T) {
	t.Helper()
	s := w.a.World.Shape
	told := impl.WipeArchive(w.a, w.q.pick(s.Groups+s.Column), w.q.pick(s.Data+s.Spare))
	if int64(len(impl.DeadGroups(told.Archive.World).Groups)) <= s.Column {
		w.take(t, "wipe", told)
	}
}

// tape takes no record that does not stand on the other one.
func (w *archiveWalk) tape(t *testing.T) {
	t.Helper()
	tape := w.q.pick(2)
	if len(impl.MissingRecs(w.a.World, 1-tape).Recs) == 0 {
		w.take(t, "tape", impl.WipeStaging(w.a, tape))
	}
}

func (w *archiveWalk) cancel(t *testing.T) {
	t.Helper()
	id := anyIdIn(w.q, w.a.Desk)
	told := impl.CancelArchive(w.a, id)
	if told.Code == impl.OK {
		delete(w.reads, id)
	}
	w.take(t, "cancel", told, impl.ErrNone)
}

func (w *archiveWalk) open(t *testing.T) {
	t.Helper()
	stop := int64(-1)
	if w.q.pick(2) == 0 {
		stop = w.q.pick(60)
	}
	w.take(t, "open", impl.OpenArchive(w.a, stop))
}

func (w *archiveWalk) step(t *testing.T) {
	t.Helper()
	if w.a.World.Down && w.q.pick(3) > 0 {
		w.open(t)
		return
	}
	switch pick := w.q.pick(100); {
	case w.a.World.Down && pick < 90:
		wantNoArchive(t, "no power", impl.SubmitPut(w.a, "a", []byte{1}), impl.ErrDown)
		wantNoArchive(t, "no power", impl.SubmitRead(w.a, "a"), impl.ErrDown)
		wantNoArchive(t, "no power", impl.TurnArchive(w.a), impl.ErrDown)
		w.wipe(t)
	case w.a.World.Down:
		w.take(t, "cut", impl.CutArchive(w.a))
	case pick < 20:
		w.put(t)
	case pick < 27:
		w.drop(t)
	case pick < 45:
		w.read(t)
	case pick < 52:
		w.take(t, "rebuild", impl.SubmitRebuild(w.a, w.q.pick(int64(len(w.a.World.Groups)))), impl.ErrBusy)
	case pick < 55:
		w.cancel(t)
	case pick < 58:
		w.wipe(t)
	case pick < 59:
		w.tape(t)
	case pick < 61:
		w.take(t, "cut", impl.CutArchive(w.a))
	default:
		w.turn(t)
	}
}

// wantAllRead wants each object to be read as it is, when power stays and all
// that was lost is rebuilt.
func (w *archiveWalk) wantAllRead(t *testing.T) {
	t.Helper()
	w.take(t, "cut", impl.CutArchive(w.a))
	w.take(t, "open", impl.OpenArchive(w.a, -1))
	groups := int64(len(w.a.World.Groups))
	for group := range groups {
		w.take(t, "rebuild", impl.SubmitRebuild(w.a, group))
	}
	for range 6 * groups {
		w.turn(t)
	}
	for _, name := range slices.Sorted(maps.Keys(w.truth)) {
		w.reads[w.a.Desk.Next] = name
		w.take(t, "read", impl.SubmitRead(w.a, name))
		for range groups {
			w.turn(t)
		}
		if len(w.reads) > 0 {
			t.Fatalf("%s is not read", name)
		}
	}
	for group := range groups {
		wantList(t, "in the end", impl.WipedOf(w.a.World, group), nil)
		wantHolds(t, "in the end", impl.GroupHolds(w.a.World, group), true)
	}
}

func walkShapes() []impl.Shape {
	narrow, wide := middleShape(), greatestShape()
	narrow.Cap, narrow.Column, narrow.Rows = 1, 2, 6
	wide.Cap, wide.Batch, wide.Queue = 2, 1, 2
	return []impl.Shape{{Groups: 1, Data: 1, Spare: 1, Rows: 2, Cap: 1, Batch: 1, Queue: 1, Stage: 30}, middleShape(), narrow, wide, greatestShape()}
}

// Each turn switches on the group whose turn it is, and never more than may be;
// what was put is read at once.
func TestArchiveWalks(t *testing.T) {
	met := map[string]int{}
	for i, s := range walkShapes() {
		for seed := range uint64(3) {
			w := newArchiveWalk(s, 1290+10*uint64(i)+seed)
			for step := range 1500 {
				w.step(t)
				if step%40 == 39 && !w.a.World.Down {
					wantTurn(t, fmt.Sprint("shape ", i, ", walk ", seed, ", step ", step), w.a)
				}
			}
			w.wantAllRead(t)
			for what, count := range w.met {
				met[what] += count
			}
		}
	}
	for _, what := range []string{"put 0", "put 9", "put 11", "drop 0", "drop 4", "drop 9", "read 0", "read 11", "rebuild 0", "rebuild 11", "turn 0", "turn 9",
		"wipe 0", "tape 0", "cut 0", "open 0", "cancel 0", "cancel 4", "full", "answer 0", "answer 4", "answer 9"} {
		if met[what] < 5 {
			t.Errorf("the walks met with %s only %d times", what, met[what])
		}
	}
}
