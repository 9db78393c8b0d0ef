package tests

import (
	"fmt"
	"slices"
	"testing"

	"loop.example/g00089/impl"
)

// wantTurn holds a turn against the document, and tells what it left.
func wantTurn(t *testing.T, what string, a impl.Archive) impl.Archive {
	t.Helper()
	wantArchiveCode(t, what, a, impl.OK)
	q := archiveRequest{Archive: a}
	got := turnCall(q)
	wantArchive(t, what, got, plainTurn(q))
	return got.Archive
}

func TestTheLastTurns(t *testing.T) {
	for _, s := range deskShapes() {
		a := impl.NewArchive(s).Archive
		a.Desk.Turn = 999999999
		last := wantTurn(t, "the last turn", a)
		if last.Desk.Turn != 1000000000 || !slices.Equal(last.World.On, []int64{999999999 % (s.Groups + s.Column)}) {
			t.Errorf("%v: turn %d, on %v", s, last.Desk.Turn, last.World.On)
		}
		wantNoArchive(t, "no turn left", impl.TurnArchive(last), impl.ErrMany)
		wantNoArchive(t, "no turn and no power left", impl.TurnArchive(impl.CutArchive(last).Archive), impl.ErrDown)
	}
}

// somehowOn are groups that may be on together, in any order.
func somehowOn(q *sequence, s impl.Shape) []int64 {
	all := upTo(s.Groups + s.Column)
	for place := range all {
		other := q.pick(int64(len(all)))
		all[place], all[other] = all[other], all[place]
	}
	return all[:q.edgy(min(s.Cap, int64(len(all))))]
}

// The group of the turn is on behind it, and where no more may be the one goes
// off that was switched on first.
func TestWhoIsOnBehindATurn(t *testing.T) {
	q := &sequence{state: 1260}
	for _, s := range capShapes() {
		groups := s.Groups + s.Column
		for range 30 {
			a := impl.NewArchive(s).Archive
			a.World.On, a.Desk.Turn = somehowOn(q, s), q.pick(40)
			group := a.Desk.Turn % groups
			want := slices.Clone(a.World.On)
			if !slices.Contains(want, group) {
				if int64(len(want)) == s.Cap {
					want = want[1:]
				}
				want = append(want, group)
			}
			got := wantTurn(t, "a turn", a)
			if !slices.Equal(got.World.On, want) || got.Desk.Turn != a.Desk.Turn+1 {
				t.Errorf("%v, on %v, turn %d: on %v, turn %d, want on %v", s, a.World.On, a.Desk.Turn, got.World.On, got.Desk.Turn, want)
			}
		}
	}
}

// Turns go round all groups, those of parity too.
func TestTurnsGoRound(t *testing.T) {
	for _, s := range capShapes() {
		a := impl.NewArchive(s).Archive
		var on []int64
		for turn := range 3 * (s.Groups + s.Column) {
			if group := turn % (s.Groups + s.Column); !slices.Contains(on, group) {
				on = append(on, group)
			}
			on = on[max(0, len(on)-int(s.Cap)):]
			a = wantTurn(t, "a turn", a)
			if !slices.Equal(a.World.On, on) || a.Desk.Turn != turn+1 {
				t.Errorf("%v, turn %d: on %v, want %v", s, turn, a.World.On, on)
			}
		}
	}
}

// workArchive has whole columns of middleShape, one group on at most, a batch
// of four, and the turn of the group.
func workArchive(group int64) impl.Archive {
	s := middleShape()
	s.Cap, s.Batch, s.Queue = 1, 4, 6
	return workArchiveOf(s, group)
}

func workArchiveOf(s impl.Shape, group int64) impl.Archive {
	a := impl.NewArchive(s).Archive
	a.World = stampedWorld(&sequence{state: 1261}, s)
	a.Desk.Turn, a.Desk.Next = group, 50
	return a
}

// layBoth lays records on both tapes.
func layBoth(a *impl.Archive, recs ...impl.Rec) {
	for tape := range a.World.Tapes {
		a.World.Tapes[tape].Recs = append(a.World.Tapes[tape].Recs, recs...)
	}
}

func queueUp(a *impl.Archive, tickets ...impl.Ticket) {
	for _, ticket := range tickets {
		a.Desk.Queues[ticket.Group] = append(a.Desk.Queues[ticket.Group], ticket)
	}
}

func wipedGroup(a *impl.Archive, group int64, drives ...int64) {
	for _, drive := range drives {
		*a = impl.WipeArchive(*a, group, drive).Archive
	}
}

// fillTapes lets both tapes have so many records, those more ahead of the others.
func fillTapes(a *impl.Archive, first, second int) {
	a.World = filledUp(a.World, first, second)
}

// neighbours has for each two steps that follow each other an archive in whose
// turn it shows which one is done first.
func neighbours() map[[2]int]impl.Archive {
	all := map[[2]int]impl.Archive{}
	s := workArchive(1).World.Shape

	a := workArchive(1)
	a.World.Tapes[0].Recs = []impl.Rec{moveOf(s, 60, 1, 0)}
	all[[2]int{stepRepair, stepRedo}] = a

	a = workArchive(1)
	layBoth(&a, moveOf(s, 60, 1, 0), shareOf(s, 61, 0, 1))
	all[[2]int{stepRedo, stepDrop}] = a

	a = workArchive(1)
	layBoth(&a, shareOf(s, 60, 0, 1))
	all[[2]int{stepDrop, stepGive}] = a

	a = workArchive(1)
	wipedGroup(&a, 0, 0, 1)
	layBoth(&a, shareOf(s, 60, 0, 1), dataItem(61, "a", []byte("waits")))
	all[[2]int{stepGive, stepDestage}] = a

	a = workArchive(1)
	wipedGroup(&a, 1, 0)
	layBoth(&a, dataItem(60, "a", []byte("waits")))
	queueUp(&a, rebuildOf(1, 1))
	all[[2]int{stepDestage, stepTickets}] = a

	a = workArchive(1)
	wipedGroup(&a, 1, 0, 1)
	layBoth(&a, rowsItem(60, "a", 3, 0), doneOf(61, 0))
	queueUp(&a, readOf(1, "a", 1))
	all[[2]int{stepTickets, stepClean}] = a
	return all
}

func swappedOrder(first, second int) []int {
	order := rightOrder()
	order[first], order[second] = order[second], order[first]
	return order
}

func TestTheOrderOfSteps(t *testing.T) {
	all := neighbours()
	if len(all) != 6 {
		t.Errorf("%d of 6 neighbours", len(all))
	}
	for steps, a := range all {
		what := fmt.Sprint("steps ", steps)
		wantTurn(t, what, a)
		right, other := turnedBy(a, rightOrder()).reply(), turnedBy(a, swappedOrder(steps[0], steps[1])).reply()
		if same(right, other) {
			t.Errorf("%s: the other order answers the same", what)
		}
	}
}

// busyArchive has something to be done by each step of the turn of the group 1.
func busyArchive() impl.Archive {
	s := middleShape()
	s.Cap, s.Batch, s.Queue, s.Rows = 1, 4, 6, 6
	a := workArchiveOf(s, 1)
	wipedGroup(&a, 0, 0, 1)
	wipedGroup(&a, 1, 2)
	layBoth(&a, doneOf(59, 0), moveOf(s, 60, 1, 0), shareOf(s, 61, 0, 2), shareOf(s, 62, 2, 3), dataItem(63, "a", []byte("waits")), rowsItem(64, "c", 3, 1))
	a.World.Tapes[0].Recs = append(a.World.Tapes[0].Recs, rowsItem(65, "e", 3, 5))
	queueUp(&a, readOf(1, "c", 1), rebuildOf(2, 1), readOf(3, "a", 1), readOf(4, "e", 1), rebuildOf(5, 1), rebuildOf(6, 0))
	a.Desk.Aside = []impl.Ticket{readOf(7, "b", 0), readOf(8, "c", 1), rebuildOf(9, 2), rebuildOf(10, 1)}
	return a
}

// sameAnywhere is so of turns that answer the same wherever power fails.
func sameAnywhere(a, b *turnPlan) bool {
	for stop := int64(-1); stop <= int64(len(a.steps)); stop++ {
		a.start.Stop, b.start.Stop = stop, stop
		if !same(a.reply(), b.reply()) {
			return false
		}
	}
	return true
}

// No two steps may change places where there is something for both, and none
// may be left out.
func TestTheOrderOfAllSteps(t *testing.T) {
	a := busyArchive()
	wantTurn(t, "busy", a)
	for second := range rightOrder() {
		for first := range second {
			if sameAnywhere(turnedBy(a, rightOrder()), turnedBy(a, swappedOrder(first, second))) {
				t.Errorf("steps %d and %d may change places", first, second)
			}
		}
		without := slices.DeleteFunc(rightOrder(), func(step int) bool { return step == second })
		if sameAnywhere(turnedBy(a, rightOrder()), turnedBy(a, without)) {
			t.Errorf("step %d may be left out", second)
		}
	}
}

// Cut at each of its writes, a turn leaves what the writes ahead did; all that
// wait then are answered, queue by queue, and then those Aside.
func TestABusyTurnIsCut(t *testing.T) {
	a := busyArchive()
	if writes := wantCutTurn(t, "busy", a); writes < 25 {
		t.Errorf("only %d writes", writes)
	}
	a.World.Stop = a.World.Writes
	cut := impl.TurnArchive(a)
	var order []int64
	for _, answer := range cut.Archive.Desk.Answers {
		if answer.Code != impl.ErrDown || answer.Turn != 2 || len(answer.Bytes) != 0 {
			t.Errorf("%+v", answer)
		}
		order = append(order, answer.Id)
	}
	if !slices.Equal(order, []int64{6, 1, 2, 3, 4, 5, 7, 8, 9, 10}) || cut.Archive.Desk.Turn != 2 {
		t.Errorf("answered %v, turn %d", order, cut.Archive.Desk.Turn)
	}
	if !same(cut.Archive.World, withoutPower(a.World)) {
		t.Error("something was written")
	}
}

// A turn in the midst of which power fails has answered those that it served.
func TestServedAheadOfACut(t *testing.T) {
	a := workArchive(1)
	layBoth(&a, rowsItem(60, "a", 3, 0))
	wipedGroup(&a, 1, 0)
	queueUp(&a, readOf(1, "a", 1), rebuildOf(2, 1), readOf(3, "a", 1), rebuildOf(4, 2))
	a.World.Stop = a.World.Writes + 2
	cut := impl.TurnArchive(a)
	want := []impl.Answer{{Id: 1, Turn: 2, Bytes: lyingRow(a.World, 1, 0)[:3]}}
	for _, id := range []int64{2, 3, 4} {
		want = append(want, impl.Answer{Id: id, Code: impl.ErrDown, Turn: 2})
	}
	if cut.Code != impl.ErrDown || !same(cut.Archive.Desk.Answers, want) {
		t.Errorf("code %d, answers %+v, want %+v", cut.Code, cut.Archive.Desk.Answers, want)
	}
	if wiped := impl.WipedOf(cut.Archive.World, 1).List; !slices.Equal(wiped, []int64{0}) {
		t.Errorf("wiped %v", wiped)
	}
}

// answeredIds are those that were answered in the turn that is over, in their order.
func answeredIds(a impl.Archive) []int64 {
	var ids []int64
	for _, answer := range a.Desk.Answers {
		if answer.Turn == a.Desk.Turn {
			ids = append(ids, answer.Id)
		}
	}
	return ids
}

func wantAnswered(t *testing.T, what string, a impl.Archive, ids ...int64) {
	t.Helper()
	if got := answeredIds(a); !slices.Equal(got, ids) {
		t.Errorf("%s: answered %v, want %v", what, got, ids)
	}
}

// Tapes for which there is no room to be repaired stay unlike, and the rest of
// the turn is done; CleanTapes makes room for the next one.
func TestATurnThatCannotRepair(t *testing.T) {
	for tape := range 2 {
		a := workArchive(1)
		a.World.Tapes[tape].Recs = plainRecs(200)
		a.World.Tapes[1-tape].Recs = []impl.Rec{rowsItem(500, "a", 3, 0), dataItem(501, "c", []byte("c"))}
		queueUp(&a, readOf(1, "a", 1))
		got := wantTurn(t, "no room to repair", a)
		wantAnswered(t, "no room to repair", got, 1)
		if len(got.World.Tapes[tape].Recs) != 0 || len(got.World.Tapes[1-tape].Recs) != 2 {
			t.Errorf("tape %d: %d and %d records", tape, len(got.World.Tapes[tape].Recs), len(got.World.Tapes[1-tape].Recs))
		}
		got.Desk.Turn = 4
		next := wantTurn(t, "room to repair", got)
		wantRecs(t, "repaired", impl.MissingRecs(next.World, int64(tape)), nil)
	}
}

// One move is done wholly, the other is written and not said to be done; all
// that follows is left out but the cleaning.
func TestATurnThatCannotRedo(t *testing.T) {
	a := workArchive(1)
	s := a.World.Shape
	wipedGroup(&a, 0, 0, 1)
	layBoth(&a, moveOf(s, 600, 1, 0), moveOf(s, 601, 1, 1), shareOf(s, 602, 0, 2), shareOf(s, 603, 2, 2), dataItem(604, "a", []byte("waits")), rowsItem(605, "c", 3, 0))
	queueUp(&a, readOf(1, "c", 1), rebuildOf(2, 1))
	a.Desk.Aside = []impl.Ticket{readOf(3, "c", 1)}
	fillTapes(&a, 199, 150)
	got := wantTurn(t, "no room to redo", a)
	wantAnswered(t, "no room to redo", got)
	if !same(idsIn(got.Desk), idsIn(a.Desk)) {
		t.Errorf("%v wait", idsIn(got.Desk))
	}
	stamps := []int64{impl.RowStamp(got.World, 1, 0).Value, impl.RowStamp(got.World, 1, 1).Value}
	if !slices.Equal(stamps, []int64{600, 601}) {
		t.Errorf("stamps %v", stamps)
	}
	wantRecs(t, "undone", impl.UndoneAt(got.World, 1), []impl.Rec{moveOf(s, 601, 1, 1)})
	wantOpen(t, "not given", got.World, 0, 2, shareOf(s, 602, 0, 2))
	wantOpen(t, "not dropped", got.World, 2, 2, shareOf(s, 603, 2, 2))
	if waits := impl.WaitingBytes(got.World).Value; waits != 5 {
		t.Errorf("%d bytes wait", waits)
	}
	if left := len(got.World.Tapes[0].Recs); left > 12 {
		t.Errorf("%d records are left", left)
	}
	for stop := range int64(14) {
		a.World.Writes, a.World.Stop = 0, stop
		if cut := wantTurn(t, "no room to redo, and power fails", a); !cut.World.Down {
			t.Errorf("power does not fail at %d", stop)
		}
	}
	got.Desk.Turn = 4
	wantAnswered(t, "room to redo", wantTurn(t, "room to redo", got), 1, 2, 3)
}

// A group of data that is dead has nothing to redo, whatever room there is.
func TestATurnOfADeadGroupRedoesNothing(t *testing.T) {
	a := workArchive(1)
	wipedGroup(&a, 1, 0, 1)
	layBoth(&a, moveOf(a.World.Shape, 600, 1, 0))
	fillTapes(&a, 200, 200)
	queueUp(&a, readOf(1, "a", 1))
	wantAnswered(t, "dead", wantTurn(t, "dead", a), 1)
}

// A void share for which there is no room stays, those ahead of it are
// dropped, and the rest of the turn is done.
func TestATurnThatCannotDrop(t *testing.T) {
	s := workArchive(1).World.Shape
	for room, left := range [][]int64{{0, 1, 2}, {1, 2}, {2}, nil} {
		a := workArchive(1)
		for row := range int64(3) {
			layBoth(&a, shareOf(s, 600+row, 0, row, 1, 2))
		}
		layBoth(&a, rowsItem(605, "a", 3, 0))
		queueUp(&a, readOf(1, "a", 1))
		fillTapes(&a, 200-room, 200-room)
		got := wantTurn(t, "no room to drop", a)
		wantAnswered(t, "no room to drop", got, 1)
		for row := range int64(3) {
			open := impl.OpenShare(got.World, 0, row).Code == impl.OK
			if open != slices.Contains(left, row) {
				t.Errorf("room %d, row %d: open is %v", room, row, open)
			}
		}
	}
}

// A share for which there is no room is not given to, those ahead of it are,
// and the rest of the turn is done.
func TestATurnThatCannotGive(t *testing.T) {
	s := workArchive(1).World.Shape
	for room := range 4 {
		a := workArchive(1)
		wipedGroup(&a, 0, 0, 1)
		for row := range int64(3) {
			layBoth(&a, shareOf(s, 600+row, 0, row))
		}
		layBoth(&a, rowsItem(605, "a", 3, 0))
		queueUp(&a, readOf(1, "a", 1))
		fillTapes(&a, 200-room, 200-room)
		got := wantTurn(t, "no room to give", a)
		wantAnswered(t, "no room to give", got, 1)
		for row := range int64(3) {
			open := impl.OpenShare(got.World, 0, row)
			if given := slices.Contains(open.Recs[0].Rows, 1); given != (row < int64(room)) {
				t.Errorf("room %d, row %d: given is %v", room, row, given)
			}
		}
	}
}

// Where nothing is destaged, for whatever reason, the tickets are served.
func TestATurnThatCannotDestage(t *testing.T) {
	s := workArchive(1).World.Shape
	for what, change := range map[string]func(a *impl.Archive){
		"nothing waits":     func(a *impl.Archive) {},
		"one waits beside":  func(a *impl.Archive) { layBoth(a, dataItem(600, "b", []byte("b"))) },
		"no row is free":    func(a *impl.Archive) { layBoth(a, dataItem(600, "c", make([]byte, 24)), rowsItem(601, "e", 3, 0)) },
		"the group is dead": func(a *impl.Archive) { layBoth(a, dataItem(600, "c", []byte("c"))); wipedGroup(a, 1, 0, 1) },
		"a full tape":       func(a *impl.Archive) { layBoth(a, dataItem(600, "c", []byte("c"))); fillTapes(a, 198, 3) },
		"no Seq left":       func(a *impl.Archive) { layBoth(a, dataItem(600, "c", []byte("c")), doneOf(impl.MaxSeq-1, 0)) },
		"a group of parity": func(a *impl.Archive) { layBoth(a, dataItem(600, "c", []byte("c"))); a.Desk.Turn = 2 },
		"rows that are moved": func(a *impl.Archive) {
			layBoth(a, dataItem(600, "c", []byte("c")), moveOf(s, 601, 1, 0), moveOf(s, 602, 1, 1), moveOf(s, 603, 1, 2))
		},
	} {
		a := workArchive(1)
		change(&a)
		group := a.Desk.Turn
		queueUp(&a, rebuildOf(1, group), rebuildOf(2, group))
		a.Desk.Aside = []impl.Ticket{rebuildOf(3, group)}
		was := impl.WaitingBytes(a.World).Value
		got := wantTurn(t, what, a)
		if now := impl.WaitingBytes(got.World).Value; now != was {
			t.Errorf("%s: %d bytes wait, %d did", what, now, was)
		}
		if what == "the group is dead" {
			wantAnswered(t, what, got)
		} else {
			wantAnswered(t, what, got, 1, 2, 3)
		}
	}
}

// One object is destaged in a turn of its home, and in no other.
func TestOneObjectATurn(t *testing.T) {
	a := impl.NewArchive(middleShape()).Archive
	for i, name := range []string{"b", "a", "d", "c"} {
		a = done(t, name, impl.SubmitPut(a, name, []byte{byte(i)}))
	}
	waits := []int64{3, 2, 2, 1, 0, 0, 0}
	for turn, want := range waits {
		a = wantTurn(t, "a turn", a)
		if got := impl.WaitingBytes(a.World).Value; got != want {
			t.Errorf("turn %d: %d bytes wait, want %d", turn, got, want)
		}
	}
	for i, name := range []string{"b", "a", "d", "c"} {
		wantRead(t, name, a.World, name, []byte{byte(i)})
	}
	wantParityDone(t, "in the end", a.World)
}

// The example of the document: behind six turns one record is counted, and one
// group is on.
func TestTheExampleOfTurns(t *testing.T) {
	s := middleShape()
	s.Cap = 1
	a := done(t, "put", impl.SubmitPut(impl.NewArchive(s).Archive, "a", []byte{1, 2}))
	a = readAtOnce(t, "read", a, "a", impl.OK, []byte{1, 2})
	a = turns(t, a, 6)
	if waits, counted := impl.WaitingBytes(a.World).Value, len(impl.CountedRecs(a.World).Recs); waits != 0 || counted != 1 || len(a.World.On) != 1 || a.Desk.Turn != 6 {
		t.Errorf("%d bytes, %d records, on %v, turn %d", waits, counted, a.World.On, a.Desk.Turn)
	}
}

// Raw writes go on where they are counted beyond all bounds, and power is as
// it is by its stop.
func TestTurnsOfManyWrites(t *testing.T) {
	for _, back := range []int64{0, 1, 2, 7, 20} {
		for _, stop := range []int64{-1, impl.MaxSeq} {
			a := busyArchive()
			a.World.Writes, a.World.Stop = impl.MaxSeq-back, stop
			q := archiveRequest{Archive: a}
			wantArchive(t, fmt.Sprint(back, " writes left, stop ", stop), turnCall(q), plainTurn(q))
		}
	}
}
