package tests

import (
	"bytes"
	"fmt"
	"slices"
	"testing"

	"loop.example/g00089/impl"
)

// wantAnswers wants the answers of the turn that is over to be these, in their
// order, with its Turn.
func wantAnswers(t *testing.T, what string, a impl.Archive, want ...impl.Answer) {
	t.Helper()
	var got []impl.Answer
	for _, answer := range a.Desk.Answers {
		if answer.Turn == a.Desk.Turn {
			got = append(got, answer)
		}
	}
	for i := range want {
		want[i].Turn = a.Desk.Turn
	}
	if !same(got, want) {
		t.Errorf("%s: answers %+v, want %+v", what, got, want)
	}
}

// wantWaiting wants just these to wait in the queue of the group, and Aside.
func wantWaiting(t *testing.T, what string, a impl.Archive, group int64, queue, aside []int64) {
	t.Helper()
	all := idsIn(a.Desk)
	if !slices.Equal(all[group], queue) || !slices.Equal(all[len(all)-1], aside) {
		t.Errorf("%s: %v wait, want %v in the queue %d, and %v Aside", what, all, queue, group, aside)
	}
}

// A batch is served in a turn, from the first one on; the others keep their order.
func TestBatches(t *testing.T) {
	for batch := int64(1); batch <= 4; batch++ {
		for count := range int64(7) {
			a := workArchive(1)
			a.World.Shape.Batch = batch
			a.Desk.Queues[1] = ticketsOf(count, 1, 1)
			a.Desk.Queues[0], a.Desk.Queues[2] = ticketsOf(2, 20, 0), ticketsOf(2, 30, 2)
			what := fmt.Sprint("batch ", batch, " of ", count)
			got := wantTurn(t, what, a)
			served := min(batch, count)
			wantAnswered(t, what, got, upTo(count + 1)[1:1+served]...)
			wantWaiting(t, what, got, 1, upTo(count + 1)[1+served:], nil)
			if !same(got.Desk.Queues[0], a.Desk.Queues[0]) || !same(got.Desk.Queues[2], a.Desk.Queues[2]) {
				t.Errorf("%s: others were served: %v", what, idsIn(got.Desk))
			}
		}
	}
}

// Behind the batch all those Aside are served whose group it is, however many.
func TestThoseAside(t *testing.T) {
	for group := range int64(3) {
		a := workArchive(group)
		a.World.Shape.Batch = 1
		for place := range int64(20) {
			a.Desk.Aside = append(a.Desk.Aside, rebuildOf(20-place, place*7%3))
		}
		queueUp(&a, rebuildOf(30, group), rebuildOf(31, group))
		want, left := []int64{30}, []int64{}
		for _, ticket := range a.Desk.Aside {
			if ticket.Group == group {
				want = append(want, ticket.Id)
			} else {
				left = append(left, ticket.Id)
			}
		}
		got := wantTurn(t, "those Aside", a)
		wantAnswered(t, "those Aside", got, want...)
		wantWaiting(t, "those Aside", got, group, []int64{31}, left)
	}
}

// deadArchive has the turn of the group 1, which lost two drives, with "a" in
// its rows 2 and 0.
func deadArchive() (a impl.Archive, object []byte) {
	a = workArchive(1)
	object = slices.Concat(lyingRow(a.World, 1, 2), lyingRow(a.World, 1, 0))[:13]
	layBoth(&a, rowsItem(60, "a", 13, 2, 0))
	wipedGroup(&a, 1, 0, 1)
	return a, object
}

// wholeShareOf is that of a row to which all have given, by what the row was.
func wholeShareOf(was impl.World, seq, group, row int64) impl.Rec {
	share := shareOf(was.Shape, seq, group, row, othersOf(was.Shape, group)...)
	share.Data = lyingRow(was, group, row)
	return share
}

// One that waits for shares is set Aside, and stays in the queue where as many
// are Aside as may be; whoever is Aside already stays there.
func TestSetAsideInATurn(t *testing.T) {
	for count := range int64(21) {
		a, _ := deadArchive()
		a.Desk.Aside = ticketsOf(count, 20, 2)
		queueUp(&a, readOf(1, "a", 1), rebuildOf(2, 1), readOf(3, "a", 1))
		what := fmt.Sprint(count, " Aside")
		got := wantTurn(t, what, a)
		room := min(20-count, 3)
		aside := append(upTo(20 + count)[20:], []int64{1, 2, 3}[:room]...)
		wantAnswered(t, what, got)
		wantWaiting(t, what, got, 1, []int64{1, 2, 3}[room:], aside)
		got.Desk.Turn = 4
		wantWaiting(t, what+", again", wantTurn(t, what, got), 1, []int64{1, 2, 3}[room:], aside)
	}
}

// Where Aside is full of those whose turn it is, one in the queue stays there:
// it was served ahead of those that make room.
func TestRoomAsideThatComesTooLate(t *testing.T) {
	a, _ := deadArchive()
	for id := range int64(20) {
		a.Desk.Aside = append(a.Desk.Aside, readOf(10+id, "c", 1))
	}
	queueUp(&a, readOf(1, "a", 1))
	got := wantTurn(t, "Aside is full", a)
	wantAnswered(t, "Aside is full", got, upTo(30)[10:]...)
	wantWaiting(t, "Aside is full", got, 1, []int64{1}, nil)
	got.Desk.Turn = 4
	got = wantTurn(t, "Aside is empty", got)
	wantWaiting(t, "Aside is empty", got, 1, nil, []int64{1})
	got.Desk.Turn = 7
	wantWaiting(t, "Aside", wantTurn(t, "Aside", got), 1, nil, []int64{1})
}

// A batch may be set aside whole; the next ones are served in the next turn of
// the group, those Aside behind them.
func TestBatchesSetAside(t *testing.T) {
	a, _ := deadArchive()
	a.World.Shape.Batch = 2
	queueUp(&a, readOf(1, "a", 1), readOf(2, "a", 1), readOf(3, "c", 1), rebuildOf(4, 1), readOf(5, "c", 1))
	got := wantTurn(t, "the first batch", a)
	wantWaiting(t, "the first batch", got, 1, []int64{3, 4, 5}, []int64{1, 2})
	got.Desk.Turn = 4
	got = wantTurn(t, "the second batch", got)
	wantAnswers(t, "the second batch", got, impl.Answer{Id: 3, Code: impl.ErrNone})
	wantWaiting(t, "the second batch", got, 1, []int64{5}, []int64{1, 2, 4})
}

// One that was set aside is served again in the next turn of its group, behind
// those that stand in the queue by then.
func TestServedBehindTheQueue(t *testing.T) {
	a, object := deadArchive()
	queueUp(&a, rebuildOf(1, 1), readOf(2, "a", 1))
	first := wantTurn(t, "set aside", a)
	wantWaiting(t, "set aside", first, 1, nil, []int64{1, 2})
	shares := []impl.Rec{}
	was := workArchive(1).World
	for row := range int64(3) {
		shares = append(shares, wholeShareOf(was, 90+row, 1, row))
	}
	layBoth(&first, shares...)
	first.Desk.Turn = 4
	queueUp(&first, readOf(3, "a", 1))
	second := wantTurn(t, "answered", first)
	wantAnswers(t, "answered", second, impl.Answer{Id: 3, Bytes: object}, impl.Answer{Id: 1}, impl.Answer{Id: 2, Bytes: object})
}

// A read of what is not there is answered with ErrNone, of what waits on a
// tape with that, of what lies in a living group with that, whoever died.
func TestReadsInATurn(t *testing.T) {
	for _, wiped := range [][]int64{nil, {0}, {1}, {2}} {
		a := workArchive(1)
		object := slices.Concat(lyingRow(a.World, 1, 1), lyingRow(a.World, 1, 0))[:11]
		layBoth(&a, rowsItem(60, "a", 11, 1, 0), rowsItem(61, "c", 3, 2), deletedItem(62, "c"), rowsItem(63, "e", 3, 2), dataItem(64, "e", []byte("e, put again")))
		wipedGroup(&a, 1, wiped...)
		wipedGroup(&a, 0, 0, 1, 2)
		a.Desk.Queues[1] = []impl.Ticket{readOf(1, "a", 1), readOf(2, "c", 1), readOf(3, "e", 1), readOf(4, "g", 1)}
		a.Desk.Aside = []impl.Ticket{readOf(5, "e", 1), readOf(6, "a", 1), readOf(7, "b", 0), readOf(8, "g", 1)}
		got := wantTurn(t, fmt.Sprint("wiped ", wiped), a)
		wantAnswers(t, fmt.Sprint("wiped ", wiped), got,
			impl.Answer{Id: 1, Bytes: object}, impl.Answer{Id: 2, Code: impl.ErrNone}, impl.Answer{Id: 3, Bytes: []byte("e, put again")}, impl.Answer{Id: 4, Code: impl.ErrNone},
			impl.Answer{Id: 5, Bytes: []byte("e, put again")}, impl.Answer{Id: 6, Bytes: object}, impl.Answer{Id: 8, Code: impl.ErrNone})
		wantWaiting(t, "of another group", got, 1, nil, []int64{7})
	}
}

// A dead group begins a share for each row of the object for which none is
// open, in their order, and for no other row.
func TestReadsOfADeadGroup(t *testing.T) {
	was := workArchive(1).World
	for _, c := range []struct {
		open  []int64
		begun []int64
	}{{nil, []int64{2, 0}}, {[]int64{2}, []int64{0}}, {[]int64{0}, []int64{2}}, {[]int64{1}, []int64{2, 0}}, {[]int64{0, 2}, nil}} {
		a, _ := deadArchive()
		for _, row := range c.open {
			layBoth(&a, wholeShareOf(was, 70+row, 1, row))
			a.World.Tapes[1].Recs[len(a.World.Tapes[1].Recs)-1].Rows = []int64{0}
			a.World.Tapes[0].Recs[len(a.World.Tapes[0].Recs)-1].Rows = []int64{0}
		}
		queueUp(&a, readOf(1, "a", 1))
		next := seqAfter(a.World)
		got := wantTurn(t, fmt.Sprint(c), a)
		wantWaiting(t, fmt.Sprint(c), got, 1, nil, []int64{1})
		for i, row := range c.begun {
			wantOpen(t, fmt.Sprint(c, ", row ", row), got.World, 1, row, begunShare(a.World, next+int64(i), 1, row))
		}
		if left := int64(len(c.begun)); seqAfter(got.World) != next+left {
			t.Errorf("%v: the next Seq is %d, want %d", c, seqAfter(got.World), next+left)
		}
	}
}

// When all its rows have whole shares they are joined, in their order; one that
// is not whole lets it wait.
func TestReadsByWholeShares(t *testing.T) {
	was := workArchive(1).World
	for mask := range 1 << 3 {
		a, object := deadArchive()
		for row := range int64(3) {
			share := wholeShareOf(was, 70+row, 1, row)
			if mask>>row&1 == 0 {
				share.Rows = []int64{2}
			}
			layBoth(&a, share)
		}
		queueUp(&a, readOf(1, "a", 1))
		a.Desk.Aside = []impl.Ticket{readOf(2, "a", 1)}
		got := wantTurn(t, fmt.Sprint("whole ", mask), a)
		if mask&5 == 5 {
			wantAnswers(t, fmt.Sprint("whole ", mask), got, impl.Answer{Id: 1, Bytes: object}, impl.Answer{Id: 2, Bytes: object})
		} else {
			wantWaiting(t, fmt.Sprint("whole ", mask), got, 1, nil, []int64{2, 1})
		}
	}
}

// Where too few others live, or there is no room for a share, that is the
// answer, without bytes; what was begun ahead of it stays begun.
func TestReadsThatBeginInVain(t *testing.T) {
	was := workArchive(1).World
	a, _ := deadArchive()
	wipedGroup(&a, 2, 0, 1)
	queueUp(&a, readOf(1, "a", 1), readOf(2, "a", 1))
	a.Desk.Aside = []impl.Ticket{readOf(3, "a", 1)}
	lost := impl.Answer{Code: impl.ErrLost}
	got := wantTurn(t, "two dead groups", a)
	wantAnswers(t, "two dead groups", got, impl.Answer{Id: 1, Code: lost.Code}, impl.Answer{Id: 2, Code: lost.Code}, impl.Answer{Id: 3, Code: lost.Code})

	// The first row has a whole share, the second one none.
	layBoth(&a, wholeShareOf(was, 70, 1, 2))
	got = wantTurn(t, "two dead groups, midway", a)
	wantAnswers(t, "two dead groups, midway", got, impl.Answer{Id: 1, Code: lost.Code}, impl.Answer{Id: 2, Code: lost.Code}, impl.Answer{Id: 3, Code: lost.Code})

	for room := range 3 {
		a, _ := deadArchive()
		layBoth(&a, shareOf(was.Shape, 301, 1, 1))
		queueUp(&a, readOf(1, "a", 1), readOf(2, "a", 1))
		fillTapes(&a, 100, 200-room)
		what := fmt.Sprint("room for ", room)
		got := wantTurn(t, what, a)
		for place, row := range []int64{2, 0} {
			if open := impl.OpenShare(got.World, 1, row).Code == impl.OK; open != (place < room) {
				t.Errorf("%s, row %d: open is %v", what, row, open)
			}
		}
		if room == 2 {
			wantWaiting(t, what, got, 1, nil, []int64{1, 2})
		} else {
			wantAnswers(t, what, got, impl.Answer{Id: 1, Code: impl.ErrMany}, impl.Answer{Id: 2, Code: impl.ErrMany})
		}
	}
	a, _ = deadArchive()
	layBoth(&a, doneOf(impl.MaxSeq-1, 0))
	queueUp(&a, readOf(1, "a", 1))
	wantAnswers(t, "one Seq left", wantTurn(t, "one Seq left", a), impl.Answer{Id: 1, Code: impl.ErrMany})
}

// A rebuild of a group of which no drive is wiped is answered at once.
func TestRebuildsOfNothing(t *testing.T) {
	for group := range int64(3) {
		a := workArchive(group)
		queueUp(&a, rebuildOf(1, group), rebuildOf(2, group))
		got := wantTurn(t, "nothing to rebuild", a)
		wantAnswers(t, "nothing to rebuild", got, impl.Answer{Id: 1}, impl.Answer{Id: 2})
		if got.World.Writes != 0 {
			t.Errorf("group %d: %d writes", group, got.World.Writes)
		}
	}
}

// A group that lost as many drives as are spare is rebuilt in its turn, as it was.
func TestRebuildsOfALivingGroup(t *testing.T) {
	for group := range int64(3) {
		for drive := range int64(3) {
			a := workArchive(group)
			was := a.World
			wipedGroup(&a, group, drive)
			queueUp(&a, rebuildOf(1, group))
			a.Desk.Aside = []impl.Ticket{rebuildOf(2, group)}
			got := wantTurn(t, "a drive lost", a)
			wantAnswers(t, "a drive lost", got, impl.Answer{Id: 1}, impl.Answer{Id: 2})
			if !same(got.World.Groups, was.Groups) || got.World.Writes != 4 {
				t.Errorf("group %d, drive %d: %d writes, or not as it was", group, drive, got.World.Writes)
			}
			wantCutTurn(t, "a drive lost", a)
		}
	}
}

// A dead group begins all its shares and waits; it is rebuilt when all of them
// are whole.
func TestRebuildsOfADeadGroup(t *testing.T) {
	for group := range int64(3) {
		was := workArchive(group).World
		for mask := range 1 << 3 {
			a := workArchive(group)
			wipedGroup(&a, group, 0, 2)
			for row := range int64(3) {
				if mask>>row&1 == 1 {
					layBoth(&a, wholeShareOf(was, 70+row, group, row))
				}
			}
			queueUp(&a, rebuildOf(1, group), rebuildOf(2, group))
			what := fmt.Sprint("group ", group, ", whole ", mask)
			got := wantTurn(t, what, a)
			for row := range int64(3) {
				if open := impl.OpenShare(got.World, group, row).Code == impl.OK; open != (mask != 7) {
					t.Errorf("%s, row %d: open is %v", what, row, open)
				}
			}
			if mask != 7 {
				wantWaiting(t, what, got, group, nil, []int64{1, 2})
				continue
			}
			wantAnswers(t, what, got, impl.Answer{Id: 1}, impl.Answer{Id: 2})
			wantAsItWas(t, what, got.World, was)
			wantCutTurn(t, what, a)
		}
	}
}

// The code of BeginAll is the answer, and what it began stays begun; so is
// that of RebuildGroup, which writes nothing then.
func TestRebuildsInVain(t *testing.T) {
	s := workArchive(1).World.Shape
	a := workArchive(1)
	wipedGroup(&a, 1, 0, 1)
	wipedGroup(&a, 2, 0, 1)
	queueUp(&a, rebuildOf(1, 1), rebuildOf(2, 1))
	wantAnswers(t, "two dead groups", wantTurn(t, "two dead groups", a), impl.Answer{Id: 1, Code: impl.ErrLost}, impl.Answer{Id: 2, Code: impl.ErrLost})

	for room := range 4 {
		a := workArchive(1)
		wipedGroup(&a, 1, 0, 1)
		layBoth(&a, shareOf(s, 301, 0, 0, 1, 2), doneOf(301, 0))
		queueUp(&a, rebuildOf(1, 1), rebuildOf(2, 1))
		fillTapes(&a, 200-room, 200-room)
		what := fmt.Sprint("room for ", room)
		got := wantTurn(t, what, a)
		for row := range int64(3) {
			if open := impl.OpenShare(got.World, 1, row).Code == impl.OK; open != (row < int64(room)) {
				t.Errorf("%s, row %d: open is %v", what, row, open)
			}
		}
		if room == 3 {
			wantWaiting(t, what, got, 1, nil, []int64{1, 2})
		} else {
			wantAnswers(t, what, got, impl.Answer{Id: 1, Code: impl.ErrMany}, impl.Answer{Id: 2, Code: impl.ErrMany})
		}
	}
	for room := range 4 {
		a := workArchive(1)
		was := a.World
		wipedGroup(&a, 1, 0, 1)
		for row := range int64(3) {
			layBoth(&a, wholeShareOf(was, 300+row, 1, row))
		}
		queueUp(&a, rebuildOf(1, 1))
		fillTapes(&a, 200-room, 200-room)
		what := fmt.Sprint("room for ", room, " to be rebuilt")
		got := wantTurn(t, what, a)
		wantAnswers(t, what, got, impl.Answer{Id: 1, Code: okOr(impl.ErrMany, room == 3)})
		if room < 3 && !same(got.World.Groups, a.World.Groups) {
			t.Errorf("%s: something was written", what)
		}
	}
}

// Whatever is answered with a code has no bytes.
func TestNoBytesBesideACode(t *testing.T) {
	told := 0
	eachArchive(1270, 60, func(what string, q *sequence, r archiveRequest) {
		got := turnCall(r).Archive
		for _, answer := range got.Desk.Answers {
			new := !slices.ContainsFunc(r.Archive.Desk.Answers, func(old impl.Answer) bool { return old.Id == answer.Id })
			if new && answer.Code != impl.OK {
				told++
				if len(answer.Bytes) > 0 || answer.Turn != got.Desk.Turn {
					t.Errorf("%s: %+v", what, answer)
				}
			}
		}
	})
	if told < 100 {
		t.Errorf("only %d codes", told)
	}
}

// What was put is read from a dead group, and the group comes back, by turns
// alone; as soon as each other group had its turn.
func TestDeadGroupsByTurns(t *testing.T) {
	q := &sequence{state: 1280}
	columnShapes(func(s impl.Shape) {
		if s.Column == 0 {
			return
		}
		s.Stage, s.Rows, s.Queue = 400, 3, 6
		groups := s.Groups + s.Column
		name := "a"
		object := q.list(int(8*s.Data) + 1 + int(q.pick(4*s.Data)))
		home := homeOfName(s, name)
		a := done(t, "put", impl.SubmitPut(impl.NewArchive(s).Archive, name, object))
		a = turns(t, a, 2*groups)
		was := a.World
		for dead := range groups {
			what := fmt.Sprint(s, ", dead ", dead)
			lost := a
			wipedGroup(&lost, dead, upTo(s.Spare+1)...)
			lost = done(t, what, impl.SubmitRead(lost, name))
			lost = done(t, what, impl.SubmitRebuild(lost, dead))
			for range 2 * groups {
				lost = wantTurn(t, what, lost)
			}
			wantPoll(t, what, impl.PollArchive(lost, 1), impl.Answer{Id: 1, Turn: readTurn(s, a.Desk.Turn, home, dead), Bytes: object})
			wantPoll(t, what, impl.PollArchive(lost, 2), impl.Answer{Id: 2, Turn: readTurn(s, a.Desk.Turn, dead, dead)})
			wantAsItWas(t, what, lost.World, was)
		}
	})
}

// readTurn is in which turn a ticket is answered: the first one of its group,
// and the next one, if that is dead.
func readTurn(s impl.Shape, turn, group, dead int64) int64 {
	groups := s.Groups + s.Column
	first := turn + (group-turn%groups+groups)%groups + 1
	if group == dead {
		return first + groups
	}
	return first
}

// What was queued for what lies in rows is answered by what is true when its
// turn comes.
func TestReadsOfWhatChangedMeanwhile(t *testing.T) {
	a := lyingArchive(t)
	a = done(t, "read", impl.SubmitRead(a, "a"))
	for what, c := range map[string]struct {
		change func(a impl.Archive) impl.ArchiveResult
		answer impl.Answer
	}{
		"as it was": {func(a impl.Archive) impl.ArchiveResult { return impl.SubmitPut(a, "i", []byte("i")) }, impl.Answer{Id: 1, Bytes: []byte("a-1")}},
		"put again": {func(a impl.Archive) impl.ArchiveResult { return impl.SubmitPut(a, "a", bytes.Repeat([]byte{7}, 24)) }, impl.Answer{Id: 1, Bytes: bytes.Repeat([]byte{7}, 24)}},
		"dropped":   {func(a impl.Archive) impl.ArchiveResult { return impl.SubmitDrop(a, "a") }, impl.Answer{Id: 1, Code: impl.ErrNone}},
	} {
		got := turns(t, done(t, what, c.change(a)), 1)
		wantNoPoll(t, what, impl.PollArchive(got, 1), impl.ErrBusy)
		got = turns(t, got, 1)
		wantAnswers(t, what, got, c.answer)
	}
}
