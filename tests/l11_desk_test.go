package tests

import (
	"bytes"
	"fmt"
	"math"
	"slices"
	"sync"
	"testing"

	"loop.example/g00089/impl"
)

func TestClerksCodesAndTheirOrder(t *testing.T) {
	for _, c := range clerks() {
		wantFlaws(t, c.name, c.given, c.flaws, func(t *testing.T, what string, q deskRequest, code int64) {
			t.Helper()
			got := c.call(q)
			if got.Code != code || code != impl.OK && !same(got, deskReply{Code: code}) {
				t.Errorf("%s: %+v, want the code %d", what, got, code)
			}
		})
		wantReply(t, c.name+" of nothing", c.call(deskRequest{}), deskReply{Code: impl.ErrRange})
		wantReply(t, c.name+" of no desk", c.call(deskRequest{Shape: middleShape()}), deskReply{Code: impl.ErrForm})
	}
}

func TestClerksKeepTheirArguments(t *testing.T) {
	for _, c := range clerks() {
		for _, spoil := range append(c.flaws, flaw[deskRequest]{name: "no flaw", make: func(q *deskRequest) {}}) {
			q := c.given()
			spoil.make(&q)
			for _, extra := range []int{0, 2} {
				roomy := deepCopy(q, extra)
				wantNew(t, c.name+": "+spoil.name, func() deskReply { return c.call(roomy) }, roomy)
			}
		}
	}
}

func TestManyDesks(t *testing.T) {
	all := clerks()
	eachDesk(1100, 150, func(what string, q *sequence, r deskRequest) {
		wantDeskCode(t, what, r.Shape, r.Desk, impl.OK)
		wantAllClerks(t, what, all, r)
	})
}

// A desk is asked for faults ahead of all else, whatever else is wrong.
func TestManySpoiltDesks(t *testing.T) {
	all, seen := clerks(), map[int64]int{}
	eachDesk(1110, 300, func(what string, q *sequence, r deskRequest) {
		for range 1 + q.pick(3) {
			spoilDesk(q, &r)
		}
		code := plainDeskCode(r.Shape, r.Desk)
		seen[code]++
		wantDeskCode(t, what, r.Shape, r.Desk, code)
		for _, c := range all {
			if code != impl.OK {
				wantReply(t, c.name+", "+what, c.call(r), deskReply{Code: code})
			}
		}
	})
	for _, code := range []int64{impl.OK, impl.ErrForm, impl.ErrMany, impl.ErrRange, impl.ErrText, impl.ErrTaken} {
		if seen[code] < 50 {
			t.Errorf("only %d desks had the code %d", seen[code], code)
		}
	}
}

// spoilDesk changes something of a desk, mostly for the worse.
func spoilDesk(q *sequence, r *deskRequest) {
	d := &r.Desk
	numbers := []int64{math.MinInt64, -1, 0, 1, 2, 12, 13, d.Turn, d.Turn + 1, d.Next - 1, d.Next, 1000000000, 1000000001, math.MaxInt64}
	number := numbers[q.pick(int64(len(numbers)))]
	lines := append([]*[]impl.Ticket{&d.Aside}, &d.Aside)
	for group := range d.Queues {
		lines = append(lines, &d.Queues[group])
	}
	line := lines[q.pick(int64(len(lines)))]
	switch pick := q.pick(12); {
	case pick == 0:
		d.Turn = number
	case pick == 1:
		d.Next = number
	case pick == 2:
		d.Queues = slices.Concat(d.Queues, make([][]impl.Ticket, 1))[q.pick(2):]
	case pick == 3:
		*line = append(*line, rebuildOf(number, q.pick(r.Shape.Groups+1)))
	case pick == 4:
		d.Answers = append(d.Answers, impl.Answer{Id: number, Turn: q.pick(2)})
	case pick < 9 && len(*line) > 0:
		spoilTicket(q, &(*line)[q.pick(int64(len(*line)))], number, anyIdIn(q, *d))
	case len(d.Answers) > 0:
		spoilAnswer(q, &d.Answers[q.pick(int64(len(d.Answers)))], number, anyIdIn(q, *d))
	}
}

func spoilTicket(q *sequence, t *impl.Ticket, number, id int64) {
	switch q.pick(5) {
	case 0:
		t.Id = number
	case 1:
		t.Id = id
	case 2:
		t.Kind = q.pick(4)
	case 3:
		t.Group = q.pick(8) - 1
	case 4:
		t.Name = []string{"", "a", "b", "A", "1"}[q.pick(5)]
	}
}

func spoilAnswer(q *sequence, a *impl.Answer, number, id int64) {
	switch q.pick(5) {
	case 0:
		a.Id = number
	case 1:
		a.Id = id
	case 2:
		a.Code = number
	case 3:
		a.Turn = number
	case 4:
		a.Bytes = make([]byte, 36+q.pick(2))
	}
}

// Lists that share memory in a desk share none in what is told.
func TestDesksAreParted(t *testing.T) {
	s := middleShape()
	both := []impl.Ticket{rebuildOf(6, 0), rebuildOf(3, 0)}
	bytes := []byte{1, 2, 3, 4, 5, 6}
	d := impl.Desk{
		Queues:  [][]impl.Ticket{both[:1], nil, nil},
		Aside:   both[1:],
		Answers: []impl.Answer{{Id: 1, Bytes: bytes}, {Id: 2, Bytes: bytes}, {Id: 4, Bytes: bytes[2:4]}},
		Next:    9,
	}
	wantDeskCode(t, "shared", s, d, impl.OK)
	for _, c := range clerks() {
		q := c.given()
		q.Desk, q.Bytes = d, bytes[1:3]
		for _, id := range []int64{1, 3, 4, 6} {
			q.Id = id
			wantNew(t, c.name, func() deskReply { return c.call(q) })
			wantReply(t, c.name, c.call(q), c.plain(q))
		}
	}
	if !same(both, []impl.Ticket{rebuildOf(6, 0), rebuildOf(3, 0)}) {
		t.Error("a queue was written to")
	}
}

// One desk may be asked from many sides at once.
func TestDeskFromManySides(t *testing.T) {
	eachDesk(1120, 2, func(what string, q *sequence, r deskRequest) {
		var sides sync.WaitGroup
		for _, c := range clerks() {
			want := c.plain(r)
			for range 4 {
				sides.Add(1)
				go func() {
					defer sides.Done()
					for range 3 {
						if got := c.call(r); !same(got, want) {
							t.Errorf("%s, %s: %+v, want %+v", c.name, what, got, want)
						}
					}
				}()
			}
		}
		sides.Wait()
	})
}

func wantDesk(t *testing.T, what string, got impl.DeskResult, want impl.Desk) {
	t.Helper()
	if got.Code != impl.OK || !same(got.Desk, want) {
		t.Errorf("%s: code %d, desk %+v, want %+v", what, got.Code, got.Desk, want)
	}
}

func wantNoDesk(t *testing.T, what string, got impl.DeskResult, code int64) {
	t.Helper()
	if !same(got, impl.DeskResult{Code: code}) {
		t.Errorf("%s: %+v, want the code %d", what, got, code)
	}
}

func wantPoll(t *testing.T, what string, got impl.AnswerResult, want impl.Answer) {
	t.Helper()
	if got.Code != impl.OK || !same(got.Answer, want) {
		t.Errorf("%s: %+v, want %+v", what, got, want)
	}
}

func wantNoPoll(t *testing.T, what string, got impl.AnswerResult, code int64) {
	t.Helper()
	if !same(got, impl.AnswerResult{Code: code}) {
		t.Errorf("%s: %+v, want the code %d", what, got, code)
	}
}

// queued is the desk with one ticket more, of any kind that the group bears.
func queued(t *testing.T, s impl.Shape, d impl.Desk, group int64) impl.Desk {
	t.Helper()
	kind, name := int64(impl.TicketRebuild), ""
	if home := impl.HomeOf(s, "a").Value; home == group {
		kind, name = impl.TicketRead, "a"
	}
	told := impl.QueueTicket(s, d, kind, name, group)
	if told.Code != impl.OK {
		t.Fatalf("group %d: code %d", group, told.Code)
	}
	return told.Desk
}

func TestQueuesAreFilled(t *testing.T) {
	for _, s := range deskShapes() {
		d := impl.NewDesk(s).Desk
		for group := range s.Groups + s.Column {
			for place := range s.Queue {
				was := d.Next
				d = queued(t, s, d, group)
				line := d.Queues[group]
				if d.Next != was+1 || int64(len(line)) != place+1 || line[place].Id != was || line[place].Group != group {
					t.Errorf("group %d, place %d: %+v", group, place, d)
				}
				wantInt(t, "PlaceOf", impl.PlaceOf(s, d, was), impl.IntResult{Value: place})
				wantNoPoll(t, "PollTicket", impl.PollTicket(s, d, was), impl.ErrBusy)
			}
			wantNoDesk(t, "a full queue", impl.QueueTicket(s, d, impl.TicketRebuild, "", group), impl.ErrBusy)
		}
		wantDeskCode(t, "all queues full", s, d, impl.OK)
		if waits := int64(len(slices.Concat(d.Queues...))); waits != d.Next-1 {
			t.Errorf("%v: %d wait", s, waits)
		}
	}
}

func TestQueuedBehindTheOthers(t *testing.T) {
	s, d := middleShape(), middleDesk()
	want := middleDesk()
	want.Queues[1] = append(want.Queues[1], readOf(12, "c", 1))
	want.Next = 13
	wantDesk(t, "c", impl.QueueTicket(s, d, impl.TicketRead, "c", 1), want)
	wantNoDesk(t, "b", impl.QueueTicket(s, d, impl.TicketRead, "b", 0), impl.ErrBusy)
	want = middleDesk()
	want.Queues[2] = append(want.Queues[2], rebuildOf(12, 2))
	want.Next = 13
	wantDesk(t, "rebuild", impl.QueueTicket(s, d, impl.TicketRebuild, "", 2), want)
}

func TestTheLastIds(t *testing.T) {
	s := middleShape()
	for group := range int64(3) {
		d := impl.NewDesk(s).Desk
		d.Next = 999999999
		told := impl.QueueTicket(s, d, impl.TicketRebuild, "", group).Desk
		if told.Next != 1000000000 || told.Queues[group][0].Id != 999999999 {
			t.Errorf("group %d: %+v", group, told)
		}
		wantDeskCode(t, "the last but one", s, told, impl.OK)
		wantNoDesk(t, "no Id left", impl.QueueTicket(s, told, impl.TicketRebuild, "", group), impl.ErrMany)
		full := deepCopy(told, 0)
		full.Queues[group] = append(full.Queues[group], rebuildOf(1, group))
		wantNoDesk(t, "no Id and no room left", impl.QueueTicket(s, full, impl.TicketRebuild, "", group), impl.ErrBusy)
		wantNoDesk(t, "no Id left, and a name", impl.QueueTicket(s, full, impl.TicketRebuild, "a", group), impl.ErrForm)
		wantNoDesk(t, "no Id left, and no kind", impl.QueueTicket(s, full, 3, "a", group), impl.ErrText)
		wantNoDesk(t, "no Id left, and no group", impl.QueueTicket(s, full, impl.TicketRebuild, "", 3), impl.ErrRange)
		wantNoDesk(t, "no Id left, and no name", impl.QueueTicket(s, full, impl.TicketRead, "", group), impl.ErrText)
	}
}

// deskOfFive has a queue of five, and two Aside.
func deskOfFive() (impl.Shape, impl.Desk) {
	s := greatestShape()
	d := impl.NewDesk(s).Desk
	d.Queues[2] = []impl.Ticket{rebuildOf(4, 2), readOf(9, "b", 2), rebuildOf(1, 2), rebuildOf(7, 2), readOf(5, "f", 2)}
	d.Queues[5] = []impl.Ticket{rebuildOf(3, 5)}
	d.Aside = []impl.Ticket{rebuildOf(8, 2), rebuildOf(2, 4)}
	d.Answers = []impl.Answer{{Id: 6, Code: 4, Turn: 1}}
	d.Turn, d.Next = 11, 10
	return s, d
}

func TestAnsweredWhereverItWaits(t *testing.T) {
	s, d := deskOfFive()
	wantDeskCode(t, "five", s, d, impl.OK)
	for _, id := range []int64{4, 9, 1, 7, 5, 3, 8, 2} {
		for code := range int64(13) {
			for _, list := range [][]byte{nil, {}, {0}, bytes.Repeat([]byte{7}, 36)} {
				told := impl.AnswerTicket(s, d, id, code, list)
				want, _ := leaving(d, id)
				answer := impl.Answer{Id: id, Code: code, Turn: 11, Bytes: list}
				want.Answers = append(want.Answers, answer)
				wantDesk(t, fmt.Sprint("answered ", id), told, want)
				wantPoll(t, "PollTicket", impl.PollTicket(s, told.Desk, id), answer)
				wantPoll(t, "the other one", impl.PollTicket(s, told.Desk, 6), d.Answers[0])
			}
		}
		for _, code := range beyond(0, 12) {
			wantNoDesk(t, "no such code", impl.AnswerTicket(s, d, id, code, make([]byte, 37)), impl.ErrRange)
		}
		wantNoDesk(t, "37 bytes", impl.AnswerTicket(s, d, id, 12, make([]byte, 37)), impl.ErrMany)
	}
	for _, id := range []int64{6, 10, 11, 0, -1, -4, math.MinInt64, math.MaxInt64, 1000000000} {
		wantNoDesk(t, "does not wait", impl.AnswerTicket(s, d, id, 0, nil), impl.ErrNone)
		wantNoDesk(t, "does not wait, and 37 bytes", impl.AnswerTicket(s, d, id, 0, make([]byte, 37)), impl.ErrMany)
	}
}

// A full desk forgets the answer that was given first, and no other.
func TestForgottenAnswers(t *testing.T) {
	s := middleShape()
	for count := int64(197); count <= 200; count++ {
		d := impl.NewDesk(s).Desk
		d.Answers, d.Turn = answersOf(count, 1), 5
		slices.Reverse(d.Answers)
		d.Queues[0], d.Aside, d.Next = ticketsOf(2, 301, 0), ticketsOf(2, 311, 2), 400
		want := slices.Clone(d.Answers)
		for _, id := range []int64{302, 311, 312, 301} {
			d = impl.AnswerTicket(s, d, id, 10, []byte{byte(id)}).Desk
			want = append(want, impl.Answer{Id: id, Code: 10, Turn: 5, Bytes: []byte{byte(id)}})
			gone := max(0, len(want)-200)
			if !same(d.Answers, want[gone:]) {
				t.Errorf("%d answers and %d more: %+v", count, id, d.Answers)
			}
			for _, forgotten := range want[:gone] {
				wantNoPoll(t, "forgotten", impl.PollTicket(s, d, forgotten.Id), impl.ErrNone)
				wantNoDesk(t, "forgotten", impl.AnswerTicket(s, d, forgotten.Id, 0, nil), impl.ErrNone)
			}
			for _, kept := range want[gone:] {
				wantPoll(t, "kept", impl.PollTicket(s, d, kept.Id), kept)
			}
			wantDeskCode(t, "answered", s, d, impl.OK)
		}
	}
}

func TestSetAsideFromEachPlace(t *testing.T) {
	s, d := deskOfFive()
	for _, id := range []int64{4, 9, 1, 7, 5, 3} {
		want, gone := leaving(d, id)
		want.Aside = append(want.Aside, gone)
		told := impl.SetAside(s, d, id)
		wantDesk(t, fmt.Sprint("aside ", id), told, want)
		wantInt(t, "PlaceOf", impl.PlaceOf(s, told.Desk, id), impl.IntResult{Code: impl.ErrTaken})
		wantNoPoll(t, "PollTicket", impl.PollTicket(s, told.Desk, id), impl.ErrBusy)
		wantNoDesk(t, "again", impl.SetAside(s, told.Desk, id), impl.ErrNone)
	}
	for _, id := range []int64{8, 2, 6, 10, 0, -4, math.MinInt64, math.MaxInt64} {
		wantNoDesk(t, "in no queue", impl.SetAside(s, d, id), impl.ErrNone)
	}
}

func TestAsideIsFull(t *testing.T) {
	s, d := deskOfFive()
	d.Aside, d.Next = append(d.Aside, ticketsOf(17, 21, 0)...), 50
	d = impl.SetAside(s, d, 1).Desk
	if len(d.Aside) != 20 || d.Aside[19] != rebuildOf(1, 2) || len(d.Queues[2]) != 4 {
		t.Errorf("%+v", d)
	}
	for _, id := range []int64{4, 9, 7, 5, 3} {
		wantNoDesk(t, "Aside is full", impl.SetAside(s, d, id), impl.ErrBusy)
	}
	for _, id := range []int64{8, 1, 37, 6, 0} {
		wantNoDesk(t, "in no queue", impl.SetAside(s, d, id), impl.ErrNone)
	}
	d = impl.SetAside(s, impl.CancelTicket(s, d, 8).Desk, 5).Desk
	if len(d.Aside) != 20 || d.Aside[0] != rebuildOf(2, 4) || d.Aside[19] != readOf(5, "f", 2) {
		t.Errorf("%+v", d)
	}
}

func TestPolls(t *testing.T) {
	s, d := deskOfFive()
	wantPoll(t, "answered", impl.PollTicket(s, d, 6), impl.Answer{Id: 6, Code: 4, Turn: 1})
	for _, id := range []int64{4, 9, 1, 7, 5, 3, 8, 2} {
		wantNoPoll(t, "waits", impl.PollTicket(s, d, id), impl.ErrBusy)
	}
	for _, id := range []int64{10, 11, 0, -1, -6, math.MinInt64, math.MaxInt64} {
		wantNoPoll(t, "none", impl.PollTicket(s, d, id), impl.ErrNone)
	}
}

func TestCancelled(t *testing.T) {
	s, d := deskOfFive()
	for _, id := range []int64{4, 9, 1, 7, 5, 3, 8, 2} {
		want, _ := leaving(d, id)
		told := impl.CancelTicket(s, d, id)
		wantDesk(t, fmt.Sprint("cancelled ", id), told, want)
		wantNoPoll(t, "PollTicket", impl.PollTicket(s, told.Desk, id), impl.ErrNone)
		wantNoDesk(t, "again", impl.CancelTicket(s, told.Desk, id), impl.ErrNone)
		wantNoDesk(t, "answered", impl.AnswerTicket(s, told.Desk, id, 0, nil), impl.ErrNone)
		wantNoDesk(t, "set aside", impl.SetAside(s, told.Desk, id), impl.ErrNone)
		wantInt(t, "PlaceOf", impl.PlaceOf(s, told.Desk, id), impl.IntResult{Code: impl.ErrNone})
	}
	for _, id := range []int64{6, 10, 0, -4, math.MinInt64, math.MaxInt64} {
		wantNoDesk(t, "does not wait", impl.CancelTicket(s, d, id), impl.ErrNone)
	}
}

func TestPlaces(t *testing.T) {
	s, d := deskOfFive()
	for place, id := range []int64{4, 9, 1, 7, 5} {
		wantInt(t, fmt.Sprint("place of ", id), impl.PlaceOf(s, d, id), impl.IntResult{Value: int64(place)})
	}
	wantInt(t, "alone", impl.PlaceOf(s, d, 3), impl.IntResult{Value: 0})
	for _, id := range []int64{8, 2} {
		wantInt(t, "Aside", impl.PlaceOf(s, d, id), impl.IntResult{Code: impl.ErrTaken})
	}
	for _, id := range []int64{6, 10, 0, -4, math.MinInt64, math.MaxInt64} {
		wantInt(t, "none", impl.PlaceOf(s, d, id), impl.IntResult{Code: impl.ErrNone})
	}
}

func TestShut(t *testing.T) {
	s, d := deskOfFive()
	want := impl.Desk{Queues: make([][]impl.Ticket, 6), Answers: slices.Clone(d.Answers), Turn: 11, Next: 10}
	for _, id := range []int64{4, 9, 1, 7, 5, 3, 8, 2} {
		want.Answers = append(want.Answers, impl.Answer{Id: id, Code: impl.ErrDown, Turn: 11})
	}
	shut := impl.ShutDesk(s, d)
	wantDesk(t, "shut", shut, want)
	wantDesk(t, "shut again", impl.ShutDesk(s, shut.Desk), want)
	for _, s := range deskShapes() {
		wantDesk(t, "an empty desk", impl.ShutDesk(s, impl.NewDesk(s).Desk), impl.NewDesk(s).Desk)
	}
}

// More wait than Answers have room for: those given first are forgotten.
func TestShutWhenFull(t *testing.T) {
	for _, s := range deskShapes() {
		for _, count := range []int64{0, 1, 143, 144, 145, 179, 180, 181, 199, 200} {
			d := fullDesk(s)
			d.Answers = d.Answers[:count]
			want := slices.Clone(d.Answers)
			for _, id := range slices.Concat(idsIn(d)...) {
				want = append(want, impl.Answer{Id: id, Code: impl.ErrDown, Turn: 4})
			}
			want = want[max(0, len(want)-200):]
			empty := impl.Desk{Queues: make([][]impl.Ticket, s.Groups+s.Column), Answers: want, Turn: 4, Next: d.Next}
			told := impl.ShutDesk(s, d)
			wantDesk(t, fmt.Sprint(s, ", ", count, " answers"), told, empty)
			wantDeskCode(t, "shut", s, told.Desk, impl.OK)
		}
	}
}
