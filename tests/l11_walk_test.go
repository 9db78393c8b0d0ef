package tests

import (
	"fmt"
	"slices"
	"testing"

	"loop.example/g00089/impl"
)

// book is what a walk from a new desk on knows: all tickets that wait in
// queues, in the order in which they were queued whatever their groups are,
// those Aside, and every answer that was ever given.
type book struct {
	shape   impl.Shape
	waits   []impl.Ticket
	aside   []impl.Ticket
	given   []impl.Answer
	turn    int64
	next    int64
	answers map[int64]int
}

// desk is what the book says of how a desk stands.
func (b *book) desk() impl.Desk {
	d := impl.Desk{Queues: make([][]impl.Ticket, b.shape.Groups+b.shape.Column), Aside: b.aside, Turn: b.turn, Next: b.next}
	for _, ticket := range b.waits {
		d.Queues[ticket.Group] = append(d.Queues[ticket.Group], ticket)
	}
	d.Answers = b.given[max(0, len(b.given)-200):]
	return d
}

func withoutId(tickets []impl.Ticket, id int64) []impl.Ticket {
	return slices.DeleteFunc(slices.Clone(tickets), func(t impl.Ticket) bool { return t.Id == id })
}

func (b *book) strike(id int64) {
	b.waits, b.aside = withoutId(b.waits, id), withoutId(b.aside, id)
}

func (b *book) answer(id, code int64, list []byte) {
	b.strike(id)
	b.given = append(b.given, impl.Answer{Id: id, Code: code, Turn: b.turn, Bytes: list})
	b.answers[id]++
}

// walk makes one call at the desk after the other, and writes in the book what
// was done by those that have no code.
type walk struct {
	book
	q *sequence
	d impl.Desk
}

func newWalk(s impl.Shape, seed uint64) *walk {
	return &walk{book{shape: s, next: 1, answers: map[int64]int{}}, &sequence{state: seed}, impl.NewDesk(s).Desk}
}

// take holds a call against the document, and goes on with the desk that it tells.
func (w *walk) take(t *testing.T, what string, got, want deskReply) bool {
	t.Helper()
	if got.Code != want.Code || got.Code != impl.OK && !same(got, deskReply{Code: got.Code}) {
		t.Fatalf("%s: %+v, want %+v", what, got, want)
	}
	if got.Code == impl.OK {
		w.d = got.Desk
	}
	return got.Code == impl.OK
}

// moods says how often a walk queues, sets aside, answers, cancels, has a turn
// and shuts the desk, for some time.
func moods() [][]int64 {
	return [][]int64{{30, 5, 5, 2, 2, 0}, {12, 30, 2, 1, 1, 0}, {14, 4, 30, 2, 3, 0}, {20, 10, 10, 10, 5, 3}}
}

func (w *walk) choose(mood []int64) int {
	sum := int64(0)
	for _, often := range mood {
		sum += often
	}
	left := w.q.pick(sum)
	for i, often := range mood {
		if left -= often; left < 0 {
			return i
		}
	}
	return 0
}

func (w *walk) step(t *testing.T, number int) {
	t.Helper()
	r := anyDeskRequest(w.q, w.shape, w.d)
	switch w.choose(moods()[number/100%4]) {
	case 0:
		if w.take(t, "QueueTicket", queueCall(r), plainQueue(r)) {
			w.waits = append(w.waits, impl.Ticket{Id: w.next, Kind: r.Kind, Name: r.Name, Group: r.Group})
			w.next++
		}
	case 1:
		at := slices.IndexFunc(w.waits, func(ticket impl.Ticket) bool { return ticket.Id == r.Id })
		if w.take(t, "SetAside", asideCall(r), plainAside(r)) {
			w.aside = append(w.aside, w.waits[at])
			w.waits = slices.Delete(slices.Clone(w.waits), at, at+1)
		}
	case 2:
		if w.take(t, "AnswerTicket", answerCall(r), plainAnswer(r)) {
			w.answer(r.Id, r.Code, r.Bytes)
		}
	case 3:
		if w.take(t, "CancelTicket", cancelCall(r), plainCancel(r)) {
			w.strike(r.Id)
		}
	case 4:
		w.turn++
		w.d.Turn++
	default:
		w.take(t, "ShutDesk", shutCall(r), plainShut(r))
		for _, id := range slices.Concat(idsIn(w.book.desk())...) {
			w.answer(id, impl.ErrDown, nil)
		}
	}
}

// check holds the desk against the book.
func (w *walk) check(t *testing.T, what string) {
	t.Helper()
	wantDeskCode(t, what, w.shape, w.d, impl.OK)
	if !same(w.d, w.book.desk()) {
		t.Fatalf("%s: desk %+v, want %+v", what, w.d, w.book.desk())
	}
	if len(w.d.Aside) > 20 || len(w.d.Answers) > 200 {
		t.Fatalf("%s: %d Aside, %d answers", what, len(w.d.Aside), len(w.d.Answers))
	}
	for group, ids := range idsIn(w.d)[:len(w.d.Queues)] {
		if len(ids) > int(w.shape.Queue) || !slices.IsSorted(ids) {
			t.Fatalf("%s: the queue of %d is %v", what, group, ids)
		}
	}
}

// ask polls each Id that was ever given, and asks for its place.
func (w *walk) ask(t *testing.T, what string) {
	t.Helper()
	told := map[int64]impl.Answer{}
	for _, a := range w.given[max(0, len(w.given)-200):] {
		told[a.Id] = a
	}
	for id := int64(0); id <= w.next; id++ {
		r := deskRequest{Shape: w.shape, Desk: w.d, Id: id}
		got := pollCall(r)
		answer, answered := told[id]
		line, ahead := waitingAt(w.d, id)
		switch {
		case answered:
			wantReply(t, what+": PollTicket", got, deskReply{Answer: answer})
		case line >= 0:
			wantReply(t, what+": PollTicket", got, deskReply{Code: impl.ErrBusy})
		default:
			wantReply(t, what+": PollTicket", got, deskReply{Code: impl.ErrNone})
		}
		if place := placeCall(r); place.Code == impl.OK && place.Value != int64(ahead) || place.Code == impl.OK != (line >= 0 && line < len(w.d.Queues)) {
			t.Errorf("%s: the place of %d is %+v", what, id, place)
		}
		if w.answers[id] > 1 {
			t.Errorf("%s: %d was answered %d times", what, id, w.answers[id])
		}
	}
}

// A ticket is answered once; queues keep their order and their limits.
func TestDeskWalks(t *testing.T) {
	for i, s := range []impl.Shape{leastShape(), middleShape(), groupShapes()[7], greatestShape()} {
		for seed := range uint64(2) {
			w := newWalk(s, 1130+uint64(i)*10+seed)
			for step := range 3000 {
				w.step(t, step)
				what := fmt.Sprint("shape ", i, ", walk ", seed, ", step ", step)
				w.check(t, what)
				if step%500 == 499 {
					w.ask(t, what)
				}
			}
		}
	}
}

// The walks above must come to desks that are full.
func TestDeskWalksComeFar(t *testing.T) {
	w := newWalk(greatestShape(), 1140)
	most := [3]int{}
	for step := range 3000 {
		w.step(t, step)
		for _, tickets := range w.d.Queues {
			most[0] = max(most[0], len(tickets))
		}
		most[1], most[2] = max(most[1], len(w.d.Aside)), max(most[2], len(w.d.Answers))
	}
	if most != [3]int{6, 20, 200} || len(w.given) < 300 {
		t.Errorf("at most %v, %d answers", most, len(w.given))
	}
}

// wantNoSecond holds a desk at which a ticket was answered against all ways in
// which it might be answered again.
func wantNoSecond(t *testing.T, what string, s impl.Shape, d impl.Desk, answer impl.Answer) {
	t.Helper()
	later := deepCopy(d, 0)
	later.Turn++
	for _, d := range []impl.Desk{d, later, impl.ShutDesk(s, d).Desk, impl.ShutDesk(s, later).Desk} {
		wantPoll(t, what, impl.PollTicket(s, d, answer.Id), answer)
		for code := range int64(13) {
			wantNoDesk(t, what+": answered again", impl.AnswerTicket(s, d, answer.Id, code, []byte{1}), impl.ErrNone)
		}
		wantNoDesk(t, what+": set aside", impl.SetAside(s, d, answer.Id), impl.ErrNone)
		wantNoDesk(t, what+": cancelled", impl.CancelTicket(s, d, answer.Id), impl.ErrNone)
		wantInt(t, what+": its place", impl.PlaceOf(s, d, answer.Id), impl.IntResult{Code: impl.ErrNone})
		times := 0
		for _, a := range d.Answers {
			if a.Id == answer.Id {
				times++
			}
		}
		if times != 1 {
			t.Errorf("%s: %d answers", what, times)
		}
	}
}

func TestAnsweredOnce(t *testing.T) {
	s, d := deskOfFive()
	for _, id := range []int64{4, 9, 1, 7, 5, 3, 8, 2} {
		answered := impl.AnswerTicket(s, d, id, 3, []byte{byte(id)}).Desk
		wantNoSecond(t, fmt.Sprint("AnswerTicket ", id), s, answered, impl.Answer{Id: id, Code: 3, Turn: 11, Bytes: []byte{byte(id)}})
		shut := impl.ShutDesk(s, d).Desk
		wantNoSecond(t, fmt.Sprint("ShutDesk ", id), s, shut, impl.Answer{Id: id, Code: impl.ErrDown, Turn: 11})
		aside := impl.SetAside(s, d, id)
		if aside.Code != impl.OK {
			continue
		}
		answered = impl.AnswerTicket(s, aside.Desk, id, 0, nil).Desk
		wantNoSecond(t, fmt.Sprint("SetAside and AnswerTicket ", id), s, answered, impl.Answer{Id: id, Turn: 11})
		shut = impl.ShutDesk(s, aside.Desk).Desk
		wantNoSecond(t, fmt.Sprint("SetAside and ShutDesk ", id), s, shut, impl.Answer{Id: id, Code: impl.ErrDown, Turn: 11})
	}
}

// No Id is given twice, whatever became of the tickets ahead.
func TestIdsAreGivenOnce(t *testing.T) {
	s := leastShape()
	d := impl.NewDesk(s).Desk
	for id := int64(1); id <= 900; id++ {
		told := impl.QueueTicket(s, d, impl.TicketRebuild, "", 0)
		if told.Code != impl.OK || told.Desk.Next != id+1 || told.Desk.Queues[0][0].Id != id {
			t.Fatalf("%d: %+v", id, told)
		}
		switch d = told.Desk; {
		case id%3 == 0:
			d = impl.CancelTicket(s, d, id).Desk
		case id%3 == 1 && len(d.Aside) < 20:
			d = impl.SetAside(s, d, id).Desk
		case id%100 == 50:
			d = impl.ShutDesk(s, d).Desk
		default:
			d = impl.AnswerTicket(s, d, id, 0, nil).Desk
		}
	}
}

// Whatever leaves a queue, those that stay keep their order.
func TestQueuesKeepTheirOrder(t *testing.T) {
	s := greatestShape()
	d := impl.NewDesk(s).Desk
	for id := int64(1); id <= 6; id++ {
		d = impl.QueueTicket(s, d, impl.TicketRebuild, "", 3).Desk
	}
	leave := []func(d impl.Desk, id int64) impl.Desk{
		func(d impl.Desk, id int64) impl.Desk { return impl.AnswerTicket(s, d, id, 0, nil).Desk },
		func(d impl.Desk, id int64) impl.Desk { return impl.SetAside(s, d, id).Desk },
		func(d impl.Desk, id int64) impl.Desk { return impl.CancelTicket(s, d, id).Desk },
	}
	for mask := range uint(1) << 6 {
		for first := range leave {
			now, stay := d, []int64{}
			for id := int64(1); id <= 6; id++ {
				if mask>>(id-1)&1 == 1 {
					now = leave[(first+int(id))%3](now, id)
				} else {
					stay = append(stay, id)
				}
			}
			for range 6 - len(stay) {
				stay = append(stay, now.Next)
				now = impl.QueueTicket(s, now, impl.TicketRebuild, "", 3).Desk
			}
			if got := idsIn(now)[3]; !slices.Equal(got, stay) {
				t.Errorf("mask %b: %v, want %v", mask, got, stay)
			}
			for place, id := range stay {
				wantInt(t, "PlaceOf", impl.PlaceOf(s, now, id), impl.IntResult{Value: int64(place)})
			}
		}
	}
}
