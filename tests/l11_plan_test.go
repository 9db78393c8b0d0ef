package tests

import (
	"fmt"
	"math"
	"slices"
	"testing"

	"loop.example/g00089/impl"
)

// deskRequest has all that a function of the desk may be given.
type deskRequest struct {
	Shape       impl.Shape
	Desk        impl.Desk
	Id, Code    int64
	Kind, Group int64
	Name        string
	Bytes       []byte
}

// deskReply is what any function of the desk answers.
type deskReply struct {
	Code, Value int64
	Desk        impl.Desk
	Answer      impl.Answer
}

// clerk is such a function: with what it goes well, what may be wrong with
// that, and what it answers by the document at a desk without a fault.
type clerk struct {
	name  string
	call  func(q deskRequest) deskReply
	given func() deskRequest
	flaws []flaw[deskRequest]
	plain func(q deskRequest) deskReply
}

func deskReplied(r impl.DeskResult) deskReply     { return deskReply{Code: r.Code, Desk: r.Desk} }
func answerReplied(r impl.AnswerResult) deskReply { return deskReply{Code: r.Code, Answer: r.Answer} }
func intReplied(r impl.IntResult) deskReply       { return deskReply{Code: r.Code, Value: r.Value} }

// idsIn tells of a desk which Ids wait in each queue, and Aside behind these.
func idsIn(d impl.Desk) [][]int64 {
	var all [][]int64
	for _, tickets := range append(slices.Clone(d.Queues), d.Aside) {
		ids := []int64{}
		for _, ticket := range tickets {
			ids = append(ids, ticket.Id)
		}
		all = append(all, ids)
	}
	return all
}

// waitingAt tells in which of these an Id waits, and how many are ahead of it;
// -1 if it does not wait.
func waitingAt(d impl.Desk, id int64) (line, ahead int) {
	for line, ids := range idsIn(d) {
		if ahead := slices.Index(ids, id); ahead >= 0 {
			return line, ahead
		}
	}
	return -1, -1
}

// leaving is the desk when the ticket is gone, and the ticket.
func leaving(d impl.Desk, id int64) (impl.Desk, impl.Ticket) {
	d = deepCopy(d, 0)
	var gone impl.Ticket
	keep := func(tickets []impl.Ticket) []impl.Ticket {
		var kept []impl.Ticket
		for _, ticket := range tickets {
			if ticket.Id == id {
				gone = ticket
			} else {
				kept = append(kept, ticket)
			}
		}
		return kept
	}
	for group := range d.Queues {
		d.Queues[group] = keep(d.Queues[group])
	}
	d.Aside = keep(d.Aside)
	return d, gone
}

func plainQueue(q deskRequest) deskReply {
	ticket := impl.Ticket{Id: q.Desk.Next, Kind: q.Kind, Name: q.Name, Group: q.Group}
	if code := plainTicketCode(q.Shape, ticket); code != impl.OK {
		return deskReply{Code: code}
	}
	if len(q.Desk.Queues[q.Group]) == int(q.Shape.Queue) {
		return deskReply{Code: impl.ErrBusy}
	}
	if q.Desk.Next == 1000000000 {
		return deskReply{Code: impl.ErrMany}
	}
	d := deepCopy(q.Desk, 0)
	d.Queues[q.Group] = append(d.Queues[q.Group], ticket)
	d.Next++
	return deskReply{Desk: d}
}

func plainAnswer(q deskRequest) deskReply {
	line, _ := waitingAt(q.Desk, q.Id)
	switch {
	case q.Code < 0 || q.Code > 12:
		return deskReply{Code: impl.ErrRange}
	case len(q.Bytes) > 36:
		return deskReply{Code: impl.ErrMany}
	case line == -1:
		return deskReply{Code: impl.ErrNone}
	}
	d, _ := leaving(q.Desk, q.Id)
	d.Answers = append(d.Answers, impl.Answer{Id: q.Id, Code: q.Code, Turn: d.Turn, Bytes: q.Bytes})
	if len(d.Answers) > 200 {
		d.Answers = d.Answers[1:]
	}
	return deskReply{Desk: d}
}

func plainAside(q deskRequest) deskReply {
	line, _ := waitingAt(q.Desk, q.Id)
	if line == -1 || line == len(q.Desk.Queues) {
		return deskReply{Code: impl.ErrNone}
	}
	if len(q.Desk.Aside) == 20 {
		return deskReply{Code: impl.ErrBusy}
	}
	d, gone := leaving(q.Desk, q.Id)
	d.Aside = append(d.Aside, gone)
	return deskReply{Desk: d}
}

func plainPoll(q deskRequest) deskReply {
	for _, a := range q.Desk.Answers {
		if a.Id == q.Id {
			return deskReply{Answer: a}
		}
	}
	line, _ := waitingAt(q.Desk, q.Id)
	if line == -1 {
		return deskReply{Code: impl.ErrNone}
	}
	return deskReply{Code: impl.ErrBusy}
}

func plainCancel(q deskRequest) deskReply {
	if line, _ := waitingAt(q.Desk, q.Id); line == -1 {
		return deskReply{Code: impl.ErrNone}
	}
	d, _ := leaving(q.Desk, q.Id)
	return deskReply{Desk: d}
}

func plainShut(q deskRequest) deskReply {
	answers := slices.Clone(q.Desk.Answers)
	for _, id := range slices.Concat(idsIn(q.Desk)...) {
		answers = append(answers, impl.Answer{Id: id, Code: 9, Turn: q.Desk.Turn})
	}
	answers = answers[max(0, len(answers)-200):]
	return deskReply{Desk: impl.Desk{Queues: make([][]impl.Ticket, len(q.Desk.Queues)), Answers: answers, Turn: q.Desk.Turn, Next: q.Desk.Next}}
}

func plainPlace(q deskRequest) deskReply {
	line, ahead := waitingAt(q.Desk, q.Id)
	switch line {
	case -1:
		return deskReply{Code: impl.ErrNone}
	case len(q.Desk.Queues):
		return deskReply{Code: impl.ErrTaken}
	}
	return deskReply{Value: int64(ahead)}
}

func queueCall(q deskRequest) deskReply {
	return deskReplied(impl.QueueTicket(q.Shape, q.Desk, q.Kind, q.Name, q.Group))
}
func answerCall(q deskRequest) deskReply {
	return deskReplied(impl.AnswerTicket(q.Shape, q.Desk, q.Id, q.Code, q.Bytes))
}
func asideCall(q deskRequest) deskReply { return deskReplied(impl.SetAside(q.Shape, q.Desk, q.Id)) }
func pollCall(q deskRequest) deskReply  { return answerReplied(impl.PollTicket(q.Shape, q.Desk, q.Id)) }
func cancelCall(q deskRequest) deskReply {
	return deskReplied(impl.CancelTicket(q.Shape, q.Desk, q.Id))
}
func shutCall(q deskRequest) deskReply  { return deskReplied(impl.ShutDesk(q.Shape, q.Desk)) }
func placeCall(q deskRequest) deskReply { return intReplied(impl.PlaceOf(q.Shape, q.Desk, q.Id)) }

const (
	rankAsked = rankBehindDesk + iota
	rankAskedAlso
	rankWaits
	rankNoRoom
	rankNoMore
)

// fewDeskFlaws has the first one of each rank of a desk's flaws.
func fewDeskFlaws() []flaw[impl.Desk] {
	var few []flaw[impl.Desk]
	for _, f := range deskFlaws() {
		if !slices.ContainsFunc(few, func(other flaw[impl.Desk]) bool { return other.rank == f.rank }) {
			few = append(few, f)
		}
	}
	return few
}

// faultyDesks are asked ahead of all else.
func faultyDesks() []flaw[deskRequest] {
	flaws := lifted(badShapes(), rankShape, func(q *deskRequest) *impl.Shape { return &q.Shape })
	return append(flaws, lifted(fewDeskFlaws(), 0, func(q *deskRequest) *impl.Desk { return &q.Desk })...)
}

// ids lets the Id asked for be one of these.
func ids(name string, rank int, code int64, numbers ...int64) []flaw[deskRequest] {
	var flaws []flaw[deskRequest]
	for _, number := range numbers {
		flaws = append(flaws, flaw[deskRequest]{name, rank, code, func(q *deskRequest) { q.Id = number }})
	}
	return flaws
}

// notWaiting are of middleDesk: answered, cancelled, not given, and no Ids at all.
func notWaiting(rank int) []flaw[deskRequest] {
	return ids("no such ticket waits", rank, impl.ErrNone, 5, 1, 8, 7, 10, 12, 13, 0, -1, -9, 1000000000, math.MinInt64, math.MaxInt64, 1<<32+9)
}

// askedFlaws are of the kind, name and group of a ticket to be queued.
func askedFlaws(t impl.Ticket) []flaw[deskRequest] {
	var flaws []flaw[deskRequest]
	for _, f := range ticketFlawsOf(t) {
		if f.rank != rankTicketId {
			flaws = append(flaws, flaw[deskRequest]{f.name, rankAsked + f.rank - rankTicketKind, f.code, func(q *deskRequest) {
				asked := impl.Ticket{Kind: q.Kind, Name: q.Name, Group: q.Group}
				f.make(&asked)
				q.Kind, q.Name, q.Group = asked.Kind, asked.Name, asked.Group
			}})
		}
	}
	return flaws
}

func queueClerk(t impl.Ticket) clerk {
	full := flaw[deskRequest]{"a full queue", rankNoRoom, impl.ErrBusy, func(q *deskRequest) {
		q.Desk.Queues[t.Group] = append(q.Desk.Queues[t.Group], rebuildOf(7, t.Group))
	}}
	last := flaw[deskRequest]{"the last Next", rankNoMore, impl.ErrMany, func(q *deskRequest) { q.Desk.Next = 1000000000 }}
	return clerk{
		name: "QueueTicket", call: queueCall, plain: plainQueue,
		flaws: append(slices.Concat(faultyDesks(), askedFlaws(t)), full, last),
		given: func() deskRequest {
			return deskRequest{Shape: middleShape(), Desk: middleDesk(), Kind: t.Kind, Name: t.Name, Group: t.Group}
		},
	}
}

func answerClerk() clerk {
	codes := numberFlaws("code", rankAsked, impl.ErrRange, 0, 12, func(q *deskRequest) *int64 { return &q.Code })
	long := func(length int) flaw[deskRequest] {
		return flaw[deskRequest]{"too many bytes", rankAskedAlso, impl.ErrMany, func(q *deskRequest) { q.Bytes = make([]byte, length) }}
	}
	flaws := slices.Concat(faultyDesks(), codes, notWaiting(rankWaits), []flaw[deskRequest]{long(37), long(38), long(5000)})
	return clerk{name: "AnswerTicket", call: answerCall, plain: plainAnswer, flaws: flaws, given: func() deskRequest {
		return deskRequest{Shape: middleShape(), Desk: middleDesk(), Id: 3, Bytes: []byte{4, 5}}
	}}
}

func waitingRequest(id int64) func() deskRequest {
	return func() deskRequest { return deskRequest{Shape: middleShape(), Desk: middleDesk(), Id: id} }
}

func clerks() []clerk {
	noRoom := flaw[deskRequest]{"Aside is full", rankNoRoom, impl.ErrBusy, func(q *deskRequest) {
		q.Desk.Aside, q.Desk.Next = append(q.Desk.Aside, ticketsOf(18, 20, 0)...), 40
	}}
	aside := ids("it is Aside", rankWaits, impl.ErrNone, 2, 4)
	return []clerk{
		queueClerk(readOf(0, "a", 1)), queueClerk(rebuildOf(0, 2)), answerClerk(),
		{name: "SetAside", call: asideCall, plain: plainAside, given: waitingRequest(3),
			flaws: append(slices.Concat(faultyDesks(), notWaiting(rankWaits), aside), noRoom)},
		{name: "PollTicket", call: pollCall, plain: plainPoll, given: waitingRequest(5),
			flaws: slices.Concat(faultyDesks(), ids("it waits", rankWaits, impl.ErrBusy, 6, 3, 9, 11, 2, 4),
				ids("there is none", rankWaits, impl.ErrNone, 7, 10, 12, 0, -1, math.MinInt64, math.MaxInt64))},
		{name: "CancelTicket", call: cancelCall, plain: plainCancel, given: waitingRequest(3), flaws: append(faultyDesks(), notWaiting(rankWaits)...)},
		{name: "ShutDesk", call: shutCall, plain: plainShut, given: waitingRequest(0), flaws: faultyDesks()},
		{name: "PlaceOf", call: placeCall, plain: plainPlace, given: waitingRequest(3),
			flaws: slices.Concat(faultyDesks(), ids("it is Aside", rankWaits, impl.ErrTaken, 2, 4), notWaiting(rankWaits))},
	}
}

func wantReply(t *testing.T, what string, got, want deskReply) {
	t.Helper()
	if !same(got, want) {
		t.Errorf("%s: %+v, want %+v", what, got, want)
	}
}

func wantAllClerks(t *testing.T, what string, all []clerk, q deskRequest) {
	t.Helper()
	for _, c := range all {
		wantReply(t, c.name+", "+what, c.call(q), c.plain(q))
	}
}

// pick is a number from 0 on, below count.
func (s *sequence) pick(count int64) int64 {
	return int64(s.next() % uint64(count))
}

// edgy is a number from 0 to most, which is often one of these or near to it.
func (s *sequence) edgy(most int64) int64 {
	switch s.pick(4) {
	case 0:
		return most
	case 1:
		return max(0, most-1-s.pick(3))
	case 2:
		return min(most, s.pick(3))
	}
	return s.pick(most + 1)
}

// anyTicketOf is one of the group without a fault.
func anyTicketOf(q *sequence, s impl.Shape, id, group int64) impl.Ticket {
	if group >= s.Groups || q.pick(3) == 0 {
		return rebuildOf(id, group)
	}
	for {
		name := string(rune('a' + q.pick(26)))
		for range q.pick(8) {
			name += string("az09m5"[q.pick(6)])
		}
		if impl.HomeOf(s, name).Value == group {
			return readOf(id, name, group)
		}
	}
}

// anyDesk has no fault; its tickets and answers have their Ids in any order.
func anyDesk(q *sequence, s impl.Shape) impl.Desk {
	var free []int64
	groups := s.Groups + s.Column
	for id := range 220 + groups*s.Queue + q.pick(30) {
		free = append(free, id+1)
	}
	d := impl.Desk{Turn: q.pick(9), Next: int64(len(free)) + 1}
	if q.pick(5) == 0 {
		d.Turn, d.Next = 1000000000-q.pick(2), 1000000000-q.pick(2)
	}
	id := func() int64 {
		place := q.pick(int64(len(free)))
		taken := free[place]
		free = slices.Delete(free, int(place), int(place)+1)
		return taken
	}
	for group := range groups {
		d.Queues = append(d.Queues, nil)
		for range q.edgy(s.Queue) {
			d.Queues[group] = append(d.Queues[group], anyTicketOf(q, s, id(), group))
		}
	}
	for range q.edgy(20) {
		d.Aside = append(d.Aside, anyTicketOf(q, s, id(), q.pick(groups)))
	}
	for range q.edgy(200) {
		d.Answers = append(d.Answers, impl.Answer{Id: id(), Code: q.pick(13), Turn: q.pick(d.Turn + 1), Bytes: q.list(int(q.edgy(36)))})
	}
	return d
}

// anyIdIn mostly waits or is answered.
func anyIdIn(q *sequence, d impl.Desk) int64 {
	waits := slices.Concat(idsIn(d)...)
	switch pick := q.pick(8); {
	case pick < 4 && len(waits) > 0:
		return waits[q.pick(int64(len(waits)))]
	case pick < 5 && len(d.Aside) > 0:
		return d.Aside[q.pick(int64(len(d.Aside)))].Id
	case pick < 6 && len(d.Answers) > 0:
		return d.Answers[q.pick(int64(len(d.Answers)))].Id
	case pick < 7:
		return q.pick(300)
	}
	return beyond(1, d.Next-1)[q.pick(8)]
}

// anyDeskRequest mostly asks for what may be had.
func anyDeskRequest(q *sequence, s impl.Shape, d impl.Desk) deskRequest {
	asked := anyTicketOf(q, s, 0, q.pick(s.Groups+s.Column))
	r := deskRequest{Shape: s, Desk: d, Id: anyIdIn(q, d), Code: q.pick(13), Kind: asked.Kind, Group: asked.Group, Name: asked.Name}
	r.Bytes = q.list(int(q.edgy(36)))
	switch q.pick(20) {
	case 0:
		r.Code = []int64{-1, 13, math.MinInt64, math.MaxInt64}[q.pick(4)]
	case 1:
		r.Bytes = q.list(37)
	case 2:
		r.Kind = q.pick(4)
	case 3:
		r.Group = q.pick(8) - 1
	case 4:
		r.Name = []string{"", "a", "A", "ninebytes"}[q.pick(4)]
	}
	return r
}

func deskShapes() []impl.Shape {
	return append(groupShapes(), leastShape(), greatestShape())
}

func eachDesk(seed uint64, rounds int, check func(what string, q *sequence, r deskRequest)) {
	for i, s := range deskShapes() {
		q := &sequence{state: seed + uint64(i)}
		for round := range rounds {
			check(fmt.Sprint("shape ", i, ", desk ", round), q, anyDeskRequest(q, s, anyDesk(q, s)))
		}
	}
}
