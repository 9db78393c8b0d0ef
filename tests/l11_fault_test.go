package tests

import (
	"fmt"
	"math"
	"slices"
	"testing"

	"loop.example/g00089/impl"
)

// middleDesk is one of middleShape. Of its tickets 7 and 10 were cancelled.
func middleDesk() impl.Desk {
	return impl.Desk{
		Queues: [][]impl.Ticket{{rebuildOf(6, 0), rebuildOf(3, 0)}, {readOf(9, "a", 1)}, {rebuildOf(11, 2)}},
		Aside:  []impl.Ticket{rebuildOf(2, 2), readOf(4, "a", 1)},
		Answers: []impl.Answer{
			{Id: 5, Turn: 3, Bytes: fours(9)}, {Id: 1, Code: 12}, {Id: 8, Code: 9, Turn: 7, Bytes: []byte{1}},
		},
		Turn: 7, Next: 12,
	}
}

// deskGiven is what DeskFault is given.
type deskGiven struct {
	S impl.Shape
	D impl.Desk
}

func middleDeskGiven() deskGiven { return deskGiven{middleShape(), middleDesk()} }

const (
	rankDeskForm = rankShape + 1 + iota
	rankDeskMany
	rankDeskTickets
)

// What a ticket and an answer may have wrong, so that these of one come ahead
// of those of the next one.
const (
	rankNotBelowNext = rankBehindTicket + iota
	rankOthersQueue
	rankTicketTaken
	ranksOfTicket
)
const (
	rankAnswerBounds = iota
	rankAnswerBytes
	rankAnswerTaken
	ranksOfAnswer
)
const rankDeskAnswers = rankDeskTickets + 6*ranksOfTicket
const rankDeskNumbers = rankDeskAnswers + 3*ranksOfAnswer
const rankBehindDesk = rankDeskNumbers + 1

func ticketsOf(count int64, from int64, group int64) []impl.Ticket {
	var tickets []impl.Ticket
	for i := range count {
		tickets = append(tickets, rebuildOf(from+i, group))
	}
	return tickets
}

func answersOf(count int64, from int64) []impl.Answer {
	var answers []impl.Answer
	for i := range count {
		answers = append(answers, impl.Answer{Id: from + i, Bytes: []byte{byte(i)}})
	}
	return answers
}

// countFlaws are of how many queues, tickets and answers there are.
func countFlaws() []flaw[impl.Desk] {
	queues := func(name string, make func(queues [][]impl.Ticket) [][]impl.Ticket) flaw[impl.Desk] {
		return flaw[impl.Desk]{name, rankDeskForm, impl.ErrForm, func(d *impl.Desk) { d.Queues = make(d.Queues) }}
	}
	flaws := []flaw[impl.Desk]{
		queues("no queues", func(q [][]impl.Ticket) [][]impl.Ticket { return nil }),
		queues("a queue less", func(q [][]impl.Ticket) [][]impl.Ticket { return q[:2] }),
		queues("a queue more", func(q [][]impl.Ticket) [][]impl.Ticket { return append(q[:3:3], nil) }),
		queues("many queues", func(q [][]impl.Ticket) [][]impl.Ticket { return make([][]impl.Ticket, 1000) }),
	}
	for group := range int64(3) {
		flaws = append(flaws, flaw[impl.Desk]{"a queue too long", rankDeskMany, impl.ErrMany, func(d *impl.Desk) {
			d.Queues[group] = ticketsOf(3, 1, group)
		}})
	}
	return append(flaws,
		flaw[impl.Desk]{"too many Aside", rankDeskMany, impl.ErrMany, func(d *impl.Desk) { d.Aside = ticketsOf(21, 1, 0) }},
		flaw[impl.Desk]{"too many Answers", rankDeskMany, impl.ErrMany, func(d *impl.Desk) { d.Answers = answersOf(201, 1) }})
}

// spot is where a ticket of middleDesk stands; of no queue, if it is Aside.
type spot struct {
	queue, place int
}

func spots() []spot { return []spot{{0, 0}, {0, 1}, {1, 0}, {2, 0}, {3, 0}, {3, 1}} }

func (s spot) in(d *impl.Desk) *impl.Ticket {
	if s.queue == 3 {
		return &d.Aside[s.place]
	}
	return &d.Queues[s.queue][s.place]
}

// othersLike are tickets of the same kind, of the other groups.
func othersLike(t impl.Ticket) []impl.Ticket {
	if t.Kind == impl.TicketRead {
		return []impl.Ticket{readOf(t.Id, "b", 0)}
	}
	return []impl.Ticket{rebuildOf(t.Id, (t.Group+1)%3), rebuildOf(t.Id, (t.Group+2)%3)}
}

// spotFlaws are of the ticket at the spot that comes behind so many others.
func spotFlaws(behind int) []flaw[impl.Desk] {
	s := spots()[behind]
	d := middleDesk()
	rank := rankDeskTickets + behind*ranksOfTicket
	flaws := lifted(ticketFlawsOf(*s.in(&d)), rank, s.in)
	add := func(name string, within int, code int64, make func(d *impl.Desk)) {
		flaws = append(flaws, flaw[impl.Desk]{fmt.Sprint(name, " at ", s), rank + within, code, make})
	}
	add("Id is Next", rankNotBelowNext, impl.ErrRange, func(d *impl.Desk) { s.in(d).Id = d.Next })
	add("Id is beyond Next", rankNotBelowNext, impl.ErrRange, func(d *impl.Desk) { s.in(d).Id = d.Next + 1 })
	for _, other := range othersLike(*s.in(&d)) {
		if s.queue != 3 {
			add("of another group", rankOthersQueue, impl.ErrForm, func(d *impl.Desk) { s.in(d).Name, s.in(d).Group = other.Name, other.Group })
		}
	}
	for _, ahead := range spots()[:behind] {
		add("the Id of one ahead", rankTicketTaken, impl.ErrTaken, func(d *impl.Desk) { s.in(d).Id = ahead.in(d).Id })
	}
	return flaws
}

func answerFlaws(place int) []flaw[impl.Desk] {
	rank := rankDeskAnswers + place*ranksOfAnswer
	at := func(d *impl.Desk) *impl.Answer { return &d.Answers[place] }
	flaws := numberFlaws("answer's Id", rank+rankAnswerBounds, impl.ErrRange, 1, 11, func(d *impl.Desk) *int64 { return &at(d).Id })
	flaws = append(flaws, numberFlaws("answer's Code", rank+rankAnswerBounds, impl.ErrRange, 0, 12, func(d *impl.Desk) *int64 { return &at(d).Code })...)
	flaws = append(flaws, numberFlaws("answer's Turn", rank+rankAnswerBounds, impl.ErrRange, 0, 7, func(d *impl.Desk) *int64 { return &at(d).Turn })...)
	for _, length := range []int{37, 38, 4000} {
		flaws = append(flaws, flaw[impl.Desk]{"too many Bytes", rank + rankAnswerBytes, impl.ErrMany, func(d *impl.Desk) { at(d).Bytes = make([]byte, length) }})
	}
	taken := func(name string, id func(d *impl.Desk) int64) {
		flaws = append(flaws, flaw[impl.Desk]{name, rank + rankAnswerTaken, impl.ErrTaken, func(d *impl.Desk) { at(d).Id = id(d) }})
	}
	for ahead := range place {
		taken("the Id of an answer ahead", func(d *impl.Desk) int64 { return d.Answers[ahead].Id })
	}
	for _, s := range spots() {
		taken("the Id of a ticket", func(d *impl.Desk) int64 { return s.in(d).Id })
	}
	return flaws
}

// beyondNumbers lets Turn and Next be too great; too small ones are seen by
// tickets and answers first, if there are any.
func beyondNumbers() []flaw[impl.Desk] {
	var flaws []flaw[impl.Desk]
	for _, number := range []int64{1000000001, 1<<32 + 1, math.MaxInt64 - 1, math.MaxInt64} {
		flaws = append(flaws,
			flaw[impl.Desk]{"Turn too great", rankDeskNumbers, impl.ErrRange, func(d *impl.Desk) { d.Turn = number }},
			flaw[impl.Desk]{"Next too great", rankDeskNumbers, impl.ErrRange, func(d *impl.Desk) { d.Next = number }})
	}
	return flaws
}

func deskFlaws() []flaw[impl.Desk] {
	flaws := append(countFlaws(), beyondNumbers()...)
	for behind := range spots() {
		flaws = append(flaws, spotFlaws(behind)...)
	}
	for place := range 3 {
		flaws = append(flaws, answerFlaws(place)...)
	}
	return flaws
}

func wantDeskCode(t *testing.T, what string, s impl.Shape, d impl.Desk, code int64) {
	t.Helper()
	if got := impl.DeskFault(s, d); got != code {
		t.Errorf("%s: code %d, want %d: %+v", what, got, code, d)
	}
}

func TestDeskFaultsAndTheirOrder(t *testing.T) {
	flaws := lifted(badShapes(), rankShape, func(g *deskGiven) *impl.Shape { return &g.S })
	flaws = append(flaws, lifted(deskFlaws(), 0, func(g *deskGiven) *impl.Desk { return &g.D })...)
	wantFlaws(t, "DeskFault", middleDeskGiven, flaws, func(t *testing.T, what string, g deskGiven, code int64) {
		t.Helper()
		// An Id or a Turn beyond is no flaw any more where Next or Turn is too great.
		if g.D.Turn == 7 && g.D.Next == 12 {
			wantDeskCode(t, what, g.S, g.D, code)
		}
		wantDeskCode(t, what+" by the document", g.S, g.D, plainDeskCode(g.S, g.D))
	})
	wantDeskCode(t, "nothing", impl.Shape{}, impl.Desk{}, impl.ErrRange)
	wantDeskCode(t, "no desk", middleShape(), impl.Desk{}, impl.ErrForm)
	for _, s := range wrongShapesOfAll() {
		wantDeskCode(t, "a wrong shape", s, middleDesk(), impl.ErrRange)
	}
}

func TestBeyondNumbersComeLast(t *testing.T) {
	for _, last := range beyondNumbers() {
		d := middleDesk()
		last.make(&d)
		wantDeskCode(t, last.name, middleShape(), d, impl.ErrRange)
		d.Answers[2].Bytes = make([]byte, 37)
		wantDeskCode(t, last.name+", and too many Bytes", middleShape(), d, impl.ErrMany)
		d.Aside[1].Id = 6
		wantDeskCode(t, last.name+", and an Id taken", middleShape(), d, impl.ErrTaken)
	}
}

// plainDeskCode goes through a desk as the document does.
func plainDeskCode(s impl.Shape, d impl.Desk) int64 {
	if code := impl.ShapeFault(s); code != impl.OK {
		return code
	}
	if len(d.Queues) != int(s.Groups+s.Column) {
		return impl.ErrForm
	}
	long := func(tickets []impl.Ticket) bool { return len(tickets) > int(s.Queue) }
	if slices.ContainsFunc(d.Queues, long) || len(d.Aside) > 20 || len(d.Answers) > 200 {
		return impl.ErrMany
	}
	waits := map[int64]int{}
	for group, tickets := range append(slices.Clone(d.Queues), d.Aside) {
		for _, ticket := range tickets {
			aside := group == len(d.Queues)
			if code := plainWaitingCode(s, d, ticket, aside || ticket.Group == int64(group), waits); code != impl.OK {
				return code
			}
			waits[ticket.Id]++
		}
	}
	for _, a := range d.Answers {
		switch {
		case a.Id < 1, a.Id >= d.Next, a.Code < 0, a.Code > 12, a.Turn < 0, a.Turn > d.Turn:
			return impl.ErrRange
		case len(a.Bytes) > 36:
			return impl.ErrMany
		case waits[a.Id] > 0:
			return impl.ErrTaken
		}
		waits[a.Id]++
	}
	if d.Turn < 0 || d.Turn > 1000000000 || d.Next < 1 || d.Next > 1000000000 {
		return impl.ErrRange
	}
	return impl.OK
}

func plainWaitingCode(s impl.Shape, d impl.Desk, ticket impl.Ticket, right bool, ahead map[int64]int) int64 {
	code := plainTicketCode(s, ticket)
	switch {
	case code != impl.OK:
		return code
	case ticket.Id >= d.Next:
		return impl.ErrRange
	case !right:
		return impl.ErrForm
	}
	return okOr(impl.ErrTaken, ahead[ticket.Id] == 0)
}

// fullDesk has all that a desk of the shape may have.
func fullDesk(s impl.Shape) impl.Desk {
	d := impl.Desk{Turn: 4, Next: 1}
	take := func(count int64) int64 {
		d.Next += count
		return d.Next - count
	}
	for group := range s.Groups + s.Column {
		d.Queues = append(d.Queues, ticketsOf(s.Queue, take(s.Queue), group))
	}
	for i := range int64(20) {
		d.Aside = append(d.Aside, rebuildOf(take(1), i%(s.Groups+s.Column)))
	}
	d.Answers = answersOf(200, take(200))
	return d
}

func TestFullDesks(t *testing.T) {
	for _, s := range append(groupShapes(), leastShape(), greatestShape()) {
		full := func() impl.Desk { return fullDesk(s) }
		wantDeskCode(t, "full", s, full(), impl.OK)
		for group := range s.Groups + s.Column {
			d := full()
			d.Queues[group] = append(d.Queues[group], rebuildOf(d.Next, group))
			d.Next++
			wantDeskCode(t, "a queue beyond", s, d, impl.ErrMany)
			d.Queues[group] = d.Queues[group][1:]
			wantDeskCode(t, "a queue that is full", s, d, impl.OK)
		}
		d := full()
		d.Aside = append(d.Aside, rebuildOf(d.Next, 0))
		d.Next++
		wantDeskCode(t, "Aside beyond", s, d, impl.ErrMany)
		d = full()
		d.Answers = append(d.Answers, impl.Answer{Id: d.Next})
		d.Next++
		wantDeskCode(t, "Answers beyond", s, d, impl.ErrMany)
	}
}

func TestEdgesOfAnswers(t *testing.T) {
	one := func(change func(d *impl.Desk, a *impl.Answer), code int64) {
		t.Helper()
		d := middleDesk()
		change(&d, &d.Answers[1])
		wantDeskCode(t, fmt.Sprintf("%+v", d.Answers[1]), middleShape(), d, code)
	}
	for id, code := range map[int64]int64{0: impl.ErrRange, -1: impl.ErrRange, 1: 0, 7: 0, 10: 0, 12: impl.ErrRange, 13: impl.ErrRange, 11: impl.ErrTaken} {
		one(func(d *impl.Desk, a *impl.Answer) { a.Id = id }, code)
	}
	one(func(d *impl.Desk, a *impl.Answer) { a.Id, d.Next = 12, 13 }, impl.OK)
	for code := int64(-2); code <= 15; code++ {
		one(func(d *impl.Desk, a *impl.Answer) { a.Code = code }, okOr(impl.ErrRange, code >= 0 && code <= 12))
	}
	for turn := int64(-2); turn <= 9; turn++ {
		one(func(d *impl.Desk, a *impl.Answer) { a.Turn = turn }, okOr(impl.ErrRange, turn >= 0 && turn <= 7))
	}
	for length := range 40 {
		one(func(d *impl.Desk, a *impl.Answer) { a.Bytes = make([]byte, length) }, okOr(impl.ErrMany, length <= 36))
	}
}

// An answer that has a code may have bytes, too.
func TestAnswersWithCodeAndBytes(t *testing.T) {
	for code := range int64(13) {
		d := middleDesk()
		d.Answers[0].Code = code
		wantDeskCode(t, fmt.Sprint("code ", code), middleShape(), d, impl.OK)
	}
}

func TestEdgesOfTurnAndNext(t *testing.T) {
	s := middleShape()
	numbers := []int64{math.MinInt64, math.MinInt64 + 1, -1 << 32, -1, 0, 1, 2, 999999999, 1000000000, 1000000001, 1<<32 + 1, math.MaxInt64 - 1, math.MaxInt64}
	for _, turn := range numbers {
		for _, next := range numbers {
			d := impl.Desk{Queues: make([][]impl.Ticket, 3), Turn: turn, Next: next}
			fine := turn >= 0 && turn <= 1000000000 && next >= 1 && next <= 1000000000
			wantDeskCode(t, fmt.Sprint("turn ", turn, ", next ", next), s, d, okOr(impl.ErrRange, fine))
		}
	}
	for _, number := range numbers {
		d := middleDesk()
		d.Next = number
		wantDeskCode(t, fmt.Sprint("next ", number), s, d, okOr(impl.ErrRange, number >= 12 && number <= 1000000000))
		d = middleDesk()
		d.Turn = number
		wantDeskCode(t, fmt.Sprint("turn ", number), s, d, okOr(impl.ErrRange, number >= 7 && number <= 1000000000))
	}
}

// Where Turn or Next is below all bounds no ticket and no answer is within
// them, which is asked ahead of what else is wrong with these.
func TestNumbersBelowAll(t *testing.T) {
	s := middleShape()
	long := make([]byte, 37)
	for _, number := range []int64{math.MinInt64, math.MinInt64 + 1, -1 << 32, -2, -1} {
		for _, turn := range []int64{math.MinInt64, number, -1, 0, 1, math.MaxInt64} {
			d := impl.Desk{Queues: make([][]impl.Ticket, 3), Answers: []impl.Answer{{Id: 1, Turn: turn, Bytes: long}}, Turn: number, Next: 2}
			wantDeskCode(t, fmt.Sprint("turn ", number, ", answered at ", turn), s, d, impl.ErrRange)
		}
		for _, id := range []int64{math.MinInt64, number, 0, 1, 2, math.MaxInt64 - 1, math.MaxInt64} {
			d := impl.Desk{Queues: make([][]impl.Ticket, 3), Answers: []impl.Answer{{Id: id, Bytes: long}}, Next: number}
			wantDeskCode(t, fmt.Sprint("next ", number, ", answer ", id), s, d, impl.ErrRange)
		}
		d := impl.Desk{Queues: [][]impl.Ticket{{rebuildOf(1, 2)}, nil, nil}, Next: number}
		wantDeskCode(t, fmt.Sprint("next ", number, ", a ticket of another group"), s, d, impl.ErrRange)
	}
	// 1 less than the least int64 must not come out as the greatest one.
	d := impl.Desk{Queues: make([][]impl.Ticket, 3), Answers: []impl.Answer{{Id: 1}, {Id: 1}}, Next: math.MinInt64}
	wantDeskCode(t, "answers of no Next", s, d, impl.ErrRange)
}

func TestTicketsInOthersQueues(t *testing.T) {
	s := greatestShape()
	for at := range int64(6) {
		for group := range int64(6) {
			d := impl.NewDesk(s).Desk
			d.Next = 2
			d.Queues[at] = []impl.Ticket{rebuildOf(1, group)}
			wantDeskCode(t, fmt.Sprint(group, " in the queue of ", at), s, d, okOr(impl.ErrForm, at == group))
			d.Queues[at], d.Aside = nil, []impl.Ticket{rebuildOf(1, group)}
			wantDeskCode(t, fmt.Sprint(group, " Aside"), s, d, impl.OK)
		}
	}
}

func TestIdsTwice(t *testing.T) {
	s := greatestShape()
	desk := func() impl.Desk {
		d := impl.NewDesk(s).Desk
		d.Next = 3
		return d
	}
	first, second := rebuildOf(2, 0), readOf(2, "c", 3)
	for name, put := range map[string]func(d *impl.Desk){
		"in one queue":         func(d *impl.Desk) { d.Queues[0] = []impl.Ticket{first, first} },
		"in one, with another": func(d *impl.Desk) { d.Queues[0] = []impl.Ticket{first, rebuildOf(1, 0), first} },
		"in two queues":        func(d *impl.Desk) { d.Queues[0], d.Queues[3] = []impl.Ticket{first}, []impl.Ticket{second} },
		"in a queue and Aside": func(d *impl.Desk) { d.Queues[0], d.Aside = []impl.Ticket{first}, []impl.Ticket{second} },
		"Aside":                func(d *impl.Desk) { d.Aside = []impl.Ticket{first, rebuildOf(1, 5), second} },
		"waiting and answered": func(d *impl.Desk) { d.Queues[3], d.Answers = []impl.Ticket{second}, answersOf(2, 1) },
		"Aside and answered":   func(d *impl.Desk) { d.Aside, d.Answers = []impl.Ticket{first}, answersOf(2, 1) },
		"answered":             func(d *impl.Desk) { d.Answers = append(answersOf(2, 1), impl.Answer{Id: 1}) },
	} {
		d := desk()
		put(&d)
		wantDeskCode(t, name, s, d, impl.ErrTaken)
	}
}
