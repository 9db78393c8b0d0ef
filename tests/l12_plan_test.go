package tests

import (
	"fmt"
	"slices"
	"testing"

	"loop.example/g00089/impl"
)

// archiveRequest has all that a function of the archive may be given.
type archiveRequest struct {
	Archive                      impl.Archive
	Name                         string
	Bytes                        []byte
	Id, Group, Drive, Tape, Stop int64
}

// archiveReply is what any function of the archive answers.
type archiveReply struct {
	Code, Id int64
	Archive  impl.Archive
	Answer   impl.Answer
}

// keeper is such a function: with what it goes well, what may be wrong with
// that, and what it answers by the document at an archive without a fault.
type keeper struct {
	name  string
	call  func(q archiveRequest) archiveReply
	given func() archiveRequest
	flaws []flaw[archiveRequest]
	plain func(q archiveRequest) archiveReply
}

func archiveReplied(r impl.ArchiveResult) archiveReply {
	return archiveReply{Code: r.Code, Id: r.Id, Archive: r.Archive}
}

// inWorldOf and atDeskOf ask the world and the desk of an archive alone.
func inWorldOf(q archiveRequest) request {
	return request{World: q.Archive.World, Group: q.Group, Drive: q.Drive, Tape: q.Tape, Stop: q.Stop, Name: q.Name, Bytes: q.Bytes}
}

func atDeskOf(q archiveRequest) deskRequest {
	return deskRequest{Shape: q.Archive.World.Shape, Desk: q.Archive.Desk, Id: q.Id, Group: q.Group, Name: q.Name, Bytes: q.Bytes}
}

func shutDesk(s impl.Shape, d impl.Desk) impl.Desk {
	return plainShut(deskRequest{Shape: s, Desk: d}).Desk
}

// written is the archive when that is written in its world; nobody waits where
// power failed by it.
func written(q archiveRequest, told outcome) archiveReply {
	desk := q.Archive.Desk
	switch told.Code {
	case impl.OK:
	case impl.ErrDown:
		desk = shutDesk(q.Archive.World.Shape, desk)
	default:
		return archiveReply{Code: told.Code}
	}
	return archiveReply{Code: told.Code, Archive: impl.Archive{World: told.World, Desk: desk}}
}

func plainSubmitPut(q archiveRequest) archiveReply {
	if q.Archive.World.Down {
		return archiveReply{Code: impl.ErrDown}
	}
	return written(q, plainPut(inWorldOf(q)))
}

func plainSubmitDrop(q archiveRequest) archiveReply {
	if q.Archive.World.Down {
		return archiveReply{Code: impl.ErrDown}
	}
	return written(q, plainDropItem(inWorldOf(q)))
}

// plainSubmit gives the ticket a number and a place, and says nothing of its answer.
func plainSubmit(q archiveRequest, kind int64) archiveReply {
	if q.Archive.World.Down {
		return archiveReply{Code: impl.ErrDown}
	}
	r := atDeskOf(q)
	r.Kind = kind
	told := plainQueue(r)
	if told.Code != impl.OK {
		return archiveReply{Code: told.Code}
	}
	return archiveReply{Id: q.Archive.Desk.Next, Archive: impl.Archive{World: q.Archive.World, Desk: told.Desk}}
}

func plainSubmitRead(q archiveRequest) archiveReply {
	q.Group = homeOfName(q.Archive.World.Shape, q.Name)
	told := plainSubmit(q, impl.TicketRead)
	if told.Code != impl.OK {
		return told
	}
	newest := plainNewest(question{World: q.Archive.World, Name: q.Name})
	answer := deskRequest{Shape: q.Archive.World.Shape, Desk: told.Archive.Desk, Id: told.Id, Code: newest.Code}
	if newest.Code == impl.OK {
		answer.Bytes = newest.Recs[0].Data
	}
	if newest.Code != impl.OK || len(answer.Bytes) > 0 {
		told.Archive.Desk = plainAnswer(answer).Desk
	}
	return told
}

func plainSubmitRebuild(q archiveRequest) archiveReply {
	q.Name = ""
	return plainSubmit(q, impl.TicketRebuild)
}

func plainPollArchive(q archiveRequest) archiveReply {
	told := plainPoll(atDeskOf(q))
	return archiveReply{Code: told.Code, Answer: told.Answer}
}

func plainCancelArchive(q archiveRequest) archiveReply {
	told := plainCancel(atDeskOf(q))
	if told.Code != impl.OK {
		return archiveReply{Code: told.Code}
	}
	return archiveReply{Archive: impl.Archive{World: q.Archive.World, Desk: told.Desk}}
}

func plainWipeArchive(q archiveRequest) archiveReply {
	s := q.Archive.World.Shape
	if !isGroupIn(s, q.Group) || q.Drive < 0 || q.Drive >= s.Data+s.Spare {
		return archiveReply{Code: impl.ErrRange}
	}
	a := deepCopy(q.Archive, 0)
	a.World.Groups[q.Group][q.Drive] = plainDrive(s)
	a.World.Groups[q.Group][q.Drive].Wiped = true
	return archiveReply{Archive: a}
}

func plainWipeStaging(q archiveRequest) archiveReply {
	if q.Tape != 0 && q.Tape != 1 {
		return archiveReply{Code: impl.ErrRange}
	}
	a := deepCopy(q.Archive, 0)
	a.World.Tapes[q.Tape] = impl.Tape{Wiped: true}
	return archiveReply{Archive: a}
}

func plainCutArchive(q archiveRequest) archiveReply {
	return archiveReply{Archive: impl.Archive{World: withoutPower(q.Archive.World), Desk: shutDesk(q.Archive.World.Shape, q.Archive.Desk)}}
}

func plainOpenArchive(q archiveRequest) archiveReply {
	if q.Stop < -1 || q.Stop > 1000000000 {
		return archiveReply{Code: impl.ErrRange}
	}
	if !q.Archive.World.Down {
		return archiveReply{Code: impl.ErrForm}
	}
	a := deepCopy(q.Archive, 0)
	a.World.Down, a.World.Writes, a.World.Stop = false, 0, q.Stop
	return archiveReply{Archive: a}
}

// deskSince is how a desk stands from so many writes on.
type deskSince struct {
	writes int
	desk   impl.Desk
}

// turnPlan is what a turn writes, one raw write behind the other, and how the
// desk stands ahead of each.
type turnPlan struct {
	*plan
	group int64
	desk  impl.Desk
	since []deskSince
}

func (p *turnPlan) stand(d impl.Desk) {
	p.desk = d
	p.since = append(p.since, deskSince{len(p.steps), d})
}

// alone does one step of a turn, and tells the code that it ends with.
func (p *turnPlan) alone(step func()) int64 {
	step()
	code := p.code
	p.code = impl.OK
	return code
}

// The steps of a turn, as they are numbered for an order of them.
const (
	stepRepair = iota
	stepRedo
	stepDrop
	stepGive
	stepDestage
	stepTickets
	stepClean
)

func rightOrder() []int {
	return []int{stepRepair, stepRedo, stepDrop, stepGive, stepDestage, stepTickets, stepClean}
}

func (p *turnPlan) run(order []int) {
	steps := []func(){
		p.repair,
		func() { p.redoAll(p.group) },
		p.dropVoid,
		func() { p.give(p.group) },
		func() {
			if p.group < p.now.Shape.Groups {
				p.destage(p.group)
			}
		},
		p.tickets,
		p.clean,
	}
	ended := false
	for _, step := range order {
		if ended && step != stepClean {
			continue
		}
		code := p.alone(steps[step])
		ended = ended || step == stepRedo && code != impl.OK
	}
}

func (p *turnPlan) tickets() {
	var served []impl.Ticket
	for place, ticket := range p.desk.Queues[p.group] {
		if int64(place) < p.now.Shape.Batch {
			served = append(served, ticket)
		}
	}
	for _, ticket := range p.desk.Aside {
		if ticket.Group == p.group {
			served = append(served, ticket)
		}
	}
	for _, ticket := range served {
		p.serve(ticket)
	}
}

func (p *turnPlan) serve(ticket impl.Ticket) {
	told, waits := outcome{}, false
	if ticket.Kind == impl.TicketRead {
		told, waits = p.read(ticket.Name)
	} else {
		told.Code, waits = p.rebuildOrWait()
	}
	r := deskRequest{Shape: p.now.Shape, Desk: p.desk, Id: ticket.Id, Code: told.Code, Bytes: told.Bytes}
	if !waits {
		p.stand(plainAnswer(r).Desk)
	} else if aside := plainAside(r); aside.Code == impl.OK {
		p.stand(aside.Desk)
	}
}

func (p *turnPlan) read(name string) (told outcome, waits bool) {
	newest := plainNewest(question{World: p.now, Name: name})
	if newest.Code != impl.OK {
		return outcome{Code: newest.Code}, false
	}
	item := newest.Recs[0]
	if len(item.Data) > 0 || !isDeadIn(p.now, p.group) {
		return plainItemBytes(request{World: p.now, Name: name}), false
	}
	for _, row := range item.Rows {
		if len(plainOpen(p.now, p.group, row)) > 0 {
			continue
		}
		if code := p.alone(func() { p.begin(p.group, row) }); code != impl.OK {
			return outcome{Code: code}, false
		}
	}
	for _, row := range item.Rows {
		whole := plainWhole(request{World: p.now, Group: p.group, Row: row})
		waits = waits || whole.Code != impl.OK
		told.Bytes = append(told.Bytes, whole.Bytes...)
	}
	if !waits {
		told.Bytes = told.Bytes[:item.Length]
	}
	return told, waits
}

func (p *turnPlan) rebuildOrWait() (code int64, waits bool) {
	if len(wipedIn(p.now, p.group)) == 0 {
		return impl.OK, false
	}
	if code := p.alone(func() { p.beginAll(p.group) }); code != impl.OK {
		return code, false
	}
	q := request{World: p.now, Group: p.group}
	if len(plainNotReady(q).List) > 0 {
		return impl.OK, true
	}
	if code := rebuildCode(q); code != impl.OK {
		return code, false
	}
	p.rebuild(p.group)
	return impl.OK, false
}

func (p *turnPlan) reply() archiveReply {
	told := p.outcome()
	desk := p.desk
	if told.Code == impl.ErrDown {
		for _, since := range p.since {
			if int64(since.writes) <= told.World.Writes-p.start.Writes {
				desk = since.desk
			}
		}
		desk = shutDesk(p.start.Shape, desk)
	}
	return archiveReply{Code: told.Code, Archive: impl.Archive{World: told.World, Desk: desk}}
}

// turnedBy wants an archive that has power and a turn to come.
func turnedBy(a impl.Archive, order []int) *turnPlan {
	w, desk := deepCopy(a.World, 0), deepCopy(a.Desk, 0)
	group := desk.Turn % int64(len(w.Groups))
	desk.Turn++
	if !slices.Contains(w.On, group) {
		if int64(len(w.On)) == w.Shape.Cap {
			w.On = w.On[1:]
		}
		w.On = append(w.On, group)
	}
	p := &turnPlan{plan: planIn(w), group: group}
	p.stand(desk)
	p.run(order)
	return p
}

func plainTurn(q archiveRequest) archiveReply {
	switch {
	case q.Archive.World.Down:
		return archiveReply{Code: impl.ErrDown}
	case q.Archive.Desk.Turn == 1000000000:
		return archiveReply{Code: impl.ErrMany}
	}
	return turnedBy(q.Archive, rightOrder()).reply()
}

func putCall(q archiveRequest) archiveReply {
	return archiveReplied(impl.SubmitPut(q.Archive, q.Name, q.Bytes))
}
func dropCall(q archiveRequest) archiveReply {
	return archiveReplied(impl.SubmitDrop(q.Archive, q.Name))
}
func readCall(q archiveRequest) archiveReply {
	return archiveReplied(impl.SubmitRead(q.Archive, q.Name))
}
func rebuildCall(q archiveRequest) archiveReply {
	return archiveReplied(impl.SubmitRebuild(q.Archive, q.Group))
}
func pollArchiveCall(q archiveRequest) archiveReply {
	told := impl.PollArchive(q.Archive, q.Id)
	return archiveReply{Code: told.Code, Answer: told.Answer}
}
func cancelArchiveCall(q archiveRequest) archiveReply {
	return archiveReplied(impl.CancelArchive(q.Archive, q.Id))
}
func turnCall(q archiveRequest) archiveReply { return archiveReplied(impl.TurnArchive(q.Archive)) }
func wipeCall(q archiveRequest) archiveReply {
	return archiveReplied(impl.WipeArchive(q.Archive, q.Group, q.Drive))
}
func stagingCall(q archiveRequest) archiveReply {
	return archiveReplied(impl.WipeStaging(q.Archive, q.Tape))
}
func cutCall(q archiveRequest) archiveReply { return archiveReplied(impl.CutArchive(q.Archive)) }
func openCall(q archiveRequest) archiveReply {
	return archiveReplied(impl.OpenArchive(q.Archive, q.Stop))
}

func wantArchive(t *testing.T, what string, got, want archiveReply) {
	t.Helper()
	if !same(got, want) {
		t.Errorf("%s:\n got %+v\nwant %+v", what, got, want)
	}
}

func wantAllKeepers(t *testing.T, what string, all []keeper, q archiveRequest) {
	t.Helper()
	for _, k := range all {
		wantArchive(t, k.name+", "+what, k.call(q), k.plain(q))
	}
}

// namesAt are of objects whose home is the group, and that the tapes say something of.
func namesAt(w impl.World, group int64) []string {
	var names []string
	for _, r := range slices.Concat(w.Tapes[0].Recs, w.Tapes[1].Recs) {
		if r.Kind == impl.RecItem && homeOfName(w.Shape, r.Name) == group {
			names = append(names, r.Name)
		}
	}
	return names
}

// layLying lets some objects lie in rows of the group.
func layLying(q *sequence, w impl.World, group int64) {
	s := w.Shape
	for i := range q.pick(4) {
		rows := upTo(s.Rows)
		for place := range rows {
			other := q.pick(s.Rows)
			rows[place], rows[other] = rows[other], rows[place]
		}
		rows = rows[:1+q.pick(min(3, s.Rows))]
		length := int64(len(rows))*4*s.Data - q.pick(4*s.Data)
		name := anyTicketOf(q, s, 1, group).Name
		if name != "" {
			layAnywhere(q, w, rowsItem(30+i, name, length, rows...))
		}
	}
}

// anyWorldFor is one in which there is something to be done for the group.
func anyWorldFor(q *sequence, s impl.Shape) (w impl.World, group int64) {
	group = q.pick(s.Groups + s.Column)
	switch q.pick(5) {
	case 0:
		w = anyMachine(q, s)
	case 1:
		w = anyStaging(q, s)
		group = livingDataGroup(q, &w)
	default:
		w, group = anyBroken(q, s)
	}
	for range q.pick(3) {
		layAnywhere(q, w, anyShare(q, s))
	}
	layLying(q, w, group)
	if q.pick(12) == 0 {
		w = filledUp(w, max(200-int(q.pick(8)), len(w.Tapes[0].Recs)), max(200-int(q.pick(8)), len(w.Tapes[1].Recs)))
	}
	w.Stop = -1
	return w, group
}

// deskFor is one at which mostly there is asked for what the tapes know.
func deskFor(q *sequence, w impl.World, group int64) impl.Desk {
	d := anyDesk(q, w.Shape)
	for _, tickets := range append(slices.Clone(d.Queues), d.Aside) {
		for i, ticket := range tickets {
			if names := namesAt(w, ticket.Group); ticket.Kind == impl.TicketRead && len(names) > 0 && q.pick(4) > 0 {
				tickets[i].Name = names[q.pick(int64(len(names)))]
			}
		}
	}
	groups := int64(len(w.Groups))
	if d.Turn < 100 && q.pick(6) > 0 {
		d.Turn += (group - d.Turn%groups + groups) % groups
	}
	return d
}

func anyArchive(q *sequence, s impl.Shape) impl.Archive {
	s.Cap, s.Batch, s.Queue = 1+q.pick(6), 1+q.pick(4), 1+q.pick(6)
	w, group := anyWorldFor(q, s)
	return impl.Archive{World: w, Desk: deskFor(q, w, group)}
}

// anyArchiveRequest mostly asks for what may be had.
func anyArchiveRequest(q *sequence, a impl.Archive) archiveRequest {
	s := a.World.Shape
	r := archiveRequest{Archive: a, Name: anyName(q), Id: anyIdIn(q, a.Desk), Group: q.pick(s.Groups + s.Column), Drive: q.pick(s.Data + s.Spare), Tape: q.pick(2)}
	r.Bytes = q.list(1 + int(q.pick(12*s.Data)))
	r.Stop = q.pick(20) - 1
	if names := namesAt(a.World, q.pick(s.Groups)); len(names) > 0 {
		r.Name = names[q.pick(int64(len(names)))]
	}
	switch q.pick(12) {
	case 0:
		r.Name = []string{"", "A", "none", "ninebytes"}[q.pick(4)]
	case 1:
		r.Group, r.Drive = q.pick(9)-1, q.pick(7)-1
	case 2:
		r.Tape, r.Stop = q.pick(4)-1, []int64{-2, 1000000000, 1000000001}[q.pick(3)]
	case 3:
		r.Bytes = q.list(int(q.pick(2)) * 40)
	}
	return r
}

func eachArchive(seed uint64, rounds int, check func(what string, q *sequence, r archiveRequest)) {
	for i, s := range sharesShapes() {
		q := &sequence{state: seed + uint64(i)}
		for round := range rounds {
			check(fmt.Sprint("shape ", i, ", archive ", round), q, anyArchiveRequest(q, anyArchive(q, s)))
		}
	}
}
