package tests

import (
	"fmt"
	"slices"
	"sync"
	"testing"

	"loop.example/g00089/impl"
)

// auditRequest has all that a function of the audit may be given; ReadBound is
// given the shape of the archive's world alone.
type auditRequest struct {
	Archive      impl.Archive
	Name         string
	Turns, Place int64
}

// auditReply is what any function of the audit answers.
type auditReply struct {
	Code, Turns, Value int64
	Groups, Rows       []int64
	Tapes, Quiet       bool
	Archive            impl.Archive
}

// auditing is such a function: with what it goes well, what may be wrong with
// that, and what it answers by the document at an archive without a fault.
type auditing struct {
	name  string
	call  func(q auditRequest) auditReply
	given func() auditRequest
	flaws []flaw[auditRequest]
	plain func(q auditRequest) auditReply
}

func plainAudit(q auditRequest) auditReply {
	w := q.Archive.World
	told := auditReply{}
	for group := range w.Shape.Groups + w.Shape.Column {
		undone := plainUndone(question{World: w, Group: group}).Recs
		if !isDeadIn(w, group) && len(undone) == 0 && plainGroupHolds(request{World: w, Group: group}).Value == 0 {
			told.Groups = append(told.Groups, group)
		}
	}
	for row := range w.Shape.Rows {
		lost := false
		for group := range w.Shape.Groups + w.Shape.Column {
			lost = lost || plainTrueRow(request{World: w, Group: group, Row: row}).Code != impl.OK
		}
		if !lost && plainTrueColumn(request{World: w, Row: row}).Value == 0 {
			told.Rows = append(told.Rows, row)
		}
	}
	told.Tapes = len(plainMissing(question{World: w, Tape: 0}).Recs)+len(plainMissing(question{World: w, Tape: 1}).Recs) == 0
	return told
}

func isQuietIn(a impl.Archive) bool {
	s := a.World.Shape
	if a.World.Down || len(flat(idsIn(a.Desk))) > 0 {
		return false
	}
	counted := plainCounted(a.World)
	for i, r := range counted {
		if (r.Kind == impl.RecMove || r.Kind == impl.RecShare) && !isSpentBy(s, counted, i) {
			return false
		}
	}
	for group := range s.Groups {
		if plainNextDestage(request{World: a.World, Group: group}).Code == impl.OK && !isDeadIn(a.World, group) {
			return false
		}
	}
	return true
}

func plainQuiet(q auditRequest) auditReply {
	return auditReply{Quiet: isQuietIn(q.Archive)}
}

func plainSettle(q auditRequest) auditReply {
	switch {
	case q.Archive.World.Down:
		return auditReply{Code: impl.ErrDown}
	case q.Turns < 0 || q.Turns > 400:
		return auditReply{Code: impl.ErrRange}
	}
	told := auditReply{Archive: q.Archive}
	for !isQuietIn(told.Archive) {
		if told.Turns == q.Turns {
			return told
		}
		turned := plainTurn(archiveRequest{Archive: told.Archive})
		if turned.Code != impl.OK {
			return auditReply{Code: turned.Code, Archive: turned.Archive}
		}
		told.Turns, told.Archive = told.Turns+1, turned.Archive
	}
	told.Quiet = true
	return told
}

func plainReadBound(q auditRequest) auditReply {
	s := q.Archive.World.Shape
	if q.Place < 0 || q.Place >= s.Queue {
		return auditReply{Code: impl.ErrRange}
	}
	rounds := int64(1)
	for ahead := q.Place; ahead >= s.Batch; ahead -= s.Batch {
		rounds++
	}
	return auditReply{Value: rounds * (s.Groups + s.Column)}
}

func plainDrain(q auditRequest) auditReply {
	w := q.Archive.World
	told := auditReply{Value: 2 * (w.Shape.Groups + w.Shape.Column)}
	for _, item := range plainItems(question{World: w}).Recs {
		if len(item.Data) > 0 {
			told.Value += 2 * (w.Shape.Groups + w.Shape.Column)
		}
	}
	return told
}

func plainWaitingFor(q auditRequest) auditReply {
	s := q.Archive.World.Shape
	if code := impl.NameFault(q.Name); code != impl.OK {
		return auditReply{Code: code}
	}
	n := int64(1)
	for (q.Archive.Desk.Turn+n-1)%(s.Groups+s.Column) != homeOfName(s, q.Name) {
		n++
	}
	return auditReply{Value: n}
}

func auditCall(q auditRequest) auditReply {
	told := impl.AuditOf(q.Archive)
	return auditReply{Code: told.Code, Groups: told.Groups, Rows: told.Rows, Tapes: told.Tapes}
}
func quietCall(q auditRequest) auditReply {
	return auditReply{Quiet: impl.QuietArchive(q.Archive)}
}
func settleCall(q auditRequest) auditReply {
	told := impl.SettleArchive(q.Archive, q.Turns)
	return auditReply{Code: told.Code, Turns: told.Turns, Quiet: told.Quiet, Archive: told.Archive}
}
func readBoundCall(q auditRequest) auditReply {
	return valueReply(impl.ReadBound(q.Archive.World.Shape, q.Place))
}
func drainCall(q auditRequest) auditReply { return valueReply(impl.DrainBound(q.Archive)) }
func waitingForCall(q auditRequest) auditReply {
	return valueReply(impl.WaitingFor(q.Archive, q.Name))
}

func valueReply(told impl.IntResult) auditReply {
	return auditReply{Code: told.Code, Value: told.Value}
}

// auditGiven has something that waits, moves that are undone, and tapes that
// are unlike.
func auditGiven() auditRequest {
	return auditRequest{Archive: middleRequest().Archive, Name: "c", Turns: 3, Place: 1}
}

func faultyAudits() []flaw[auditRequest] {
	return lifted(archiveFlaws(fewWorldFlaws(), fewDeskFlaws()), 0, func(q *auditRequest) *impl.Archive { return &q.Archive })
}

func auditPower(name string, rank int, make func(q *archiveRequest)) flaw[auditRequest] {
	return flaw[auditRequest]{name, rank, impl.ErrDown, func(q *auditRequest) {
		r := archiveRequest{Archive: q.Archive}
		make(&r)
		q.Archive = r.Archive
	}}
}

func auditNames() []flaw[auditRequest] {
	var flaws []flaw[auditRequest]
	for _, name := range []string{"", "A", "1a", "a-b", "a ", "ninebytes", "é", "a\x00", "\xff"} {
		flaws = append(flaws, flaw[auditRequest]{"name " + name, rankArchiveAsked, impl.ErrText, func(q *auditRequest) { q.Name = name }})
	}
	return flaws
}

// auditors are all but QuietArchive, which tells no code.
func auditors() []auditing {
	faulty := faultyAudits()
	turns := numberFlaws("turns", rankArchiveAsked, impl.ErrRange, 0, 400, func(q *auditRequest) *int64 { return &q.Turns })
	last := flaw[auditRequest]{"the last Turn", rankArchiveAsked + 1, impl.ErrMany, func(q *auditRequest) { q.Archive.Desk.Turn = 1000000000 }}
	off := auditPower("no power", rankArchiveDown, powerlessArchive().make)
	fails := auditPower("power fails", rankArchiveAsked+2, func(q *archiveRequest) { q.Archive.World.Stop = q.Archive.World.Writes })
	shapes := lifted(badShapes(), rankShape, func(q *auditRequest) *impl.Shape { return &q.Archive.World.Shape })
	places := numberFlaws("place", rankShape+1, impl.ErrRange, 0, 1, func(q *auditRequest) *int64 { return &q.Place })
	return []auditing{
		{name: "AuditOf", call: auditCall, given: auditGiven, plain: plainAudit, flaws: faulty},
		{name: "SettleArchive", call: settleCall, given: auditGiven, plain: plainSettle, flaws: slices.Concat(faulty, turns, []flaw[auditRequest]{off, last, fails})},
		{name: "ReadBound", call: readBoundCall, given: auditGiven, plain: plainReadBound, flaws: append(shapes, places...)},
		{name: "DrainBound", call: drainCall, given: auditGiven, plain: plainDrain, flaws: faulty},
		{name: "WaitingFor", call: waitingForCall, given: auditGiven, plain: plainWaitingFor, flaws: append(faulty, auditNames()...)},
	}
}

func quieting() auditing {
	return auditing{name: "QuietArchive", call: quietCall, given: auditGiven, plain: plainQuiet, flaws: faultyAudits()}
}

func wantAudit(t *testing.T, what string, got, want auditReply) {
	t.Helper()
	if !same(got, want) {
		t.Errorf("%s:\n got %+v\nwant %+v", what, got, want)
	}
}

func TestAuditConstants(t *testing.T) {
	if impl.MaxTurns != 400 {
		t.Error("MaxTurns is", impl.MaxTurns)
	}
}

func TestAuditCodesAndTheirOrder(t *testing.T) {
	for _, f := range auditors() {
		wantFlaws(t, f.name, f.given, f.flaws, func(t *testing.T, what string, q auditRequest, code int64) {
			t.Helper()
			want := auditReply{Code: code}
			if impl.ArchiveFault(q.Archive) == impl.OK {
				want = f.plain(q)
			}
			if want.Code != code {
				t.Errorf("%s: by the document %d, want %d", what, want.Code, code)
			}
			wantAudit(t, what, f.call(q), want)
		})
		wantAudit(t, f.name+" of nothing", f.call(auditRequest{}), auditReply{Code: impl.ErrRange})
	}
}

// Each fault of an archive is asked ahead of all else, and lets none be quiet.
func TestAuditsOfFaultyArchives(t *testing.T) {
	check := func(what string, a impl.Archive, code int64) {
		q := auditRequest{Archive: a, Name: "ninebytes", Turns: -1}
		for _, f := range auditors() {
			if f.name != "ReadBound" {
				wantAudit(t, f.name+", "+what, f.call(q), auditReply{Code: code})
			}
		}
		wantHolds(t, "QuietArchive, "+what, impl.QuietArchive(a), false)
	}
	quiet := impl.NewArchive(middleShape()).Archive
	wantHolds(t, "a new archive", impl.QuietArchive(quiet), true)
	for _, f := range archiveFlaws(worldFlaws(), countFlaws()) {
		a := middleArchive()
		f.make(&a)
		check(f.name, a, f.code)
	}
	for _, f := range worldFlaws() {
		a := impl.Archive{World: mixedWorld(middleShape(), 1), Desk: quiet.Desk}
		f.make(&a.World)
		check(f.name, a, f.code)
	}
	check("nothing", impl.Archive{}, impl.ErrRange)
	check("no desk", impl.Archive{World: plainWorld(middleShape())}, impl.ErrForm)
	check("no world", impl.Archive{Desk: quiet.Desk}, impl.ErrRange)
}

// Only SettleArchive tells ErrDown at an archive without power.
func TestAuditsWithoutPower(t *testing.T) {
	q := auditGiven()
	q.Archive = downArchive().Archive
	for _, f := range append(auditors(), quieting()) {
		got := f.call(q)
		if got.Code != okOr(impl.ErrDown, f.name != "SettleArchive") {
			t.Errorf("%s: code %d", f.name, got.Code)
		}
		wantAudit(t, f.name, got, f.plain(q))
	}
}

func TestAuditsKeepTheirArguments(t *testing.T) {
	for _, f := range append(auditors(), quieting()) {
		for _, spoil := range append(f.flaws, flaw[auditRequest]{name: "no flaw", make: func(q *auditRequest) {}}) {
			q := f.given()
			spoil.make(&q)
			q = deepCopy(q, 2)
			wantNew(t, f.name+": "+spoil.name, func() auditReply { return f.call(q) }, q)
		}
	}
}

// withoutUnfinished lacks the moves and shares that were not spent; by that
// others may be so no more.
func withoutUnfinished(w impl.World) impl.World {
	counted := plainCounted(w)
	told := deepCopy(w, 0)
	for i, r := range counted {
		if (r.Kind != impl.RecMove && r.Kind != impl.RecShare) || isSpentBy(w.Shape, counted, i) {
			continue
		}
		for tape := range told.Tapes {
			told.Tapes[tape].Recs = slices.DeleteFunc(told.Tapes[tape].Recs, func(other impl.Rec) bool { return same(other, r) })
		}
	}
	return told
}

// anyAudit asks of an archive in which mostly something is to be done, or of
// one that is nearly quiet.
func anyAudit(q *sequence, r archiveRequest) auditRequest {
	a := r.Archive
	switch q.pick(6) {
	case 0:
		a = impl.CutArchive(a).Archive
	case 1, 2:
		a.Desk = impl.Desk{Queues: make([][]impl.Ticket, len(a.World.Groups)), Turn: a.Desk.Turn, Next: a.Desk.Next}
	}
	if q.pick(4) == 0 {
		a.World = anyUnsettled(q, a.World.Shape)
	}
	if q.pick(2) == 0 {
		a.World = withoutUnfinished(a.World)
	}
	a.World.Stop = -1
	if q.pick(3) == 0 {
		a.World.Stop = a.World.Writes + q.pick(40)
	}
	return auditRequest{Archive: a, Name: r.Name, Turns: []int64{0, 1, 2, 3, 5, -1, 401}[q.pick(7)], Place: q.pick(8) - 1}
}

func TestManyAudits(t *testing.T) {
	met := map[string]int{}
	eachArchive(1510, 90, func(what string, q *sequence, r archiveRequest) {
		asked := anyAudit(q, r)
		wantArchiveCode(t, what, asked.Archive, impl.OK)
		for _, f := range append(auditors(), quieting()) {
			got := f.call(asked)
			wantAudit(t, f.name+", "+what, got, f.plain(asked))
			met[fmt.Sprint(f.name, " ", got.Code)]++
			met[fmt.Sprint(f.name, " groups ", len(got.Groups) > 0, ", rows ", len(got.Rows) > 0)]++
			met[fmt.Sprint(f.name, " tapes ", got.Tapes)]++
			met[fmt.Sprint(f.name, " quiet ", got.Quiet)]++
		}
	})
	wantMet(t, met, 10, "AuditOf 0", "AuditOf groups false, rows false", "AuditOf groups true, rows false", "AuditOf groups false, rows true", "AuditOf groups true, rows true", "AuditOf tapes true", "AuditOf tapes false",
		"SettleArchive 0", "SettleArchive 3", "SettleArchive 9", "SettleArchive quiet true", "SettleArchive quiet false", "QuietArchive quiet true", "QuietArchive quiet false",
		"ReadBound 0", "ReadBound 3", "DrainBound 0", "WaitingFor 0", "WaitingFor 5")
	wantMet(t, met, 3, "SettleArchive 2")
}

func TestManyAuditsKeepTheirArguments(t *testing.T) {
	eachArchive(1520, 15, func(what string, q *sequence, r archiveRequest) {
		asked := deepCopy(anyAudit(q, r), int(q.pick(3)))
		for _, f := range append(auditors(), quieting()) {
			wantNew(t, f.name+", "+what, func() auditReply { return f.call(asked) }, asked)
		}
	})
}

// One archive may be audited and settled from many sides at once.
func TestAuditsFromManySides(t *testing.T) {
	eachArchive(1530, 2, func(what string, q *sequence, r archiveRequest) {
		asked := auditRequest{Archive: r.Archive, Name: r.Name, Turns: 3}
		var sides sync.WaitGroup
		for _, f := range append(auditors(), quieting()) {
			want := f.plain(asked)
			for range 3 {
				sides.Add(1)
				go func() {
					defer sides.Done()
					wantAudit(t, f.name+", "+what, f.call(asked), want)
				}()
			}
		}
		sides.Wait()
	})
}
