package tests

import (
	"fmt"
	"slices"
	"strings"
	"testing"

	"loop.example/g00089/impl"
)

// wantFits wants all rows and columns to fit, and tapes that are alike behind
// a whole turn.
func wantFits(t *testing.T, what string, a impl.Archive, turned bool) {
	t.Helper()
	audit := impl.AuditOf(a)
	if audit.Code != impl.OK || len(audit.Groups) > 0 || len(audit.Rows) > 0 || turned && !audit.Tapes {
		t.Fatalf("%s: %+v\n%s", what, audit, impl.FormatArchive(a))
	}
}

// sayAndFit goes on by one line, and audits what that leaves.
func (w *scriptWalk) sayAndFit(t *testing.T, line string) impl.ScriptResult {
	t.Helper()
	told := w.say(t, line)
	wantFits(t, line, w.a, told.Code == impl.OK && strings.HasPrefix(line, "turn"))
	return told
}

// calmed is the archive with power that stays, and at whose desk nobody else asks.
func calmed(a impl.Archive) impl.Archive {
	return impl.OpenArchive(impl.CutArchive(a).Archive, -1).Archive
}

func waitingItems(w impl.World) []impl.Rec {
	return slices.DeleteFunc(impl.ItemsOf(w).Recs, func(item impl.Rec) bool { return len(item.Data) == 0 })
}

// canDrain is so where all groups live and each home has the rows for all that
// wait there.
func canDrain(w impl.World) bool {
	parts := make([]int64, w.Shape.Groups)
	for _, item := range waitingItems(w) {
		parts[homeOfName(w.Shape, item.Name)] += partsOf(w.Shape.Data, item.Length)
	}
	for group, needed := range parts {
		if int64(len(impl.FreeRows(w, int64(group)).List)) < needed {
			return false
		}
	}
	return len(impl.DeadGroups(w).Groups) == 0
}

// wantDrained wants all that waits to be destaged in time, if it can be.
func wantDrained(t *testing.T, what string, a impl.Archive, met map[string]int) {
	t.Helper()
	if !canDrain(a.World) {
		met["cannot drain"]++
		return
	}
	met[fmt.Sprint("drained ", min(len(waitingItems(a.World)), 2))]++
	left := turns(t, a, impl.DrainBound(a).Value)
	if waiting := waitingItems(left.World); len(waiting) > 0 {
		t.Fatalf("%s: there wait %+v", what, waiting)
	}
	wantFits(t, what, left, true)
}

// wantServed wants each ticket of a queue to have been served in time: it is
// answered, or set Aside where its group is dead. Fewer than 20 may be Aside.
func wantServed(t *testing.T, what string, a impl.Archive, met map[string]int) {
	t.Helper()
	s := a.World.Shape
	standing := len(flat(idsIn(a.Desk)))
	if standing >= 20 {
		met["many wait"]++
		return
	}
	left, made := a, int64(0)
	for place := range s.Queue {
		bound := impl.ReadBound(s, place).Value
		left, made = turns(t, left, bound-made), bound
		for group, tickets := range a.Desk.Queues {
			if place >= int64(len(tickets)) {
				continue
			}
			ticket := tickets[place]
			code := impl.PlaceOf(s, left.Desk, ticket.Id).Code
			lost := slices.Contains(impl.DeadGroups(a.World).Groups, int64(group))
			if code != impl.ErrNone && (code != impl.ErrTaken || !lost) {
				t.Fatalf("%s: the ticket %d of the group %d at the place %d is not served in %d turns: code %d", what, ticket.Id, group, place, bound, code)
			}
			met[fmt.Sprint("served ", code, ", place ", min(place, 1))]++
		}
	}
}

// wantItsTurn wants the home of a name to have its turn in just so many turns.
func wantItsTurn(t *testing.T, what string, a impl.Archive, name string) {
	t.Helper()
	s := a.World.Shape
	for left := impl.WaitingFor(a, name).Value; left > 0; left-- {
		if got := impl.WaitingFor(a, name).Value; got != left {
			t.Fatalf("%s: in %d turns, want %d", what, got, left)
		}
		mine := a.Desk.Turn%(s.Groups+s.Column) == homeOfName(s, name)
		if mine != (left == 1) {
			t.Fatalf("%s: %d turns left, and it is the turn %d", what, left, a.Desk.Turn)
		}
		a = turns(t, a, 1)
	}
	if !slices.Contains(a.World.On, homeOfName(s, name)) {
		t.Fatalf("%s: on are %v", what, a.World.On)
	}
}

// Rows and columns always fit, what waits is destaged and who waits is served
// within the turns that are told, whatever lines come.
func TestAuditWalks(t *testing.T) {
	met := map[string]int{}
	for i, s := range walkShapes() {
		for seed := range uint64(3) {
			w := newScriptWalk(s, 1640+10*uint64(i)+seed)
			w.met = met
			for step := range 400 {
				w.sayAndFit(t, w.line())
				w.look()
				what := fmt.Sprint("shape ", i, ", walk ", seed, ", step ", step)
				if step%3 == 0 {
					wantDrained(t, what, calmed(w.a), met)
				}
				if step%3 == 1 && !w.a.World.Down {
					calm := w.a
					calm.World.Stop = -1
					wantServed(t, what, calm, met)
					wantItsTurn(t, what, calm, w.name())
				}
			}
		}
	}
	wantMet(t, met, 10, "undone in data", "undone in parity", "undone in dead data", "undone in dead parity", "no power", "a wiped tape", "tapes that are unlike",
		"cannot drain", "drained 0", "drained 1", "drained 2", "served 4, place 0", "served 4, place 1", "served 7, place 0", "put 0", "put 9", "drop 0", "rebuild 0", "turn 0", "turn 9", "wipe 0", "tape 0", "cut 0", "open 0", "answer 0")
}

// auditCutBy lets power fail at each raw write of a line, and goes on behind
// openings at which power may fail again.
func (w *scriptWalk) auditCutBy(t *testing.T, line string) {
	t.Helper()
	bare := w.fork()
	bare.a.World.Stop = -1
	if told := bare.sayAndFit(t, line); told.Code != impl.OK {
		return
	}
	writes := bare.a.World.Writes - w.a.World.Writes
	w.met["writes of "+plainWords(line)[0]] += int(writes)
	for k := range writes {
		cut := w.fork()
		cut.q.state += uint64(k)
		cut.a.World.Stop = w.a.World.Writes + k
		if told := cut.sayAndFit(t, line); told.Code != impl.ErrDown {
			t.Fatalf("%q, stop %d: code %d", line, k, told.Code)
		}
		for range 4 {
			if cut.a.World.Down {
				cut.sayAndFit(t, cut.openLine())
			}
			cut.sayAndFit(t, cut.line())
		}
		if k%4 == 1 {
			wantDrained(t, fmt.Sprint(line, ", stop ", k), calmed(cut.a), w.met)
		}
	}
}

func TestAuditWalksCutAtEachWrite(t *testing.T) {
	met := map[string]int{}
	for i, s := range walkShapes() {
		w := newScriptWalk(s, 1570+uint64(i))
		w.met = met
		for step := range 200 {
			if line := w.line(); step%5 == 4 && !w.a.World.Down {
				w.auditCutBy(t, line)
			}
			w.sayAndFit(t, w.line())
		}
	}
	wantMet(t, met, 300, "writes of turn")
	wantMet(t, met, 10, "writes of put", "drained 0", "drained 1", "drained 2")
	wantMet(t, met, 4, "writes of drop")
}

// A whole script is audited wherever power fails in it, also in the midst of a
// rebuild by shares.
func TestADeadScriptFitsAtEachWrite(t *testing.T) {
	whole := impl.RunScript(exampleArchive(), "cut\nopen\n"+strings.Join(deadScript(), "\n"))
	for stop := range whole.Archive.World.Writes + 1 {
		w := newScriptWalk(exampleArchive().World.Shape, uint64(stop))
		w.sayAndFit(t, "cut")
		w.sayAndFit(t, spaced("open", stop))
		for _, line := range deadScript() {
			if told := w.sayAndFit(t, line); told.Code == impl.ErrDown {
				w.sayAndFit(t, "open")
				w.sayAndFit(t, line)
			}
		}
		// Whoever waited when power failed must ask again.
		w.sayAndFit(t, "rebuild 1")
		w.sayAndFit(t, "turn 12")
		if settled := impl.SettleArchive(w.a, 400); settled.Code != impl.OK || !settled.Quiet {
			t.Errorf("stop %d: code %d, quiet %v", stop, settled.Code, settled.Quiet)
		}
	}
}

// A home in which power failed in the midst of a move, and which then lost any
// drives, comes to rest when it is rebuilt, and fits all the while.
func TestAHomeThatDiesInAMove(t *testing.T) {
	met := map[string]int{}
	for _, s := range walkShapes()[1:] {
		w := newScriptWalk(s, 1)
		w.met = met
		w.say(t, "put b 0102030405")
		w.say(t, spaced("turn", 2*(s.Groups+s.Column)))
		w.say(t, "put a 060708090a0b0c0d0e0f1011121314")
		home := homeOfName(s, "a")
		w.say(t, spaced("turn", impl.WaitingFor(w.a, "a").Value-1))
		writes := turns(t, w.a, 1).World.Writes - w.a.World.Writes
		for k := range writes {
			for mask := range uint(1) << (s.Data + s.Spare) {
				if int64(len(placesOf(mask))) <= s.Spare || uint(k)%3 != mask%3 {
					continue
				}
				cut := w.fork()
				cut.a.World.Stop = w.a.World.Writes + k
				cut.sayAndFit(t, "turn 1")
				for _, drive := range placesOf(mask) {
					cut.sayAndFit(t, spaced("wipe", home, drive))
				}
				cut.look()
				for _, line := range []string{"open", "turn 1", spaced("rebuild", home)} {
					cut.sayAndFit(t, line)
				}
				for range 4 * (s.Groups + s.Column) {
					cut.sayAndFit(t, "turn 1")
				}
				wantList(t, "rebuilt", impl.WipedOf(cut.a.World, home), nil)
				wantHolds(t, "rebuilt, and at rest", impl.QuietArchive(cut.a), true)
			}
		}
	}
	wantMet(t, met, 50, "undone in dead data", "undone beside its dead group", "turn 9", "wipe 0")
}

// fullHomes has, for each home, as many objects as it has rows, each of one row.
func fullHomes(t *testing.T, s impl.Shape, turn int64) impl.Archive {
	t.Helper()
	a := impl.NewArchive(s).Archive
	a.Desk.Turn = turn
	stood := make([]int64, s.Groups)
	for number := range 40 {
		name := fmt.Sprint("x", number)
		if home := homeOfName(s, name); stood[home] < s.Rows {
			stood[home]++
			a = done(t, "put", impl.SubmitPut(a, name, []byte{byte(number)}))
		}
	}
	if !canDrain(a.World) || int64(len(waitingItems(a.World))) != s.Groups*s.Rows {
		t.Fatalf("%v: there wait %d", s, len(waitingItems(a.World)))
	}
	return a
}

// All homes get full within the turns that are told, whoever begins.
func TestFullHomesAreDrained(t *testing.T) {
	for _, s := range groupShapes() {
		for turn := range s.Groups + s.Column {
			a := fullHomes(t, s, turn)
			met := map[string]int{}
			wantDrained(t, fmt.Sprint(s, ", turn ", turn), a, met)
			wantMet(t, met, 1, fmt.Sprint("drained ", min(2, s.Groups*s.Rows)))
			settled := impl.SettleArchive(a, impl.DrainBound(a).Value)
			if settled.Code != impl.OK || !settled.Quiet {
				t.Errorf("%v, turn %d: code %d, quiet %v", s, turn, settled.Code, settled.Quiet)
			}
			// Each group destages one in its turn: no turn less would do.
			early := turns(t, a, (s.Rows-1)*(s.Groups+s.Column))
			if len(waitingItems(early.World)) == 0 {
				t.Errorf("%v, turn %d: all is destaged too early", s, turn)
			}
		}
	}
}

// standInLine has tickets in all places of the queue of one group, whose turn
// has just gone.
func standInLine(t *testing.T, s impl.Shape, group int64) impl.Archive {
	t.Helper()
	a := impl.NewArchive(s).Archive
	a.Desk.Turn = group + 1
	for range s.Queue {
		a = done(t, "rebuild", impl.SubmitRebuild(a, group))
	}
	return a
}

// Where the turn of the group has just gone a ticket is served by the last of
// the turns that are told, and not ahead of it.
func TestServedByTheLastTurn(t *testing.T) {
	for _, s := range groupShapes() {
		for s.Batch = 1; s.Batch <= 4; s.Batch++ {
			for group := range s.Groups + s.Column {
				a := standInLine(t, s, group)
				for place, ticket := range a.Desk.Queues[group] {
					bound := impl.ReadBound(s, int64(place)).Value
					ahead := turns(t, a, bound-1)
					if impl.PollArchive(ahead, ticket.Id).Code != impl.ErrBusy {
						t.Errorf("%v, group %d, place %d: served ahead of %d turns", s, group, place, bound)
					}
					told := impl.PollArchive(turns(t, ahead, 1), ticket.Id)
					if told.Code != impl.OK || told.Answer.Turn != group+1+bound {
						t.Errorf("%v, group %d, place %d: %+v in %d turns", s, group, place, told, bound)
					}
				}
			}
		}
	}
}

// Reads of objects that lie are answered with their bytes in the turns that
// are told; those of a dead home are set Aside by then.
func TestReadsAreAnsweredInTime(t *testing.T) {
	for _, s := range walkShapes()[1:] {
		text := ""
		for i, name := range walkNames() {
			text += fmt.Sprintf("put %s %02x\n", name, i+1)
		}
		lying := impl.RunScript(impl.NewArchive(s).Archive, text+"turn 40\n").Archive
		for turn := range s.Groups + s.Column {
			a := turns(t, lying, turn)
			for _, name := range walkNames() {
				a, place := lineUp(t, a, name)
				bound := impl.ReadBound(s, place).Value
				id := a.Desk.Next - 1
				told := impl.PollArchive(turns(t, a, bound), id)
				want := []byte{byte(1 + slices.Index(walkNames(), name))}
				if told.Code != impl.OK || told.Answer.Code != impl.OK || !slices.Equal(told.Answer.Bytes, want) {
					t.Errorf("%v, %s: %+v", s, name, told)
				}
				home := homeOfName(s, name)
				for drive := range s.Spare + 1 {
					a = done(t, "wipe", impl.WipeArchive(a, home, drive))
				}
				if code := impl.PlaceOf(s, turns(t, a, bound).Desk, id).Code; code == impl.OK {
					t.Errorf("%v, %s of a dead home: not served", s, name)
				}
			}
		}
	}
}

// lineUp lets the read of a name wait behind as many others as may be.
func lineUp(t *testing.T, a impl.Archive, name string) (lined impl.Archive, place int64) {
	t.Helper()
	for place = 0; place < a.World.Shape.Queue; place++ {
		a = done(t, "read "+name, impl.SubmitRead(a, name))
	}
	return a, place - 1
}

// Where 20 are Aside a ticket that waits for shares stays where it is: the
// turns that are told speak of fewer.
func TestMoreAsideThanMayBe(t *testing.T) {
	told := impl.RunScript(exampleArchive(), "put a 01\nturn 7\nwipe 1 0\nwipe 1 1\nread a\n")
	for _, count := range []int64{0, 19, 20} {
		a := deepCopy(told.Archive, 0)
		a.Desk.Aside, a.Desk.Next = ticketsOf(count, 50, 0), 100
		a = turns(t, a, 1)
		wantInt(t, fmt.Sprint(count, " aside"), impl.PlaceOf(a.World.Shape, a.Desk, 1), impl.IntResult{Code: okOr(impl.ErrTaken, count == 20)})
	}
}
