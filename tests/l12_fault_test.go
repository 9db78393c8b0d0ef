package tests

import (
	"fmt"
	"slices"
	"testing"

	"loop.example/g00089/impl"
)

// What an archive may have wrong comes ahead of what else is asked: its world,
// then its desk, then tickets that wait without power.
const (
	rankArchiveDesk = rankBehindWorld
	rankArchiveWait = rankArchiveDesk + rankBehindDesk + iota - 1
	rankArchiveDown
	rankArchiveAsked
)

// middleArchive has the turn of the group 1, which is on.
func middleArchive() impl.Archive {
	return impl.Archive{World: mixedWorld(middleShape(), 1), Desk: middleDesk()}
}

func nobodyWaits(d *impl.Desk) {
	d.Queues, d.Aside = make([][]impl.Ticket, 3), nil
}

func powerless(a *impl.Archive) {
	a.World.Down, a.World.On = true, nil
}

func archiveWorld(a *impl.Archive) *impl.World { return &a.World }

// archiveDesk brings back what flaws that are asked later took from the desk.
func archiveDesk(a *impl.Archive) *impl.Desk {
	a.Desk = middleDesk()
	return &a.Desk
}

// waitFlaws let one ticket wait, and no other, where there is no power.
func waitFlaws() []flaw[impl.Archive] {
	var flaws []flaw[impl.Archive]
	for group := range int64(4) {
		flaws = append(flaws, flaw[impl.Archive]{"a ticket waits without power", rankArchiveWait, impl.ErrForm, func(a *impl.Archive) {
			powerless(a)
			a.Desk = middleDesk()
			nobodyWaits(&a.Desk)
			if group == 3 {
				a.Desk.Aside = []impl.Ticket{rebuildOf(4, 0)}
			} else {
				a.Desk.Queues[group] = []impl.Ticket{rebuildOf(3, group)}
			}
		}})
	}
	return flaws
}

func archiveFlaws(world []flaw[impl.World], desk []flaw[impl.Desk]) []flaw[impl.Archive] {
	return slices.Concat(lifted(world, 0, archiveWorld), lifted(desk, rankArchiveDesk, archiveDesk), waitFlaws())
}

func wantArchiveCode(t *testing.T, what string, a impl.Archive, code int64) {
	t.Helper()
	if got := impl.ArchiveFault(a); got != code {
		t.Errorf("%s: code %d, want %d", what, got, code)
	}
}

func TestArchiveFaultsAndTheirOrder(t *testing.T) {
	wantFlaws(t, "ArchiveFault", middleArchive, archiveFlaws(fewWorldFlaws(), fewDeskFlaws()), wantArchiveCode)
	for _, f := range archiveFlaws(worldFlaws(), countFlaws()) {
		a := middleArchive()
		f.make(&a)
		wantArchiveCode(t, f.name, a, f.code)
	}
	wantArchiveCode(t, "nothing", impl.Archive{}, impl.ErrRange)
	wantArchiveCode(t, "no world", impl.Archive{Desk: middleDesk()}, impl.ErrRange)
	wantArchiveCode(t, "no desk", impl.Archive{World: mixedWorld(middleShape())}, impl.ErrForm)
}

// A desk is held against the shape of its world, whatever else it might be of.
func TestDeskOfAnotherShape(t *testing.T) {
	for _, s := range groupShapes() {
		for _, other := range groupShapes() {
			a := impl.Archive{World: plainWorld(s), Desk: impl.NewDesk(other).Desk}
			wantArchiveCode(t, fmt.Sprint(s, other), a, okOr(impl.ErrForm, s.Groups+s.Column == other.Groups+other.Column))
		}
	}
	a := middleArchive()
	a.World.Shape.Queue = 1
	wantArchiveCode(t, "a shorter queue", a, impl.ErrMany)
}

// Without power no ticket may wait; with power any may.
func TestWhoWaitsWithoutPower(t *testing.T) {
	for _, s := range deskShapes() {
		for _, down := range []bool{false, true} {
			bare := impl.NewArchive(s).Archive
			bare.World.Down, bare.Desk.Next = down, 9
			bare.Desk.Answers = answersOf(3, 1)
			wantArchiveCode(t, "none waits", bare, impl.OK)
			for group := range s.Groups + s.Column {
				a := deepCopy(bare, 0)
				a.Desk.Queues[group] = []impl.Ticket{rebuildOf(7, group)}
				wantArchiveCode(t, fmt.Sprint("one waits in the queue ", group), a, okOr(impl.ErrForm, !down))
				a = deepCopy(bare, 0)
				a.Desk.Aside = []impl.Ticket{rebuildOf(7, group)}
				wantArchiveCode(t, "one waits Aside", a, okOr(impl.ErrForm, !down))
			}
		}
	}
}

func TestNewArchives(t *testing.T) {
	check := func(s impl.Shape) {
		want := impl.ArchiveResult{Archive: impl.Archive{World: plainWorld(s), Desk: impl.Desk{Queues: make([][]impl.Ticket, s.Groups+s.Column), Next: 1}}}
		got := impl.NewArchive(s)
		if !same(got, want) {
			t.Errorf("%v: %+v, want %+v", s, got, want)
		}
		wantArchiveCode(t, fmt.Sprint(s), got.Archive, impl.OK)
		wantNew(t, fmt.Sprint(s), func() impl.ArchiveResult { return impl.NewArchive(s) })
	}
	eachExtreme(check)
	for _, s := range append(deskShapes(), sharesShapes()...) {
		check(s)
	}
	for _, s := range append(wrongShapesOfAll(), impl.Shape{}) {
		if got := impl.NewArchive(s); !same(got, impl.ArchiveResult{Code: impl.ErrRange}) {
			t.Errorf("%v: %+v", s, got)
		}
	}
}

// faultyArchives are asked first by all, powerlessArchive then by those that
// want power.
func faultyArchives() []flaw[archiveRequest] {
	return lifted(archiveFlaws(fewWorldFlaws(), fewDeskFlaws()), 0, func(q *archiveRequest) *impl.Archive { return &q.Archive })
}

func powerlessArchive() flaw[archiveRequest] {
	return flaw[archiveRequest]{"no power", rankArchiveDown, impl.ErrDown, func(q *archiveRequest) {
		powerless(&q.Archive)
		nobodyWaits(&q.Archive.Desk)
	}}
}

// inItsWorld are flaws of a call in a world as flaws of a call at an archive,
// in their order behind what is asked of that.
func inItsWorld(flaws ...[]flaw[request]) []flaw[archiveRequest] {
	var all []flaw[archiveRequest]
	for _, f := range slices.Concat(flaws...) {
		all = append(all, flaw[archiveRequest]{f.name, rankArchiveAsked + f.rank, f.code, func(q *archiveRequest) {
			r := inWorldOf(*q)
			f.make(&r)
			q.Archive.World, q.Name, q.Bytes = r.World, r.Name, r.Bytes
			q.Group, q.Drive, q.Tape, q.Stop = r.Group, r.Drive, r.Tape, r.Stop
		}})
	}
	return all
}

func atItsDesk(flaws ...[]flaw[deskRequest]) []flaw[archiveRequest] {
	var all []flaw[archiveRequest]
	for _, f := range slices.Concat(flaws...) {
		all = append(all, flaw[archiveRequest]{f.name, rankArchiveAsked + f.rank, f.code, func(q *archiveRequest) {
			r := atDeskOf(*q)
			f.make(&r)
			q.Archive.Desk, q.Id, q.Name, q.Group = r.Desk, r.Id, r.Name, r.Group
		}})
	}
	return all
}

// middleRequest has an item "c" that waits on the tape 0, and in its name all
// that is wanted goes well.
func middleRequest() archiveRequest {
	q := archiveRequest{Archive: middleArchive(), Name: "c", Bytes: []byte{8, 7, 6}, Id: 3, Group: 1, Drive: 2, Tape: 1, Stop: 5}
	q.Archive.World.Tapes[0].Recs = append(q.Archive.World.Tapes[0].Recs, dataItem(2001, "c", []byte("nine char")))
	return q
}

// downArchive is one that may be opened.
func downArchive() archiveRequest {
	q := middleRequest()
	powerlessArchive().make(&q)
	return q
}

func fullQueue(group int64) flaw[archiveRequest] {
	return flaw[archiveRequest]{"a full queue", rankArchiveAsked + rankNoRoom, impl.ErrBusy, func(q *archiveRequest) {
		q.Archive.Desk.Queues[group] = append(q.Archive.Desk.Queues[group], rebuildOf(7, group))
	}}
}

func lastNext() flaw[archiveRequest] {
	return flaw[archiveRequest]{"the last Next", rankArchiveAsked + rankNoMore, impl.ErrMany, func(q *archiveRequest) { q.Archive.Desk.Next = 1000000000 }}
}

// submitters and turners want power.
func submitters() []keeper {
	busy := flaw[request]{"no room on the staging pair", rankOff, impl.ErrBusy, func(q *request) { q.World.Shape.Stage = 8 + int64(len(q.Bytes)) }}
	late := []flaw[request]{fullTape(rankFull), lastSeq(), powerFails(rankPower)}
	gone := flaw[request]{"a name that is deleted", rankBlock, impl.ErrNone, func(q *request) { q.Name = "a" }}
	open := append(faultyArchives(), powerlessArchive())
	groups := numberFlaws("group", rankArchiveAsked, impl.ErrRange, 0, 2, func(q *archiveRequest) *int64 { return &q.Group })
	return []keeper{
		{name: "SubmitPut", call: putCall, plain: plainSubmitPut, given: middleRequest,
			flaws: slices.Concat(open, inItsWorld(badNames(), badObjects(), []flaw[request]{busy}, late))},
		{name: "SubmitDrop", call: dropCall, plain: plainSubmitDrop, given: middleRequest,
			flaws: slices.Concat(open, inItsWorld(badNames(), []flaw[request]{gone}, late))},
		{name: "SubmitRead", call: readCall, plain: plainSubmitRead, given: middleRequest,
			flaws: slices.Concat(open, inItsWorld(badNames()), []flaw[archiveRequest]{fullQueue(1), lastNext()})},
		{name: "SubmitRebuild", call: rebuildCall, plain: plainSubmitRebuild, given: middleRequest,
			flaws: slices.Concat(open, groups, []flaw[archiveRequest]{fullQueue(1), lastNext()})},
	}
}

func turner() keeper {
	last := flaw[archiveRequest]{"the last Turn", rankArchiveAsked, impl.ErrMany, func(q *archiveRequest) { q.Archive.Desk.Turn = 1000000000 }}
	fails := inItsWorld([]flaw[request]{powerFails(rankPower)})
	return keeper{name: "TurnArchive", call: turnCall, plain: plainTurn, given: middleRequest,
		flaws: append(append(faultyArchives(), powerlessArchive(), last), fails...)}
}

// bearers go on without power.
func bearers() []keeper {
	faulty := faultyArchives()
	stops := numberFlaws("stop", rankPlace, impl.ErrRange, -1, impl.MaxSeq, func(q *request) *int64 { return &q.Stop })
	power := flaw[archiveRequest]{"there is power", rankArchiveAsked + rankFull, impl.ErrForm, func(q *archiveRequest) { q.Archive.World.Down = false }}
	return []keeper{
		{name: "PollArchive", call: pollArchiveCall, plain: plainPollArchive, given: func() archiveRequest {
			q := middleRequest()
			q.Id = 5
			return q
		}, flaws: slices.Concat(faulty, atItsDesk(ids("it waits", rankWaits, impl.ErrBusy, 6, 3, 9, 11, 2, 4), ids("there is none", rankWaits, impl.ErrNone, 7, 10, 12, 0, -1)))},
		{name: "CancelArchive", call: cancelArchiveCall, plain: plainCancelArchive, given: middleRequest, flaws: slices.Concat(faulty, atItsDesk(notWaiting(rankWaits)))},
		{name: "WipeArchive", call: wipeCall, plain: plainWipeArchive, given: middleRequest, flaws: slices.Concat(faulty, inItsWorld(badDrives()))},
		{name: "WipeStaging", call: stagingCall, plain: plainWipeStaging, given: middleRequest, flaws: slices.Concat(faulty, inItsWorld(badTapes()))},
		{name: "CutArchive", call: cutCall, plain: plainCutArchive, given: middleRequest, flaws: faulty},
		{name: "OpenArchive", call: openCall, plain: plainOpenArchive, given: downArchive, flaws: slices.Concat(faulty, inItsWorld(stops), []flaw[archiveRequest]{power})},
	}
}

func keepers() []keeper {
	return slices.Concat(submitters(), []keeper{turner()}, bearers())
}

func TestKeepersCodesAndTheirOrder(t *testing.T) {
	for _, k := range keepers() {
		wantFlaws(t, k.name, k.given, k.flaws, func(t *testing.T, what string, q archiveRequest, code int64) {
			t.Helper()
			want := archiveReply{Code: code}
			if impl.ArchiveFault(q.Archive) == impl.OK {
				want = k.plain(q)
			}
			if want.Code != code {
				t.Errorf("%s: by the document %d, want %d", what, want.Code, code)
			}
			wantArchive(t, what, k.call(q), want)
		})
		wantArchive(t, k.name+" of nothing", k.call(archiveRequest{}), archiveReply{Code: impl.ErrRange})
		wantArchive(t, k.name+" of no desk", k.call(archiveRequest{Archive: impl.Archive{World: plainWorld(middleShape())}}), archiveReply{Code: impl.ErrForm})
	}
}

// Which of them tell ErrDown at an archive without power, and which go on.
func TestKeepersWithoutPower(t *testing.T) {
	q := downArchive()
	q.Id = 5
	codes := map[string]int64{"SubmitPut": impl.ErrDown, "SubmitDrop": impl.ErrDown, "SubmitRead": impl.ErrDown, "SubmitRebuild": impl.ErrDown,
		"TurnArchive": impl.ErrDown, "CancelArchive": impl.ErrNone}
	for _, k := range keepers() {
		got := k.call(q)
		if got.Code != codes[k.name] {
			t.Errorf("%s: code %d, want %d", k.name, got.Code, codes[k.name])
		}
		if got.Code != impl.OK {
			wantArchive(t, k.name, got, archiveReply{Code: got.Code})
		}
		wantArchive(t, k.name, got, k.plain(q))
	}
	// What is wrong with what is asked is not asked without power.
	q.Name, q.Bytes, q.Group, q.Archive.Desk.Turn = "", nil, 9, 1000000000
	for _, k := range append(submitters(), turner()) {
		wantArchive(t, k.name, k.call(q), archiveReply{Code: impl.ErrDown})
	}
}

func TestKeepersKeepTheirArguments(t *testing.T) {
	for _, k := range keepers() {
		for _, spoil := range append(k.flaws, flaw[archiveRequest]{name: "no flaw", make: func(q *archiveRequest) {}}) {
			q := k.given()
			spoil.make(&q)
			q = deepCopy(q, 2)
			wantNew(t, k.name+": "+spoil.name, func() archiveReply { return k.call(q) }, q)
		}
	}
	for _, f := range archiveFlaws(worldFlaws(), countFlaws()) {
		a := middleArchive()
		f.make(&a)
		a = deepCopy(a, 2)
		wantNew(t, "ArchiveFault: "+f.name, func() int64 { return impl.ArchiveFault(a) }, a)
	}
}

// Lists that share memory in an archive share none in what is told.
func TestArchivesAreParted(t *testing.T) {
	s := middleShape()
	s.Batch, s.Queue = 4, 6
	list := []byte{1, 2, 3, 4, 5, 6, 7, 8}
	rows := []int64{0, 1, 2}
	block := impl.Block{Bytes: list[:4]}
	drive := impl.Drive{Blocks: []impl.Block{block, block, block}}
	drives := []impl.Drive{drive, drive, {Wiped: true, Blocks: drive.Blocks}}
	dead := []impl.Drive{drive, drives[2], drives[2]}
	recs := []impl.Rec{dataItem(1, "a", list), rowsItem(2, "b", 16, rows[:2]...), {Kind: impl.RecMove, Seq: 3, Group: 1, Row: 2, Data: list, Delta: list},
		shareOf(s, 4, 0, 0, 1, 2), {Kind: impl.RecShare, Seq: 5, Group: 0, Row: 1, Data: list, Delta: []byte{0, 1, 1}}}
	tickets := []impl.Ticket{readOf(1, "b", 0), readOf(2, "b", 0), rebuildOf(3, 1), readOf(4, "a", 1)}
	for turn := range int64(3) {
		a := impl.Archive{
			World: impl.World{Shape: s, Groups: [][]impl.Drive{dead, drives, drives}, On: rows[:2], Tapes: []impl.Tape{{Recs: recs}, {Recs: recs}}, Stop: -1},
			Desk:  impl.Desk{Queues: [][]impl.Ticket{tickets[:1], tickets[2:], nil}, Aside: tickets[1:2], Answers: []impl.Answer{{Id: 5, Bytes: list}, {Id: 6, Bytes: list[:3]}}, Turn: turn, Next: 9},
		}
		wantArchiveCode(t, "shared", a, impl.OK)
		before := deepCopy(a, 0)
		for _, k := range keepers() {
			for _, name := range []string{"a", "b", "c"} {
				q := archiveRequest{Archive: a, Name: name, Bytes: list[2:6], Id: 5, Group: 1}
				wantNew(t, k.name, func() archiveReply { return k.call(q) })
				wantArchive(t, k.name, k.call(q), k.plain(q))
			}
		}
		if !same(a, before) {
			t.Error("an archive was written to")
		}
	}
}
