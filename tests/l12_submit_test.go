package tests

import (
	"fmt"
	"math"
	"slices"
	"testing"

	"loop.example/g00089/impl"
)

func wantNoArchive(t *testing.T, what string, got impl.ArchiveResult, code int64) {
	t.Helper()
	if !same(got, impl.ArchiveResult{Code: code}) {
		t.Errorf("%s: %+v, want the code %d alone", what, got, code)
	}
}

// done wants a call without a code.
func done(t *testing.T, what string, got impl.ArchiveResult) impl.Archive {
	t.Helper()
	if got.Code != impl.OK {
		t.Fatalf("%s: code %d", what, got.Code)
	}
	return got.Archive
}

// turns makes so many turns.
func turns(t *testing.T, a impl.Archive, count int64) impl.Archive {
	t.Helper()
	for range count {
		a = done(t, "TurnArchive", impl.TurnArchive(a))
	}
	return a
}

// lyingArchive is one of middleShape in which "b" lies in a row of the group 0
// and "a" in one of the group 1, "c" was dropped, and "e" waits.
func lyingArchive(t *testing.T) impl.Archive {
	t.Helper()
	a := impl.NewArchive(middleShape()).Archive
	for _, name := range []string{"a", "b", "c"} {
		a = done(t, "put "+name, impl.SubmitPut(a, name, []byte(name+"-1")))
	}
	a = turns(t, done(t, "drop c", impl.SubmitDrop(a, "c")), 6)
	return done(t, "put e", impl.SubmitPut(a, "e", []byte("e-1")))
}

// What is put or dropped leaves the desk as it was, and gives no ticket.
func TestPutsAndDropsGiveNoTicket(t *testing.T) {
	for _, waits := range []bool{false, true} {
		a := lyingArchive(t)
		if waits {
			a.Desk = middleDesk()
		}
		for _, name := range []string{"a", "b", "c", "e", "f"} {
			list := []byte("new " + name)
			put := impl.SubmitPut(a, name, list)
			if put.Code != impl.OK || put.Id != 0 || !same(put.Archive.Desk, a.Desk) {
				t.Errorf("put %s: code %d, id %d, desk %+v", name, put.Code, put.Id, put.Archive.Desk)
			}
			wantWorld(t, "put "+name, impl.WorldResult{World: put.Archive.World}, impl.PutItem(a.World, name, list).World)
			drop := impl.SubmitDrop(a, name)
			if name == "c" || name == "f" {
				wantNoArchive(t, "drop "+name, drop, impl.ErrNone)
				continue
			}
			if drop.Code != impl.OK || drop.Id != 0 || !same(drop.Archive.Desk, a.Desk) {
				t.Errorf("drop %s: code %d, id %d, desk %+v", name, drop.Code, drop.Id, drop.Archive.Desk)
			}
			wantWorld(t, "drop "+name, impl.WorldResult{World: drop.Archive.World}, impl.DropItem(a.World, name).World)
		}
	}
}

func TestPutsAndDropsTellTheCodesOfTheWorld(t *testing.T) {
	a := lyingArchive(t)
	full := deepCopy(a, 0)
	full.World.Tapes[1].Recs = append(full.World.Tapes[1].Recs, plainRecs(200-len(full.World.Tapes[1].Recs))...)
	last := deepCopy(a, 0)
	last.World.Tapes[0].Recs = append(last.World.Tapes[0].Recs, doneOf(impl.MaxSeq, 0))
	for _, c := range []struct {
		what string
		a    impl.Archive
		name string
		list []byte
		code int64
	}{
		{"no name", a, "", []byte{1}, impl.ErrText}, {"a wrong name", a, "A", nil, impl.ErrText},
		{"no bytes", a, "a", nil, impl.ErrZero}, {"as many bytes as may be", a, "a", make([]byte, 24), impl.OK},
		{"too many bytes", a, "a", make([]byte, 25), impl.ErrMany}, {"many bytes", a, "a", make([]byte, 9000), impl.ErrMany},
		{"a full tape", full, "a", []byte{1}, impl.ErrMany}, {"no Seq left", last, "a", []byte{1}, impl.ErrMany},
	} {
		if told := impl.SubmitPut(c.a, c.name, c.list); c.code != impl.OK {
			wantNoArchive(t, c.what, told, c.code)
		} else if told.Code != impl.OK {
			t.Errorf("%s: code %d", c.what, told.Code)
		}
	}
	wantNoArchive(t, "drop on a full tape", impl.SubmitDrop(full, "a"), impl.ErrMany)
	wantNoArchive(t, "drop without a Seq", impl.SubmitDrop(last, "a"), impl.ErrMany)
	wantNoArchive(t, "drop of none on a full tape", impl.SubmitDrop(full, "c"), impl.ErrNone)
	wantNoArchive(t, "drop of no name", impl.SubmitDrop(full, "-"), impl.ErrText)
	for length := 1; length <= 24; length++ {
		room := deepCopy(a, 0)
		room.World.Shape.Stage = 3 + int64(length)
		done(t, "room on the staging pair", impl.SubmitPut(room, "f", make([]byte, length)))
		room.World.Shape.Stage--
		wantNoArchive(t, "no room on the staging pair", impl.SubmitPut(room, "f", make([]byte, length)), impl.ErrBusy)
	}
}

// readAtOnce wants a ticket of the number to be answered as soon as it is given.
func readAtOnce(t *testing.T, what string, a impl.Archive, name string, code int64, list []byte) impl.Archive {
	t.Helper()
	told := impl.SubmitRead(a, name)
	if told.Code != impl.OK || told.Id != a.Desk.Next || told.Archive.Desk.Next != a.Desk.Next+1 || !same(told.Archive.World, a.World) {
		t.Fatalf("%s: code %d, id %d, next %d", what, told.Code, told.Id, told.Archive.Desk.Next)
	}
	if !same(told.Archive.Desk.Queues, a.Desk.Queues) || !same(told.Archive.Desk.Aside, a.Desk.Aside) {
		t.Errorf("%s: something waits that did not: %+v", what, told.Archive.Desk)
	}
	wantPoll(t, what, impl.PollArchive(told.Archive, told.Id), impl.Answer{Id: told.Id, Code: code, Turn: a.Desk.Turn, Bytes: list})
	return told.Archive
}

// What waits on the tapes is answered at once, and so is what is not there;
// what lies in rows waits.
func TestReadsAnsweredAtOnce(t *testing.T) {
	a := lyingArchive(t)
	a = readAtOnce(t, "e, which waits", a, "e", impl.OK, []byte("e-1"))
	a = readAtOnce(t, "c, which was dropped", a, "c", impl.ErrNone, nil)
	a = readAtOnce(t, "f, which never was", a, "f", impl.ErrNone, nil)
	a = readAtOnce(t, "zz, which never was", a, "zz", impl.ErrNone, nil)
	for i, name := range []string{"a", "b"} {
		told := impl.SubmitRead(a, name)
		home := homeOfName(a.World.Shape, name)
		want := deepCopy(a, 0)
		want.Desk.Queues[home] = append(want.Desk.Queues[home], readOf(int64(5+i), name, home))
		want.Desk.Next++
		if !same(told, impl.ArchiveResult{Id: int64(5 + i), Archive: want}) {
			t.Errorf("%s: %+v, want %+v", name, told, want)
		}
		wantNoPoll(t, name, impl.PollArchive(told.Archive, told.Id), impl.ErrBusy)
		a = told.Archive
	}
	put := done(t, "put a", impl.SubmitPut(a, "a", []byte("a-2")))
	readAtOnce(t, "a, which was put again", put, "a", impl.OK, []byte("a-2"))
	readAtOnce(t, "a, which was dropped again", done(t, "drop a", impl.SubmitDrop(put, "a")), "a", impl.ErrNone, nil)
}

// A queue that is full refuses a read whatever there is of its name; with one
// place left in it none is refused.
func TestReadsAtFullQueues(t *testing.T) {
	a := lyingArchive(t)
	names := []string{"a", "e", "c", "g"}
	a = done(t, "put g", impl.SubmitPut(a, "g", []byte("g")))
	a = done(t, "drop g", impl.SubmitDrop(a, "g"))
	for _, count := range []int64{1, 2} {
		a.Desk.Queues[1], a.Desk.Next = ticketsOf(count, 1, 1), 9
		for _, name := range names {
			told := impl.SubmitRead(a, name)
			if count == 2 {
				wantNoArchive(t, name+" at a full queue", told, impl.ErrBusy)
			} else if told.Code != impl.OK || told.Id != 9 {
				t.Errorf("%s, one place left: code %d, id %d", name, told.Code, told.Id)
			}
		}
		if told := impl.SubmitRead(a, "b"); told.Code != impl.OK {
			t.Errorf("b, whose queue is empty: code %d", told.Code)
		}
		wantNoArchive(t, "no name at a full queue", impl.SubmitRead(a, "A"), impl.ErrText)
		wantNoArchive(t, "no name at all", impl.SubmitRead(a, ""), impl.ErrText)
	}
}

func TestTheLastIdsOfAnArchive(t *testing.T) {
	a := lyingArchive(t)
	a.Desk.Next = 999999999
	for _, name := range []string{"a", "b", "c", "e"} {
		told := impl.SubmitRead(a, name)
		if told.Code != impl.OK || told.Id != 999999999 || told.Archive.Desk.Next != 1000000000 {
			t.Errorf("%s: code %d, id %d", name, told.Code, told.Id)
		}
		wantNoArchive(t, name+", no Id left", impl.SubmitRead(told.Archive, name), impl.ErrMany)
	}
	for group := range int64(3) {
		told := impl.SubmitRebuild(a, group)
		if told.Code != impl.OK || told.Id != 999999999 || told.Archive.Desk.Queues[group][0] != rebuildOf(999999999, group) {
			t.Errorf("%d: %+v", group, told)
		}
		wantNoArchive(t, "no Id left", impl.SubmitRebuild(told.Archive, group), impl.ErrMany)
		told.Archive.Desk.Queues[group] = ticketsOf(2, 1, group)
		wantNoArchive(t, "no Id and no place left", impl.SubmitRebuild(told.Archive, group), impl.ErrBusy)
	}
}

// The answer that was given first makes room for one that is given at once.
func TestReadsAtFullAnswers(t *testing.T) {
	a := lyingArchive(t)
	a.Desk.Answers, a.Desk.Next = answersOf(200, 1), 201
	told := readAtOnce(t, "e", a, "e", impl.OK, []byte("e-1"))
	wantNoPoll(t, "the first one", impl.PollArchive(told, 1), impl.ErrNone)
	wantPoll(t, "the second one", impl.PollArchive(told, 2), impl.Answer{Id: 2, Bytes: []byte{1}})
	if len(told.Desk.Answers) != 200 {
		t.Errorf("%d answers", len(told.Desk.Answers))
	}
}

func TestRebuildsSubmitted(t *testing.T) {
	for _, s := range deskShapes() {
		a := impl.NewArchive(s).Archive
		last := s.Groups + s.Column - 1
		for _, group := range beyond(0, last) {
			wantNoArchive(t, fmt.Sprint("group ", group), impl.SubmitRebuild(a, group), impl.ErrRange)
		}
		for group := range last + 1 {
			for place := range s.Queue {
				told := impl.SubmitRebuild(a, group)
				if told.Code != impl.OK || told.Id != a.Desk.Next || !same(told.Archive.World, a.World) || told.Archive.Desk.Queues[group][place] != rebuildOf(told.Id, group) {
					t.Errorf("%v, group %d, place %d: code %d, id %d", s, group, place, told.Code, told.Id)
				}
				wantNoPoll(t, "a rebuild that waits", impl.PollArchive(told.Archive, told.Id), impl.ErrBusy)
				a = told.Archive
			}
			wantNoArchive(t, "a full queue", impl.SubmitRebuild(a, group), impl.ErrBusy)
		}
	}
}

func TestPolledAndCancelled(t *testing.T) {
	a := middleArchive()
	for _, answer := range a.Desk.Answers {
		wantPoll(t, "answered", impl.PollArchive(a, answer.Id), answer)
		wantNoArchive(t, "answered", impl.CancelArchive(a, answer.Id), impl.ErrNone)
	}
	for _, id := range []int64{6, 3, 9, 11, 2, 4} {
		wantNoPoll(t, fmt.Sprint(id, " waits"), impl.PollArchive(a, id), impl.ErrBusy)
		told := impl.CancelArchive(a, id)
		want := impl.ArchiveResult{Archive: impl.Archive{World: a.World, Desk: impl.CancelTicket(middleShape(), a.Desk, id).Desk}}
		if !same(told, want) {
			t.Errorf("%d: %+v, want %+v", id, told, want)
		}
		wantNoPoll(t, fmt.Sprint(id, " is cancelled"), impl.PollArchive(told.Archive, id), impl.ErrNone)
		wantNoArchive(t, fmt.Sprint(id, " is cancelled"), impl.CancelArchive(told.Archive, id), impl.ErrNone)
	}
	for _, id := range []int64{7, 10, 12, 0, -1, math.MinInt64, math.MaxInt64} {
		wantNoPoll(t, fmt.Sprint(id), impl.PollArchive(a, id), impl.ErrNone)
		wantNoArchive(t, fmt.Sprint(id), impl.CancelArchive(a, id), impl.ErrNone)
	}
}

// wantWiped wants one drive to be wiped, and all else as it was.
func wantWiped(t *testing.T, what string, got impl.ArchiveResult, a impl.Archive, group, drive int64) {
	t.Helper()
	want := deepCopy(a, 0)
	want.World.Groups[group][drive] = plainDrive(a.World.Shape)
	want.World.Groups[group][drive].Wiped = true
	if !same(got, impl.ArchiveResult{Archive: want}) {
		t.Errorf("%s, group %d, drive %d: %+v", what, group, drive, got)
	}
}

func TestWipedArchives(t *testing.T) {
	q := downArchive()
	for _, a := range []impl.Archive{middleArchive(), q.Archive} {
		for group := range int64(3) {
			for drive := range int64(3) {
				told := impl.WipeArchive(a, group, drive)
				wantWiped(t, "once", told, a, group, drive)
				wantWiped(t, "twice", impl.WipeArchive(told.Archive, group, drive), a, group, drive)
			}
		}
		for _, number := range beyond(0, 2) {
			wantNoArchive(t, "no such group", impl.WipeArchive(a, number, 0), impl.ErrRange)
			wantNoArchive(t, "no such drive", impl.WipeArchive(a, 0, number), impl.ErrRange)
		}
		for tape := range int64(2) {
			want := deepCopy(a, 0)
			want.World.Tapes[tape] = impl.Tape{Wiped: true}
			told := impl.WipeStaging(a, tape)
			if !same(told, impl.ArchiveResult{Archive: want}) || !same(impl.WipeStaging(told.Archive, tape), told) {
				t.Errorf("tape %d: %+v", tape, told)
			}
		}
		for _, tape := range beyond(0, 1) {
			wantNoArchive(t, "no such tape", impl.WipeStaging(a, tape), impl.ErrRange)
		}
	}
}

// A drive that is wiped stays so, whatever turns come, until it is rebuilt.
func TestAWipedDriveStaysWiped(t *testing.T) {
	a := lyingArchive(t)
	for group := range int64(3) {
		for drive := range int64(3) {
			wiped := turns(t, done(t, "wipe", impl.WipeArchive(a, group, drive)), 7)
			for step, change := range []func(a impl.Archive) impl.ArchiveResult{
				func(a impl.Archive) impl.ArchiveResult { return impl.SubmitPut(a, "h", []byte("h")) }, impl.TurnArchive, impl.TurnArchive, impl.TurnArchive,
				impl.CutArchive, func(a impl.Archive) impl.ArchiveResult { return impl.OpenArchive(a, -1) }, impl.TurnArchive, impl.TurnArchive, impl.TurnArchive,
			} {
				wiped = done(t, fmt.Sprint("step ", step), change(wiped))
				wantList(t, fmt.Sprint("group ", group, ", step ", step), impl.WipedOf(wiped.World, group), []int64{drive})
			}
			told := impl.SubmitRebuild(wiped, group)
			back := turns(t, done(t, "rebuild", told), 3)
			wantList(t, "rebuilt", impl.WipedOf(back.World, group), nil)
		}
	}
}

func TestCutArchives(t *testing.T) {
	for _, a := range []impl.Archive{middleArchive(), {World: mixedWorld(middleShape(), 2, 0), Desk: impl.NewDesk(middleShape()).Desk}} {
		cut := impl.CutArchive(a)
		want := impl.Archive{World: withoutPower(a.World), Desk: shutDesk(middleShape(), a.Desk)}
		if !same(cut, impl.ArchiveResult{Archive: want}) {
			t.Errorf("%+v, want %+v", cut, want)
		}
		for _, id := range slices.Concat(idsIn(a.Desk)...) {
			wantPoll(t, "one that waited", impl.PollArchive(cut.Archive, id), impl.Answer{Id: id, Code: impl.ErrDown, Turn: a.Desk.Turn})
		}
		if again := impl.CutArchive(cut.Archive); !same(again, cut) {
			t.Errorf("cut twice: %+v, want %+v", again, cut)
		}
	}
	// Queue by queue, then those Aside.
	var order []int64
	for _, answer := range impl.CutArchive(middleArchive()).Archive.Desk.Answers {
		order = append(order, answer.Id)
	}
	if !slices.Equal(order, []int64{5, 1, 8, 6, 3, 9, 11, 2, 4}) {
		t.Errorf("answered in the order %v", order)
	}
}

func TestOpenedArchives(t *testing.T) {
	cut := impl.CutArchive(middleArchive()).Archive
	for _, stop := range []int64{-1, 0, 1, 2, 3, 4, 90, 999999999, 1000000000} {
		want := deepCopy(cut, 0)
		want.World.Down, want.World.Writes, want.World.Stop = false, 0, stop
		if told := impl.OpenArchive(cut, stop); !same(told, impl.ArchiveResult{Archive: want}) {
			t.Errorf("stop %d: %+v", stop, told)
		}
		wantNoArchive(t, "there is power", impl.OpenArchive(middleArchive(), stop), impl.ErrForm)
	}
	for _, stop := range beyond(-1, 1000000000) {
		wantNoArchive(t, "stop beyond", impl.OpenArchive(cut, stop), impl.ErrRange)
		wantNoArchive(t, "stop beyond, and power", impl.OpenArchive(middleArchive(), stop), impl.ErrRange)
	}
}

// Power that came with a stop fails there: below, at and beyond what is written.
func TestOpenedUpToAStop(t *testing.T) {
	cut := impl.CutArchive(lyingArchive(t)).Archive
	for stop := int64(-1); stop <= 4; stop++ {
		a := done(t, "open", impl.OpenArchive(cut, stop))
		told := impl.SubmitPut(a, "f", []byte("f-1"))
		fails := stop == 0 || stop == 1
		if told.Code != okOr(impl.ErrDown, !fails) || told.Archive.World.Down != fails {
			t.Errorf("stop %d: code %d", stop, told.Code)
		}
		there := impl.NewestItem(told.Archive.World, "f").Code == impl.OK
		if there != (stop != 0) {
			t.Errorf("stop %d: there is %v", stop, there)
		}
	}
}

// Where power fails at a put or a drop all that wait are answered, queue by
// queue and then Aside, and the archive goes on when it is opened again.
func TestPowerFailsAtAPut(t *testing.T) {
	for stop := range int64(2) {
		for _, name := range []string{"f", "e"} {
			a := lyingArchive(t)
			a.Desk, a.World.Stop = middleDesk(), a.World.Writes+stop
			told := impl.SubmitPut(a, "f", []byte("f-1"))
			if name == "e" {
				told = impl.SubmitDrop(a, "e")
			}
			if told.Code != impl.ErrDown || told.Id != 0 || !same(told.Archive.Desk, shutDesk(a.World.Shape, a.Desk)) || told.Archive.World.Writes != a.World.Stop {
				t.Errorf("%s, stop %d: %+v", name, stop, told)
			}
			again := done(t, "open", impl.OpenArchive(told.Archive, -1))
			code, list := int64(impl.OK), []byte(name+"-1")
			if (stop == 0) == (name == "f") {
				code, list = impl.ErrNone, nil
			}
			readAtOnce(t, fmt.Sprint(name, ", stop ", stop), again, name, code, list)
		}
	}
}
