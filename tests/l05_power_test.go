package tests

import (
	"fmt"
	"slices"
	"testing"

	"loop.example/g00089/impl"
)

// request is what a function of the enclosure may be given.
type request struct {
	World                                    impl.World
	Group, Drive, Row, Tape, Kind, Seq, Stop int64
	Block                                    impl.Block
	Rec                                      impl.Rec
	Name                                     string
	Bytes                                    []byte
}

// reply is what any of them answers.
type reply struct {
	Code  int64
	World impl.World
	Block impl.Block
}

// function is one of them: how it is called, with what it goes well, what may
// be wrong with that, and, where it makes a raw write, what is done by it.
type function struct {
	name  string
	call  func(q request) reply
	given func() request
	flaws []flaw[request]
	write func(q *request)
}

func worldReply(r impl.WorldResult) reply {
	return reply{Code: r.Code, World: r.World}
}

const (
	rankDown = rankBehindWorld + iota
	rankPlace
	rankBlock
	rankOff
	rankFull
	rankPower
	rankAppended = rankPower + 1
)

func worldOf(q *request) *impl.World { return &q.World }

// faultyWorlds has a flaw of each name; they are asked first by all.
func faultyWorlds() []flaw[request] {
	return lifted(fewWorldFlaws(), 0, worldOf)
}

func noPower() flaw[request] {
	return flaw[request]{"no power", rankDown, impl.ErrDown, func(q *request) { q.World.Down, q.World.On = true, nil }}
}

func isOff() flaw[request] {
	return flaw[request]{"the group is off", rankOff, impl.ErrOff, func(q *request) {
		q.World.On = slices.DeleteFunc(q.World.On, func(group int64) bool { return group == q.Group })
	}}
}

func powerFails(rank int) flaw[request] {
	return flaw[request]{"power fails", rank, impl.ErrDown, func(q *request) { q.World.Stop = q.World.Writes }}
}

func badGroups() []flaw[request] {
	return numberFlaws("group", rankPlace, impl.ErrRange, 0, 2, func(q *request) *int64 { return &q.Group })
}

func badDrives() []flaw[request] {
	return append(badGroups(), numberFlaws("drive", rankPlace, impl.ErrRange, 0, 2, func(q *request) *int64 { return &q.Drive })...)
}

func badRows() []flaw[request] {
	return append(badDrives(), numberFlaws("row", rankPlace, impl.ErrRange, 0, 2, func(q *request) *int64 { return &q.Row })...)
}

func badTapes() []flaw[request] {
	return numberFlaws("tape", rankPlace, impl.ErrRange, 0, 1, func(q *request) *int64 { return &q.Tape })
}

func anyRequest() request {
	return request{World: mixedWorld(middleShape(), 1), Group: 1, Drive: 2, Row: 2, Tape: 1, Kind: impl.RecDone, Seq: 2,
		Block: impl.Block{Stamp: 9, Bytes: []byte{6, 7, 8, 9}}, Rec: moveOf(middleShape(), 9, 1, 2)}
}

// offRequest asks for a group that is off, where one more may be on.
func offRequest() request {
	q := anyRequest()
	q.World.On = []int64{0}
	return q
}

func downRequest() request {
	q := anyRequest()
	q.World.Down, q.World.On = true, nil
	return q
}

func switches() []function {
	taken := flaw[request]{"as many on as may be", rankFull, impl.ErrTaken, func(q *request) { q.World.On = []int64{2, 0} }}
	one := flaw[request]{"one on, where one may be", rankFull, impl.ErrTaken, func(q *request) { q.World.Shape.Cap, q.World.On = 1, []int64{2} }}
	on := func(q request) reply { return worldReply(impl.SwitchOn(q.World, q.Group)) }
	onFlaws := slices.Concat(faultyWorlds(), badGroups(), []flaw[request]{noPower(), taken, one})
	return []function{
		{name: "SwitchOn", given: offRequest, flaws: onFlaws, call: on},
		{name: "SwitchOn of one that is on", given: anyRequest, flaws: onFlaws, call: on},
		{name: "SwitchOff", given: anyRequest, flaws: slices.Concat(faultyWorlds(), badGroups(), []flaw[request]{noPower(), isOff()}),
			call: func(q request) reply { return worldReply(impl.SwitchOff(q.World, q.Group)) }},
	}
}

func driveFunctions() []function {
	wiped := flaw[request]{"a wiped drive", rankFull, impl.ErrWiped, func(q *request) { q.World.Groups[q.Group][q.Drive].Wiped = true }}
	blocks := lifted(blockFlaws(), rankBlock, func(q *request) *impl.Block { return &q.Block })
	return []function{
		{name: "ReadBlock", given: anyRequest, flaws: slices.Concat(faultyWorlds(), badRows(), []flaw[request]{noPower(), isOff(), wiped}),
			call: func(q request) reply {
				read := impl.ReadBlock(q.World, q.Group, q.Drive, q.Row)
				return reply{Code: read.Code, Block: read.Block}
			}},
		{name: "WriteBlock", given: anyRequest, flaws: slices.Concat(faultyWorlds(), badRows(), blocks, []flaw[request]{noPower(), isOff(), powerFails(rankPower)}),
			call:  func(q request) reply { return worldReply(impl.WriteBlock(q.World, q.Group, q.Drive, q.Row, q.Block)) },
			write: func(q *request) { q.World.Groups[q.Group][q.Drive].Blocks[q.Row] = q.Block }},
		{name: "TrustDrive", given: anyRequest, flaws: slices.Concat(faultyWorlds(), badDrives(), []flaw[request]{noPower(), isOff(), powerFails(rankPower)}),
			call:  func(q request) reply { return worldReply(impl.TrustDrive(q.World, q.Group, q.Drive)) },
			write: func(q *request) { q.World.Groups[q.Group][q.Drive].Wiped = false }},
		{name: "WipeDrive", given: anyRequest, flaws: slices.Concat(faultyWorlds(), badDrives()),
			call: func(q request) reply { return worldReply(impl.WipeDrive(q.World, q.Group, q.Drive)) }},
	}
}

func tapeFunctions() []function {
	recs := lifted(moveFlaws(), rankAppended, func(q *request) *impl.Rec { return &q.Rec })
	full := flaw[request]{"a full tape", rankAppended + rankBehindRec, impl.ErrMany, func(q *request) { q.World.Tapes[q.Tape].Recs = plainRecs(200) }}
	appended := slices.Concat(faultyWorlds(), badTapes(), recs, []flaw[request]{noPower(), full, powerFails(full.rank + 1)})
	return []function{
		{name: "AppendRec", given: anyRequest, flaws: appended,
			call: func(q request) reply { return worldReply(impl.AppendRec(q.World, q.Tape, q.Rec)) },
			write: func(q *request) {
				q.World.Tapes[q.Tape] = impl.Tape{Recs: append(q.World.Tapes[q.Tape].Recs, q.Rec)}
			}},
		{name: "StrikeRecs", given: anyRequest, flaws: slices.Concat(faultyWorlds(), badTapes(), []flaw[request]{noPower(), powerFails(rankPower)}),
			call: func(q request) reply { return worldReply(impl.StrikeRecs(q.World, q.Tape, q.Kind, q.Seq)) },
			write: func(q *request) {
				q.World.Tapes[q.Tape].Recs = slices.DeleteFunc(q.World.Tapes[q.Tape].Recs, func(r impl.Rec) bool { return r.Kind == q.Kind && r.Seq == q.Seq })
			}},
		{name: "WipeTape", given: anyRequest, flaws: slices.Concat(faultyWorlds(), badTapes()),
			call: func(q request) reply { return worldReply(impl.WipeTape(q.World, q.Tape)) }},
	}
}

func powerFunctions() []function {
	stops := numberFlaws("stop", rankPlace, impl.ErrRange, -1, impl.MaxSeq, func(q *request) *int64 { return &q.Stop })
	powered := flaw[request]{"there is power", rankFull, impl.ErrForm, func(q *request) { q.World.Down = false }}
	return []function{
		{name: "CutPower", given: anyRequest, flaws: faultyWorlds(),
			call: func(q request) reply { return worldReply(impl.CutPower(q.World)) }},
		{name: "RaisePower", given: downRequest, flaws: slices.Concat(faultyWorlds(), stops, []flaw[request]{powered}),
			call: func(q request) reply { return worldReply(impl.RaisePower(q.World, q.Stop)) }},
	}
}

func functions() []function {
	return slices.Concat(switches(), driveFunctions(), tapeFunctions(), powerFunctions())
}

func writers() []function {
	return slices.DeleteFunc(functions(), func(f function) bool { return f.write == nil })
}

func TestCodesAndTheirOrder(t *testing.T) {
	for _, f := range functions() {
		wantFlaws(t, f.name, f.given, f.flaws, func(t *testing.T, what string, q request, code int64) {
			t.Helper()
			got := f.call(q)
			wantCodeAlone(t, what, q, got.Code, code, same(got, reply{Code: got.Code}))
		})
	}
}

// wantCodeAlone wants nothing beside a code, but where power failed that was there.
func wantCodeAlone(t *testing.T, what string, q request, got, want int64, alone bool) {
	t.Helper()
	if got != want {
		t.Errorf("%s: code %d, want %d", what, got, want)
	}
	told := got == impl.ErrDown && !q.World.Down
	if got != impl.OK && !told && !alone {
		t.Errorf("%s: something stands beside the code %d", what, got)
	}
}

// What wipes a drive or a tape, and what cuts power, asks for no power.
func TestWithoutPower(t *testing.T) {
	for _, f := range functions() {
		q := downRequest()
		want := int64(impl.ErrDown)
		if slices.Contains([]string{"WipeDrive", "WipeTape", "CutPower", "RaisePower"}, f.name) {
			want = impl.OK
		}
		if got := f.call(q); got.Code != want || want != impl.OK && !same(got, reply{Code: want}) {
			t.Errorf("%s: code %d, want %d", f.name, got.Code, want)
		}
	}
}

// withoutPower says again what is so where power fails.
func withoutPower(w impl.World) impl.World {
	down := deepCopy(w, 0)
	down.Down, down.On = true, nil
	return down
}

// powerStates are Writes below, at and above Stop.
func powerStates(check func(writes, stop int64)) {
	for writes := range int64(8) {
		for stop := int64(-1); stop <= 8; stop++ {
			check(writes, stop)
		}
	}
	for _, writes := range []int64{0, impl.MaxSeq - 1, impl.MaxSeq} {
		for _, stop := range []int64{-1, 0, impl.MaxSeq - 1, impl.MaxSeq} {
			check(writes, stop)
		}
	}
}

func TestPowerFailsAtStop(t *testing.T) {
	for _, f := range writers() {
		for _, on := range [][]int64{{1}, {2, 1}, {1, 0}} {
			powerStates(func(writes, stop int64) {
				q := anyRequest()
				q.World.On, q.World.Writes, q.World.Stop = on, writes, stop
				q.World.Groups[1][2].Wiped = true
				want := reply{Code: impl.ErrDown, World: withoutPower(q.World)}
				got := f.call(deepCopy(q, 1))
				if stop == -1 || writes < stop {
					f.write(&q)
					q.World.Writes++
					want = reply{World: q.World}
				}
				if !same(got, want) {
					t.Errorf("%s at %d of %d: %+v, want %+v", f.name, writes, stop, got, want)
				}
			})
		}
	}
}

// From a rise of power on just so many writes are done as are named, by
// whatever functions; then none is until power comes again.
func TestJustSoManyWrites(t *testing.T) {
	all := writers()
	for first := range all {
		for stop := range int64(7) {
			w := impl.SwitchOn(impl.RaisePower(impl.CutPower(mixedWorld(middleShape())).World, stop).World, 1).World
			for done := range stop {
				f := all[(first+int(done))%len(all)]
				q := anyRequest()
				q.World = deepCopy(w, 0)
				answer := f.call(q)
				f.write(&q)
				q.World.Writes = done + 1
				if !same(answer, reply{World: q.World}) {
					t.Fatalf("%s: the write %d of %d: %+v", f.name, done, stop, answer)
				}
				w = answer.World
			}
			wantNoFurtherWrite(t, w)
		}
	}
}

func wantNoFurtherWrite(t *testing.T, w impl.World) {
	t.Helper()
	for _, f := range writers() {
		q := anyRequest()
		q.World = w
		answer := f.call(q)
		if answer.Code != impl.ErrDown || !same(answer.World, withoutPower(w)) {
			t.Errorf("%s: code %d, world %+v", f.name, answer.Code, answer.World)
		}
		wantWorldCode(t, f.name, answer.World, impl.OK)
		q.World = answer.World
		if again := f.call(q); !same(again, reply{Code: impl.ErrDown}) {
			t.Errorf("%s again: %+v", f.name, again)
		}
		raised := impl.RaisePower(answer.World, -1)
		want := deepCopy(w, 0)
		want.On, want.Writes, want.Stop = nil, 0, -1
		wantWorld(t, f.name+", and power again", raised, want)
	}
}

// What is no raw write is done though the next write would fail, and is not counted.
func TestWhatIsNoRawWrite(t *testing.T) {
	for _, f := range functions() {
		if f.write != nil || f.name == "RaisePower" {
			continue
		}
		q := f.given()
		q.World.Writes, q.World.Stop = 5, 5
		got := f.call(q)
		if got.Code != impl.OK || f.name != "ReadBlock" && (got.World.Writes != 5 || got.World.Stop != 5) {
			t.Errorf("%s: code %d, Writes %d, Stop %d", f.name, got.Code, got.World.Writes, got.World.Stop)
		}
	}
}

// A call that has a code other than that of the failing write makes no write.
func TestRefusedCallsKeepPower(t *testing.T) {
	w := mixedWorld(middleShape(), 1)
	w.Stop = w.Writes
	wantNoWorld(t, "WriteBlock", impl.WriteBlock(w, 0, 0, 0, impl.Block{Bytes: make([]byte, 4)}), impl.ErrOff)
	wantNoWorld(t, "WriteBlock", impl.WriteBlock(w, 1, 0, 0, impl.Block{Bytes: make([]byte, 3)}), impl.ErrForm)
	wantNoWorld(t, "TrustDrive", impl.TrustDrive(w, 2, 0), impl.ErrOff)
	wantNoWorld(t, "AppendRec", impl.AppendRec(w, 0, impl.Rec{}), impl.ErrText)
	wantNoWorld(t, "StrikeRecs", impl.StrikeRecs(w, 2, 0, 0), impl.ErrRange)
}

func TestCutPower(t *testing.T) {
	for _, on := range [][]int64{nil, {1}, {2, 0}} {
		w := mixedWorld(middleShape(), on...)
		answer := impl.CutPower(w)
		wantWorld(t, "CutPower", answer, withoutPower(w))
		wantWorld(t, "CutPower again", impl.CutPower(answer.World), withoutPower(w))
	}
}

func TestRaisePower(t *testing.T) {
	for _, stop := range []int64{-1, 0, 1, 200, impl.MaxSeq} {
		w := downRequest().World
		answer := impl.RaisePower(w, stop)
		w.Down, w.Writes, w.Stop = false, 0, stop
		wantWorld(t, fmt.Sprint(stop), answer, w)
		wantNoWorld(t, "power is there", impl.RaisePower(answer.World, stop), impl.ErrForm)
	}
	for _, stop := range beyond(-1, impl.MaxSeq) {
		wantNoWorld(t, fmt.Sprint(stop), impl.RaisePower(downRequest().World, stop), impl.ErrRange)
		wantNoWorld(t, fmt.Sprint(stop), impl.RaisePower(anyRequest().World, stop), impl.ErrRange)
	}
}

// Every answer is new memory, whether all goes well, a code stops it, or power fails.
func TestTheEnclosureKeepsItsArguments(t *testing.T) {
	for _, f := range functions() {
		for _, spoil := range append(f.flaws, flaw[request]{name: "no flaw", make: func(q *request) {}}) {
			q := f.given()
			spoil.make(&q)
			q = deepCopy(q, 2)
			wantNew(t, f.name+": "+spoil.name, func() reply { return f.call(q) }, q)
		}
	}
}

// Lists of a world that share memory share none in the answer.
func TestAnswersPartWhatWasShared(t *testing.T) {
	block := impl.Block{Bytes: []byte{1, 2, 3, 4}}
	drive := impl.Drive{Blocks: []impl.Block{block, block, block}}
	drives := []impl.Drive{drive, drive, drive}
	rec := rowsItem(1, "a", 9, 2, 0)
	tape := impl.Tape{Recs: []impl.Rec{rec, rec, moveOf(middleShape(), 2, 0, 0)}}
	for _, f := range functions() {
		q := f.given()
		q.World.Groups, q.World.Tapes = [][]impl.Drive{drives, drives, drives}, []impl.Tape{tape, tape}
		q.Rec, q.Block = rec, block
		wantNew(t, f.name, func() reply { return f.call(q) })
		if got := f.call(q); got.Code != impl.OK {
			t.Errorf("%s: code %d", f.name, got.Code)
		}
	}
}
