package tests

import (
	"fmt"
	"strings"
	"testing"

	"loop.example/g00089/impl"
)

func TestScriptsAtFaultyArchives(t *testing.T) {
	long := strings.Repeat("x", 4001)
	check := func(what string, a impl.Archive, code int64) {
		for _, line := range []string{"", " ", "\n", "wink", "put a", "put a 00", "turn 51", "turn 0", "turn 1", "state", "cut", "open", "poll 1"} {
			wantNoScript(t, fmt.Sprintf("%s, %q", what, line), impl.StepScript(a, line), code)
		}
		for _, text := range []string{"", "\n", "wink\n", "cut\nopen\n", long, strings.Repeat("\n", 121)} {
			wantNoScript(t, what+", a script", impl.RunScript(a, text), code)
		}
		if got := impl.FormatArchive(a); got != "" {
			t.Errorf("%s: %q", what, got)
		}
	}
	for _, f := range archiveFlaws(worldFlaws(), countFlaws()) {
		a := middleArchive()
		f.make(&a)
		check(f.name, a, f.code)
	}
	check("nothing", impl.Archive{}, impl.ErrRange)
	check("no desk", impl.Archive{World: plainWorld(middleShape())}, impl.ErrForm)
}

// rightLines are of each kind; at an archive of middleShape none is of another.
func rightLines() []string {
	return []string{"put a 00", "drop a", "cancel 1", "wipe 0 1", "tape 0", "cut", "open", "open 3", "read a", "rebuild 0", "poll 1", "turn 0", "state"}
}

// unreadable are lines that are near to right ones.
func unreadable() []string {
	lines := []string{
		"wink", "\t", "\r", "\x00", "é", "\xff", "0", "ok", "! 5", "put", "putt a 00", "pu a 00", "Put a 00", "PUT a 00", "put\ta 00", "a put 00", "turns 1", "states", "cuts", "cut.", "open.", "ſtate",
		"put a", "put a ", "put 00", "put a 0", "put a 000", "put a 0A", "put a 0x", "put a g0", "put a é", "put a \xff\xff", "put a 00 00", "put a b 00", "put a 00 b", "put a -", "put a 00\t", "put a 00\r",
		"put a " + strings.Repeat("0", 79), "put a " + strings.Repeat("0", 81), "put a " + strings.Repeat("0", 82), "put a " + strings.Repeat("00", 81), "put a " + strings.Repeat("z", 80),
		"drop", "drop a b", "drop a 00", "read", "read a b", "cut 0", "cut a", "state 0", "state a", "open 0 0", "open a", "open -1", "wipe", "wipe 0", "wipe 0 0 0", "wipe a 0", "wipe 0 a",
	}
	for _, verb := range []string{"cancel", "tape", "rebuild", "poll", "turn"} {
		lines = append(lines, verb, verb+" a", verb+" 0 0", verb+" 0 a", verb+" 0a")
	}
	for _, number := range []string{"+1", "-1", "-0", "1.0", "1.", ".1", "1e1", "0x1", "1_0", "0000000001", "1000000000", "9999999999", "99999999999999999999", "00000000000000000000", "1,", "١", "１", "1\t", "\xff", "1\x00", "½"} {
		for _, line := range []string{"cancel N", "tape N", "rebuild N", "poll N", "turn N", "open N", "wipe N 0", "wipe 0 N"} {
			lines = append(lines, strings.ReplaceAll(line, "N", number))
		}
	}
	return lines
}

// A line that cannot be read tells so, whatever else there is, and a line feed
// makes none readable, wherever it stands.
func TestLinesThatCannotBeRead(t *testing.T) {
	for _, a := range []impl.Archive{middleArchive(), lyingArchive(t), downArchive().Archive} {
		for _, line := range unreadable() {
			wantNoScript(t, fmt.Sprintf("%q", line), impl.StepScript(a, line), impl.ErrText)
		}
		for _, line := range append(rightLines(), "", " ") {
			if impl.StepScript(a, line).Code == impl.ErrText {
				t.Errorf("%q is right", line)
			}
			for place := range len(line) + 1 {
				with := line[:place] + "\n" + line[place:]
				wantNoScript(t, fmt.Sprintf("%q", with), impl.StepScript(a, with), impl.ErrText)
			}
		}
	}
}

// Blanks ahead, behind and between change nothing.
func TestLinesWithManyBlanks(t *testing.T) {
	for _, a := range []impl.Archive{middleArchive(), downArchive().Archive} {
		for _, line := range rightLines() {
			want := impl.StepScript(a, line)
			for _, other := range []string{" " + line, line + " ", "   " + line + "   ", strings.ReplaceAll(line, " ", "  "), strings.ReplaceAll(" "+line+" ", " ", "     ")} {
				wantScript(t, fmt.Sprintf("%q", other), impl.StepScript(a, other), want)
			}
		}
		for _, line := range []string{"", " ", "    ", strings.Repeat(" ", 9000)} {
			wantScript(t, fmt.Sprintf("%d blanks", len(line)), impl.StepScript(a, line), impl.ScriptResult{Archive: a})
		}
	}
}

func TestNumbersOfLines(t *testing.T) {
	cut := impl.CutArchive(lyingArchive(t)).Archive
	for _, c := range []struct {
		word string
		stop int64
	}{
		{"0", 0}, {"7", 7}, {"10", 10}, {"00", 0}, {"007", 7}, {"010", 10}, {"000000000", 0}, {"000000009", 9}, {"12345678", 12345678}, {"123456789", 123456789}, {"999999999", 999999999}, {"100000000", 100000000},
	} {
		want := impl.OpenArchive(cut, c.stop).Archive
		if want.World.Stop != c.stop {
			t.Fatal(want)
		}
		wantScript(t, c.word, impl.StepScript(cut, "open "+c.word), impl.ScriptResult{Archive: want, Said: "ok"})
	}
	a := middleArchive()
	for _, zeros := range []string{"", "0", "0000", "00000000"} {
		wantScript(t, zeros+"5", impl.StepScript(a, "poll "+zeros+"5"), impl.StepScript(a, "poll 5"))
		wantScript(t, zeros+"1", impl.StepScript(a, "wipe "+zeros+"1 "+zeros+"2"), impl.StepScript(a, "wipe 1 2"))
	}
	if said := impl.StepScript(a, "poll 000000005").Said; said != "answer 5 0 "+impl.HexOf(fours(9)) {
		t.Error(said)
	}
}

// saidCase is a line at an archive and the call that it stands for.
type saidCase struct {
	line string
	call func(a impl.Archive) impl.ArchiveResult
	code int64
	said string
}

// wantSaid wants a line to leave what its call leaves.
func wantSaid(t *testing.T, what string, a impl.Archive, c saidCase) {
	t.Helper()
	told := c.call(a)
	if told.Code != c.code {
		t.Errorf("%s, %q: the call has the code %d, want %d", what, c.line, told.Code, c.code)
	}
	want := impl.ScriptResult{Code: c.code, Archive: told.Archive, Said: c.said}
	wantScript(t, what+", "+c.line, impl.StepScript(a, c.line), want)
	if c.code != impl.OK && (c.said != "" || !a.World.Down && c.code == impl.ErrDown != told.Archive.World.Down) {
		t.Errorf("%s, %q: %+v", what, c.line, want)
	}
}

func putting(name string, list ...byte) func(a impl.Archive) impl.ArchiveResult {
	return func(a impl.Archive) impl.ArchiveResult { return impl.SubmitPut(a, name, list) }
}
func dropping(name string) func(a impl.Archive) impl.ArchiveResult {
	return func(a impl.Archive) impl.ArchiveResult { return impl.SubmitDrop(a, name) }
}
func reading(name string) func(a impl.Archive) impl.ArchiveResult {
	return func(a impl.Archive) impl.ArchiveResult { return impl.SubmitRead(a, name) }
}
func asking(group int64) func(a impl.Archive) impl.ArchiveResult {
	return func(a impl.Archive) impl.ArchiveResult { return impl.SubmitRebuild(a, group) }
}
func cancelling(id int64) func(a impl.Archive) impl.ArchiveResult {
	return func(a impl.Archive) impl.ArchiveResult { return impl.CancelArchive(a, id) }
}
func wiping(group, drive int64) func(a impl.Archive) impl.ArchiveResult {
	return func(a impl.Archive) impl.ArchiveResult { return impl.WipeArchive(a, group, drive) }
}
func wipingTape(tape int64) func(a impl.Archive) impl.ArchiveResult {
	return func(a impl.Archive) impl.ArchiveResult { return impl.WipeStaging(a, tape) }
}
func opening(stop int64) func(a impl.Archive) impl.ArchiveResult {
	return func(a impl.Archive) impl.ArchiveResult { return impl.OpenArchive(a, stop) }
}

// waitingArchive is lyingArchive with tickets in its queues.
func waitingArchive(t *testing.T) impl.Archive {
	t.Helper()
	a := lyingArchive(t)
	a = done(t, "read a", impl.SubmitRead(a, "a"))
	a = done(t, "read b", impl.SubmitRead(a, "b"))
	return done(t, "rebuild 0", impl.SubmitRebuild(a, 0))
}

func TestLinesAndTheirCalls(t *testing.T) {
	a := waitingArchive(t)
	most := strings.Repeat("0f", 24)
	for _, c := range []saidCase{
		{"put a 00", putting("a", 0), 0, "ok"}, {"put f 0102ff", putting("f", 1, 2, 255), 0, "ok"}, {"put zzzzzzzz 0a", putting("zzzzzzzz", 10), 0, "ok"},
		{"put f " + most, putting("f", []byte(strings.Repeat("\x0f", 24))...), 0, "ok"}, {"put f " + most + "0f", putting("f", []byte(strings.Repeat("\x0f", 25))...), impl.ErrMany, ""},
		{"put f " + strings.Repeat("00", 40), putting("f", make([]byte, 40)...), impl.ErrMany, ""},
		{"put F 00", putting("F", 0), impl.ErrText, ""}, {"put ninebytes 00", putting("ninebytes", 0), impl.ErrText, ""}, {"put 00 00", putting("00", 0), impl.ErrText, ""},
		{"drop a", dropping("a"), 0, "ok"}, {"drop e", dropping("e"), 0, "ok"}, {"drop c", dropping("c"), impl.ErrNone, ""}, {"drop f", dropping("f"), impl.ErrNone, ""},
		{"drop A", dropping("A"), impl.ErrText, ""}, {"drop 1", dropping("1"), impl.ErrText, ""}, {"drop \xff", dropping("\xff"), impl.ErrText, ""}, {"drop a\t", dropping("a\t"), impl.ErrText, ""},
		{"cancel 1", cancelling(1), 0, "ok"}, {"cancel 3", cancelling(3), 0, "ok"}, {"cancel 0", cancelling(0), impl.ErrNone, ""}, {"cancel 4", cancelling(4), impl.ErrNone, ""},
		{"wipe 0 0", wiping(0, 0), 0, "ok"}, {"wipe 2 1", wiping(2, 1), 0, "ok"}, {"wipe 1 2", wiping(1, 2), 0, "ok"}, {"wipe 3 0", wiping(3, 0), impl.ErrRange, ""}, {"wipe 0 3", wiping(0, 3), impl.ErrRange, ""},
		{"tape 0", wipingTape(0), 0, "ok"}, {"tape 1", wipingTape(1), 0, "ok"}, {"tape 2", wipingTape(2), impl.ErrRange, ""}, {"tape 999999999", wipingTape(999999999), impl.ErrRange, ""},
		{"cut", impl.CutArchive, 0, "ok"}, {"open", opening(-1), impl.ErrForm, ""}, {"open 5", opening(5), impl.ErrForm, ""},
		{"read a", reading("a"), 0, "ticket 4"}, {"read e", reading("e"), 0, "ticket 4"}, {"read c", reading("c"), 0, "ticket 4"}, {"read 0", reading("0"), impl.ErrText, ""}, {"read A", reading("A"), impl.ErrText, ""},
		{"read b", reading("b"), impl.ErrBusy, ""}, {"rebuild 0", asking(0), impl.ErrBusy, ""}, {"rebuild 1", asking(1), 0, "ticket 4"}, {"rebuild 2", asking(2), 0, "ticket 4"}, {"rebuild 3", asking(3), impl.ErrRange, ""},
		{"turn 1", impl.TurnArchive, 0, "turn 7"},
	} {
		wantSaid(t, "with power", a, c)
	}
	a.World.Shape.Stage = 3
	wantSaid(t, "no room", a, saidCase{"put f 00", putting("f", 0), impl.ErrBusy, ""})
	a.Desk.Next = 1000000000
	wantSaid(t, "no Id left", a, saidCase{"read a", reading("a"), impl.ErrMany, ""})
}

func TestLinesWithoutPower(t *testing.T) {
	a := impl.CutArchive(waitingArchive(t)).Archive
	for _, c := range []saidCase{
		{"put a 00", putting("a", 0), impl.ErrDown, ""}, {"put A 00", putting("A", 0), impl.ErrDown, ""}, {"put a " + strings.Repeat("00", 40), putting("a", make([]byte, 40)...), impl.ErrDown, ""},
		{"drop a", dropping("a"), impl.ErrDown, ""}, {"drop A", dropping("A"), impl.ErrDown, ""}, {"read a", reading("a"), impl.ErrDown, ""}, {"read A", reading("A"), impl.ErrDown, ""},
		{"rebuild 0", asking(0), impl.ErrDown, ""}, {"rebuild 9", asking(9), impl.ErrDown, ""}, {"turn 1", impl.TurnArchive, impl.ErrDown, ""}, {"turn 50", impl.TurnArchive, impl.ErrDown, ""},
		{"cancel 1", cancelling(1), impl.ErrNone, ""}, {"wipe 0 0", wiping(0, 0), 0, "ok"}, {"wipe 3 0", wiping(3, 0), impl.ErrRange, ""}, {"tape 0", wipingTape(0), 0, "ok"}, {"tape 2", wipingTape(2), impl.ErrRange, ""},
		{"cut", impl.CutArchive, 0, "ok"}, {"open", opening(-1), 0, "ok"}, {"open 0", opening(0), 0, "ok"}, {"open 17", opening(17), 0, "ok"},
	} {
		wantSaid(t, "without power", a, c)
	}
	wantNoScript(t, "too many turns", impl.StepScript(a, "turn 51"), impl.ErrRange)
	wantScript(t, "no turns", impl.StepScript(a, "turn 0"), impl.ScriptResult{Archive: a, Said: "turn 6"})
	wantScript(t, "state", impl.StepScript(a, "state"), impl.ScriptResult{Archive: a, Said: "state 3 4 0 0"})
	wantScript(t, "poll", impl.StepScript(a, "poll 1"), impl.ScriptResult{Archive: a, Said: "answer 1 9"})
}

func TestPollsOfLines(t *testing.T) {
	a := middleArchive()
	for _, c := range []struct {
		line, said string
		code       int64
	}{
		{"poll 5", "answer 5 0 " + impl.HexOf(fours(9)), 0}, {"poll 1", "answer 1 12", 0}, {"poll 8", "answer 8 9 01", 0},
		{"poll 6", "", impl.ErrBusy}, {"poll 4", "", impl.ErrBusy}, {"poll 11", "", impl.ErrBusy}, {"poll 7", "", impl.ErrNone}, {"poll 0", "", impl.ErrNone}, {"poll 12", "", impl.ErrNone}, {"poll 999999999", "", impl.ErrNone},
	} {
		want := impl.ScriptResult{Archive: a, Said: c.said}
		if c.code != impl.OK {
			want = impl.ScriptResult{Code: c.code}
		}
		wantScript(t, c.line, impl.StepScript(a, c.line), want)
	}
	a.Desk.Answers = []impl.Answer{{Id: 10, Turn: 2, Bytes: make([]byte, 36)}, {Id: 7, Code: 10}}
	wantScript(t, "zeros", impl.StepScript(a, "poll 10"), impl.ScriptResult{Archive: a, Said: "answer 10 0 " + strings.Repeat("00", 36)})
	wantScript(t, "lost", impl.StepScript(a, "poll 7"), impl.ScriptResult{Archive: a, Said: "answer 7 10"})
}

func TestStatesOfLines(t *testing.T) {
	for _, c := range []struct {
		what string
		a    impl.Archive
		said string
	}{
		{"a new archive", impl.NewArchive(middleShape()).Archive, "state 0 0 0 0"},
		{"what lies and waits", waitingArchive(t), "state 3 4 2 3"},
		{"many", middleArchive(), saysState(archiveReply{Archive: middleArchive()})},
		{"busy", busyArchive(), saysState(archiveReply{Archive: busyArchive()})},
	} {
		wantScript(t, c.what, impl.StepScript(c.a, "state"), impl.ScriptResult{Archive: c.a, Said: c.said})
	}
	// A record that stands on both tapes is counted once, and who is Aside waits.
	a := impl.NewArchive(middleShape()).Archive
	a.World.Tapes[0].Recs = []impl.Rec{dataItem(1, "a", []byte("five5")), dataItem(2, "b", []byte("b")), doneOf(3, 0)}
	a.World.Tapes[1].Recs = []impl.Rec{doneOf(3, 0), doneOf(3, 1), dataItem(1, "a", []byte("five5"))}
	a.World.On = []int64{2}
	a.Desk.Queues[1], a.Desk.Aside, a.Desk.Next = ticketsOf(2, 1, 1), ticketsOf(3, 5, 2), 9
	wantScript(t, "unlike tapes", impl.StepScript(a, "state"), impl.ScriptResult{Archive: a, Said: "state 6 4 1 5"})
}

func TestTurnsOfLines(t *testing.T) {
	a := waitingArchive(t)
	want := a
	for count := range int64(51) {
		got := impl.StepScript(a, fmt.Sprint("turn ", count))
		wantScript(t, fmt.Sprint(count, " turns"), got, impl.ScriptResult{Archive: want, Said: fmt.Sprint("turn ", 6+count)})
		want = turns(t, want, 1)
	}
	for _, number := range []string{"51", "52", "100", "051", "999999999"} {
		wantNoScript(t, number+" turns", impl.StepScript(a, "turn "+number), impl.ErrRange)
	}
}

// A turn with a code ends the line, which leaves nothing then.
func TestTurnsWithACode(t *testing.T) {
	a := waitingArchive(t)
	a.Desk.Turn = 1000000000 - 3
	for count := range int64(51) {
		got := impl.StepScript(a, fmt.Sprint("turn ", count))
		if count > 3 {
			wantNoScript(t, fmt.Sprint(count, " turns"), got, impl.ErrMany)
			continue
		}
		wantScript(t, fmt.Sprint(count, " turns"), got, impl.ScriptResult{Archive: turns(t, a, count), Said: fmt.Sprint("turn ", a.Desk.Turn+count)})
	}
	// Power that fails ahead of it is told with what was done.
	a = done(t, "put f", impl.SubmitPut(a, "f", []byte("f")))
	writes := turns(t, a, 3).World.Writes
	for stop := a.World.Writes; stop < writes; stop++ {
		a.World.Stop = stop
		got := impl.StepScript(a, "turn 9")
		if got.Code != impl.ErrDown || !got.Archive.World.Down || got.Archive.World.Writes != stop || got.Said != "" {
			t.Errorf("stop %d: code %d, said %q", stop, got.Code, got.Said)
		}
	}
	a.World.Stop = writes
	wantNoScript(t, "power does not fail", impl.StepScript(a, "turn 9"), impl.ErrMany)
}

// wantCutLine lets power fail at each raw write of a line, and at the one that
// would come behind the last; it tells how many there are.
func wantCutLine(t *testing.T, what string, a impl.Archive, line string) int64 {
	t.Helper()
	a = deepCopy(a, 0)
	a.World.Writes, a.World.Stop = 0, -1
	whole := impl.StepScript(a, line)
	if whole.Code != impl.OK {
		t.Fatalf("%s, %q: code %d", what, line, whole.Code)
	}
	writes := whole.Archive.World.Writes
	for stop := range writes {
		a.World.Stop = stop
		got := impl.StepScript(a, line)
		if got.Code != impl.ErrDown || got.Said != "" || !got.Archive.World.Down || got.Archive.World.Writes != stop || len(flat(idsIn(got.Archive.Desk))) != 0 {
			t.Errorf("%s, %q, stop %d: %+v", what, line, stop, got)
		}
		wantScript(t, fmt.Sprintf("%s, %q, stop %d", what, line, stop), got, plainStep(a, line))
		run := impl.RunScript(a, line+"\nstate\n"+line)
		want := fmt.Sprintf("! 9\n%s\n! 9\n", saysState(archiveReply{Archive: got.Archive}))
		wantScript(t, fmt.Sprintf("%s, %q in a script, stop %d", what, line, stop), run, impl.ScriptResult{Archive: got.Archive, Said: want})
	}
	a.World.Stop = writes
	whole.Archive.World.Stop = writes
	wantScript(t, what+", no further write", impl.StepScript(a, line), whole)
	return writes
}

// Where power fails at a line the archive is as it is then, after some turns too.
func TestLinesCutAtEachWrite(t *testing.T) {
	a := waitingArchive(t)
	for _, c := range []struct {
		line   string
		writes int64
	}{
		{"put f 0102", 2}, {"put a 03", 2}, {"drop a", 2}, {"drop e", 2}, {"read a", 0}, {"read c", 0}, {"rebuild 2", 0}, {"cancel 1", 0}, {"wipe 0 0", 0}, {"tape 1", 0}, {"poll 1", 0}, {"turn 0", 0}, {"state", 0}, {"", 0},
	} {
		if strings.HasPrefix(c.line, "poll") {
			a = impl.TurnArchive(impl.TurnArchive(a).Archive).Archive
		}
		if writes := wantCutLine(t, "one call", a, c.line); writes != c.writes {
			t.Errorf("%q: %d writes", c.line, writes)
		}
	}
	if writes := wantCutLine(t, "many turns", waitingArchive(t), "turn 9"); writes < 20 {
		t.Errorf("only %d writes", writes)
	}
	if writes := wantCutLine(t, "a busy archive", busyArchive(), "turn 3"); writes < 40 {
		t.Errorf("only %d writes", writes)
	}
}
