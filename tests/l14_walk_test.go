package tests

import (
	"encoding/hex"
	"fmt"
	"maps"
	"slices"
	"strings"
	"testing"

	"loop.example/g00089/impl"
)

// scriptWalk is a walk by lines alone, from a new archive on, which knows all
// lines up to now, and what they said.
type scriptWalk struct {
	archiveWalk
	text, said string
}

func newScriptWalk(s impl.Shape, seed uint64) *scriptWalk {
	return &scriptWalk{archiveWalk: *newArchiveWalk(s, seed)}
}

// fork goes on for itself, and counts what it meets with together with w.
func (w *scriptWalk) fork() *scriptWalk {
	other := *w
	other.q = &sequence{state: w.q.state}
	other.truth, other.reads = maps.Clone(w.truth), maps.Clone(w.reads)
	return &other
}

// say goes on by one line. All objects are then what they were, but for what
// the line puts or drops, which is so wholly, and where power failed perhaps
// not at all; reads that are answered tell what is true.
func (w *scriptWalk) say(t *testing.T, line string) impl.ScriptResult {
	t.Helper()
	was, told := w.a, impl.StepScript(w.a, line)
	words := plainWords(line)
	failed := told.Code == impl.ErrDown && !was.World.Down
	w.met[fmt.Sprint(words[0], " ", told.Code)]++
	w.text += line + "\n"
	switch {
	case told.Code == impl.OK:
		w.said += told.Said + "\n"
	case failed && (!told.Archive.World.Down || told.Said != ""):
		t.Fatalf("%q: power failed, and there is told %+v", line, told)
	default:
		w.said += fmt.Sprintf("! %d\n", told.Code)
	}
	if told.Code != impl.OK && !failed {
		wantNoScript(t, line, told, told.Code)
		return told
	}
	w.a = told.Archive
	wantArchiveCode(t, line, w.a, impl.OK)
	switch words[0] {
	case "put":
		list, _ := hex.DecodeString(words[2])
		w.changed(t, words[1], list, told.Code == impl.OK)
	case "drop":
		w.changed(t, words[1], nil, told.Code == impl.OK)
	case "read":
		w.reads[was.Desk.Next] = words[1]
	case "cancel":
		delete(w.reads, numberIn(words[1]))
	}
	w.settle(t, line)
	w.wantTruth(t, line, w.a)
	return told
}

// wipeLine takes no more than the columns bear, and tapeLine no record that
// does not stand on the other tape.
func (w *scriptWalk) wipeLine() string {
	s := w.a.World.Shape
	group, drive := w.q.pick(s.Groups+s.Column), w.q.pick(s.Data+s.Spare)
	told := impl.WipeArchive(w.a, group, drive)
	if int64(len(impl.DeadGroups(told.Archive.World).Groups)) > s.Column {
		return "state"
	}
	return spaced("wipe", group, drive)
}

func (w *scriptWalk) tapeLine() string {
	tape := w.q.pick(2)
	if len(impl.MissingRecs(w.a.World, 1-tape).Recs) > 0 {
		return "state"
	}
	return spaced("tape", tape)
}

func (w *scriptWalk) openLine() string {
	if w.q.pick(2) == 0 {
		return "open"
	}
	return spaced("open", w.q.pick(60))
}

func (w *scriptWalk) putLine() string {
	return spaced("put", w.name(), hex.EncodeToString(w.q.list(1+int(w.q.pick(12*w.a.World.Shape.Data)))))
}

func (w *scriptWalk) line() string {
	if w.a.World.Down {
		switch w.q.pick(6) {
		case 0, 1:
			return w.wipeLine()
		case 2, 3, 4:
			return w.openLine()
		}
	}
	switch pick := w.q.pick(100); {
	case pick < 22:
		return w.putLine()
	case pick < 29:
		return spaced("drop", w.name())
	case pick < 44:
		return spaced("read", w.name())
	case pick < 52:
		return spaced("rebuild", w.q.pick(int64(len(w.a.World.Groups))))
	case pick < 54:
		return spaced("cancel", max(anyIdIn(w.q, w.a.Desk), 0))
	case pick < 59:
		return w.wipeLine()
	case pick < 61:
		return w.tapeLine()
	case pick < 63:
		return "cut"
	case pick < 65:
		return []string{"state", "wink", "turn 51", "open", spaced("poll", w.a.Desk.Next-1)}[w.q.pick(5)]
	default:
		return spaced("turn", 1+w.q.pick(4))
	}
}

// wantAllReadByLines wants each object to be read as it is, when power stays
// and all that was lost is rebuilt.
func (w *scriptWalk) wantAllReadByLines(t *testing.T) {
	t.Helper()
	w.say(t, "cut")
	w.say(t, "open")
	groups := len(w.a.World.Groups)
	for group := range groups {
		w.say(t, spaced("rebuild", group))
	}
	w.say(t, spaced("turn", 6*groups))
	for group := range groups {
		wantList(t, "in the end", impl.WipedOf(w.a.World, int64(group)), nil)
	}
	for _, name := range slices.Sorted(maps.Keys(w.truth)) {
		id := w.a.Desk.Next
		w.say(t, spaced("read", name))
		w.say(t, spaced("turn", groups))
		want := spaced("answer", id, 0, hex.EncodeToString(w.truth[name]))
		if told := w.say(t, spaced("poll", id)); told.Said != want {
			t.Fatalf("%s is read as %q, want %q", name, told.Said, want)
		}
	}
}

// wantInParts runs all lines again from a new archive on, in parts that are
// cut behind line feeds, as long as a script may be at most.
func (w *scriptWalk) wantInParts(t *testing.T, what string) {
	t.Helper()
	a, said := impl.NewArchive(w.a.World.Shape).Archive, ""
	part, lines := "", int64(0)
	run := func() {
		told := impl.RunScript(a, part)
		if told.Code != impl.OK {
			t.Fatalf("%s: code %d", what, told.Code)
		}
		a, said = told.Archive, said+told.Said
		part, lines = "", 0
	}
	for _, line := range strings.SplitAfter(w.text, "\n") {
		if most := 1 + w.q.pick(120); lines >= most || len(part)+len(line) > 4000 {
			run()
		}
		part, lines = part+line, lines+1
	}
	run()
	if said != w.said || !same(a, w.a) {
		t.Errorf("%s: in parts %q, line by line %q", what, said, w.said)
	}
}

// In an archive that came of a new one by a script all objects are what they
// were, whatever lines come.
func TestScriptWalks(t *testing.T) {
	met := map[string]int{}
	for i, s := range walkShapes() {
		for seed := range uint64(3) {
			w := newScriptWalk(s, 1450+10*uint64(i)+seed)
			w.met = met
			for range 500 {
				w.say(t, w.line())
				w.look()
			}
			w.wantAllReadByLines(t)
			w.wantInParts(t, fmt.Sprint("shape ", i, ", walk ", seed))
		}
	}
	wantMet(t, met, 10, "an item of a dead home", "undone in data", "undone in parity", "undone in dead data", "undone in dead parity", "undone beside its dead group", "no power", "a wiped tape", "tapes that are unlike",
		"put 0", "put 9", "put 11", "drop 0", "drop 4", "read 0", "read 9", "rebuild 0", "turn 0", "turn 9", "wipe 0", "tape 0", "cut 0", "open 0", "answer 0", "answer 4", "answer 9")
	wantMet(t, met, 3, "drop 9", "cancel 0", "cancel 4", "poll 0", "wink 5", "turn 3", "open 1")
}

// wantCutBy lets power fail at each raw write of a line, opens the archive
// again, also with power that fails soon, and goes on.
func (w *scriptWalk) wantCutBy(t *testing.T, line string) {
	t.Helper()
	bare := w.fork()
	bare.a.World.Stop = -1
	if told := bare.say(t, line); told.Code != impl.OK {
		return
	}
	writes := bare.a.World.Writes - w.a.World.Writes
	w.met["writes of "+plainWords(line)[0]] += int(writes)
	for k := range writes {
		cut := w.fork()
		cut.q.state += uint64(k)
		cut.a.World.Stop = w.a.World.Writes + k
		if told := cut.say(t, line); told.Code != impl.ErrDown {
			t.Fatalf("%q, stop %d: code %d", line, k, told.Code)
		}
		for range 3 {
			if cut.a.World.Down {
				cut.say(t, cut.openLine())
			}
			cut.say(t, cut.line())
		}
		if k%16 == 5 {
			cut.wantAllReadByLines(t)
		}
	}
}

// Whenever power goes all objects are what they were: puts and deletes are
// wholly done or not at all, and turns and rebuilds change nothing.
func TestScriptWalksCutAtEachWrite(t *testing.T) {
	met := map[string]int{}
	for i, s := range walkShapes() {
		w := newScriptWalk(s, 1500+uint64(i))
		w.met = met
		for step := range 220 {
			if line := w.line(); step%4 == 3 && !w.a.World.Down {
				w.wantCutBy(t, line)
			}
			w.say(t, w.line())
		}
	}
	wantMet(t, met, 500, "writes of turn")
	wantMet(t, met, 30, "writes of put")
	wantMet(t, met, 10, "writes of drop")
}

// deadScript puts objects, lets a group of data die, and has it rebuilt.
func deadScript() []string {
	return []string{"put a 0102030405060708090a", "put b 0b0c", "turn 7", "put c 0d0e0f", "wipe 1 0", "wipe 1 1", "wipe 2 2", "turn 2", "read a", "read b", "turn 5", "drop b", "rebuild 1", "put e 101112", "turn 9", "rebuild 2", "turn 4"}
}

// Power that came with a stop fails at each write of a whole script: what that
// says up to there tells what is true, and the script goes on when it is opened.
func TestAScriptCutAtEachWrite(t *testing.T) {
	whole := impl.RunScript(exampleArchive(), "cut\nopen\n"+strings.Join(deadScript(), "\n"))
	writes := whole.Archive.World.Writes
	if writes < 100 || strings.Contains(whole.Said, "!") {
		t.Fatalf("%d writes, said %q", writes, whole.Said)
	}
	for stop := range writes + 1 {
		w := newScriptWalk(exampleArchive().World.Shape, uint64(stop))
		w.say(t, "cut")
		w.say(t, spaced("open", stop))
		failed := 0
		for _, line := range deadScript() {
			told := w.say(t, line)
			if told.Code == impl.ErrDown {
				failed++
				w.say(t, "open")
				if _, there := w.truth["b"]; there || line != "drop b" {
					told = w.say(t, line)
				}
			}
			if told.Code != impl.OK && line != "drop b" {
				t.Fatalf("stop %d, %q: code %d", stop, line, told.Code)
			}
		}
		if want := okOr(1, stop == writes); int64(failed) != want {
			t.Errorf("stop %d: power failed %d times", stop, failed)
		}
		w.wantAllReadByLines(t)
		want := things()
		for name, list := range map[string][]byte{"a": {1, 2, 3, 4, 5, 6, 7, 8, 9, 10}, "c": {13, 14, 15}, "e": {16, 17, 18}} {
			want = impl.PutThing(want, name, list)
		}
		wantThings(t, fmt.Sprint("stop ", stop), impl.TruthOf(w.a.World), want...)
	}
}

// A put that was answered stays, whatever goes ahead of its destaging.
func TestAnAnsweredPutStays(t *testing.T) {
	for _, between := range []string{"", "cut\nopen\n", "tape 0\n", "tape 1\n", "tape 0\nturn 1\ntape 1\n", "wipe 1 0\nwipe 1 1\nwipe 1 2\n", "turn 1\ncut\nopen\nturn 1\n", "cut\nopen 3\nturn 9\nopen 4\nturn 9\nopen\n", "cut\nopen 0\nput a 09\nopen\n"} {
		got := impl.RunScript(exampleArchive(), "put a 0102\n"+between+"read a\nturn 9\nread a\nturn 9\n")
		if told := impl.StepScript(got.Archive, "poll 1"); told.Said != "answer 1 0 0102" {
			t.Errorf("%q: %+v", between, told.Said)
		}
		if told := impl.StepScript(got.Archive, "poll 2"); told.Said != "answer 2 0 0102" {
			t.Errorf("%q: %+v", between, told.Said)
		}
		wantThings(t, between, impl.TruthOf(got.Archive.World), impl.Thing{Name: "a", Bytes: []byte{1, 2}})
	}
}

// Nothing is lost that its column bears: each group may die, and is rebuilt.
func TestEachGroupMayDie(t *testing.T) {
	for _, s := range walkShapes()[1:] {
		text := ""
		var want []impl.Thing
		for i, name := range walkNames() {
			list := []byte{byte(i), byte(10 * i), 7}
			text += spaced("put", name, hex.EncodeToString(list)) + "\n"
			want = impl.PutThing(want, name, list)
		}
		a := impl.RunScript(impl.NewArchive(s).Archive, text+"turn 50\n").Archive
		for group := range s.Groups + s.Column {
			wipes := ""
			for drive := range s.Data + s.Spare {
				wipes += spaced("wipe", group, drive) + "\n"
			}
			dead := impl.RunScript(a, wipes)
			wantThings(t, fmt.Sprint("dead ", group), impl.TruthOf(dead.Archive.World), want...)
			back := impl.RunScript(dead.Archive, fmt.Sprintf("rebuild %d\nturn 30\npoll 1\n", group))
			if !strings.HasSuffix(back.Said, "\nanswer 1 0\n") {
				t.Errorf("group %d: %q", group, back.Said)
			}
			wantThings(t, fmt.Sprint("rebuilt ", group), impl.TruthOf(back.Archive.World), want...)
			wantList(t, fmt.Sprint("rebuilt ", group), impl.WipedOf(back.Archive.World, group), nil)
		}
	}
}

// Each name that was dropped leaves a record: tapes that are full by these
// refuse what is put, and lose nothing of what was.
func TestScriptsThatFillTheTapes(t *testing.T) {
	for i, s := range walkShapes()[1:4] {
		w := newScriptWalk(s, 1520+uint64(i))
		for _, line := range []string{"put a 0102030405", "put b 06", "turn 9", "put c 0708090a0b0c0d0e0f"} {
			w.say(t, line)
		}
		for number := range 230 {
			name := fmt.Sprint("x", number)
			w.say(t, spaced("put", name, "0a"))
			w.say(t, spaced("drop", name))
			if number%12 == 11 {
				w.say(t, spaced("turn", 1+number%5))
			}
			if number%30 == 29 {
				w.say(t, "cut")
				w.say(t, spaced("open", number%7))
				w.say(t, "turn 5")
				w.say(t, "cut")
				w.say(t, "open")
			}
		}
		wantMet(t, w.met, 10, "put 2", "put 0", "drop 0", "turn 0")
		if recs := mostRecs(w.a.World); recs < 199 {
			t.Errorf("only %d records", recs)
		}
		w.say(t, "turn 50")
		for _, name := range []string{"a", "b", "c"} {
			if _, there := w.truth[name]; !there {
				t.Errorf("%s is not there", name)
			}
		}
	}
}
