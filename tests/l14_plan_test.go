package tests

import (
	"encoding/hex"
	"fmt"
	"regexp"
	"slices"
	"strconv"
	"strings"
	"sync"
	"testing"

	"loop.example/g00089/impl"
)

// plainLine is one kind of line: how its words are written, one blank between
// them, what it asks for, and what it says if all goes well.
type plainLine struct {
	pattern *regexp.Regexp
	call    func(q archiveRequest, words []string) archiveReply
	said    func(told archiveReply) string
}

func numberIn(word string) int64 {
	number, err := strconv.ParseInt(word, 10, 64)
	if err != nil {
		panic(err)
	}
	return number
}

func saysOk(archiveReply) string { return "ok" }

func saysTicket(told archiveReply) string { return fmt.Sprint("ticket ", told.Id) }

func saysTurn(told archiveReply) string { return fmt.Sprint("turn ", told.Archive.Desk.Turn) }

func saysAnswer(told archiveReply) string {
	return strings.TrimRight(fmt.Sprintf("answer %d %d %x", told.Answer.Id, told.Answer.Code, told.Answer.Bytes), " ")
}

func saysState(told archiveReply) string {
	w := told.Archive.World
	return fmt.Sprintf("state %d %d %d %d", plainWaiting(question{World: w}).Value, len(plainCounted(w)), len(w.On), len(flat(idsIn(told.Archive.Desk))))
}

// plainTurns leaves behind what the last turn does.
func plainTurns(q archiveRequest, words []string) archiveReply {
	count := numberIn(words[0])
	if count > 50 {
		return archiveReply{Code: impl.ErrRange}
	}
	told := archiveReply{Archive: q.Archive}
	for range count {
		if told = plainTurn(archiveRequest{Archive: told.Archive}); told.Code != impl.OK {
			break
		}
	}
	return told
}

func plainLines() []plainLine {
	line := func(pattern string, said func(told archiveReply) string, call func(q archiveRequest, words []string) archiveReply) plainLine {
		pattern = strings.NewReplacer("NAME", "([^ ]+)", "HEX", "((?:[0-9a-f]{2}){1,40})", "N", "([0-9]{1,9})").Replace(pattern)
		return plainLine{regexp.MustCompile("(?s)^" + pattern + "$"), call, said}
	}
	named := func(call func(q archiveRequest) archiveReply) func(q archiveRequest, words []string) archiveReply {
		return func(q archiveRequest, words []string) archiveReply {
			q.Name = words[0]
			return call(q)
		}
	}
	return []plainLine{
		line("put NAME HEX", saysOk, func(q archiveRequest, words []string) archiveReply {
			q.Name = words[0]
			q.Bytes, _ = hex.DecodeString(words[1])
			return plainSubmitPut(q)
		}),
		line("drop NAME", saysOk, named(plainSubmitDrop)),
		line("read NAME", saysTicket, named(plainSubmitRead)),
		line("cancel N", saysOk, func(q archiveRequest, words []string) archiveReply {
			q.Id = numberIn(words[0])
			return plainCancelArchive(q)
		}),
		line("wipe N N", saysOk, func(q archiveRequest, words []string) archiveReply {
			q.Group, q.Drive = numberIn(words[0]), numberIn(words[1])
			return plainWipeArchive(q)
		}),
		line("tape N", saysOk, func(q archiveRequest, words []string) archiveReply {
			q.Tape = numberIn(words[0])
			return plainWipeStaging(q)
		}),
		line("cut", saysOk, func(q archiveRequest, words []string) archiveReply { return plainCutArchive(q) }),
		line("open", saysOk, func(q archiveRequest, words []string) archiveReply {
			q.Stop = -1
			return plainOpenArchive(q)
		}),
		line("open N", saysOk, func(q archiveRequest, words []string) archiveReply {
			q.Stop = numberIn(words[0])
			return plainOpenArchive(q)
		}),
		line("rebuild N", saysTicket, func(q archiveRequest, words []string) archiveReply {
			q.Group = numberIn(words[0])
			return plainSubmitRebuild(q)
		}),
		line("poll N", saysAnswer, func(q archiveRequest, words []string) archiveReply {
			q.Id = numberIn(words[0])
			told := plainPollArchive(q)
			told.Archive = q.Archive
			return told
		}),
		line("turn N", saysTurn, plainTurns),
		line("state", saysState, func(q archiveRequest, words []string) archiveReply { return archiveReply{Archive: q.Archive} }),
	}
}

func plainWords(line string) []string {
	return strings.FieldsFunc(line, func(sign rune) bool { return sign == 32 })
}

// plainStep wants an archive without a fault.
func plainStep(a impl.Archive, line string) impl.ScriptResult {
	words := strings.Join(plainWords(line), " ")
	if strings.Contains(line, "\n") {
		return impl.ScriptResult{Code: impl.ErrText}
	}
	if words == "" {
		return impl.ScriptResult{Archive: a}
	}
	for _, kind := range plainLines() {
		found := kind.pattern.FindStringSubmatch(words)
		if found == nil {
			continue
		}
		told := kind.call(archiveRequest{Archive: a}, found[1:])
		switch {
		case told.Code == impl.OK:
			return impl.ScriptResult{Archive: told.Archive, Said: kind.said(told)}
		case told.Code == impl.ErrDown && !a.World.Down:
			return impl.ScriptResult{Code: told.Code, Archive: told.Archive}
		default:
			return impl.ScriptResult{Code: told.Code}
		}
	}
	return impl.ScriptResult{Code: impl.ErrText}
}

// plainRun wants an archive without a fault, and a text that is not too long.
func plainRun(a impl.Archive, text string) impl.ScriptResult {
	all := impl.ScriptResult{Archive: a}
	for _, line := range strings.SplitAfter(text, "\n") {
		if line == "" {
			continue
		}
		told := plainStep(all.Archive, strings.TrimSuffix(line, "\n"))
		if told.Code != impl.OK {
			all.Said += fmt.Sprintf("! %d\n", told.Code)
		} else if told.Said != "" {
			all.Said += told.Said + "\n"
		}
		if told.Code == impl.OK || told.Code == impl.ErrDown && !all.Archive.World.Down {
			all.Archive = told.Archive
		}
	}
	return all
}

func spaced(words ...any) string {
	return strings.TrimSuffix(fmt.Sprintln(words...), "\n")
}

func numbersOf(list []int64) string {
	return strings.Trim(fmt.Sprint(list), "[]")
}

// plainFormat wants an archive without a fault.
func plainFormat(a impl.Archive) string {
	down := 0
	if a.World.Down {
		down = 1
	}
	lines := []string{spaced("turn", a.Desk.Turn, down), strings.TrimSpace("on " + numbersOf(a.World.On))}
	for _, thing := range plainTruth(request{World: a.World}).Things {
		if thing.Lost {
			lines = append(lines, spaced("object", thing.Name, "lost"))
		} else {
			lines = append(lines, spaced("object", thing.Name, hex.EncodeToString(thing.Bytes)))
		}
	}
	for group := range a.World.Groups {
		if wiped := wipedIn(a.World, int64(group)); len(wiped) > 0 {
			lines = append(lines, spaced("wiped", group, numbersOf(wiped)))
		}
	}
	for line, ids := range idsIn(a.Desk) {
		switch {
		case len(ids) == 0:
		case line == len(a.Desk.Queues):
			lines = append(lines, spaced("aside", numbersOf(ids)))
		default:
			lines = append(lines, spaced("queue", line, numbersOf(ids)))
		}
	}
	return strings.Join(lines, "\n") + "\n"
}

func wantScript(t *testing.T, what string, got, want impl.ScriptResult) {
	t.Helper()
	if !same(got, want) {
		t.Errorf("%s:\n got %+v\nwant %+v", what, got, want)
	}
}

func wantNoScript(t *testing.T, what string, got impl.ScriptResult, code int64) {
	t.Helper()
	wantScript(t, what, got, impl.ScriptResult{Code: code})
}

// anyLine mostly asks for what may be had.
func anyLine(q *sequence, a impl.Archive) string {
	r := anyArchiveRequest(q, a)
	turns := []int64{1, 1, 1, 2, 3, 0, 51}[q.pick(7)]
	lines := []string{
		spaced("put", r.Name, hex.EncodeToString(r.Bytes)), spaced("drop", r.Name), spaced("read", r.Name), spaced("cancel", r.Id), spaced("wipe", r.Group, r.Drive),
		spaced("tape", r.Tape), "cut", "open", spaced("open", max(r.Stop, 0)), spaced("rebuild", r.Group), spaced("poll", r.Id), spaced("turn", turns), "state", spaced("turn", turns), "",
	}
	line := lines[q.pick(int64(len(lines)))]
	switch q.pick(16) {
	case 0:
		line = "  " + strings.ReplaceAll(line, " ", "   ") + " "
	case 1:
		line += []string{" 0", " a", "\n", "\r", "\t", "0", " 00", "\xff"}[q.pick(8)]
	case 2:
		words := plainWords(line)
		line = strings.Join(words[:min(len(words), int(q.pick(2)))], " ")
	}
	return line
}

func TestManyLinesAtManyArchives(t *testing.T) {
	met := map[string]int{}
	eachArchive(1410, 60, func(what string, q *sequence, r archiveRequest) {
		a := r.Archive
		if q.pick(4) == 0 {
			a = impl.CutArchive(a).Archive
		} else if q.pick(3) == 0 {
			a.World.Stop = a.World.Writes + q.pick(12)
		}
		for range 12 {
			line := anyLine(q, a)
			got := impl.StepScript(a, line)
			wantScript(t, fmt.Sprintf("%q, %s", line, what), got, plainStep(a, line))
			met[fmt.Sprint(append(plainWords(line), "nothing")[0], " ", got.Code)]++
		}
		if got := impl.FormatArchive(a); got != plainFormat(a) {
			t.Errorf("%s:\n%swant\n%s", what, got, plainFormat(a))
		}
	})
	wantMet(t, met, 5, "put 0", "put 2", "put 5", "put 9", "put 11", "drop 0", "drop 4", "drop 5", "drop 9", "read 0", "read 5", "read 9", "read 11", "cancel 0", "cancel 4", "cancel 5",
		"wipe 0", "wipe 3", "wipe 5", "tape 0", "tape 3", "tape 5", "cut 0", "cut 5", "open 0", "open 1", "open 5", "rebuild 0", "rebuild 3", "rebuild 5", "rebuild 9", "rebuild 11",
		"poll 0", "poll 4", "poll 5", "poll 11", "turn 0", "turn 2", "turn 3", "turn 5", "turn 9", "state 0", "state 5", "nothing 0")
}

func TestManyScriptsAtManyArchives(t *testing.T) {
	met := map[string]int{}
	eachArchive(1420, 30, func(what string, q *sequence, r archiveRequest) {
		a := r.Archive
		for range 2 {
			if q.pick(2) == 0 {
				a.World.Stop = a.World.Writes + q.pick(30)
			}
			text := ""
			for range q.pick(8) {
				text += anyLine(q, a) + "\n"
			}
			if q.pick(2) == 0 {
				text += anyLine(q, a)
			}
			got := impl.RunScript(a, text)
			wantScript(t, fmt.Sprintf("%q, %s", text, what), got, plainRun(a, text))
			for _, line := range strings.Split(got.Said, "\n") {
				met[append(plainWords(line), "nothing")[0]]++
			}
			a = got.Archive
		}
	})
	wantMet(t, met, 20, "ok", "!", "ticket", "answer", "turn", "state", "nothing")
}

// What a line, a script and the format answer is new memory, and the same again.
func TestManyLinesKeepTheirArguments(t *testing.T) {
	eachArchive(1430, 12, func(what string, q *sequence, r archiveRequest) {
		a := deepCopy(r.Archive, int(q.pick(3)))
		if q.pick(2) == 0 {
			a.World.Stop = a.World.Writes + q.pick(12)
		}
		lines := []string{"", " ", "\n", "x", "state", "poll 5", "turn 0", "turn 2", "cut", "open", "open 3", "wipe 0 0", "tape 1", "rebuild 0", "put a 00", "read a", "cancel 1", "drop a"}
		for range 5 {
			lines = append(lines, anyLine(q, a))
		}
		for _, line := range lines {
			wantNew(t, fmt.Sprintf("%q, %s", line, what), func() impl.ScriptResult { return impl.StepScript(a, line) }, a)
		}
		text := strings.Join(slices.DeleteFunc(lines, func(line string) bool { return line == "cut" || line == "turn 2" }), "\n")
		for _, text := range []string{"", "\n", text} {
			wantNew(t, fmt.Sprintf("%q, %s", text, what), func() impl.ScriptResult { return impl.RunScript(a, text) }, a)
		}
		wantNew(t, "FormatArchive, "+what, func() string { return impl.FormatArchive(a) }, a)
	})
}

// One archive may be told lines from many sides at once.
func TestScriptFromManySides(t *testing.T) {
	lines := []string{"put a 0102", "drop a", "read a", "rebuild 0", "wipe 0 0", "tape 0", "cut", "turn 3", "state", "poll 1", "cancel 1", "open 2", ""}
	text := strings.Join(lines, "\n")
	eachArchive(1490, 2, func(what string, q *sequence, r archiveRequest) {
		a := r.Archive
		var sides sync.WaitGroup
		for _, line := range lines {
			want := plainStep(a, line)
			for range 3 {
				sides.Add(1)
				go func() {
					defer sides.Done()
					wantScript(t, fmt.Sprintf("%q, %s", line, what), impl.StepScript(a, line), want)
				}()
			}
		}
		want, told := plainRun(a, text), plainFormat(a)
		for range 3 {
			sides.Add(1)
			go func() {
				defer sides.Done()
				wantScript(t, what, impl.RunScript(a, text), want)
				if got := impl.FormatArchive(a); got != told {
					t.Errorf("%s: %q, want %q", what, got, told)
				}
			}()
		}
		sides.Wait()
	})
}
