package tests

import (
	"fmt"
	"strings"
	"testing"

	"loop.example/g00089/impl"
)

func wantRun(t *testing.T, what string, a impl.Archive, text string, left impl.Archive, said string) {
	t.Helper()
	wantScript(t, what, impl.RunScript(a, text), impl.ScriptResult{Archive: left, Said: said})
}

// The archive of the document's examples.
func exampleArchive() impl.Archive {
	return impl.NewArchive(impl.Shape{Groups: 2, Column: 1, Data: 2, Spare: 1, Rows: 3, Cap: 1, Batch: 1, Queue: 2, Stage: 60}).Archive
}

func TestTheExampleScript(t *testing.T) {
	got := impl.RunScript(exampleArchive(), "put a 0102\nread a\npoll 1\nturn 6\nstate\n")
	if got.Code != impl.OK || got.Said != "ok\nticket 1\nanswer 1 0 0102\nturn 6\nstate 0 1 1 0\n" {
		t.Errorf("code %d, said %q", got.Code, got.Said)
	}
	a := exampleArchive()
	for i, want := range []string{"ok", "ticket 1", "answer 1 0 0102", "turn 6", "state 0 1 1 0"} {
		told := impl.StepScript(a, []string{"put a 0102", "read a", "poll 1", "turn 6", "state"}[i])
		if told.Code != impl.OK || told.Said != want {
			t.Errorf("%d: code %d, said %q, want %q", i, told.Code, told.Said, want)
		}
		a = told.Archive
	}
	wantScript(t, "line by line", got, impl.ScriptResult{Archive: a, Said: got.Said})
}

func TestLongTexts(t *testing.T) {
	a := waitingArchive(t)
	for _, c := range []struct {
		what, text string
		code       int64
		said       string
	}{
		{"4000 blanks", strings.Repeat(" ", 4000), 0, ""}, {"4001 blanks", strings.Repeat(" ", 4001), impl.ErrMany, ""},
		{"4000 letters", strings.Repeat("x", 4000), 0, "! 5\n"}, {"4001 letters", strings.Repeat("x", 4001), impl.ErrMany, ""},
		{"4000 bytes with a line feed", strings.Repeat("x", 3999) + "\n", 0, "! 5\n"}, {"4001 bytes with a line feed", strings.Repeat("x", 4000) + "\n", impl.ErrMany, ""},
		{"2000 signs of 2 bytes", strings.Repeat("é", 2000), 0, "! 5\n"}, {"2001 signs of 2 bytes", strings.Repeat("é", 2001), impl.ErrMany, ""},
		{"4000 bytes that are no signs", strings.Repeat("\xff", 4000), 0, "! 5\n"}, {"4001 bytes that are no signs", strings.Repeat("\xff", 4001), impl.ErrMany, ""},
		{"120 line feeds", strings.Repeat("\n", 120), 0, ""}, {"121 line feeds", strings.Repeat("\n", 121), impl.ErrMany, ""}, {"4000 line feeds", strings.Repeat("\n", 4000), impl.ErrMany, ""},
		{"120 lines", strings.Repeat("state\n", 120), 0, strings.Repeat("state 3 4 2 3\n", 120)}, {"121 lines", strings.Repeat("state\n", 121), impl.ErrMany, ""},
		{"120 lines, no line feed at the end", strings.Repeat("state\n", 119) + "state", 0, strings.Repeat("state 3 4 2 3\n", 120)},
		{"121 lines, no line feed at the end", strings.Repeat("state\n", 120) + "state", impl.ErrMany, ""}, {"120 line feeds and a blank", strings.Repeat("\n", 120) + " ", impl.ErrMany, ""},
		{"119 line feeds and a blank", strings.Repeat("\n", 119) + " ", 0, ""}, {"122 lines", strings.Repeat("wink\n", 122), impl.ErrMany, ""},
		{"120 lines of 4000 bytes", strings.Repeat(" ", 40) + strings.Repeat("state"+strings.Repeat(" ", 27)+"\n", 120), 0, strings.Repeat("state 3 4 2 3\n", 120)},
		{"very many", strings.Repeat("cut\n", 100000), impl.ErrMany, ""},
	} {
		want := impl.ScriptResult{Archive: a, Said: c.said}
		if c.code != impl.OK {
			want = impl.ScriptResult{Code: c.code}
		}
		wantScript(t, c.what, impl.RunScript(a, c.text), want)
	}
}

func TestTextsThatSayLittle(t *testing.T) {
	for _, a := range []impl.Archive{exampleArchive(), middleArchive(), downArchive().Archive} {
		for _, text := range []string{"", "\n", "\n\n\n", " ", "   \n", " \n  \n\n   "} {
			wantRun(t, fmt.Sprintf("%q", text), a, text, a, "")
		}
		for _, c := range []struct{ text, said string }{
			{"wink", "! 5\n"}, {"wink\n", "! 5\n"}, {"\nwink\n\n", "! 5\n"}, {"\n \nwink\n \nwink", "! 5\n! 5\n"}, {"\r\n", "! 5\n"}, {"\t", "! 5\n"}, {"\x00\n", "! 5\n"}, {"\xff\n\xe2\n\x80\n", "! 5\n! 5\n! 5\n"},
			{"turn 51", "! 3\n"}, {"turn 51\nturn 51\n", "! 3\n! 3\n"},
		} {
			wantRun(t, fmt.Sprintf("%q", c.text), a, c.text, a, c.said)
		}
	}
}

// A line with a code leaves nothing of itself, and the lines behind it go on.
func TestScriptsWithCodes(t *testing.T) {
	a := exampleArchive()
	text := "put a 01\nput a\nput b 02\ndrop c\nput B 03\nopen\nwipe 3 0\nturn 51\npoll 7\nstate\n"
	want := impl.SubmitPut(impl.SubmitPut(a, "a", []byte{1}).Archive, "b", []byte{2}).Archive
	wantRun(t, "codes", a, text, want, "ok\n! 5\nok\n! 4\n! 5\n! 1\n! 3\n! 3\n! 4\nstate 2 2 0 0\n")
	// Turns ahead of the one with a code are not made either.
	a.Desk.Turn = 1000000000 - 2
	made := turns(t, impl.SubmitPut(a, "a", []byte{1}).Archive, 1)
	wantRun(t, "turns", a, "put a 01\nturn 3\nturn 1\nturn 2\n", made, "ok\n! 2\nturn 999999999\n! 2\n")
	a = waitingArchive(t)
	full := "rebuild 2\nrebuild 2\nrebuild 2\npoll 5\npoll 6\ncancel 4\nrebuild 2\nstate"
	wantRun(t, "a full queue", a, full, plainRun(a, full).Archive, "ticket 4\nticket 5\n! 11\n! 11\n! 4\nok\nticket 6\nstate 3 4 2 5\n")
}

// Where power fails what was done stays, and all that follow tell that there
// is none, until it is opened.
func TestScriptsAtWhichPowerFails(t *testing.T) {
	a := exampleArchive()
	for stop := range int64(4) {
		text := fmt.Sprintf("cut\nopen %d\nput a 01\nput b 02\ncut\nopen\nread a\nread b\npoll 1\npoll 2", stop)
		read := []string{"answer 1 4\nanswer 2 4\n", "answer 1 0 01\nanswer 2 4\n", "answer 1 0 01\nanswer 2 4\n", "answer 1 0 01\nanswer 2 0 02\n"}[stop]
		puts := []string{"! 9\n! 9\n", "! 9\n! 9\n", "ok\n! 9\n", "ok\n! 9\n"}[stop]
		got := impl.RunScript(a, text)
		wantScript(t, fmt.Sprint("stop ", stop), got, impl.ScriptResult{Archive: plainRun(a, text).Archive, Said: "ok\nok\n" + puts + "ok\nok\nticket 1\nticket 2\n" + read})
	}
	text := "cut\nopen 5\nput a 01\nput b 02\nturn 50\nstate\nread a\npoll 1\nwipe 0 0\nopen 3\nread a\npoll 1\nturn 50\nstate\nopen\nturn 9\nstate\n"
	want := "ok\nok\nok\nok\n! 9\nstate 2 3 0 0\n! 9\n! 4\nok\nok\nticket 1\nanswer 1 0 01\n! 9\nstate 2 4 0 0\nok\nturn 11\nstate 0 2 1 0\n"
	got := impl.RunScript(a, text)
	wantScript(t, "twice", got, impl.ScriptResult{Archive: plainRun(a, text).Archive, Said: want})
}

// longScripts come far: all kinds of lines, with codes, cuts and wipes.
func longScripts() []string {
	return []string{
		"put a 0102\nput b 030405060708090a0b\nread a\nread b\npoll 1\n\nturn 3\nstate\nread a\nread b\nturn 2\npoll 3\npoll 4\nwipe 1 0\nwipe 1 2\nread a\nrebuild 1\nturn 9\nstate\npoll 5\npoll 6\ndrop a\nread a\npoll 7\nstate",
		"cut\nopen 3\nput a 01\nput b 02\nput c 03\nwink\nopen 20\nput b 04\nturn 50\nopen\n  \nturn 50\nread b\nread a\nturn 3\npoll 1\npoll 2\ntape 0\nturn 1\ntape 1\nstate\nread a\nread b\nturn 3\npoll 3\npoll 4\n",
		"put a 11\nput c 1213141516171819202122\nput e 33\nput f 44\nturn 12\nwipe 2 0\nwipe 2 1\nput a 55\nrebuild 2\nturn 4\nstate\nread c\ncancel 2\ncancel 2\nturn 8\nread a\nread c\nread e\nturn 3\nread e\nturn 3\npoll 3\npoll 4\npoll 5\nstate\n",
	}
}

// A script that is cut behind a line feed does in two parts what it does in one.
func TestScriptsCutBehindEachLineFeed(t *testing.T) {
	for i, text := range longScripts() {
		for _, s := range walkShapes() {
			a := impl.NewArchive(s).Archive
			whole := impl.RunScript(a, text)
			wantScript(t, fmt.Sprint("script ", i), whole, plainRun(a, text))
			for place, sign := range text {
				if sign != '\n' {
					continue
				}
				first := impl.RunScript(a, text[:place+1])
				second := impl.RunScript(first.Archive, text[place+1:])
				second.Said = first.Said + second.Said
				wantScript(t, fmt.Sprintf("script %d, cut at %d", i, place), second, whole)
			}
		}
	}
}

// What stands ahead of a line feed at the end is a line as without it, and
// empty lines change nothing.
func TestLineFeedsAtTheEnd(t *testing.T) {
	for i, text := range longScripts() {
		a := exampleArchive()
		bare := strings.TrimSuffix(text, "\n")
		want := impl.RunScript(a, bare)
		wantScript(t, fmt.Sprint(i), impl.RunScript(a, bare+"\n"), want)
		wantScript(t, fmt.Sprint(i), impl.RunScript(a, bare+"\n\n \n"), want)
		wantScript(t, fmt.Sprint(i), impl.RunScript(a, "\n\n"+strings.ReplaceAll(bare, "\n", "\n\n")), want)
	}
}
