package tests

import (
	"fmt"
	"strings"
	"testing"

	"loop.example/g00089/impl"
)

func wantFormat(t *testing.T, what string, a impl.Archive, lines ...string) {
	t.Helper()
	want := strings.Join(lines, "\n") + "\n"
	if got := impl.FormatArchive(a); got != want {
		t.Errorf("%s:\n%swant\n%s", what, got, want)
	}
	if plain := plainFormat(a); plain != want {
		t.Errorf("%s: by the document\n%swant\n%s", what, plain, want)
	}
}

func TestFormatOfArchives(t *testing.T) {
	bare := exampleArchive()
	wantFormat(t, "a new archive", bare, "turn 0 0", "on")
	wantFormat(t, "no power", impl.CutArchive(bare).Archive, "turn 0 1", "on")
	six := impl.RunScript(bare, "put a 0102\nturn 6").Archive
	wantFormat(t, "six turns", six, "turn 6 0", "on 2", "object a 0102")
	wantFormat(t, "six turns, and no power", impl.CutArchive(six).Archive, "turn 6 1", "on", "object a 0102")
	wantFormat(t, "an object dropped", impl.SubmitDrop(six, "a").Archive, "turn 6 0", "on 2")
	late := deepCopy(bare, 0)
	late.Desk.Turn = 1000000000
	wantFormat(t, "the last turn", late, "turn 1000000000 0", "on")
	wantFormat(t, "what lies and waits", waitingArchive(t), "turn 6 0", "on 1 2", "object a 612d31", "object b 622d31", "object e 652d31", "queue 0 2 3", "queue 1 1")
}

// On is told in the order in which they were switched on.
func TestFormatOfWhoIsOn(t *testing.T) {
	s := greatestShape()
	for _, on := range [][]int64{nil, {0}, {5}, {0, 1}, {1, 0}, {4, 2, 5}, {5, 4, 3, 2, 1, 0}} {
		a := impl.NewArchive(s).Archive
		a.World.On = on
		wantFormat(t, fmt.Sprint(on), a, "turn 0 0", strings.TrimSpace("on "+numbersOf(on)))
	}
}

// Objects by their names, with their bytes wherever these stand, or lost.
func TestFormatOfObjects(t *testing.T) {
	a := impl.RunScript(exampleArchive(), "put b 00\nput a1 ffff\nput zz 0a\nput a 10\nput zzzzzzzz "+strings.Repeat("a5", 24)+"\nput m 01\ndrop m\nput a 20\n").Archive
	objects := []string{"object a 20", "object a1 ffff", "object b 00", "object zz 0a", "object zzzzzzzz " + strings.Repeat("a5", 24)}
	wantFormat(t, "all wait", a, append([]string{"turn 0 0", "on"}, objects...)...)
	a = turns(t, a, 30)
	wantFormat(t, "all that may lie", a, append([]string{"turn 30 0", "on 2"}, objects...)...)
	for _, item := range impl.ItemsOf(a.World).Recs {
		if len(item.Data) > 0 && item.Name != "zzzzzzzz" {
			t.Errorf("%s waits", item.Name)
		}
	}
	one := impl.RunScript(a, "wipe 0 0\nwipe 0 2\n").Archive
	wantFormat(t, "one dead group", one, append(append([]string{"turn 30 0", "on 2"}, objects...), "wiped 0 0 2")...)
	home := func(name string) int64 { return homeOfName(a.World.Shape, name) }
	for _, dead := range [][2]int64{{0, 1}, {0, 2}, {1, 2}} {
		lines := []string{"turn 30 0", "on 2"}
		for _, line := range objects {
			words := strings.Split(line, " ")
			newest := impl.NewestItem(a.World, words[1]).Recs[0]
			if at := home(words[1]); len(newest.Data) == 0 && (at == dead[0] || at == dead[1]) {
				words[2] = "lost"
			}
			lines = append(lines, strings.Join(words, " "))
		}
		text := ""
		for _, group := range dead {
			text += fmt.Sprintf("wipe %d 1\nwipe %d 0\n", group, group)
			lines = append(lines, fmt.Sprint("wiped ", group, " 0 1"))
		}
		wantFormat(t, fmt.Sprint("dead groups ", dead), impl.RunScript(a, text).Archive, lines...)
	}
}

func TestFormatOfWipedDrives(t *testing.T) {
	a := impl.NewArchive(greatestShape()).Archive
	for _, line := range []string{"wipe 5 4", "wipe 0 3", "wipe 2 1", "wipe 5 0", "wipe 0 0", "wipe 0 1", "wipe 0 2", "wipe 0 4"} {
		a = impl.StepScript(a, line).Archive
	}
	wantFormat(t, "wiped", a, "turn 0 0", "on", "wiped 0 0 1 2 3 4", "wiped 2 1", "wiped 5 0 4")
	// Tapes that are wiped are not told.
	wantFormat(t, "tapes", impl.RunScript(a, "tape 0\ntape 1\ncut").Archive, "turn 0 1", "on", "wiped 0 0 1 2 3 4", "wiped 2 1", "wiped 5 0 4")
}

func TestFormatOfQueues(t *testing.T) {
	a := middleArchive()
	a.World = plainWorld(middleShape())
	wantFormat(t, "queues and aside", a, "turn 7 0", "on", "queue 0 6 3", "queue 1 9", "queue 2 11", "aside 2 4")
	a.Desk.Queues[0], a.Desk.Queues[2] = nil, nil
	wantFormat(t, "one queue", a, "turn 7 0", "on", "queue 1 9", "aside 2 4")
	a.Desk.Queues[1] = nil
	wantFormat(t, "aside alone", a, "turn 7 0", "on", "aside 2 4")
	a.Desk.Aside = nil
	wantFormat(t, "answers alone", a, "turn 7 0", "on")
	a.Desk.Queues[2], a.Desk.Next = []impl.Ticket{rebuildOf(999999999, 2)}, 1000000000
	wantFormat(t, "a great Id", a, "turn 7 0", "on", "queue 2 999999999")
	all := impl.RunScript(exampleArchive(), "put a 01\nturn 6\nwipe 1 0\nwipe 1 1\nread a\nrebuild 1\nturn 3\nrebuild 2\nread a\n").Archive
	wantFormat(t, "all kinds of lines", all, "turn 9 0", "on 2", "object a 01", "wiped 1 0 1", "queue 1 2 4", "queue 2 3", "aside 1")
}

// Everything of a busy archive is told, and each line once.
func TestFormatOfBusyArchives(t *testing.T) {
	met := map[string]int{}
	eachArchive(1440, 40, func(what string, q *sequence, r archiveRequest) {
		a := r.Archive
		if q.pick(4) == 0 {
			a = impl.CutArchive(a).Archive
		}
		got := impl.FormatArchive(a)
		if got != plainFormat(a) {
			t.Errorf("%s:\n%swant\n%s", what, got, plainFormat(a))
		}
		for _, line := range strings.Split(strings.TrimSuffix(got, "\n"), "\n") {
			words := strings.Split(line, " ")
			met[words[0]]++
			if words[len(words)-1] == "lost" {
				met["lost"]++
			}
		}
	})
	wantMet(t, met, 20, "turn", "on", "object", "lost", "wiped", "queue", "aside")
}
