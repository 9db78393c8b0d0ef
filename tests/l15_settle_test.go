package tests

import (
	"fmt"
	"math"
	"testing"

	"loop.example/g00089/impl"
)

func wantSettled(t *testing.T, what string, got impl.SettleResult, made int64, quiet bool, left impl.Archive) {
	t.Helper()
	want := impl.SettleResult{Turns: made, Quiet: quiet, Archive: left}
	if !same(got, want) {
		t.Errorf("%s: code %d, turns %d, quiet %v, want turns %d, quiet %v; the archive is the same: %v", what, got.Code, got.Turns, got.Quiet, made, quiet, same(got.Archive, left))
	}
}

func wantUnsettled(t *testing.T, what string, got impl.SettleResult, code int64, left impl.Archive) {
	t.Helper()
	want := impl.SettleResult{Code: code, Archive: left}
	if !same(got, want) {
		t.Errorf("%s: code %d, turns %d, quiet %v, want the code %d and no more; the archive is the same: %v", what, got.Code, got.Turns, got.Quiet, code, same(got.Archive, left))
	}
}

// restless is an archive of middleShape that never gets quiet: the share by
// which "a" is read stays open as long as its home is dead.
func restless(t *testing.T) impl.Archive {
	t.Helper()
	told := impl.RunScript(exampleArchive(), "put a 0102\nturn 6\nwipe 1 0\nwipe 1 1\nread a\nturn 9\npoll 1\n")
	if told.Said != "ok\nturn 6\nok\nok\nticket 1\nturn 15\nanswer 1 0 0102\n" {
		t.Fatalf("said %q", told.Said)
	}
	return told.Archive
}

func TestSettleTurnsAtTheirBounds(t *testing.T) {
	for _, a := range []impl.Archive{exampleArchive(), lyingArchive(t), restless(t), middleArchive()} {
		for _, most := range []int64{math.MinInt64, math.MinInt64 + 1, -1 << 32, -400, -1, 401, 402, 1 << 32, 1<<32 + 1, math.MaxInt64 - 1, math.MaxInt64} {
			wantUnsettled(t, fmt.Sprint(most, " turns"), impl.SettleArchive(a, most), impl.ErrRange, impl.Archive{})
			wantUnsettled(t, fmt.Sprint(most, " turns, no power"), impl.SettleArchive(impl.CutArchive(a).Archive, most), impl.ErrDown, impl.Archive{})
			wantUnsettled(t, fmt.Sprint(most, " turns of nothing"), impl.SettleArchive(impl.Archive{}, most), impl.ErrRange, impl.Archive{})
			faulty := deepCopy(a, 0)
			faulty.World.Down, faulty.World.On = true, nil
			faulty.Desk.Next, faulty.Desk.Aside = 100, []impl.Ticket{rebuildOf(99, 0)}
			wantUnsettled(t, fmt.Sprint(most, " turns of a faulty one"), impl.SettleArchive(faulty, most), impl.ErrForm, impl.Archive{})
		}
		for _, most := range []int64{0, 1, 399, 400} {
			if got := impl.SettleArchive(a, most); got.Code != impl.OK && a.World.Stop < 0 {
				t.Errorf("%d turns: code %d", most, got.Code)
			}
		}
	}
}

// An archive that is quiet at the beginning stays as it is, whatever the turns.
func TestSettleWhatIsQuiet(t *testing.T) {
	quiet := impl.RunScript(exampleArchive(), "put a 0102\nturn 6\nread a\nturn 3\n").Archive
	last := deepCopy(quiet, 0)
	last.Desk.Turn = 1000000000
	failing := deepCopy(quiet, 0)
	failing.World.Stop = 0
	for _, a := range []impl.Archive{impl.NewArchive(greatestShape()).Archive, quiet, last, failing} {
		for _, most := range []int64{0, 1, 2, 400} {
			wantSettled(t, fmt.Sprint(most, " turns"), impl.SettleArchive(a, most), 0, true, a)
		}
	}
}

// As many turns are made as it takes, or as may be.
func TestSettleByTurns(t *testing.T) {
	lines := "wipe 0 0\nput a 01\nput b 02\nput c 030405060708090a0b\nput d 0c\nread a\nrebuild 0\nrebuild 1\nturn 1\n"
	for _, c := range []struct {
		what   string
		a      impl.Archive
		needed int64
	}{
		{"one put", impl.RunScript(exampleArchive(), "put a 0102\n").Archive, 3},
		{"one put, a turn later", impl.RunScript(exampleArchive(), "put a 0102\nturn 1\n").Archive, 2},
		{"one put, two turns later", impl.RunScript(exampleArchive(), "put a 0102\nturn 2\n").Archive, 1},
		{"a rebuild", impl.RunScript(exampleArchive(), "rebuild 2\n").Archive, 3},
		{"two rebuilds", impl.RunScript(exampleArchive(), "rebuild 2\nrebuild 2\n").Archive, 6},
		{"a dead group", impl.RunScript(exampleArchive(), "put a 0102\nturn 3\nwipe 1 0\nwipe 1 2\nrebuild 1\n").Archive, 5},
		{"all kinds", impl.RunScript(exampleArchive(), lines).Archive, 5},
	} {
		for most := range c.needed + 4 {
			made := min(most, c.needed)
			wantSettled(t, fmt.Sprint(c.what, ", ", most, " turns"), impl.SettleArchive(c.a, most), made, most >= c.needed, turns(t, c.a, made))
		}
		wantSettled(t, c.what+", all turns", impl.SettleArchive(c.a, 400), c.needed, true, turns(t, c.a, c.needed))
	}
}

func TestSettleWhatIsNeverQuiet(t *testing.T) {
	a := restless(t)
	at := a
	made := int64(0)
	for _, count := range []int64{0, 1, 2, 3, 50, 399, 400} {
		at = turns(t, at, count-made)
		made = count
		wantSettled(t, fmt.Sprint(count, " turns"), impl.SettleArchive(a, count), count, false, at)
	}
	// It is quiet as soon as the group is rebuilt.
	rebuilt := impl.SettleArchive(done(t, "rebuild", impl.SubmitRebuild(a, 1)), 400)
	if rebuilt.Code != impl.OK || !rebuilt.Quiet || rebuilt.Turns > 12 {
		t.Errorf("rebuilt: code %d, quiet %v, turns %d", rebuilt.Code, rebuilt.Quiet, rebuilt.Turns)
	}
}

// What waits at a dead home waits for no turn.
func TestSettleBesideADeadHome(t *testing.T) {
	a := impl.RunScript(exampleArchive(), "wipe 1 0\nwipe 1 1\nput a 0102\n").Archive
	wantSettled(t, "a dead home", impl.SettleArchive(a, 400), 0, true, a)
	a = impl.StepScript(a, "put b 03").Archive
	wantSettled(t, "one home of two", impl.SettleArchive(a, 400), 3, true, turns(t, a, 3))
}

// Power that fails in a turn ends it, and the archive is told as it is then:
// of how many turns were made ahead of it nothing is said beside the code.
func TestSettleCutAtEachWrite(t *testing.T) {
	for i, a := range []impl.Archive{
		impl.RunScript(exampleArchive(), "put a 0102030405060708090a\nput b 01\nwipe 0 0\nrebuild 0\n").Archive,
		impl.RunScript(exampleArchive(), "put a 0102\nturn 3\nwipe 1 0\nwipe 1 2\nrebuild 1\nput c 09\nread a\n").Archive,
	} {
		a = deepCopy(a, 0)
		a.World.Writes = 0
		whole := impl.SettleArchive(a, 30)
		if whole.Code != impl.OK || !whole.Quiet || whole.Turns < 3 {
			t.Fatalf("archive %d: code %d, quiet %v, turns %d", i, whole.Code, whole.Quiet, whole.Turns)
		}
		for stop := range whole.Archive.World.Writes {
			cut := deepCopy(a, 0)
			cut.World.Stop = stop
			at, made := cut, int64(0)
			told := impl.TurnArchive(at)
			for told.Code == impl.OK {
				at, made = told.Archive, made+1
				told = impl.TurnArchive(at)
			}
			what := fmt.Sprint("archive ", i, ", stop ", stop)
			if told.Code != impl.ErrDown || !told.Archive.World.Down || told.Archive.World.Writes != stop {
				t.Fatalf("%s: code %d", what, told.Code)
			}
			for _, most := range []int64{made + 1, 30, 400} {
				wantUnsettled(t, what, impl.SettleArchive(cut, most), impl.ErrDown, told.Archive)
			}
			wantSettled(t, what+", ahead of it", impl.SettleArchive(cut, made), made, false, at)
		}
		a.World.Stop = whole.Archive.World.Writes
		whole.Archive.World.Stop = a.World.Stop
		wantSettled(t, "no further write", impl.SettleArchive(a, 30), whole.Turns, true, whole.Archive)
	}
}

// A turn with another code leaves nothing: neither the archive nor the turns
// that were made.
func TestSettleBeyondTheLastTurn(t *testing.T) {
	for left := range int64(5) {
		a := restless(t)
		a.Desk.Turn = 1000000000 - left
		for most := range int64(8) {
			got := impl.SettleArchive(a, most)
			if most <= left {
				wantSettled(t, fmt.Sprint(left, " left, ", most, " turns"), got, most, false, turns(t, a, most))
			} else {
				wantUnsettled(t, fmt.Sprint(left, " left, ", most, " turns"), got, impl.ErrMany, impl.Archive{})
			}
		}
	}
	// It is quiet by the last turn, and needs no further one.
	a := impl.RunScript(exampleArchive(), "put a 0102\n").Archive
	a.Desk.Turn = 1000000000 - 3
	needed := int64(3) - a.Desk.Turn%3
	if needed != 2 {
		t.Fatalf("the turn is that of the group %d", a.Desk.Turn%3)
	}
	wantSettled(t, "the last turns", impl.SettleArchive(a, 400), 2, true, turns(t, a, 2))
	a.Desk.Turn = 1000000000 - 2
	wantUnsettled(t, "a turn too few", impl.SettleArchive(a, 400), impl.ErrMany, impl.Archive{})
}

func TestSettleAnswersNewMemory(t *testing.T) {
	for _, a := range []impl.Archive{exampleArchive(), lyingArchive(t), restless(t), busyArchive()} {
		for _, most := range []int64{-1, 0, 1, 7} {
			given := deepCopy(a, 2)
			wantNew(t, fmt.Sprint(most, " turns"), func() impl.SettleResult { return impl.SettleArchive(given, most) }, given)
		}
	}
}
