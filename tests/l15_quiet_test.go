package tests

import (
	"fmt"
	"testing"

	"loop.example/g00089/impl"
)

// wantQuiet wants an archive to be quiet or not, which it never is without power.
func wantQuiet(t *testing.T, what string, a impl.Archive, want bool) {
	t.Helper()
	wantArchiveCode(t, what, a, impl.OK)
	if got := impl.QuietArchive(a); got != want || isQuietIn(a) != want {
		t.Errorf("%s: quiet is %v, by the document %v, want %v", what, got, isQuietIn(a), want)
	}
	wantHolds(t, what+", no power", impl.QuietArchive(impl.CutArchive(a).Archive), false)
}

func TestNewArchivesAreQuiet(t *testing.T) {
	check := func(s impl.Shape) { wantQuiet(t, fmt.Sprint(s), impl.NewArchive(s).Archive, true) }
	eachExtreme(check)
	for _, s := range deskShapes() {
		check(s)
	}
	for _, s := range wrongShapesOfAll() {
		a := impl.NewArchive(middleShape()).Archive
		a.World.Shape = s
		wantHolds(t, fmt.Sprint(s), impl.QuietArchive(a), false)
	}
	wantHolds(t, "nothing", impl.QuietArchive(impl.Archive{}), false)
}

// No archive in which a ticket waits is quiet; answers, turns and who is on do
// not matter.
func TestTicketsAndWhoIsQuiet(t *testing.T) {
	for _, s := range deskShapes() {
		bare := impl.NewArchive(s).Archive
		bare.Desk.Turn, bare.Desk.Next = 1000000000, 1000000000
		bare.Desk.Answers = answersOf(200, 1)
		bare.World.On = []int64{0}
		wantQuiet(t, "answers alone", bare, true)
		for group := range s.Groups + s.Column {
			a := deepCopy(bare, 0)
			a.Desk.Queues[group] = []impl.Ticket{rebuildOf(777, group)}
			wantQuiet(t, fmt.Sprint("one waits in the queue ", group), a, false)
			a = deepCopy(bare, 0)
			a.Desk.Aside = []impl.Ticket{rebuildOf(777, group)}
			wantQuiet(t, fmt.Sprint("one of the group ", group, " waits aside"), a, false)
		}
	}
}

// quietCase is what tapes may say, which groups are dead, and whether an
// archive is quiet by that.
type quietCase struct {
	what  string
	recs  []impl.Rec
	dead  []int64
	quiet bool
}

func wantQuietCases(t *testing.T, s impl.Shape, cases []quietCase) {
	t.Helper()
	for _, c := range cases {
		bare := fittingArchive(s)
		for _, group := range c.dead {
			wipe(bare.World, group, s.Spare+1)
		}
		eachLaying(bare.World, c.recs, func(what string, w impl.World) {
			a := bare
			a.World = w
			wantQuiet(t, fmt.Sprint(c.what, ", column ", s.Column, ", ", what), a, c.quiet)
		})
	}
}

func TestMovesAndWhoIsQuiet(t *testing.T) {
	none, one, two := middleShape(), middleShape(), middleShape()
	none.Column, two.Column = 0, 2
	wantQuietCases(t, one, []quietCase{
		{what: "a move", recs: []impl.Rec{moveOf(one, 3, 1, 0)}},
		{what: "a move done in its group", recs: []impl.Rec{moveOf(one, 3, 1, 0), doneOf(3, 1)}},
		{what: "a move done in parity", recs: []impl.Rec{moveOf(one, 3, 1, 0), doneOf(3, 2)}},
		{what: "a move done in parity and another group", recs: []impl.Rec{moveOf(one, 3, 1, 0), doneOf(3, 2), doneOf(3, 0)}},
		// Such a one is not struck, since its Seq is the greatest; it is spent all the same.
		{what: "a move done everywhere", recs: []impl.Rec{moveOf(one, 3, 1, 0), doneOf(3, 1), doneOf(3, 2)}, quiet: true},
		{what: "a move done everywhere, and more", recs: []impl.Rec{moveOf(one, 3, 1, 0), doneOf(3, 1), doneOf(3, 2), doneOf(9, 0)}, quiet: true},
		{what: "two moves, one done", recs: []impl.Rec{moveOf(one, 3, 1, 0), doneOf(3, 1), doneOf(3, 2), moveOf(one, 4, 0, 0)}},
		{what: "two moves, the other done", recs: []impl.Rec{moveOf(one, 3, 1, 0), moveOf(one, 4, 0, 0), doneOf(4, 0), doneOf(4, 2)}},
		{what: "two moves of one Seq, one done", recs: []impl.Rec{moveOf(one, 3, 1, 0), moveOf(one, 3, 0, 0), doneOf(3, 1), doneOf(3, 2)}},
		{what: "two moves of one Seq, both done", recs: []impl.Rec{moveOf(one, 3, 1, 0), moveOf(one, 3, 0, 0), doneOf(3, 1), doneOf(3, 0), doneOf(3, 2)}, quiet: true},
		{what: "what is done alone", recs: []impl.Rec{doneOf(3, 1)}, quiet: true},
		{what: "an undone move of a dead group", recs: []impl.Rec{moveOf(one, 3, 1, 0), doneOf(3, 2)}, dead: []int64{1}},
		{what: "a move that dead parity lacks", recs: []impl.Rec{moveOf(one, 3, 1, 0), doneOf(3, 1)}, dead: []int64{2}},
		{what: "a move of a dead group, done everywhere", recs: []impl.Rec{moveOf(one, 3, 1, 0), doneOf(3, 1), doneOf(3, 2)}, dead: []int64{1}, quiet: true},
	})
	wantQuietCases(t, two, []quietCase{
		{what: "a move done in its group and the first of parity", recs: []impl.Rec{moveOf(two, 3, 1, 0), doneOf(3, 1), doneOf(3, 2)}},
		{what: "a move done in its group and the last of parity", recs: []impl.Rec{moveOf(two, 3, 1, 0), doneOf(3, 1), doneOf(3, 3)}},
		{what: "a move done in all parity", recs: []impl.Rec{moveOf(two, 3, 1, 0), doneOf(3, 2), doneOf(3, 3)}},
		{what: "a move done everywhere", recs: []impl.Rec{moveOf(two, 3, 1, 0), doneOf(3, 1), doneOf(3, 2), doneOf(3, 3)}, quiet: true},
	})
	wantQuietCases(t, none, []quietCase{
		{what: "a move", recs: []impl.Rec{moveOf(none, 3, 1, 0)}},
		{what: "a move done in another group", recs: []impl.Rec{moveOf(none, 3, 1, 0), doneOf(3, 0)}},
		{what: "a move done in its group", recs: []impl.Rec{moveOf(none, 3, 1, 0), doneOf(3, 1)}, quiet: true},
	})
}

// A share lets an archive be not quiet, whole or not, and whether its group is
// dead or not, until it is done or a newer one stands there.
func TestSharesAndWhoIsQuiet(t *testing.T) {
	s := middleShape()
	for _, dead := range [][]int64{nil, {0}, {1}, {2}} {
		wantQuietCases(t, s, []quietCase{
			{what: "a share", recs: []impl.Rec{shareOf(s, 3, 0, 1)}, dead: dead},
			{what: "a whole share", recs: []impl.Rec{shareOf(s, 3, 0, 1, 1, 2)}, dead: dead},
			{what: "a share that is done", recs: []impl.Rec{shareOf(s, 3, 0, 1), doneOf(3, 0)}, dead: dead, quiet: true},
			{what: "a share that is done by another group", recs: []impl.Rec{shareOf(s, 3, 0, 1), doneOf(3, 2)}, dead: dead, quiet: true},
			{what: "a newer share", recs: []impl.Rec{shareOf(s, 3, 0, 1), shareOf(s, 4, 0, 1, 2)}, dead: dead},
			{what: "a newer share that is done", recs: []impl.Rec{shareOf(s, 3, 0, 1), shareOf(s, 4, 0, 1, 2), doneOf(4, 0)}, dead: dead, quiet: true},
			{what: "an older share that is done", recs: []impl.Rec{shareOf(s, 3, 0, 1), shareOf(s, 4, 0, 1, 2), doneOf(3, 0)}, dead: dead},
			{what: "shares of two rows, one done", recs: []impl.Rec{shareOf(s, 3, 0, 1), shareOf(s, 4, 0, 2), doneOf(4, 0)}, dead: dead},
			{what: "shares of two groups, one done", recs: []impl.Rec{shareOf(s, 3, 0, 1), shareOf(s, 4, 2, 1), doneOf(4, 0)}, dead: dead},
			{what: "shares of two groups, both done", recs: []impl.Rec{shareOf(s, 3, 0, 1), shareOf(s, 4, 2, 1), doneOf(4, 0), doneOf(3, 0)}, dead: dead, quiet: true},
		})
	}
}

// What waits lets an archive be not quiet, if its home has the rows for it and
// is not dead.
func TestItemsAndWhoIsQuiet(t *testing.T) {
	s := middleShape()
	long := fours(6)
	wantQuietCases(t, s, []quietCase{
		{what: "an item of the group 0", recs: []impl.Rec{dataItem(3, "b", []byte("b"))}},
		{what: "an item of the group 1", recs: []impl.Rec{dataItem(3, "a", []byte("a"))}},
		{what: "an item of three rows", recs: []impl.Rec{dataItem(3, "a", long)}},
		{what: "an item that lies", recs: []impl.Rec{rowsItem(3, "a", 3, 2)}, quiet: true},
		{what: "an item that waited", recs: []impl.Rec{dataItem(3, "a", []byte("a")), rowsItem(4, "a", 1, 2)}, quiet: true},
		{what: "an item that waits again", recs: []impl.Rec{rowsItem(3, "a", 1, 2), dataItem(4, "a", []byte("a"))}},
		{what: "an item that is deleted", recs: []impl.Rec{dataItem(3, "a", []byte("a")), deletedItem(4, "a")}, quiet: true},
		{what: "no free row", recs: []impl.Rec{rowsItem(3, "c", 24, 0, 1, 2), dataItem(4, "a", []byte("a"))}, quiet: true},
		{what: "no free row in the other group", recs: []impl.Rec{rowsItem(3, "b", 24, 0, 1, 2), dataItem(4, "a", []byte("a"))}},
		{what: "a row too few", recs: []impl.Rec{rowsItem(3, "c", 3, 1), dataItem(4, "a", long)}, quiet: true},
		{what: "a row too few for the first one", recs: []impl.Rec{rowsItem(3, "c", 3, 1), dataItem(4, "a", long), dataItem(5, "e", long[:16])}},
		{what: "rows of a deleted item", recs: []impl.Rec{rowsItem(3, "c", 24, 0, 1, 2), dataItem(4, "a", long), deletedItem(5, "c")}},
		{what: "a row of a move that is done", recs: []impl.Rec{moveOf(s, 3, 1, 1), doneOf(3, 1), doneOf(3, 2), dataItem(4, "a", long)}, quiet: true},
		{what: "a row of a share that is done", recs: []impl.Rec{shareOf(s, 3, 0, 1), doneOf(3, 0), dataItem(4, "a", long)}, quiet: true},
	})
	// What is still quiet when a group is dead.
	wantQuietCases(t, s, []quietCase{
		{what: "no item, a dead group", dead: []int64{0}, quiet: true},
		{what: "no item, all dead", dead: []int64{0, 1, 2}, quiet: true},
		{what: "its home dead", recs: []impl.Rec{dataItem(3, "a", []byte("a"))}, dead: []int64{1}, quiet: true},
		{what: "another group dead", recs: []impl.Rec{dataItem(3, "a", []byte("a"))}, dead: []int64{0}},
		{what: "parity dead", recs: []impl.Rec{dataItem(3, "a", []byte("a"))}, dead: []int64{2}},
		{what: "all others dead", recs: []impl.Rec{dataItem(3, "a", []byte("a"))}, dead: []int64{0, 2}},
		{what: "one home of two dead", recs: []impl.Rec{dataItem(3, "a", []byte("a")), dataItem(4, "b", []byte("b"))}, dead: []int64{1}},
		{what: "both homes dead", recs: []impl.Rec{dataItem(3, "a", []byte("a")), dataItem(4, "b", []byte("b"))}, dead: []int64{0, 1}, quiet: true},
		{what: "what lies in a dead group", recs: []impl.Rec{rowsItem(3, "a", 3, 2)}, dead: []int64{1}, quiet: true},
	})
}

// A group with as many drives wiped as it has spare ones is not dead; wiped
// drives and tapes, and blocks that do not fit, are quiet.
func TestWhatIsBrokenAndQuiet(t *testing.T) {
	s := middleShape()
	a := fittingArchive(s)
	wipe(a.World, 1, 1)
	turnByte(a, 0, 0, 0)
	wantQuiet(t, "broken", a, true)
	layBoth(&a, dataItem(3, "a", []byte("a")))
	wantQuiet(t, "one drive of its home wiped", a, false)
	a.World.Tapes[1] = impl.Tape{Wiped: true}
	wantQuiet(t, "on one tape alone", a, false)
	wipe(a.World, 1, 2)
	wantQuiet(t, "two drives of its home wiped", a, true)
}

// An item that could be destaged but for the tapes that are full still waits.
func TestFullTapesAreNotQuiet(t *testing.T) {
	a := impl.NewArchive(middleShape()).Archive
	layBoth(&a, dataItem(3, "a", []byte("a")))
	fillTapes(&a, 200, 200)
	wantQuiet(t, "full tapes", a, false)
}

// Turns bring an archive to rest, and a put, a read and a rebuild end it.
func TestQuietByTurns(t *testing.T) {
	a := exampleArchive()
	for _, c := range []struct {
		line  string
		quiet bool
	}{
		{"state", true}, {"turn 1", true}, {"put a 0102", false}, {"turn 1", false}, {"turn 1", true}, {"read a", false}, {"turn 3", true}, {"drop a", true}, {"turn 3", true},
		{"put a 03", false}, {"drop a", true}, {"rebuild 2", false}, {"cancel 2", true}, {"wipe 1 0", true}, {"rebuild 1", false}, {"turn 3", true}, {"put c 0102", false},
		{"wipe 1 0", false}, {"wipe 1 1", true}, {"turn 3", true}, {"rebuild 1", false}, {"turn 3", false}, {"turn 3", false}, {"turn 3", true}, {"cut", false}, {"open", true},
	} {
		told := impl.StepScript(a, c.line)
		if told.Code != impl.OK {
			t.Fatalf("%q: code %d", c.line, told.Code)
		}
		a = told.Archive
		if got := impl.QuietArchive(a); got != c.quiet || isQuietIn(a) != c.quiet {
			t.Errorf("behind %q: quiet is %v, by the document %v, want %v\n%s", c.line, got, isQuietIn(a), c.quiet, impl.FormatArchive(a))
		}
	}
}
