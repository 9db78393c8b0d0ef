package tests

import (
	"fmt"
	"slices"
	"testing"

	"loop.example/g00089/impl"
)

// wantFound wants just these groups and rows to be told, with power and without.
func wantFound(t *testing.T, what string, a impl.Archive, groups, rows []int64, tapes bool) {
	t.Helper()
	want := impl.AuditResult{Groups: groups, Rows: rows, Tapes: tapes}
	if got := impl.AuditOf(a); !same(got, want) {
		t.Errorf("%s: %+v, want %+v", what, got, want)
	}
	if got := impl.AuditOf(impl.CutArchive(a).Archive); !same(got, want) {
		t.Errorf("%s, no power: %+v, want %+v", what, got, want)
	}
}

// fittingArchive has mixed rows that are those of columns.
func fittingArchive(s impl.Shape) impl.Archive {
	a := impl.NewArchive(s).Archive
	a.World = columnWorld(&sequence{state: 1540}, s)
	a.World.On = nil
	return a
}

func turnByte(a impl.Archive, group, drive, row int64) {
	a.World.Groups[group][drive].Blocks[row].Bytes[3] ^= 64
}

func onlyIf(is bool, numbers ...int64) []int64 {
	if is {
		return numbers
	}
	return nil
}

func TestAuditsOfNewArchives(t *testing.T) {
	check := func(s impl.Shape) { wantFound(t, fmt.Sprint(s), impl.NewArchive(s).Archive, nil, nil, true) }
	eachExtreme(check)
	columnShapes(func(s impl.Shape) {
		check(s)
		wantFound(t, fmt.Sprint(s), fittingArchive(s), nil, nil, true)
	})
}

// A byte that is turned is told by its group, if that has a spare drive more,
// and by its row, if it is of data and there is parity.
func TestAuditsOfAByteThatIsTurned(t *testing.T) {
	for _, s := range sharesShapes() {
		eachBlock(s, func(group, drive, row int64) {
			what := fmt.Sprint(s, ", group ", group, ", drive ", drive, ", row ", row)
			a := fittingArchive(s)
			turnByte(a, group, drive, row)
			wantFound(t, what, a, onlyIf(s.Spare > 0, group), onlyIf(s.Column > 0 && drive < s.Data, row), true)
			// It is seen by what the group is asked for, whoever is on.
			a.World.On = []int64{group}
			wantFound(t, what+", on", a, onlyIf(s.Spare > 0, group), onlyIf(s.Column > 0 && drive < s.Data, row), true)
			a.World.Groups[group][drive].Wiped = true
			wantFound(t, what+", wiped", a, nil, nil, true)
		})
	}
}

func TestAuditsOfManyGroupsAndRows(t *testing.T) {
	s := greatestShape()
	a := fittingArchive(s)
	for _, at := range [][3]int64{{5, 0, 4}, {0, 1, 1}, {3, 2, 4}, {3, 0, 0}, {1, 4, 5}} {
		turnByte(a, at[0], at[1], at[2])
	}
	wantFound(t, "many", a, []int64{0, 1, 3, 5}, []int64{0, 1, 4}, true)
	for group := range int64(6) {
		for row := range int64(6) {
			turnByte(a, group, 0, row)
			turnByte(a, group, 1, row)
		}
	}
	wantFound(t, "all", a, upTo(6), upTo(6), true)
}

// What is left of a dead group is not asked, and rows are told of the others:
// as long as there are more of these than groups of data they are held against
// each other.
func TestAuditsOfDeadGroups(t *testing.T) {
	columnShapes(func(s impl.Shape) {
		for group := range s.Groups + s.Column {
			a := fittingArchive(s)
			wipe(a.World, group, s.Spare+1)
			wantFound(t, fmt.Sprint(s, group), a, nil, nil, true)
			for drive := s.Spare + 1; drive < s.Data+s.Spare; drive++ {
				turnByte(a, group, drive, 1)
			}
			wantFound(t, fmt.Sprint(s, group, ", its bytes turned"), a, nil, nil, true)
			for other := range s.Groups + s.Column {
				if other == group {
					continue
				}
				turnByte(a, other, 0, 0)
				wantFound(t, fmt.Sprint(s, group, ", turned ", other), a, onlyIf(s.Spare > 0, other), onlyIf(s.Column == 2, 0), true)
				turnByte(a, other, 0, 0)
			}
		}
	})
}

// Rows of which too much is lost are not told, whatever the others have.
func TestAuditsWhereTooMuchIsLost(t *testing.T) {
	columnShapes(func(s impl.Shape) {
		a := fittingArchive(s)
		for group := range s.Column + 1 {
			wipe(a.World, group, s.Spare+1)
		}
		for group := s.Column + 1; group < s.Groups+s.Column; group++ {
			turnByte(a, group, s.Data-1, 0)
		}
		living := upTo(s.Groups + s.Column)[s.Column+1:]
		wantFound(t, fmt.Sprint(s), a, onlyIf(s.Spare > 0, living...), nil, true)
	})
}

// One row may be lost and another one not: by a move of it, though its group
// is dead.
func TestAuditsOfARowThatAMoveTells(t *testing.T) {
	s := middleShape()
	a := fittingArchive(s)
	wipe(a.World, 0, 2)
	wipe(a.World, 1, 2)
	wantFound(t, "two dead groups", a, nil, nil, true)
	layBoth(&a, moveOf(s, 1, 1, 2))
	wantFound(t, "a move of a dead group", a, nil, nil, true)
	layBoth(&a, moveOf(s, 2, 0, 2))
	// Parity is now as it will be by both moves, which is not what they say.
	wantFound(t, "moves of both dead groups", a, nil, []int64{2}, true)
	layBoth(&a, doneOf(2, 0))
	wantFound(t, "one of them done", a, nil, nil, true)
}

// A group that lacks a move is not told, in whatever row; one that has it is.
func TestAuditsOfUndoneMoves(t *testing.T) {
	s := middleShape()
	s.Column = 2
	broken := func() impl.Archive {
		a := fittingArchive(s)
		for group := range int64(4) {
			turnByte(a, group, 2, 0)
		}
		return a
	}
	for _, c := range []struct {
		what   string
		recs   []impl.Rec
		groups []int64
	}{
		{"no move", nil, []int64{0, 1, 2, 3}},
		{"other records", []impl.Rec{doneOf(3, 0), shareOf(s, 4, 1, 1), rowsItem(5, "a", 3, 0), dataItem(6, "b", []byte("b"))}, []int64{0, 1, 2, 3}},
		{"a move", []impl.Rec{moveOf(s, 3, 1, 1)}, []int64{0}},
		{"a move done in its group", []impl.Rec{moveOf(s, 3, 1, 1), doneOf(3, 1)}, []int64{0, 1}},
		{"a move done in another group", []impl.Rec{moveOf(s, 3, 1, 1), doneOf(3, 0)}, []int64{0}},
		{"a move done in parity", []impl.Rec{moveOf(s, 3, 1, 1), doneOf(3, 3)}, []int64{0, 3}},
		{"a move done by another Seq", []impl.Rec{moveOf(s, 3, 1, 1), doneOf(2, 1), doneOf(4, 1)}, []int64{0}},
		{"a move done everywhere", []impl.Rec{moveOf(s, 3, 1, 1), doneOf(3, 1), doneOf(3, 2), doneOf(3, 3)}, []int64{0, 1, 2, 3}},
		{"two moves", []impl.Rec{moveOf(s, 3, 1, 1), moveOf(s, 4, 0, 2), doneOf(3, 1), doneOf(3, 2), doneOf(4, 2)}, []int64{1, 2}},
	} {
		eachLaying(broken().World, c.recs, func(what string, w impl.World) {
			a := broken()
			a.World = w
			got := impl.AuditOf(a)
			if got.Code != impl.OK || !slices.Equal(got.Groups, c.groups) {
				t.Errorf("%s, %s: %+v, want groups %v", c.what, what, got, c.groups)
			}
			wantAudit(t, c.what, auditCall(auditRequest{Archive: a}), plainAudit(auditRequest{Archive: a}))
		})
	}
}

// Rows are told as they will be when all moves are done.
func TestAuditsOfRowsThatAreMoved(t *testing.T) {
	for _, s := range sharesShapes() {
		if s.Column == 0 {
			continue
		}
		a := fittingArchive(s)
		list := (&sequence{state: 1541}).list(int(4 * s.Data))
		last := s.Rows - 1
		right := a
		right.World = staged(a.World, 7, s.Groups-1, last, list)
		wantFound(t, fmt.Sprint(s, ", a move"), right, nil, nil, true)
		for tape := range right.World.Tapes {
			right.World.Tapes[tape].Recs[0].Delta[0] ^= 1
		}
		wantFound(t, fmt.Sprint(s, ", a wrong delta"), right, nil, []int64{last}, true)
		for tape := range right.World.Tapes {
			right.World.Tapes[tape].Recs = append(right.World.Tapes[tape].Recs, doneOf(7, s.Groups))
		}
		wantFound(t, fmt.Sprint(s, ", said to be done"), right, nil, []int64{last}, true)
	}
}

func TestAuditsOfTapes(t *testing.T) {
	s := middleShape()
	one, two, three := dataItem(1, "a", []byte{1}), dataItem(1, "a", []byte{2}), doneOf(9, 2)
	for _, c := range []struct {
		what  string
		tapes [2]impl.Tape
		alike bool
	}{
		{"empty", [2]impl.Tape{}, true},
		{"both wiped", [2]impl.Tape{{Wiped: true}, {Wiped: true}}, true},
		{"one wiped, one empty", [2]impl.Tape{{Wiped: true}, {}}, true},
		{"one wiped", [2]impl.Tape{{Wiped: true}, {Recs: []impl.Rec{one}}}, false},
		{"one empty", [2]impl.Tape{{Recs: []impl.Rec{one}}, {}}, false},
		{"alike", [2]impl.Tape{{Recs: []impl.Rec{one, three}}, {Recs: []impl.Rec{one, three}}}, true},
		{"in another order", [2]impl.Tape{{Recs: []impl.Rec{one, two, three}}, {Recs: []impl.Rec{three, two, one}}}, true},
		{"twice on one", [2]impl.Tape{{Recs: []impl.Rec{one, one}}, {Recs: []impl.Rec{one}}}, true},
		{"one byte unlike", [2]impl.Tape{{Recs: []impl.Rec{one}}, {Recs: []impl.Rec{two}}}, false},
		{"one more", [2]impl.Tape{{Recs: []impl.Rec{one, three}}, {Recs: []impl.Rec{three}}}, false},
		{"many alike", [2]impl.Tape{{Recs: plainRecs(200)}, {Recs: plainRecs(200)}}, true},
		{"many, and one less", [2]impl.Tape{{Recs: plainRecs(200)}, {Recs: plainRecs(199)}}, false},
	} {
		for first := range 2 {
			a := impl.NewArchive(s).Archive
			a.World.Tapes = []impl.Tape{c.tapes[first], c.tapes[1-first]}
			wantFound(t, fmt.Sprint(c.what, ", the other first ", first), a, nil, nil, c.alike)
		}
	}
}

// Neither the desk nor who is on is audited.
func TestAuditsOfADesk(t *testing.T) {
	for _, desk := range []impl.Desk{middleDesk(), impl.NewDesk(middleShape()).Desk} {
		for _, on := range [][]int64{nil, {2}, {1, 0}} {
			a := fittingArchive(middleShape())
			a.Desk, a.World.On = desk, on
			turnByte(a, 2, 0, 1)
			wantFound(t, "a desk", a, []int64{2}, []int64{1}, true)
		}
	}
}
