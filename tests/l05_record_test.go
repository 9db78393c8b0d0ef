package tests

import (
	"bytes"
	"math"
	"slices"
	"testing"

	"loop.example/g00089/impl"
)

// middleShape has rows of 8 bytes, three rows, and three groups, one of them of parity.
func middleShape() impl.Shape {
	return impl.Shape{Groups: 2, Column: 1, Data: 2, Spare: 1, Rows: 3, Cap: 2, Batch: 1, Queue: 2, Stage: 60}
}

// recShapes differ in how many groups and rows they have, and how long a row is.
func recShapes() []impl.Shape {
	wide := middleShape()
	wide.Groups, wide.Column, wide.Data, wide.Rows = 3, 2, 3, 5
	return []impl.Shape{leastShape(), middleShape(), wide, greatestShape()}
}

func fours(count int64) []byte {
	return bytes.Repeat([]byte{9, 0, 255, 1}, int(count))
}

func upTo(count int64) []int64 {
	numbers := []int64{}
	for number := range count {
		numbers = append(numbers, number)
	}
	return numbers
}

func dataItem(seq int64, name string, data []byte) impl.Rec {
	return impl.Rec{Kind: impl.RecItem, Seq: seq, Name: name, Length: int64(len(data)), Data: data}
}

func rowsItem(seq int64, name string, length int64, rows ...int64) impl.Rec {
	return impl.Rec{Kind: impl.RecItem, Seq: seq, Name: name, Length: length, Rows: rows}
}

func deletedItem(seq int64, name string) impl.Rec {
	return impl.Rec{Kind: impl.RecItem, Seq: seq, Name: name, Length: -1}
}

func moveOf(s impl.Shape, seq, group, row int64) impl.Rec {
	return impl.Rec{Kind: impl.RecMove, Seq: seq, Group: group, Row: row, Data: fours(s.Data), Delta: fours(s.Data)}
}

func doneOf(seq, group int64) impl.Rec {
	return impl.Rec{Kind: impl.RecDone, Seq: seq, Group: group}
}

// shareOf scales all groups but its own by something.
func shareOf(s impl.Shape, seq, group, row int64, rows ...int64) impl.Rec {
	delta := bytes.Repeat([]byte{7}, int(s.Groups+s.Column))
	delta[group] = 0
	return impl.Rec{Kind: impl.RecShare, Seq: seq, Group: group, Row: row, Rows: rows, Data: fours(s.Data), Delta: delta}
}

func wantRecCode(t *testing.T, what string, s impl.Shape, r impl.Rec, code int64) {
	t.Helper()
	if got := impl.RecFault(s, r); got != code {
		t.Errorf("%s: %+v: code %d, want %d", what, r, got, code)
	}
}

func okOr(code int64, fine bool) int64 {
	if fine {
		return impl.OK
	}
	return code
}

// recGiven is what RecFault is given.
type recGiven struct {
	s impl.Shape
	r impl.Rec
}

const (
	rankShape = iota
	rankKind
	rankSeq
	rankName
	rankBounds
	rankUnnamed
	rankBehindRec
)

func badShapes() []flaw[impl.Shape] {
	var flaws []flaw[impl.Shape]
	for _, field := range shapeFields() {
		flaws = append(flaws, numberFlaws(field.name, 0, impl.ErrRange, field.least, field.most, field.at)...)
	}
	return flaws
}

func bounds(name string, spoil func(r *impl.Rec)) flaw[impl.Rec] {
	return flaw[impl.Rec]{name, rankBounds, impl.ErrRange, spoil}
}

// anyRecFlaws are those of every kind.
func anyRecFlaws() []flaw[impl.Rec] {
	kinds := numberFlaws("Kind", rankKind, impl.ErrText, 1, 4, func(r *impl.Rec) *int64 { return &r.Kind })
	return append(kinds, numberFlaws("Seq", rankSeq, impl.ErrRange, 1, impl.MaxSeq, func(r *impl.Rec) *int64 { return &r.Seq })...)
}

// filled are flaws of fields that a kind does not name.
func filled(names ...string) []flaw[impl.Rec] {
	fills := map[string][]func(r *impl.Rec){
		"Name":   {func(r *impl.Rec) { r.Name = "a" }, func(r *impl.Rec) { r.Name = "\x00" }},
		"Length": {func(r *impl.Rec) { r.Length = 1 }, func(r *impl.Rec) { r.Length = -1 }, func(r *impl.Rec) { r.Length = math.MinInt64 }},
		"Group":  {func(r *impl.Rec) { r.Group = 1 }, func(r *impl.Rec) { r.Group = -1 }, func(r *impl.Rec) { r.Group = 1 << 32 }},
		"Row":    {func(r *impl.Rec) { r.Row = 1 }, func(r *impl.Rec) { r.Row = -1 }, func(r *impl.Rec) { r.Row = math.MaxInt64 }},
		"Rows":   {func(r *impl.Rec) { r.Rows = []int64{0} }, func(r *impl.Rec) { r.Rows = []int64{0, 1} }},
		"Data":   {func(r *impl.Rec) { r.Data = []byte{0} }, func(r *impl.Rec) { r.Data = make([]byte, 8) }},
		"Delta":  {func(r *impl.Rec) { r.Delta = []byte{0} }, func(r *impl.Rec) { r.Delta = make([]byte, 8) }},
	}
	var flaws []flaw[impl.Rec]
	for _, name := range names {
		for _, fill := range fills[name] {
			flaws = append(flaws, flaw[impl.Rec]{name + " filled", rankUnnamed, impl.ErrForm, fill})
		}
	}
	return flaws
}

func itemFlaws() []flaw[impl.Rec] {
	var flaws []flaw[impl.Rec]
	for _, name := range []string{"", "A", "1a", "a-b", "ninebytes", "é"} {
		flaws = append(flaws, flaw[impl.Rec]{"name " + name, rankName, impl.ErrText, func(r *impl.Rec) { r.Name = name }})
	}
	flaws = append(flaws, numberFlaws("Length", rankBounds, impl.ErrRange, -1, 24, func(r *impl.Rec) *int64 { return &r.Length })...)
	flaws = append(flaws,
		bounds("Length 0", func(r *impl.Rec) { r.Length, r.Data, r.Rows = 0, nil, nil }),
		bounds("Length -2", func(r *impl.Rec) { r.Length, r.Data, r.Rows = -2, nil, nil }),
		bounds("too long, and as much data", func(r *impl.Rec) { r.Length, r.Data, r.Rows = 25, make([]byte, 25), nil }),
		bounds("neither data nor rows", func(r *impl.Rec) { r.Length, r.Data, r.Rows = 3, nil, nil }),
		bounds("data and rows", func(r *impl.Rec) { r.Length, r.Data, r.Rows = 3, []byte{1, 2, 3}, []int64{0} }),
		bounds("too little data", func(r *impl.Rec) { r.Length, r.Data, r.Rows = 3, []byte{1, 2}, nil }),
		bounds("too much data", func(r *impl.Rec) { r.Length, r.Data, r.Rows = 3, []byte{1, 2, 3, 4}, nil }),
		bounds("deleted with data", func(r *impl.Rec) { r.Length, r.Data, r.Rows = -1, []byte{0}, nil }),
		bounds("deleted with rows", func(r *impl.Rec) { r.Length, r.Data, r.Rows = -1, nil, []int64{0} }),
		bounds("a row twice", func(r *impl.Rec) { r.Length, r.Data, r.Rows = 9, nil, []int64{1, 1} }),
		bounds("too few rows", func(r *impl.Rec) { r.Length, r.Data, r.Rows = 9, nil, []int64{1} }),
		bounds("too many rows", func(r *impl.Rec) { r.Length, r.Data, r.Rows = 9, nil, []int64{1, 2, 0} }),
	)
	for _, row := range beyond(0, 2) {
		flaws = append(flaws, bounds("no such row", func(r *impl.Rec) { r.Length, r.Data, r.Rows = 9, nil, []int64{0, row} }))
	}
	return slices.Concat(flaws, anyRecFlaws(), filled("Group", "Row", "Delta"))
}

func lengthFlaws(name string, right int, at func(r *impl.Rec) *[]byte) []flaw[impl.Rec] {
	var flaws []flaw[impl.Rec]
	for _, length := range []int{0, 1, right - 1, right + 1, 2 * right} {
		flaws = append(flaws, bounds(name+" of another length", func(r *impl.Rec) { *at(r) = bytes.Repeat([]byte{0}, length) }))
	}
	return flaws
}

func dataOf(r *impl.Rec) *[]byte  { return &r.Data }
func deltaOf(r *impl.Rec) *[]byte { return &r.Delta }
func groupOf(r *impl.Rec) *int64  { return &r.Group }
func rowOf(r *impl.Rec) *int64    { return &r.Row }

func moveFlaws() []flaw[impl.Rec] {
	return slices.Concat(anyRecFlaws(),
		numberFlaws("Group", rankBounds, impl.ErrRange, 0, 1, groupOf),
		numberFlaws("Row", rankBounds, impl.ErrRange, 0, 2, rowOf),
		lengthFlaws("Data", 8, dataOf), lengthFlaws("Delta", 8, deltaOf),
		filled("Name", "Length", "Rows"))
}

func doneFlaws() []flaw[impl.Rec] {
	return slices.Concat(anyRecFlaws(), numberFlaws("Group", rankBounds, impl.ErrRange, 0, 2, groupOf),
		filled("Name", "Length", "Row", "Rows", "Data", "Delta"))
}

func shareFlaws() []flaw[impl.Rec] {
	flaws := slices.Concat(anyRecFlaws(),
		numberFlaws("Group", rankBounds, impl.ErrRange, 0, 2, groupOf),
		numberFlaws("Row", rankBounds, impl.ErrRange, 0, 2, rowOf),
		lengthFlaws("Data", 8, dataOf), lengthFlaws("Delta", 3, deltaOf),
		filled("Name", "Length"))
	for _, rows := range [][]int64{{2, 0}, {0, 0}, {2, 2}, {-1}, {3}, {0, 3}, {-1, 0}, {1}, {0, 1}, {0, 1, 2}, {0, 2, 2}, {1 << 32}, {math.MinInt64}, {math.MaxInt64}} {
		flaws = append(flaws, bounds("Rows", func(r *impl.Rec) { r.Rows = rows }))
	}
	return append(flaws,
		bounds("its own group scaled", func(r *impl.Rec) { r.Delta[1] = 1 }),
		bounds("one of Rows not scaled", func(r *impl.Rec) { r.Rows, r.Delta[2] = []int64{0, 2}, 0 }),
		bounds("none scaled", func(r *impl.Rec) { r.Rows, r.Delta = []int64{0}, make([]byte, 3) }))
}

// recFlawsOf pairs records without a fault, of the middle shape, with what may be wrong with each.
func recFlawsOf(check func(name string, r impl.Rec, flaws []flaw[impl.Rec])) {
	s := middleShape()
	check("an item with data", dataItem(1, "a", []byte{1, 2, 3}), itemFlaws())
	check("an item with rows", rowsItem(impl.MaxSeq, "a0", 9, 2, 0), itemFlaws())
	check("a deleted item", deletedItem(5, "zzzzzzzz"), itemFlaws())
	check("a move", moveOf(s, 1, 1, 2), moveFlaws())
	check("a move at 0", moveOf(s, impl.MaxSeq, 0, 0), moveFlaws())
	check("what is done", doneOf(1, 2), doneFlaws())
	check("what is done at 0", doneOf(impl.MaxSeq, 0), doneFlaws())
	check("a share", shareOf(s, 1, 1, 2, 0, 2), shareFlaws())
	check("a share of no group yet", shareOf(s, impl.MaxSeq, 1, 0), shareFlaws())
}

func TestRecordConstants(t *testing.T) {
	got := []int64{impl.MaxRecs, impl.MaxSeq, impl.RecItem, impl.RecMove, impl.RecDone, impl.RecShare}
	if !slices.Equal(got, []int64{200, 1000000000, 1, 2, 3, 4}) {
		t.Error(got)
	}
}

func TestRecordFaultsAndTheirOrder(t *testing.T) {
	recFlawsOf(func(name string, r impl.Rec, flaws []flaw[impl.Rec]) {
		given := func() recGiven { return recGiven{middleShape(), deepCopy(r, 0)} }
		all := lifted(badShapes(), rankShape, func(g *recGiven) *impl.Shape { return &g.s })
		all = append(all, lifted(flaws, 0, func(g *recGiven) *impl.Rec { return &g.r })...)
		wantFlaws(t, name, given, all, func(t *testing.T, what string, g recGiven, code int64) {
			wantRecCode(t, what, g.s, g.r, code)
		})
	})
}

func TestTheZeroRecord(t *testing.T) {
	wantRecCode(t, "zero", middleShape(), impl.Rec{}, impl.ErrText)
	wantRecCode(t, "zero of no shape", impl.Shape{}, impl.Rec{}, impl.ErrRange)
	for kind := int64(1); kind <= 4; kind++ {
		wantRecCode(t, "a kind alone", middleShape(), impl.Rec{Kind: kind}, impl.ErrRange)
	}
	wantRecCode(t, "an item of no name", middleShape(), impl.Rec{Kind: 1, Seq: 1}, impl.ErrText)
	wantRecCode(t, "a move of nothing", middleShape(), impl.Rec{Kind: 2, Seq: 1}, impl.ErrRange)
	wantRecCode(t, "done", middleShape(), impl.Rec{Kind: 3, Seq: 1}, impl.OK)
	wantRecCode(t, "a share of nothing", middleShape(), impl.Rec{Kind: 4, Seq: 1}, impl.ErrRange)
}

func TestEmptyListsAreZero(t *testing.T) {
	done := doneOf(1, 2)
	done.Rows, done.Data, done.Delta = []int64{}, []byte{}, []byte{}
	wantRecCode(t, "done", middleShape(), done, impl.OK)
	deleted := deletedItem(1, "a")
	deleted.Rows, deleted.Data, deleted.Delta = []int64{}, []byte{}, []byte{}
	wantRecCode(t, "deleted", middleShape(), deleted, impl.OK)
}

// Items whose data is there, and whose rows are, over every length.
func TestItemsOfEachLength(t *testing.T) {
	for _, s := range recShapes() {
		for length := int64(1); length <= 40; length++ {
			parts := partsOf(s.Data, length)
			whole := parts <= 3
			wantRecCode(t, "data", s, dataItem(1, "a", make([]byte, length)), okOr(impl.ErrRange, whole))
			for count := range int64(8) {
				fits := whole && count == parts && count <= s.Rows
				wantRecCode(t, "rows", s, rowsItem(1, "a", length, upTo(count)...), okOr(impl.ErrRange, fits))
			}
		}
	}
}

// eachList goes through all lists of at most so many numbers, each least to most.
func eachList(longest int, least, most int64, check func(list []int64)) {
	lists := [][]int64{{}}
	for len(lists) > 0 {
		list := lists[0]
		lists = lists[1:]
		check(list)
		for number := least; number <= most && len(list) < longest; number++ {
			lists = append(lists, append(slices.Clone(list), number))
		}
	}
}

// Rows of an item may stand in any order, each once.
func TestItemsOfAllRows(t *testing.T) {
	s := middleShape()
	for _, length := range []int64{1, 8, 9, 16, 17, 24} {
		eachList(4, -1, 3, func(rows []int64) {
			fits := int64(len(rows)) == partsOf(s.Data, length)
			for i, row := range rows {
				fits = fits && row >= 0 && row < s.Rows && !slices.Contains(rows[i+1:], row)
			}
			wantRecCode(t, "rows", s, rowsItem(1, "a", length, rows...), okOr(impl.ErrRange, fits))
		})
	}
}

func TestPlacesOfRecords(t *testing.T) {
	for _, s := range recShapes() {
		for group := int64(-2); group <= 8; group++ {
			isGroup := group >= 0 && group < s.Groups+s.Column
			wantRecCode(t, "done", s, doneOf(1, group), okOr(impl.ErrRange, isGroup))
			for row := int64(-2); row <= 8; row++ {
				isRow := row >= 0 && row < s.Rows
				isData := group >= 0 && group < s.Groups
				wantRecCode(t, "move", s, moveOf(s, 1, group, row), okOr(impl.ErrRange, isRow && isData))
				share := shareOf(s, 1, 0, row)
				share.Group, share.Delta = group, make([]byte, s.Groups+s.Column)
				wantRecCode(t, "share", s, share, okOr(impl.ErrRange, isRow && isGroup))
			}
		}
	}
}

// Shares of all lists of groups, with each choice of groups that are scaled.
func TestSharesOfAllGroups(t *testing.T) {
	s := middleShape()
	for group := range int64(3) {
		eachList(3, -1, 3, func(rows []int64) {
			for choice := range 8 {
				share := shareOf(s, 1, group, 0, rows...)
				share.Delta = []byte{byte(choice & 1), byte(choice & 2), byte(choice & 4)}
				fits := share.Delta[group] == 0
				for i, giver := range rows {
					fits = fits && giver >= 0 && giver < 3 && share.Delta[giver] != 0 && (i == 0 || giver > rows[i-1])
				}
				wantRecCode(t, "share", s, share, okOr(impl.ErrRange, fits))
			}
		})
	}
}

func TestRecFaultKeepsItsArguments(t *testing.T) {
	recFlawsOf(func(name string, r impl.Rec, flaws []flaw[impl.Rec]) {
		for _, f := range append(flaws, flaw[impl.Rec]{make: func(r *impl.Rec) {}}) {
			spoilt := deepCopy(r, 0)
			f.make(&spoilt)
			spoilt = deepCopy(spoilt, 2)
			wantNew(t, name+" "+f.name, func() int64 { return impl.RecFault(middleShape(), spoilt) }, spoilt)
		}
	})
}
