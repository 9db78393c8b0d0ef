package tests

import (
	"fmt"
	"slices"
	"testing"

	"loop.example/g00089/impl"
)

func badPlaces() []flaw[request] {
	return append(badGroups(), numberFlaws("row", rankPlace, impl.ErrRange, 0, 2, func(q *request) *int64 { return &q.Row })...)
}

func dead() flaw[request] {
	return flaw[request]{"a dead group", rankFull, impl.ErrLost, func(q *request) { wipe(q.World, 1, 2) }}
}

// wipe lets the first so many drives of a group be wiped, whatever their blocks have.
func wipe(w impl.World, group int64, count int64) {
	for drive := range count {
		w.Groups[group][drive].Wiped = true
	}
}

func powered(flaws ...[]flaw[request]) []flaw[request] {
	return append(slices.Concat(flaws...), append(faultyWorlds(), noPower())...)
}

// moveRequest has a move that its group and that of parity lack.
func moveRequest() request {
	q := anyRequest()
	q.Rec.Seq = 2000
	return q
}

// wrongMoves are records that are no move of the group.
func wrongMoves() []flaw[request] {
	flaws := lifted(moveFlaws(), 0, func(q *request) *impl.Rec { return &q.Rec })
	for _, r := range []impl.Rec{doneOf(2000, 1), dataItem(2000, "a", []byte{1}), shareOf(middleShape(), 2000, 1, 2), {}, moveOf(middleShape(), 2000, 0, 2)} {
		flaws = append(flaws, flaw[request]{"another record", 0, 0, func(q *request) { q.Rec = deepCopy(r, 0) }})
	}
	for i := range flaws {
		flaws[i].rank, flaws[i].code = rankFull, impl.ErrForm
	}
	return flaws
}

func rowWorkers() []worker {
	return []worker{
		{name: "DeadGroups", given: anyRequest, flaws: faultyWorlds(), plain: plainDead,
			call: func(q request) outcome {
				r := impl.DeadGroups(q.World)
				return outcome{Code: r.Code, List: r.Groups}
			}},
		{name: "RowBytes", given: anyRequest, plain: plainRowBytes,
			flaws: powered(badPlaces(), []flaw[request]{isOff(), dead()}),
			call:  func(q request) outcome { return bytesOutcome(impl.RowBytes(q.World, q.Group, q.Row)) }},
		{name: "RowStamp", given: anyRequest, plain: plainRowStamp, flaws: powered(badPlaces(), []flaw[request]{isOff()}),
			call: func(q request) outcome { return intOutcome(impl.RowStamp(q.World, q.Group, q.Row)) }},
	}
}

// fullTape fills the tape 1, so that there is room for a record with a fault on the other.
func fullTape(rank int) flaw[request] {
	return flaw[request]{"a full tape", rank, impl.ErrMany, func(q *request) { q.World.Tapes[1].Recs = plainRecs(200) }}
}

func redoWorkers() []worker {
	recs := lifted(moveFlaws(), rankAppended, func(q *request) *impl.Rec { return &q.Rec })
	behind := rankAppended + rankBehindRec
	undone := func() request {
		q := anyRequest()
		q.World.Tapes[0].Recs = append(q.World.Tapes[0].Recs, moveOf(middleShape(), 6, 1, 0))
		return q
	}
	apart := flaw[request]{"tapes too unlike", rankFull, impl.ErrMany, func(q *request) {
		q.World.Tapes[0].Recs, q.World.Tapes[1].Recs = []impl.Rec{doneOf(500, 1)}, plainRecs(200)
	}}
	redone := func(q request) outcome { return worldOutcome(impl.RedoMove(q.World, q.Group, q.Rec)) }
	return []worker{
		{name: "RedoMove", given: moveRequest, call: redone, plain: plainRedoMove,
			flaws: powered(badGroups(), wrongMoves(), []flaw[request]{isOff(), powerFails(rankPower)})},
		{name: "LayRec", given: anyRequest, plain: plainLayRec,
			flaws: powered(recs, []flaw[request]{fullTape(behind), powerFails(behind + 1)}),
			call:  func(q request) outcome { return worldOutcome(impl.LayRec(q.World, q.Rec)) }},
		{name: "StrikeBoth", given: anyRequest, plain: plainStrikeBoth, flaws: powered([]flaw[request]{powerFails(rankPower)}),
			call: func(q request) outcome { return worldOutcome(impl.StrikeBoth(q.World, q.Kind, q.Seq)) }},
		{name: "RedoAll", given: undone, plain: plainRedoAll,
			flaws: powered(badGroups(), []flaw[request]{isOff(), powerFails(rankPower)}),
			call:  func(q request) outcome { return worldOutcome(impl.RedoAll(q.World, q.Group)) }},
		{name: "RepairTapes", given: anyRequest, plain: plainRepair, flaws: powered([]flaw[request]{apart, powerFails(rankPower)}),
			call: func(q request) outcome { return worldOutcome(impl.RepairTapes(q.World)) }},
		{name: "CleanTapes", given: anyRequest, plain: plainClean, flaws: powered([]flaw[request]{powerFails(rankPower)}),
			call: func(q request) outcome { return worldOutcome(impl.CleanTapes(q.World)) }},
	}
}

func redoers() []worker {
	return append(rowWorkers(), redoWorkers()...)
}

func redoer(name string) worker {
	all := redoers()
	return all[slices.IndexFunc(all, func(f worker) bool { return f.name == name })]
}

func TestRedoCodesAndTheirOrder(t *testing.T) {
	for _, f := range redoers() {
		wantFlawless(t, f)
	}
}

func TestRedoKeepsItsArguments(t *testing.T) {
	for _, f := range redoers() {
		wantKeeper(t, f)
	}
}

func TestManyWorldsAreRedone(t *testing.T) {
	eachMachine(700, 80, func(what string, q request) {
		wantAllPlain(t, what, redoers(), q)
	})
}

func TestManyWorldsWithoutPower(t *testing.T) {
	eachMachine(710, 5, func(what string, q request) {
		q.World = withoutPower(q.World)
		wantAllPlain(t, what, redoers(), q)
	})
}

func TestPowerFailsAtEachWrite(t *testing.T) {
	eachMachine(720, 15, func(what string, q request) {
		for _, f := range redoWorkers() {
			wantCutAnywhere(t, what, f, q)
		}
	})
}

// Records and blocks that share memory in a world share none in what is told.
func TestRedonePartsWhatWasShared(t *testing.T) {
	s := middleShape()
	block := impl.Block{Bytes: []byte{1, 2, 3, 4}}
	drive := impl.Drive{Blocks: []impl.Block{block, block, block}}
	drives := []impl.Drive{drive, drive, drive}
	move, later := moveOf(s, 2, 1, 0), moveOf(s, 3, 1, 1)
	later.Data, later.Delta, move.Delta = move.Data, move.Data, move.Data
	for _, f := range redoers() {
		for _, group := range []int64{1, 2} {
			q := f.given()
			q.World.Groups, q.World.On, q.Group = [][]impl.Drive{drives, drives, drives}, []int64{1, 2}, group
			q.World.Tapes = []impl.Tape{{Recs: []impl.Rec{move, later}}, {Recs: []impl.Rec{move, doneOf(1, 1)}}}
			q.Rec = later
			wantNew(t, f.name, func() outcome { return f.call(q) })
			if got := f.call(q); got.Code != impl.OK {
				t.Errorf("%s: code %d", f.name, got.Code)
			}
		}
	}
}

// A group is dead from one more wiped drive on than it has spare ones.
func TestDeadGroups(t *testing.T) {
	eachShape(func(s impl.Shape) {
		for count := range s.Data + s.Spare + 1 {
			w := plainWorld(s)
			var want []int64
			for group := count % 2; group < s.Groups+s.Column; group += 2 {
				wipe(w, group, count)
				slices.Reverse(w.Groups[group])
				if count > s.Spare {
					want = append(want, group)
				}
			}
			for _, down := range []bool{false, true} {
				w.Down = down
				if got := impl.DeadGroups(w); got.Code != impl.OK || !same(got.Groups, want) {
					t.Errorf("%v, %d wiped: %v, want %v", s, count, got, want)
				}
			}
		}
	})
}

// rowWorld has one row of the bytes list in the group 0, its stamps 1 and up;
// the drives of mask are wiped, and have what is none of the row and greater stamps.
func rowWorld(data, spare int64, list []byte, mask uint) impl.World {
	s := impl.Shape{Groups: 1, Data: data, Spare: spare, Rows: 2, Cap: 1, Batch: 1, Queue: 1}
	w := plainWorld(s)
	w.On = []int64{0}
	for drive, block := range plainBlocks(data, spare, list) {
		w.Groups[0][drive].Blocks[1] = impl.Block{Stamp: int64(drive) + 1, Bytes: block}
		if mask&(1<<drive) != 0 {
			w.Groups[0][drive].Wiped = true
			w.Groups[0][drive].Blocks[1] = impl.Block{Stamp: 100, Bytes: []byte{9, 8, 7, 6}}
		}
	}
	return w
}

// Whichever drives are wiped, up to as many as are spare, the row is told by the others.
func TestRowsOfWipedDrives(t *testing.T) {
	q := &sequence{state: 73}
	eachRow(t, func(t *testing.T, data, spare int64) {
		for mask := range uint(1) << (data + spare) {
			list := q.list(int(data * 4))
			w := rowWorld(data, spare, list, mask)
			got, greatest := impl.RowBytes(w, 0, 1), int64(0)
			if wiped := int64(len(placesOf(mask))); wiped > spare {
				wantCode(t, fmt.Sprint("wiped ", mask), got, impl.ErrLost)
			} else {
				wantBytes(t, fmt.Sprint("wiped ", mask), got, list)
				wantBytes(t, "the other row", impl.RowBytes(w, 0, 0), make([]byte, data*4))
			}
			for drive := range data + spare {
				if mask&(1<<drive) == 0 {
					greatest = drive + 1
				}
			}
			wantInt(t, fmt.Sprint("wiped ", mask), impl.RowStamp(w, 0, 1), impl.IntResult{Value: greatest})
		}
	})
}

func TestRowStamps(t *testing.T) {
	for _, c := range []struct {
		stamps [3]int64
		wiped  []int
		want   int64
	}{
		{[3]int64{0, 0, 0}, nil, 0}, {[3]int64{5, 2, 3}, nil, 5}, {[3]int64{2, 5, 3}, nil, 5}, {[3]int64{2, 3, 5}, nil, 5},
		{[3]int64{2, 3, 5}, []int{2}, 3}, {[3]int64{2, 3, 5}, []int{1, 2}, 2}, {[3]int64{2, 3, 5}, []int{0, 1, 2}, 0},
		{[3]int64{0, 3, 5}, []int{1, 2}, 0}, {[3]int64{impl.MaxSeq, 0, 0}, []int{1}, impl.MaxSeq},
	} {
		for group := range int64(3) {
			w := plainWorld(middleShape())
			w.On = []int64{group}
			for drive, stamp := range c.stamps {
				w.Groups[group][drive].Blocks[2].Stamp = stamp
				w.Groups[group][drive].Wiped = slices.Contains(c.wiped, drive)
			}
			wantInt(t, fmt.Sprint(c), impl.RowStamp(w, group, 2), impl.IntResult{Value: c.want})
			wantInt(t, "another row", impl.RowStamp(w, group, 1), impl.IntResult{})
		}
	}
}

// Each drive has a stamp below, at or above that of the move, or is wiped.
func TestMovesByStamps(t *testing.T) {
	s := middleShape()
	s.Column = 2
	q := &sequence{state: 74}
	for group := range s.Groups + s.Column {
		for state := range 64 {
			w := mixedWorld(s, group)
			w.Stop = -1
			move := anyMove(q, s, 50)
			if group < s.Groups {
				move.Group = group
			}
			written := int64(0)
			for drive := range 3 {
				kind := state >> (2 * drive) & 3
				for row := range w.Groups[group][drive].Blocks {
					w.Groups[group][drive].Blocks[row].Stamp = []int64{49, 50, 51, 0}[kind]
				}
				w.Groups[group][drive].Wiped = kind == 3
				if kind == 0 {
					written++
				}
			}
			got := redoer("RedoMove").call(request{World: w, Group: group, Rec: move})
			wantOutcome(t, fmt.Sprint("group ", group, ", state ", state), got, plainRedoMove(request{World: w, Group: group, Rec: move}))
			if got.World.Writes != w.Writes+written {
				t.Errorf("group %d, state %d: %d writes", group, state, got.World.Writes-w.Writes)
			}
		}
	}
}

// columnWorld has mixed rows in the groups of data, and the parity of them.
func columnWorld(q *sequence, s impl.Shape) impl.World {
	w := plainWorld(s)
	w.On = upTo(s.Groups + s.Column)
	for row := range s.Rows {
		lists := plainColumn(q.rows(int(s.Groups), int(s.Data*4)), s.Column)
		for group, list := range lists {
			for drive, block := range plainBlocks(s.Data, s.Spare, list) {
				w.Groups[group][drive].Blocks[row].Bytes = block
			}
		}
	}
	return w
}

// wantColumns asks of all groups whether their rows are rows, and of all rows
// whether they are those of a column.
func wantColumns(t *testing.T, what string, w impl.World) {
	t.Helper()
	s := w.Shape
	for row := range s.Rows {
		var lists [][]byte
		for group, drives := range w.Groups {
			var blocks [][]byte
			for _, d := range drives {
				blocks = append(blocks, d.Blocks[row].Bytes)
			}
			if !impl.RowFits(s.Data, s.Spare, blocks) {
				t.Errorf("%s: the blocks of the row %d in the group %d do not fit", what, row, group)
			}
			lists = append(lists, impl.RowBytes(w, int64(group), row).Bytes)
		}
		if !impl.ColumnFits(lists, s.Column) {
			t.Errorf("%s: the column of the row %d does not fit", what, row)
		}
	}
}

// A move that is done in its group and in those of parity leaves columns as
// they should be, in whatever order it is done there.
func TestMovesKeepColumns(t *testing.T) {
	q := &sequence{state: 75}
	s := greatestShape()
	w := columnWorld(q, s)
	wantColumns(t, "ahead of all", w)
	for seq := int64(1); seq <= 12; seq++ {
		move := anyMove(q, s, seq)
		old := impl.RowBytes(w, move.Group, move.Row).Bytes
		for i := range old {
			move.Delta[i] = old[i] ^ move.Data[i]
		}
		places := []int64{move.Group, 4, 5}
		for i := range places {
			told := impl.RedoMove(w, places[(int64(i)+seq)%3], move)
			if told.Code != impl.OK || told.World.Writes != w.Writes+5 {
				t.Fatalf("move %d: code %d", seq, told.Code)
			}
			w = told.World
		}
		wantBytes(t, "the row moved", impl.RowBytes(w, move.Group, move.Row), move.Data)
		wantColumns(t, fmt.Sprint("behind the move ", seq), w)
	}
}

// A move is done in a dead group, too, on the drives that are left.
func TestMovesInDeadGroups(t *testing.T) {
	s := middleShape()
	for _, group := range []int64{1, 2} {
		for count := range int64(4) {
			q := moveRequest()
			q.World.On, q.Group, q.World.Stop = []int64{group}, group, -1
			wipe(q.World, group, count)
			got := redoer("RedoMove").call(q)
			wantOutcome(t, "RedoMove", got, plainRedoMove(q))
			if got.Code != impl.OK || got.World.Writes-q.World.Writes != s.Data+s.Spare-count {
				t.Errorf("group %d, %d wiped: code %d, %d writes", group, count, got.Code, got.World.Writes-q.World.Writes)
			}
		}
	}
}

func TestLaidRecords(t *testing.T) {
	s := middleShape()
	for _, r := range []impl.Rec{dataItem(7, "c", fours(6)), rowsItem(7, "c", 24, 2, 0, 1), deletedItem(impl.MaxSeq, "c"),
		moveOf(s, 1, 1, 2), doneOf(2, 2), shareOf(s, 9, 2, 2, 0, 1)} {
		for _, counts := range [][2]int{{0, 0}, {3, 0}, {199, 0}, {0, 199}, {199, 199}} {
			w := withTapes(s, plainRecs(counts[0]), plainRecs(counts[1]))
			told := impl.LayRec(w, r)
			w.Tapes[0].Recs, w.Tapes[1].Recs = append(w.Tapes[0].Recs, r), append(w.Tapes[1].Recs, r)
			w.Writes += 2
			wantWorld(t, fmt.Sprint(counts), told, w)
		}
		for _, counts := range [][2]int{{200, 0}, {0, 200}, {200, 199}, {199, 200}, {200, 200}} {
			w := withTapes(s, plainRecs(counts[0]), plainRecs(counts[1]))
			wantNoWorld(t, fmt.Sprint(counts), impl.LayRec(w, r), impl.ErrMany)
			w.Stop = w.Writes
			wantNoWorld(t, fmt.Sprint(counts, " and no power"), impl.LayRec(w, r), impl.ErrMany)
		}
	}
}

func TestLaidOnWipedTapes(t *testing.T) {
	for _, wiped := range [][2]bool{{true, false}, {false, true}, {true, true}} {
		w := withTapes(middleShape(), nil, nil)
		w.Tapes[0].Wiped, w.Tapes[1].Wiped = wiped[0], wiped[1]
		told := impl.LayRec(w, doneOf(1, 1))
		w.Tapes = []impl.Tape{{Recs: []impl.Rec{doneOf(1, 1)}}, {Recs: []impl.Rec{doneOf(1, 1)}}}
		w.Writes += 2
		wantWorld(t, fmt.Sprint(wiped), told, w)
	}
}

func TestStruckOnBothTapes(t *testing.T) {
	a, b, other := doneOf(2, 0), doneOf(2, 1), doneOf(3, 0)
	item := deletedItem(2, "a")
	for _, c := range []struct{ first, second, firstLeft, secondLeft []impl.Rec }{
		{[]impl.Rec{a, item, b, other}, nil, []impl.Rec{item, other}, nil},
		{[]impl.Rec{other}, []impl.Rec{item, a, a}, []impl.Rec{other}, []impl.Rec{item}},
		{[]impl.Rec{a, other, a}, []impl.Rec{other, b}, []impl.Rec{other}, []impl.Rec{other}},
		{[]impl.Rec{other}, []impl.Rec{item}, []impl.Rec{other}, []impl.Rec{item}},
		{nil, nil, nil, nil},
	} {
		w := withTapes(middleShape(), c.first, c.second)
		told := impl.StrikeBoth(w, impl.RecDone, 2)
		want := withTapes(middleShape(), c.firstLeft, c.secondLeft)
		want.Writes += 2
		wantWorld(t, fmt.Sprint(c), told, want)
	}
	for _, number := range beyond(1, impl.MaxSeq) {
		for _, numbers := range [][2]int64{{number, 2}, {impl.RecDone, number}} {
			w := withTapes(middleShape(), []impl.Rec{a}, []impl.Rec{b})
			told := impl.StrikeBoth(w, numbers[0], numbers[1])
			w.Writes += 2
			wantWorld(t, fmt.Sprint(numbers), told, w)
		}
	}
}
