package tests

import (
	"fmt"
	"slices"
	"testing"

	"loop.example/g00089/impl"
)

// moved is a move of the row to bytes of one number each.
func moved(s impl.Shape, seq, group, row int64, number byte) impl.Rec {
	move := moveOf(s, seq, group, row)
	for i := range move.Data {
		move.Data[i], move.Delta[i] = number, number+byte(i)
	}
	return move
}

// eachLaying lays records on the one tape, on the other, on both, and in
// turns, in their order and the other way round.
func eachLaying(w impl.World, recs []impl.Rec, check func(what string, w impl.World)) {
	var even, odd []impl.Rec
	for i, r := range recs {
		if i%2 == 0 {
			even = append(even, r)
		} else {
			odd = append(odd, r)
		}
	}
	back := slices.Clone(recs)
	slices.Reverse(back)
	for i, tapes := range [][2][]impl.Rec{{recs, nil}, {nil, recs}, {recs, recs}, {even, odd}, {odd, even}, {back, nil}, {recs, back}} {
		w = deepCopy(w, 0)
		for tape := range tapes {
			w.Tapes[tape].Recs = tapes[tape]
		}
		check(fmt.Sprint("laying ", i), w)
	}
}

// movedCase says what the row 1 of the group 0 is by some records: what it is
// without them (0), or the number of a move.
type movedCase struct {
	name string
	recs []impl.Rec
	want byte
}

func movedCases(s impl.Shape) []movedCase {
	parity := s.Groups
	return []movedCase{
		{"no records", nil, 0},
		{"other kinds", []impl.Rec{doneOf(3, 0), shareOf(s, 4, 0, 1), rowsItem(5, "b", 2, 1)}, 0},
		{"one move", []impl.Rec{moved(s, 3, 0, 1, 30)}, 30},
		{"two moves", []impl.Rec{moved(s, 3, 0, 1, 30), moved(s, 8, 0, 1, 80)}, 80},
		{"four moves", []impl.Rec{moved(s, 3, 0, 1, 30), moved(s, 8, 0, 1, 80), moved(s, 4, 0, 1, 40), moved(s, 7, 0, 1, 70)}, 80},
		{"a move of another row", []impl.Rec{moved(s, 3, 0, 0, 30), moved(s, 4, 0, 2, 40)}, 0},
		{"a later move of another row", []impl.Rec{moved(s, 3, 0, 1, 30), moved(s, 8, 0, 2, 80)}, 30},
		{"a move of another group", []impl.Rec{moved(s, 3, 1, 1, 30)}, 0},
		{"a later move of another group", []impl.Rec{moved(s, 3, 0, 1, 30), moved(s, 8, 1, 1, 80)}, 30},
		{"a move that is done", []impl.Rec{moved(s, 3, 0, 1, 30), doneOf(3, 0)}, 0},
		{"a move that is done elsewhere", []impl.Rec{moved(s, 3, 0, 1, 30), doneOf(3, 1), doneOf(3, parity)}, 30},
		{"another move is done", []impl.Rec{moved(s, 3, 0, 1, 30), doneOf(2, 0), doneOf(4, 0)}, 30},
		{"the first of two is done", []impl.Rec{moved(s, 3, 0, 1, 30), moved(s, 8, 0, 1, 80), doneOf(3, 0)}, 80},
		{"the second of two is done", []impl.Rec{moved(s, 3, 0, 1, 30), moved(s, 8, 0, 1, 80), doneOf(8, 0)}, 30},
		{"both are done", []impl.Rec{moved(s, 3, 0, 1, 30), moved(s, 8, 0, 1, 80), doneOf(8, 0), doneOf(3, 0)}, 0},
	}
}

// A move that is undone says what a row of a group of data is, whatever its
// blocks and their stamps are, how many of its drives are wiped, and whether it
// is on.
func TestMovesSayWhatARowIs(t *testing.T) {
	s := middleShape()
	for _, c := range movedCases(s) {
		for wiped := range s.Data + s.Spare + 1 {
			was := columnWorld(&sequence{state: 130}, s)
			was.On = nil
			w := deepCopy(was, 0)
			wipe(w, 0, wiped)
			w.Groups[0][2].Blocks[1].Stamp = 5
			eachLaying(w, c.recs, func(what string, w impl.World) {
				what = fmt.Sprint(c.name, ", ", what, ", wiped ", wiped)
				want := rowAhead(onlyOn(was, 0), 0, 1)
				if c.want > 0 {
					want = slices.Repeat([]byte{c.want}, int(4*s.Data))
				} else if wiped > s.Spare {
					want = plainTrueRow(request{World: w, Group: 0, Row: 1}).Bytes
				}
				for _, on := range [][]int64{nil, {0}, {1, 2}} {
					w.On = on
					wantBytes(t, what, impl.TrueRow(w, 0, 1), want)
				}
				wantBytes(t, what+", no power", impl.TrueRow(withoutPower(w), 0, 1), want)
			})
		}
	}
}

// Of two moves of one Seq the last counted one says it: that of the tape 1.
func TestMovesOfOneSeqInARow(t *testing.T) {
	s := middleShape()
	one, other := moved(s, 3, 0, 1, 30), moved(s, 3, 0, 1, 31)
	for _, pair := range [][2]impl.Rec{{one, other}, {other, one}} {
		w := withTapes(s, []impl.Rec{pair[0]}, []impl.Rec{pair[1]})
		wantBytes(t, "two tapes", impl.TrueRow(w, 0, 1), pair[1].Data)
		w = withTapes(s, []impl.Rec{pair[0], pair[1]}, nil)
		wantBytes(t, "one tape", impl.TrueRow(w, 0, 1), pair[1].Data)
	}
}

// addedBlock is a block and what a move of the group adds to it, reckoned
// byte by byte.
func addedBlock(s impl.Shape, block []byte, parity, drive int64, move impl.Rec) []byte {
	factor := byte(impl.FactorOf(s.Groups, s.Column, move.Group, parity-s.Groups).Value)
	added := impl.EncodeRow(s.Data, s.Spare, move.Delta).Blocks[drive]
	return impl.AddShare(block, added, factor).Bytes
}

// In a group of parity each block goes by its own stamp: a move is added where
// that is below its Seq, and is left out where it is at or above it.
func TestParityByItsStamps(t *testing.T) {
	s := impl.Shape{Groups: 2, Column: 2, Data: 2, Spare: 2, Rows: 2, Cap: 1, Batch: 1, Queue: 1}
	first, second, third := moved(s, 10, 0, 1, 30), moved(s, 20, 1, 1, 50), moved(s, 30, 0, 1, 70)
	elsewhere := moved(s, 25, 0, 0, 90)
	for parity := s.Groups; parity < s.Groups+s.Column; parity++ {
		for _, stamps := range [][4]int64{{0, 0, 0, 0}, {9, 9, 9, 9}, {10, 10, 10, 10}, {11, 19, 20, 21}, {29, 30, 31, 1000000000},
			{30, 20, 10, 0}, {0, 10, 20, 30}, {40, 0, 40, 0}, {15, 15, 25, 25}} {
			w := stampedWorld(&sequence{state: 131}, s)
			blocks := make([][]byte, 4)
			for drive, stamp := range stamps {
				w.Groups[parity][drive].Blocks[1].Stamp = stamp
				blocks[drive] = w.Groups[parity][drive].Blocks[1].Bytes
				for _, move := range []impl.Rec{first, second, third} {
					if stamp < move.Seq {
						blocks[drive] = addedBlock(s, blocks[drive], parity, int64(drive), move)
					}
				}
			}
			for mask := range uint(16) {
				wantParity(t, w, parity, mask, blocks, []impl.Rec{first, second, third, elsewhere})
			}
		}
	}
}

// wantParity wants the row 1 to be that of the first blocks that are there,
// with the drives of the mask wiped, as many as there are spare ones.
func wantParity(t *testing.T, w impl.World, parity int64, mask uint, blocks [][]byte, moves []impl.Rec) {
	t.Helper()
	s := w.Shape
	w = deepCopy(w, 0)
	there := slices.Clone(blocks)
	for _, drive := range placesOf(mask) {
		w.Groups[parity][drive].Wiped = true
		there[drive] = nil
	}
	want := impl.DecodeRow(s.Data, s.Spare, there)
	eachLaying(w, moves, func(what string, w impl.World) {
		if want.Code == impl.OK {
			wantBytes(t, fmt.Sprint(what, ", group ", parity, ", wiped ", mask), impl.TrueRow(w, parity, 1), want.Bytes)
		}
	})
}

// A move that is done in the group of parity is added no more; one that is
// done in its own group alone still is.
func TestParityAndWhatIsDone(t *testing.T) {
	s := middleShape()
	move := moved(s, 10, 1, 2, 30)
	w := columnWorld(&sequence{state: 132}, s)
	w.On = nil
	was := rowAhead(onlyOn(w, 2), 2, 2)
	added := impl.AddShare(was, move.Delta, byte(impl.FactorOf(2, 1, 1, 0).Value)).Bytes
	for _, c := range []struct {
		name string
		recs []impl.Rec
		want []byte
	}{
		{"undone", []impl.Rec{move}, added},
		{"done in its group", []impl.Rec{move, doneOf(10, 1)}, added},
		{"done in another group", []impl.Rec{move, doneOf(10, 0)}, added},
		{"done in that of parity", []impl.Rec{move, doneOf(10, 2)}, was},
		{"done in both", []impl.Rec{move, doneOf(10, 1), doneOf(10, 2)}, was},
		{"another is done", []impl.Rec{move, doneOf(9, 2), doneOf(11, 2)}, added},
		{"told twice", []impl.Rec{move, move}, added},
		{"of another row", []impl.Rec{moved(s, 10, 1, 1, 30)}, was},
	} {
		eachLaying(w, c.recs, func(what string, w impl.World) {
			wantBytes(t, c.name+", "+what, impl.TrueRow(w, 2, 2), c.want)
		})
	}
}

// Of two moves of one Seq the first one lets the stamp be its Seq, and the
// second one is not added.
func TestParityAndMovesOfOneSeq(t *testing.T) {
	s := middleShape()
	w := stampedWorld(&sequence{state: 133}, s)
	was := rowAhead(onlyOn(w, 2), 2, 0)
	one, other := moved(s, 60, 0, 0, 30), moved(s, 60, 1, 0, 61)
	want := impl.AddShare(was, one.Delta, byte(impl.FactorOf(2, 1, 0, 0).Value)).Bytes
	eachLaying(w, []impl.Rec{one, other}, func(what string, w impl.World) {
		wantBytes(t, what, impl.TrueRow(w, 2, 0), want)
	})
}

// A row of a group of parity is as it is when all that is undone there is done.
func TestParityAsItWillBe(t *testing.T) {
	eachMove(1330, 15, func(what string, q request) {
		s := q.World.Shape
		if q.Group < s.Groups || isDeadIn(q.World, q.Group) {
			return
		}
		redone := impl.RedoAll(q.World, q.Group)
		for row := range s.Rows {
			wantBytes(t, what, impl.TrueRow(q.World, q.Group, row), impl.RowBytes(redone.World, q.Group, row).Bytes)
			wantBytes(t, what+", redone", impl.TrueRow(redone.World, q.Group, row), impl.RowBytes(redone.World, q.Group, row).Bytes)
		}
	})
}

// killed lets all groups of the mask lose one drive more than is spare, or all.
func killed(w impl.World, mask uint) impl.World {
	for i, group := range placesOf(mask) {
		count := w.Shape.Spare + 1
		if i%2 == 1 {
			count = w.Shape.Data + w.Shape.Spare
		}
		w = lost(w, group, uint(1)<<count-1)
	}
	return w
}

// As many groups of a column may be dead as it has groups of parity: each row
// is what it was. Of one more those that are dead are lost, and no others.
func TestTrueRowsOfDeadGroups(t *testing.T) {
	q := &sequence{state: 134}
	columnShapes(func(s impl.Shape) {
		was := stampedWorld(q, s)
		for mask := range uint(1) << (s.Groups + s.Column) {
			w := killed(was, mask)
			bears := int64(len(placesOf(mask))) <= s.Column
			eachPlace(s, func(group, row int64) {
				what := fmt.Sprint(s, ", dead ", placesOf(mask), ", group ", group)
				if bears || mask>>group&1 == 0 {
					wantBytes(t, what, impl.TrueRow(w, group, row), rowAhead(onlyOn(was, group), group, row))
				} else {
					wantCode(t, what, impl.TrueRow(w, group, row), impl.ErrLost)
				}
				wantHolds(t, what, impl.TrueColumn(w, row), bears)
			})
		}
	})
}

// Drives of a dead group that are not wiped say nothing.
func TestWhatIsLeftOfADeadGroup(t *testing.T) {
	s := impl.Shape{Groups: 2, Column: 1, Data: 3, Spare: 1, Rows: 2, Cap: 1, Batch: 1, Queue: 1}
	was := stampedWorld(&sequence{state: 135}, s)
	for group := range int64(3) {
		w := lost(was, group, 6)
		for drive := range w.Groups[group] {
			for row := range w.Groups[group][drive].Blocks {
				w.Groups[group][drive].Blocks[row] = impl.Block{Stamp: 99, Bytes: []byte{1, 1, 1, 1}}
			}
		}
		wantBytes(t, "dead", impl.TrueRow(w, group, 1), rowAhead(onlyOn(was, group), group, 1))
		w.Groups[group][1].Wiped = false
		if got := impl.TrueRow(w, group, 1); got.Code != impl.OK || same(got.Bytes, rowAhead(onlyOn(was, group), group, 1)) {
			t.Errorf("group %d lives, and its blocks are not taken", group)
		}
	}
}

// staged is a world in which the row of a group becomes the bytes, which its
// tapes say, and no group has made it so.
func staged(w impl.World, seq, group, row int64, list []byte) impl.World {
	delta := impl.AddBytes(rowAhead(onlyOn(w, group), group, row), list).Bytes
	return impl.LayRec(w, impl.Rec{Kind: impl.RecMove, Seq: seq, Group: group, Row: row, Data: list, Delta: delta}).World
}

// A dead group of data with a move of the row counts as one that is not dead:
// by it one more of the others may be dead.
func TestDeadGroupsWithAMove(t *testing.T) {
	q := &sequence{state: 136}
	columnShapes(func(s impl.Shape) {
		for mover := range s.Groups {
			was := stampedWorld(q, s)
			list := q.list(int(4 * s.Data))
			w := staged(was, 60, mover, 1, list)
			then := deepCopy(onlyOn(w, 0), 0)
			for group := range s.Groups + s.Column {
				then = impl.RedoAll(onlyOn(then, group), group).World
			}
			for mask := range uint(1) << (s.Groups + s.Column) {
				wantMovedDead(t, was, then, killed(w, mask), mover, mask)
			}
		}
	})
}

// wantMovedDead wants the row 1 to be as it is then, and the row 0 as it was,
// where the column bears it.
func wantMovedDead(t *testing.T, was, then, w impl.World, mover int64, mask uint) {
	t.Helper()
	s := w.Shape
	dead := int64(len(placesOf(mask)))
	for group := range s.Groups + s.Column {
		what := fmt.Sprint(s, ", moved ", mover, ", dead ", placesOf(mask), ", group ", group)
		itsDead, moverDead := mask>>group&1 == 1, int64(mask>>mover&1)
		if itsDead && dead > s.Column {
			wantCode(t, what+", row 0", impl.TrueRow(w, group, 0), impl.ErrLost)
		} else {
			wantBytes(t, what+", row 0", impl.TrueRow(w, group, 0), rowAhead(onlyOn(was, group), group, 0))
		}
		if itsDead && group != mover && dead-moverDead > s.Column {
			wantCode(t, what+", row 1", impl.TrueRow(w, group, 1), impl.ErrLost)
		} else {
			wantBytes(t, what+", row 1", impl.TrueRow(w, group, 1), rowAhead(onlyOn(then, group), group, 1))
		}
	}
	wantHolds(t, fmt.Sprint(s, mover, mask), impl.TrueColumn(w, 0), dead <= s.Column)
	wantHolds(t, fmt.Sprint(s, mover, mask), impl.TrueColumn(w, 1), dead-int64(mask>>mover&1) <= s.Column)
}

// A move that is done, or of another row, does not let a dead group count.
func TestDeadGroupsWithNoSuchMove(t *testing.T) {
	s := middleShape()
	was := stampedWorld(&sequence{state: 137}, s)
	dead := killed(was, 3)
	for _, c := range []struct {
		name string
		recs []impl.Rec
		lost bool
	}{
		{"no move", nil, true},
		{"a move", []impl.Rec{moved(s, 60, 0, 1, 9)}, false},
		{"a move of another row", []impl.Rec{moved(s, 60, 0, 0, 9), moved(s, 61, 0, 2, 9)}, true},
		{"a move that is done", []impl.Rec{moved(s, 60, 0, 1, 9), doneOf(60, 0)}, true},
		{"a move that is done in that of parity", []impl.Rec{moved(s, 60, 0, 1, 9), doneOf(60, 2)}, false},
		{"a move that is done in the other dead group", []impl.Rec{moved(s, 60, 0, 1, 9), doneOf(60, 1)}, false},
		{"other records", []impl.Rec{shareOf(s, 60, 0, 1), rowsItem(61, "b", 3, 1), doneOf(62, 0)}, true},
	} {
		eachLaying(dead, c.recs, func(what string, w impl.World) {
			got := impl.TrueRow(w, 1, 1)
			if c.lost {
				wantCode(t, c.name+", "+what, got, impl.ErrLost)
			} else {
				wantBytes(t, c.name+", "+what, got, plainTrueRow(request{World: w, Group: 1, Row: 1}).Bytes)
			}
			wantBytes(t, c.name+", the living", impl.TrueRow(w, 2, 1), plainTrueRow(request{World: w, Group: 2, Row: 1}).Bytes)
		})
	}
}

// The first so many of those that are not dead as there are groups of data say
// what the row is: a byte that is turned in a later one is not seen.
func TestWhichGroupsTellADeadOne(t *testing.T) {
	s := impl.Shape{Groups: 2, Column: 2, Data: 1, Spare: 0, Rows: 1, Cap: 1, Batch: 1, Queue: 1}
	was := stampedWorld(&sequence{state: 138}, s)
	for mask := uint(1); mask < 16; mask++ {
		dead := placesOf(mask)
		living := slices.DeleteFunc(upTo(4), func(group int64) bool { return slices.Contains(dead, group) })
		if len(living) < 2 {
			continue
		}
		for place, turned := range living {
			w := killed(was, mask)
			w.Groups[turned][0].Blocks[0].Bytes[2] ^= 1
			for _, group := range dead {
				kept := same(impl.TrueRow(w, group, 0).Bytes, rowAhead(onlyOn(was, group), group, 0))
				wantHolds(t, fmt.Sprint("dead ", dead, ", turned ", turned, ", group ", group), kept, place >= 2)
			}
			wantHolds(t, fmt.Sprint("dead ", dead, ", turned ", turned), impl.TrueColumn(w, 0), len(living) == 2)
		}
	}
}

// With a dead group that has a move, the groups behind it are asked as if it
// lived.
func TestAMoveAmongTheFirstGroups(t *testing.T) {
	s := impl.Shape{Groups: 2, Column: 2, Data: 1, Spare: 0, Rows: 1, Cap: 1, Batch: 1, Queue: 1}
	was := staged(stampedWorld(&sequence{state: 139}, s), 60, 1, 0, []byte{1, 2, 3, 4})
	dead := killed(was, 3)
	want := rowAhead(onlyOn(was, 0), 0, 0)
	wantBytes(t, "dead", impl.TrueRow(dead, 0, 0), want)
	dead.Groups[3][0].Blocks[0].Bytes[0] ^= 1
	wantBytes(t, "the last one turned", impl.TrueRow(dead, 0, 0), want)
	dead.Groups[2][0].Blocks[0].Bytes[0] ^= 1
	if got := impl.TrueRow(dead, 0, 0); got.Code != impl.OK || same(got.Bytes, want) {
		t.Errorf("the first one turned: %v", got)
	}
}
