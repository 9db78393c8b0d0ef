package tests

import (
	"fmt"
	"slices"
	"testing"

	"loop.example/g00089/impl"
)

// givenShare is what GiveShares lays of a share: the next Seq, the giver, and
// its row scaled and added.
func givenShare(w impl.World, share impl.Rec, seq, from int64) impl.Rec {
	share = deepCopy(share, 0)
	share.Seq = seq
	share.Rows = append(share.Rows, from)
	slices.Sort(share.Rows)
	share.Data = impl.AddShare(share.Data, impl.RowBytes(w, from, share.Row).Bytes, share.Delta[from]).Bytes
	return share
}

func TestGivenShares(t *testing.T) {
	s := middleShape()
	fresh, twice := shareOf(s, 20, 0, 1), shareOf(s, 21, 0, 2, 2)
	without := shareOf(s, 22, 0, 0)
	without.Delta[1] = 0
	given, ended := shareOf(s, 23, 2, 0, 1), shareOf(s, 24, 2, 1)
	for _, c := range []struct {
		name          string
		first, second []impl.Rec
		gives         []impl.Rec
		last          int64
	}{
		{"no share", nil, nil, nil, 0},
		{"one", []impl.Rec{fresh}, nil, []impl.Rec{fresh}, 20},
		{"one on both tapes", []impl.Rec{fresh}, []impl.Rec{fresh}, []impl.Rec{fresh}, 20},
		{"one that another gave to", nil, []impl.Rec{twice}, []impl.Rec{twice}, 21},
		{"a byte 0", []impl.Rec{without}, nil, nil, 22},
		{"given already", []impl.Rec{given}, nil, nil, 23},
		{"one that is done", []impl.Rec{ended}, []impl.Rec{doneOf(24, 0)}, nil, 24},
		{"one of its own", []impl.Rec{shareOf(s, 25, 1, 1)}, nil, nil, 25},
		{"an older one of the place", []impl.Rec{shareOf(s, 3, 2, 0)}, []impl.Rec{given}, nil, 23},
		{"a newer one of the place", []impl.Rec{shareOf(s, 30, 2, 0)}, []impl.Rec{given}, []impl.Rec{shareOf(s, 30, 2, 0)}, 30},
		{"several", []impl.Rec{ended, given, twice}, []impl.Rec{without, fresh}, []impl.Rec{fresh, twice, ended}, 24},
		{"several, laid the other way", []impl.Rec{fresh, without}, []impl.Rec{twice, given, ended}, []impl.Rec{fresh, twice, ended}, 24},
	} {
		w := withTapes(s, c.first, c.second)
		w.On = []int64{2, 1}
		var laid []impl.Rec
		for i, share := range c.gives {
			laid = append(laid, givenShare(w, share, c.last+1+int64(i), 1))
		}
		told := impl.GiveShares(w, 1)
		wantLaid(t, c.name, told, w, laid...)
		wantLaid(t, c.name+", given again", impl.GiveShares(told.World, 1), told.World)
		wipe(w, 1, 2)
		wantWorld(t, c.name+", dead", impl.GiveShares(w, 1), w)
	}
}

// A group with just as many drives wiped as are spare gives what it had.
func TestGivenOfWipedDrives(t *testing.T) {
	q := &sequence{state: 84}
	s := middleShape()
	for drive := range 3 {
		w := columnWorld(q, s)
		w.On = []int64{1}
		w.Tapes[0].Recs = []impl.Rec{shareOf(s, 1, 0, 2)}
		whole := impl.GiveShares(w, 1).World
		w.Groups[1][drive].Wiped = true
		w.Groups[1][drive].Blocks[2] = impl.Block{Stamp: 9, Bytes: []byte{1, 2, 3, 4}}
		told := impl.GiveShares(w, 1)
		if told.Code != impl.OK || !same(told.World.Tapes, whole.Tapes) {
			t.Errorf("drive %d: code %d, tapes %+v, want %+v", drive, told.Code, told.World.Tapes, whole.Tapes)
		}
	}
}

// threeShares wants something of the group 1 in three places, its tapes filled
// up to so many records each.
func threeShares(first, second int) impl.World {
	s := middleShape()
	shares := []impl.Rec{shareOf(s, 900, 0, 0), shareOf(s, 901, 0, 1), shareOf(s, 902, 2, 1)}
	w := withTapes(s, append(shares, plainRecs(first-3)...), plainRecs(second))
	w.On, w.Writes, w.Stop = []int64{1}, 0, -1
	return w
}

// The record for which there is no room ends it; power that fails ahead of it
// is told in its place.
func wantManyAt(t *testing.T, what string, w impl.World, f worker, code, writes int64) {
	t.Helper()
	for stop := int64(-1); stop <= writes+1; stop++ {
		w.Stop = stop
		q := request{World: w, Group: 1}
		got, want := f.call(q), code
		if stop >= 0 && stop < writes {
			want = impl.ErrDown
		}
		if got.Code != want {
			t.Errorf("%s, stop %d: code %d, want %d", what, stop, got.Code, want)
		}
		wantOutcome(t, what, got, f.plain(q))
	}
}

func TestGivenOnFullTapes(t *testing.T) {
	give := shareWriters()[1]
	for _, c := range []struct {
		counts       [2]int
		code, writes int64
	}{
		{[2]int{197, 0}, impl.OK, 6}, {[2]int{3, 197}, impl.OK, 6}, {[2]int{197, 197}, impl.OK, 6},
		{[2]int{198, 0}, impl.ErrMany, 4}, {[2]int{3, 198}, impl.ErrMany, 4},
		{[2]int{199, 0}, impl.ErrMany, 2}, {[2]int{3, 199}, impl.ErrMany, 2},
		{[2]int{200, 0}, impl.ErrMany, 0}, {[2]int{3, 200}, impl.ErrMany, 0}, {[2]int{200, 200}, impl.ErrMany, 0},
	} {
		wantManyAt(t, fmt.Sprint(c), threeShares(c.counts[0], c.counts[1]), give, c.code, c.writes)
	}
	for left, code := range []int64{impl.ErrMany, impl.ErrMany, impl.ErrMany, impl.OK} {
		w := threeShares(3, 0)
		w.Tapes[1].Recs = []impl.Rec{doneOf(impl.MaxSeq-int64(left), 0)}
		wantManyAt(t, fmt.Sprint(left, " numbers left"), w, give, code, 2*int64(left))
	}
}

// Full tapes, and the last Seq, are no matter where nothing is to be given.
func TestNothingIsGivenOnFullTapes(t *testing.T) {
	for _, group := range []int64{0, 1, 2} {
		w := withTapes(middleShape(), plainRecs(200), append(plainRecs(199), doneOf(impl.MaxSeq, 0)))
		w.On, w.Stop = []int64{group}, 0
		wantWorld(t, "nothing open", impl.GiveShares(w, group), w)
		wantWorld(t, "nothing void", impl.DropVoid(w), w)
		w = threeShares(200, 200)
		w.On, w.Stop = []int64{group}, 0
		wipe(w, group, 2)
		wantWorld(t, "a dead giver", impl.GiveShares(w, group), w)
	}
}

// deadWorld has whole columns, of which some groups lost more drives than are
// spare; no group is on, and one may be.
func deadWorld(q *sequence, s impl.Shape, dead ...int64) (was, w impl.World) {
	s.Cap = 1
	was = columnWorld(q, s)
	w = deepCopy(was, 0)
	w.On = nil
	for _, group := range dead {
		for drive := range s.Spare + 1 {
			w = impl.WipeDrive(w, group, drive).World
		}
	}
	return was, w
}

// sharesOf begins a row's share and lets each giver give, one of which is on
// at a time. What it answers is ErrDown where power failed.
func sharesOf(t *testing.T, w impl.World, group, row int64, givers []int64) impl.WorldResult {
	t.Helper()
	told := impl.BeginShare(w, group, row)
	if told.Code == impl.ErrTaken {
		told = impl.WorldResult{World: w}
	}
	for _, from := range givers {
		if told.Code != impl.OK {
			break
		}
		on := impl.SwitchOn(told.World, from)
		if on.Code != impl.OK || len(on.World.On) != 1 {
			t.Fatalf("group %d: code %d, on %v", from, on.Code, on.World.On)
		}
		told = impl.GiveShares(on.World, from)
		if told.Code == impl.OK {
			told = impl.SwitchOff(told.World, from)
		}
	}
	if told.Code != impl.OK && told.Code != impl.ErrDown {
		t.Fatalf("group %d, row %d: code %d", group, row, told.Code)
	}
	return told
}

// rowAhead is what a row of a group was, ahead of what it lost.
func rowAhead(was impl.World, group, row int64) []byte {
	return plainRowBytes(request{World: was, Group: group, Row: row}).Bytes
}

// othersOf are all groups but one, whether they live or not.
func othersOf(s impl.Shape, group int64) []int64 {
	return slices.DeleteFunc(upTo(s.Groups+s.Column), func(other int64) bool { return other == group })
}

// columnShapes have all numbers of groups and of parity groups.
func columnShapes(check func(s impl.Shape)) {
	for groups := int64(1); groups <= 4; groups++ {
		for column := range int64(3) {
			check(impl.Shape{Groups: groups, Column: column, Data: 1 + groups%3, Spare: column, Rows: 2, Cap: 1, Batch: 1, Queue: 1})
		}
	}
}

// A row of a dead group is reckoned from the others, in whatever order they come.
func TestRowsOfDeadGroups(t *testing.T) {
	q := &sequence{state: 85}
	columnShapes(func(s impl.Shape) {
		for group := range s.Groups + s.Column {
			was, w := deadWorld(q, s, group)
			if s.Column == 0 {
				wantNoWorld(t, "no parity", impl.BeginShare(w, group, 0), impl.ErrLost)
				continue
			}
			others := othersOf(s, group)
			eachOrder(len(others), func(order []int) {
				var givers []int64
				for _, place := range order {
					givers = append(givers, others[place])
				}
				row := int64(order[0] % 2)
				told := sharesOf(t, w, group, row, givers)
				wantBytes(t, fmt.Sprint(s, " group ", group, " by ", givers), impl.WholeShare(told.World, group, row), rowAhead(was, group, row))
				if told.World.Writes != 2+2*s.Groups || len(impl.VoidShares(told.World).Recs) != 0 {
					t.Errorf("%v, group %d: %d writes", s, group, told.World.Writes)
				}
			})
		}
	})
}

// Ahead of the last giver the share is not whole.
func TestWholeWithTheLastGiver(t *testing.T) {
	q := &sequence{state: 86}
	columnShapes(func(s impl.Shape) {
		if s.Column == 0 {
			return
		}
		was, w := deadWorld(q, s, 0)
		wantCode(t, "ahead of all", impl.WholeShare(w, 0, 1), impl.ErrNone)
		for last := range s.Groups + 1 {
			w = sharesOf(t, w, 0, 1, othersOf(s, 0)[:last]).World
			if last < s.Groups {
				wantCode(t, fmt.Sprint(last, " gave"), impl.WholeShare(w, 0, 1), impl.ErrZero)
			} else {
				wantBytes(t, fmt.Sprint(last, " gave"), impl.WholeShare(w, 0, 1), rowAhead(was, 0, 1))
			}
		}
	})
}

// goneOn raises power again, with the next failure at a stop, puts tapes right
// or not, and goes on from the beginning.
func goneOn(t *testing.T, w impl.World, tidy bool, stop, group, row int64) impl.WorldResult {
	t.Helper()
	told := impl.RaisePower(w, stop)
	if told.Code == impl.OK && tidy {
		told = impl.RepairTapes(told.World)
	}
	if told.Code == impl.OK && tidy {
		told = impl.CleanTapes(told.World)
	}
	if told.Code != impl.OK {
		return told
	}
	return sharesOf(t, told.World, group, row, othersOf(w.Shape, group))
}

// Wherever power is cut, once or twice, what is gone on with is the row as it was.
func TestRowsOfDeadGroupsAndPower(t *testing.T) {
	q := &sequence{state: 87}
	columnShapes(func(s impl.Shape) {
		for group := range s.Groups + s.Column {
			if s.Column == 0 {
				continue
			}
			was, w := deadWorld(q, s, group)
			w = impl.CutPower(w).World
			for first := range 2 + 2*s.Groups {
				cut := goneOn(t, w, false, first, group, 1)
				for second := int64(0); cut.Code == impl.ErrDown && second < 24; second++ {
					tidy := second%2 == 0
					again := goneOn(t, cut.World, tidy, second, group, 1)
					if again.Code == impl.ErrDown {
						again = goneOn(t, again.World, tidy, -1, group, 1)
					}
					wantBytes(t, fmt.Sprint(s, " group ", group, " cut at ", first, second), impl.WholeShare(again.World, group, 1), rowAhead(was, group, 1))
				}
				if cut.Code != impl.ErrDown || !cut.World.Down || cut.World.Writes != first {
					t.Errorf("%v, group %d, cut at %d: code %d", s, group, first, cut.Code)
				}
			}
		}
	})
}

type place struct{ group, row int64 }

// With two groups of parity two groups may be dead, and all rows of both are told.
func TestAllRowsOfTwoDeadGroups(t *testing.T) {
	q := &sequence{state: 88}
	columnShapes(func(s impl.Shape) {
		for one := range s.Groups + s.Column {
			for other := range one {
				was, w := deadWorld(q, s, one, other)
				places := []place{{other, 0}, {one, 1}, {one, 0}, {other, 1}}
				if s.Column < 2 {
					wantNoWorld(t, "two dead", impl.BeginShare(w, one, 0), impl.ErrLost)
					continue
				}
				for _, at := range places {
					w = impl.BeginShare(w, at.group, at.row).World
				}
				for from := range s.Groups + s.Column {
					on := impl.SwitchOn(w, from).World
					w = impl.SwitchOff(impl.GiveShares(on, from).World, from).World
				}
				for _, at := range places {
					wantBytes(t, fmt.Sprint(s, at), impl.WholeShare(w, at.group, at.row), rowAhead(was, at.group, at.row))
				}
			}
		}
	})
}

// A share is void if its group lives again, or if one that did not give yet is dead.
func TestVoidShares(t *testing.T) {
	s := greatestShape()
	open, begun := shareOf(s, 20, 1, 3, 0, 4), shareOf(s, 21, 1, 3)
	for _, c := range []struct {
		name string
		dead []int64
		rec  impl.Rec
		void bool
	}{
		{"the group is dead", []int64{1}, open, false},
		{"the group lives", nil, open, true},
		{"the group lives, another is dead", []int64{0}, open, true},
		{"one died ahead of its giving", []int64{1, 2}, open, true},
		{"one died behind its giving", []int64{0, 1}, open, false},
		{"two died behind their giving", []int64{0, 1, 4}, open, false},
		{"one died behind, one ahead", []int64{0, 1, 5}, open, true},
		{"none gave, none died", []int64{1}, begun, false},
		{"the first giver died", []int64{0, 1}, begun, true},
		{"the last giver died", []int64{1, 5}, begun, true},
	} {
		w := withTapes(s, nil, []impl.Rec{c.rec})
		for group := range s.Groups + s.Column {
			wipe(w, group, s.Spare)
		}
		for _, group := range c.dead {
			wipe(w, group, s.Spare+1)
		}
		if !c.void {
			wantRecs(t, c.name, impl.VoidShares(w), nil)
			wantWorld(t, c.name, impl.DropVoid(w), w)
			continue
		}
		wantRecs(t, c.name, impl.VoidShares(w), []impl.Rec{c.rec})
		wantLaid(t, c.name, impl.DropVoid(w), w, doneOf(c.rec.Seq, 1))
	}
}

// One that has nothing to give may be dead, and a spent share is not void.
func TestNotVoid(t *testing.T) {
	s := greatestShape()
	share := shareOf(s, 20, 1, 3)
	share.Delta[5] = 0
	w := withTapes(s, []impl.Rec{share}, nil)
	wipe(w, 1, 3)
	wipe(w, 5, 3)
	wantRecs(t, "one that gives nothing", impl.VoidShares(w), nil)
	w = withTapes(s, []impl.Rec{share, doneOf(20, 3)}, []impl.Rec{shareOf(s, 19, 1, 3)})
	wantRecs(t, "spent", impl.VoidShares(w), nil)
	wantWorld(t, "spent", impl.DropVoid(w), w)
	w = withTapes(s, []impl.Rec{share}, []impl.Rec{shareOf(s, 19, 1, 3)})
	wantRecs(t, "the newer one alone", impl.VoidShares(w), []impl.Rec{share})
}

// voidWorld has four shares, the ones of the groups 0 and 2 void.
func voidWorld(first, second int) impl.World {
	s := middleShape()
	shares := []impl.Rec{shareOf(s, 900, 2, 0), shareOf(s, 901, 0, 2), shareOf(s, 902, 1, 0), shareOf(s, 903, 0, 1)}
	w := withTapes(s, append(shares, plainRecs(first-4)...), plainRecs(second))
	w.Writes, w.Stop = 0, -1
	wipe(w, 1, 2)
	return w
}

func TestVoidSharesAreDropped(t *testing.T) {
	w := voidWorld(4, 0)
	shares := w.Tapes[0].Recs
	wantRecs(t, "four shares", impl.VoidShares(w), []impl.Rec{shares[3], shares[1], shares[0]})
	told := impl.DropVoid(w)
	wantLaid(t, "four shares", told, w, doneOf(903, 0), doneOf(901, 0), doneOf(900, 2))
	wantRecs(t, "dropped", impl.VoidShares(told.World), nil)
	wantWorld(t, "dropped twice", impl.DropVoid(told.World), told.World)
	wantOpen(t, "the one that stays", told.World, 1, 0, shares[2])
	wantOpen(t, "one that was dropped", told.World, 0, 1)
}

func TestVoidSharesOnFullTapes(t *testing.T) {
	drop := shareWriters()[2]
	for _, c := range []struct {
		counts       [2]int
		code, writes int64
	}{
		{[2]int{197, 0}, impl.OK, 6}, {[2]int{4, 197}, impl.OK, 6}, {[2]int{197, 197}, impl.OK, 6},
		{[2]int{198, 0}, impl.ErrMany, 4}, {[2]int{4, 198}, impl.ErrMany, 4},
		{[2]int{199, 0}, impl.ErrMany, 2}, {[2]int{4, 199}, impl.ErrMany, 2},
		{[2]int{200, 0}, impl.ErrMany, 0}, {[2]int{4, 200}, impl.ErrMany, 0},
	} {
		wantManyAt(t, fmt.Sprint(c), voidWorld(c.counts[0], c.counts[1]), drop, c.code, c.writes)
	}
	w := voidWorld(4, 0)
	w.Tapes[1].Recs = []impl.Rec{doneOf(impl.MaxSeq, 0)}
	wantManyAt(t, "no Seq is needed", w, drop, impl.OK, 6)
}

// A share of a group that died while it gave is dropped and begun anew with others.
func TestAShareThatLostAGiver(t *testing.T) {
	q := &sequence{state: 89}
	for groups := int64(1); groups <= 4; groups++ {
		s := impl.Shape{Groups: groups, Column: 2, Data: 2, Spare: 1, Rows: 2, Cap: 1, Batch: 1, Queue: 1}
		for group := range s.Groups + s.Column {
			others := othersOf(s, group)
			for died, dying := range others {
				was, w := deadWorld(q, s, group)
				w = sharesOf(t, w, group, 1, others[:died]).World
				_, lost := deadWorld(q, s, dying)
				w.Groups[dying] = lost.Groups[dying]
				needed := int64(died) < groups
				if void := len(impl.VoidShares(w).Recs) == 1; void != needed {
					t.Errorf("%v, group %d, died %d: void %v", s, group, dying, void)
				}
				w = sharesOf(t, impl.DropVoid(w).World, group, 1, others).World
				wantBytes(t, fmt.Sprint(s, group, dying), impl.WholeShare(w, group, 1), rowAhead(was, group, 1))
			}
		}
	}
}
