package tests

import (
	"fmt"
	"math"
	"slices"
	"testing"

	"loop.example/g00089/impl"
)

func TestShareConstants(t *testing.T) {
	if impl.MaxWait != 20 {
		t.Errorf("MaxWait %d", impl.MaxWait)
	}
}

func TestShareCodesAndTheirOrder(t *testing.T) {
	for _, f := range sharers() {
		wantFlawless(t, f)
	}
}

func TestSharesKeepTheirArguments(t *testing.T) {
	for _, f := range sharers() {
		wantKeeper(t, f)
	}
}

func TestManyWorldsWithShares(t *testing.T) {
	eachSharing(800, 120, func(what string, q request) {
		wantWorldCode(t, what, q.World, impl.OK)
		wantAllPlain(t, what, sharers(), q)
	})
}

func TestSharesWithoutPower(t *testing.T) {
	eachSharing(810, 8, func(what string, q request) {
		q.World = withoutPower(q.World)
		wantAllPlain(t, what, sharers(), q)
	})
}

func TestSharesAndPowerThatFails(t *testing.T) {
	eachSharing(820, 25, func(what string, q request) {
		for _, f := range shareWriters() {
			wantCutAnywhere(t, what, f, q)
		}
	})
}

// Shares that share memory in a world share none in what is told.
func TestSharesAreParted(t *testing.T) {
	s := middleShape()
	one, other := shareOf(s, 300, 0, 1), shareOf(s, 301, 0, 2)
	other.Data, other.Delta, one.Rows = one.Data, one.Delta, []int64{2}
	other.Rows = one.Rows
	for _, f := range sharers() {
		q := anyRequest()
		q.World.Tapes = []impl.Tape{{Recs: []impl.Rec{one, other}}, {Recs: []impl.Rec{one, other}}}
		q.World.Groups[1] = q.World.Groups[2]
		if f.name == "OpenShare" || f.name == "WholeShare" {
			q.Group = 0
		}
		wantNew(t, f.name, func() outcome { return f.call(q) })
	}
}

// eachDeath goes through all choices of groups that are dead, each with one
// drive more wiped than it has spare ones; the others have as many wiped as
// are spare.
func eachDeath(s impl.Shape, check func(what string, w impl.World, dead uint)) {
	for dead := range uint(1) << (s.Groups + s.Column) {
		w := plainWorld(s)
		for group := range s.Groups + s.Column {
			wipe(w, group, s.Spare+int64(dead>>group&1))
		}
		check(fmt.Sprintf("%d and %d groups, dead %b", s.Groups, s.Column, dead), w, dead)
	}
}

// Of every column the group's list is the sum of the others by these bytes;
// just the first so many living ones as there are groups of data give.
func TestSharers(t *testing.T) {
	q := &sequence{state: 83}
	eachColumn(t, func(t *testing.T, groups, column int64) {
		s := impl.Shape{Groups: groups, Column: column, Data: 1, Spare: 1, Rows: 1, Cap: 1, Batch: 1, Queue: 1}
		eachDeath(s, func(what string, w impl.World, dead uint) {
			for group := range groups + column {
				told := impl.SharersOf(w, group)
				wantOutcome(t, what, bytesOutcome(told), plainSharers(request{World: w, Group: group}))
				var givers []int64
				for other := range groups + column {
					if other != group && dead>>other&1 == 0 && int64(len(givers)) < groups {
						givers = append(givers, other)
					}
				}
				if int64(len(givers)) < groups {
					wantCode(t, what, told, impl.ErrLost)
					continue
				}
				lists := plainColumn(q.rows(int(groups), 5), column)
				sum := make([]byte, 5)
				for other, weight := range told.Bytes {
					sum = impl.AddShare(sum, lists[other], weight).Bytes
					if gives := slices.Contains(givers, int64(other)); gives != (weight != 0) {
						t.Errorf("%s: group %d gives by %d", what, other, weight)
					}
				}
				if !slices.Equal(sum, lists[group]) {
					t.Errorf("%s: the group %d is %v, want %v", what, group, sum, lists[group])
				}
			}
		})
	})
}

// Whether groups are on, and what tapes say, is not asked.
func TestSharersHangOnDrivesAlone(t *testing.T) {
	s := middleShape()
	want := impl.SharersOf(plainWorld(s), 1)
	w := mixedWorld(s, 2, 1)
	w.Tapes[0].Recs = append(w.Tapes[0].Recs, shareOf(s, 9, 1, 2))
	wantBytes(t, "a mixed world", impl.SharersOf(w, 1), want.Bytes)
	wantBytes(t, "no power", impl.SharersOf(withoutPower(w), 1), want.Bytes)
	wipe(w, 1, 3)
	wantBytes(t, "the group is dead", impl.SharersOf(w, 1), want.Bytes)
}

// wantOpen wants the open share of a place alone, or none.
func wantOpen(t *testing.T, what string, w impl.World, group, row int64, open ...impl.Rec) {
	t.Helper()
	got := impl.OpenShare(w, group, row)
	if len(open) == 0 {
		wantNoRecs(t, what, got, impl.ErrNone)
		return
	}
	wantRecs(t, what, got, open)
}

func TestOpenShares(t *testing.T) {
	s := middleShape()
	old, share, newer := shareOf(s, 3, 1, 2), shareOf(s, 5, 1, 2, 0), shareOf(s, 7, 1, 2, 0, 2)
	for _, c := range []struct {
		name          string
		first, second []impl.Rec
		open          []impl.Rec
	}{
		{"nothing", nil, nil, nil},
		{"other kinds", []impl.Rec{moveOf(s, 5, 1, 2), doneOf(6, 1)}, []impl.Rec{dataItem(7, "a", []byte{1})}, nil},
		{"one", []impl.Rec{share}, nil, []impl.Rec{share}},
		{"one on the other tape", nil, []impl.Rec{share}, []impl.Rec{share}},
		{"one on both", []impl.Rec{share}, []impl.Rec{share, share}, []impl.Rec{share}},
		{"done in its group", []impl.Rec{share}, []impl.Rec{doneOf(5, 1)}, nil},
		{"done in another group", []impl.Rec{doneOf(5, 2), share}, nil, nil},
		{"others are done", []impl.Rec{share, doneOf(4, 1)}, []impl.Rec{doneOf(6, 1)}, []impl.Rec{share}},
		{"a lesser and a greater Seq", []impl.Rec{share, newer}, []impl.Rec{old}, []impl.Rec{newer}},
		{"the greater one first", []impl.Rec{newer, old, share}, nil, []impl.Rec{newer}},
		{"the greatest is done", []impl.Rec{old, share, newer}, []impl.Rec{doneOf(7, 1)}, nil},
		{"a lesser one is done", []impl.Rec{old, share}, []impl.Rec{doneOf(3, 1)}, []impl.Rec{share}},
		{"of another row", []impl.Rec{shareOf(s, 5, 1, 1), shareOf(s, 6, 1, 0)}, nil, nil},
		{"of another group", []impl.Rec{shareOf(s, 5, 0, 2), shareOf(s, 6, 2, 2)}, nil, nil},
		{"newer ones elsewhere", []impl.Rec{share, shareOf(s, 8, 1, 1)}, []impl.Rec{shareOf(s, 9, 0, 2)}, []impl.Rec{share}},
		{"of one Seq in another row", []impl.Rec{shareOf(s, 5, 1, 1)}, []impl.Rec{share}, []impl.Rec{share}},
	} {
		w := withTapes(s, c.first, c.second)
		wantOpen(t, c.name, w, 1, 2, c.open...)
		wantOpen(t, c.name+", changed about", swapped(w), 1, 2, c.open...)
		wantOpen(t, c.name+", no power", withoutPower(w), 1, 2, c.open...)
	}
}

// Two rows of one group, and one row of two groups, are shared apart.
func TestOpenSharesOfManyPlaces(t *testing.T) {
	s := middleShape()
	var shares []impl.Rec
	eachPlace(s, func(group, row int64) { shares = append(shares, shareOf(s, 10+group*3+row, group, row)) })
	for ended := range shares {
		w := withTapes(s, shares, []impl.Rec{doneOf(shares[ended].Seq, 0)})
		for i, share := range shares {
			open := []impl.Rec{share}
			if i == ended {
				open = nil
			}
			wantOpen(t, fmt.Sprint("ended ", ended, ", asked ", i), w, share.Group, share.Row, open...)
		}
	}
}

// Of shares of one Seq and place that are unlike the first counted one is open.
func TestUnlikeSharesOfOneSeq(t *testing.T) {
	s := middleShape()
	a, b := shareOf(s, 5, 1, 2, 0), shareOf(s, 5, 1, 2, 2)
	for _, c := range []struct {
		name          string
		first, second []impl.Rec
		open          impl.Rec
	}{
		{"on the tape 0", []impl.Rec{a, b}, nil, a}, {"on the tape 0", []impl.Rec{b, a}, nil, b}, {"on the tape 1", nil, []impl.Rec{b, a}, b},
		{"on both", []impl.Rec{a}, []impl.Rec{b}, a}, {"on both", []impl.Rec{b}, []impl.Rec{a}, b}, {"on both", []impl.Rec{b}, []impl.Rec{a, b}, b},
	} {
		w := withTapes(s, c.first, c.second)
		wantOpen(t, c.name, w, 1, 2, c.open)
		wipe(w, 1, 2)
		w.Tapes[0].Recs = append(w.Tapes[0].Recs, shareOf(s, 5, 1, 0))
		wantRecs(t, c.name, impl.VoidShares(w), nil)
		wipe(w, 0, 2)
		want := []impl.Rec{shareOf(s, 5, 1, 0)}
		if same(c.open, b) {
			want = append(want, b)
		}
		wantRecs(t, c.name, impl.VoidShares(w), want)
	}
}

// begunShare is what BeginShare lays on both tapes.
func begunShare(w impl.World, seq, group, row int64) impl.Rec {
	return impl.Rec{Kind: impl.RecShare, Seq: seq, Group: group, Row: row,
		Data: make([]byte, 4*w.Shape.Data), Delta: plainSharers(request{World: w, Group: group}).Bytes}
}

// wantLaid wants the world with records behind those of both tapes.
func wantLaid(t *testing.T, what string, got impl.WorldResult, w impl.World, recs ...impl.Rec) {
	t.Helper()
	want := deepCopy(w, 0)
	for tape := range want.Tapes {
		want.Tapes[tape].Recs = append(want.Tapes[tape].Recs, recs...)
	}
	want.Writes += 2 * int64(len(recs))
	wantWorld(t, what, got, want)
}

// A share is begun of groups that are dead or not, on or not, where none is open.
func TestBegunShares(t *testing.T) {
	s := middleShape()
	for _, on := range [][]int64{nil, {1}, {0, 2}} {
		for count := range int64(4) {
			w := mixedWorld(s, on...)
			wipe(w, 1, count)
			w.Tapes[0].Recs = []impl.Rec{shareOf(s, 4, 1, 2), shareOf(s, 6, 1, 1), shareOf(s, 7, 0, 2), doneOf(8, 1)}
			w.Tapes[1].Recs = []impl.Rec{doneOf(4, 1)}
			what := fmt.Sprint("on ", on, ", wiped ", count)
			wantLaid(t, what, impl.BeginShare(w, 1, 2), w, begunShare(w, 9, 1, 2))
			wantLaid(t, what, impl.BeginShare(w, 1, 0), w, begunShare(w, 9, 1, 0))
			wantNoWorld(t, what, impl.BeginShare(w, 1, 1), impl.ErrTaken)
			w.Tapes[1].Recs = append(w.Tapes[1].Recs, doneOf(6, 2))
			wantLaid(t, what, impl.BeginShare(w, 1, 1), w, begunShare(w, 9, 1, 1))
		}
	}
}

func TestBegunTwice(t *testing.T) {
	w := mixedWorld(middleShape())
	begun := impl.BeginShare(w, 1, 2).World
	wantNoWorld(t, "begun twice", impl.BeginShare(begun, 1, 2), impl.ErrTaken)
	begun = impl.LayRec(begun, doneOf(impl.OpenShare(begun, 1, 2).Recs[0].Seq, 1)).World
	wantLaid(t, "begun again", impl.BeginShare(begun, 1, 2), begun, begunShare(w, 7, 1, 2))
}

func TestBegunAtTheLastSeq(t *testing.T) {
	s := middleShape()
	for _, seq := range []int64{1, 7, impl.MaxSeq - 1} {
		for tape := range 2 {
			w := withTapes(s, nil, nil)
			w.Tapes[tape].Recs = []impl.Rec{doneOf(seq, 0)}
			wantLaid(t, fmt.Sprint("Seq ", seq), impl.BeginShare(w, 2, 0), w, begunShare(w, seq+1, 2, 0))
			w.Tapes[tape].Recs = []impl.Rec{doneOf(impl.MaxSeq, 0)}
			wantNoWorld(t, "the last Seq", impl.BeginShare(w, 2, 0), impl.ErrMany)
		}
	}
	w := withTapes(s, nil, nil)
	wantLaid(t, "no records", impl.BeginShare(w, 2, 0), w, begunShare(w, 1, 2, 0))
}

func TestBegunOnFullTapes(t *testing.T) {
	s := middleShape()
	for _, counts := range [][2]int{{0, 0}, {199, 0}, {0, 199}, {199, 199}} {
		w := withTapes(s, plainRecs(counts[0]), plainRecs(counts[1]))
		wantLaid(t, fmt.Sprint(counts), impl.BeginShare(w, 1, 2), w, begunShare(w, int64(max(counts[0], counts[1]))+1, 1, 2))
	}
	for _, counts := range [][2]int{{200, 0}, {0, 200}, {200, 199}, {199, 200}, {200, 200}} {
		w := withTapes(s, plainRecs(counts[0]), plainRecs(counts[1]))
		wantNoWorld(t, fmt.Sprint(counts), impl.BeginShare(w, 1, 2), impl.ErrMany)
		w.Stop = 0
		wantNoWorld(t, fmt.Sprint(counts, " and no power"), impl.BeginShare(w, 1, 2), impl.ErrMany)
	}
}

func TestWholeShares(t *testing.T) {
	all := []int64{0, 1, 2, 3, 4, 5}
	for _, c := range []struct {
		name  string
		rec   impl.Rec
		whole bool
	}{
		{"nothing", impl.Rec{}, false},
		{"no Delta, no Rows", impl.Rec{Kind: impl.RecShare}, true},
		{"no Delta", impl.Rec{Kind: impl.RecShare, Rows: all}, true},
		{"zeros as Delta", impl.Rec{Kind: impl.RecShare, Delta: make([]byte, 6)}, true},
		{"one lacks", impl.Rec{Kind: impl.RecShare, Delta: []byte{0, 1}}, false},
		{"one is there", impl.Rec{Kind: impl.RecShare, Delta: []byte{0, 1}, Rows: []int64{1}}, true},
		{"another is there", impl.Rec{Kind: impl.RecShare, Delta: []byte{0, 1}, Rows: []int64{0}}, false},
		{"the first lacks", impl.Rec{Kind: impl.RecShare, Delta: []byte{255, 0, 1, 2}, Rows: []int64{2, 3}}, false},
		{"the last lacks", impl.Rec{Kind: impl.RecShare, Delta: []byte{255, 0, 1, 2}, Rows: []int64{0, 2}}, false},
		{"in the midst one lacks", impl.Rec{Kind: impl.RecShare, Delta: []byte{255, 0, 1, 2}, Rows: []int64{0, 3}}, false},
		{"all are there", impl.Rec{Kind: impl.RecShare, Delta: []byte{255, 0, 1, 2}, Rows: []int64{0, 2, 3}}, true},
		{"all, falling and twice", impl.Rec{Kind: impl.RecShare, Delta: []byte{255, 0, 1, 2}, Rows: []int64{3, 2, 2, 0, 3}}, true},
		{"more are there", impl.Rec{Kind: impl.RecShare, Delta: []byte{255, 0, 1, 2}, Rows: all}, true},
		{"numbers beyond all groups", impl.Rec{Kind: impl.RecShare, Delta: []byte{1}, Rows: []int64{math.MinInt64, -1, 256, 1 << 32, math.MaxInt64}}, false},
		{"these and the one", impl.Rec{Kind: impl.RecShare, Delta: []byte{1}, Rows: []int64{math.MinInt64, -1, 256, 0, math.MaxInt64}}, true},
		{"a long Delta", impl.Rec{Kind: impl.RecShare, Delta: append(make([]byte, 300), 1), Rows: []int64{300}}, true},
		{"a long Delta that lacks one", impl.Rec{Kind: impl.RecShare, Delta: append(make([]byte, 300), 1), Rows: []int64{44, 299}}, false},
		{"a Delta for which Rows are short", impl.Rec{Kind: impl.RecShare, Delta: fours(2), Rows: []int64{0}}, false},
	} {
		if got := impl.ShareWhole(c.rec); got != c.whole {
			t.Errorf("%s: %v", c.name, got)
		}
		for _, kind := range []int64{0, impl.RecItem, impl.RecMove, impl.RecDone, 5, -4, math.MinInt64, math.MaxInt64} {
			r := c.rec
			r.Kind = kind
			if impl.ShareWhole(r) {
				t.Errorf("%s: kind %d is whole", c.name, kind)
			}
		}
	}
}

// Only Kind, Delta and Rows are asked.
func TestShareWholeOfAnything(t *testing.T) {
	r := impl.Rec{Kind: impl.RecShare, Seq: -1, Name: "\x00", Length: math.MinInt64, Group: 99, Row: -1, Rows: []int64{1}, Data: []byte{1}, Delta: []byte{0, 9}}
	given := deepCopy(r, 2)
	if !impl.ShareWhole(given) || !same(given, r) {
		t.Errorf("not whole, or changed: %+v", given)
	}
}

func TestWholeShareOfEachGiver(t *testing.T) {
	s := greatestShape()
	for mask := range uint(1) << 6 {
		share := shareOf(s, 5, 2, 3)
		share.Delta[4] = 0
		share.Rows = slices.DeleteFunc(placesOf(mask), func(group int64) bool { return group == 2 || group == 4 })
		w := withTapes(s, nil, []impl.Rec{share})
		if whole := mask|1<<2|1<<4 == 63; whole {
			wantBytes(t, "whole", impl.WholeShare(w, 2, 3), share.Data)
		} else {
			wantCode(t, fmt.Sprint("given by ", share.Rows), impl.WholeShare(w, 2, 3), impl.ErrZero)
		}
		wantCode(t, "another row", impl.WholeShare(w, 2, 2), impl.ErrNone)
		wantCode(t, "another group", impl.WholeShare(w, 3, 3), impl.ErrNone)
	}
}
