package tests

import (
	"fmt"
	"math"
	"slices"
	"testing"

	"loop.example/g00089/impl"
)

// plainCounted says again what the document says of counted records: of those
// that are left, the first one that none comes ahead of by its numbers.
func plainCounted(w impl.World) []impl.Rec {
	var left, counted []impl.Rec
	for _, r := range slices.Concat(w.Tapes[0].Recs, w.Tapes[1].Recs) {
		if !holds(left, r) {
			left = append(left, r)
		}
	}
	for len(left) > 0 {
		least := 0
		for i := range left {
			if comesAhead(left[i], left[least]) {
				least = i
			}
		}
		counted = append(counted, left[least])
		left = slices.Delete(left, least, least+1)
	}
	return counted
}

func comesAhead(a, b impl.Rec) bool {
	if a.Seq != b.Seq {
		return a.Seq < b.Seq
	}
	if a.Kind != b.Kind {
		return a.Kind < b.Kind
	}
	return a.Group < b.Group
}

func holds(recs []impl.Rec, wanted impl.Rec) bool {
	return slices.ContainsFunc(recs, func(r impl.Rec) bool { return r.Seq == wanted.Seq && same(r, wanted) })
}

// withTapes is a world of mixed blocks whose tapes have just these records.
func withTapes(s impl.Shape, first, second []impl.Rec) impl.World {
	w := mixedWorld(s)
	w.Tapes[0].Recs, w.Tapes[1].Recs = first, second
	return w
}

func wantRecs(t *testing.T, what string, got impl.RecsResult, want []impl.Rec) {
	t.Helper()
	if got.Code != impl.OK || !same(got.Recs, want) {
		t.Errorf("%s: code %d, records %+v, want %+v", what, got.Code, got.Recs, want)
	}
}

func wantNoRecs(t *testing.T, what string, got impl.RecsResult, code int64) {
	t.Helper()
	if got.Code != code || len(got.Recs) != 0 {
		t.Errorf("%s: code %d, want %d, records %+v", what, got.Code, code, got.Recs)
	}
}

// anyRec is a record without a fault, its numbers few, so that many are alike in some of them.
func anyRec(q *sequence, s impl.Shape) impl.Rec {
	pick := func(count int64) int64 { return int64(q.next() % uint64(count)) }
	seq := 1 + pick(6)
	switch pick(7) {
	case 0:
		return deletedItem(seq, anyName(q))
	case 1:
		return dataItem(seq, anyName(q), q.list(1+int(pick(3))))
	case 2:
		return rowsItem(seq, anyName(q), 1+pick(s.Data*4), pick(s.Rows))
	case 3:
		move := moveOf(s, seq, pick(s.Groups), pick(s.Rows))
		move.Data[0] = byte(pick(2))
		return move
	case 4, 5:
		return doneOf(seq, pick(s.Groups+s.Column))
	default:
		share := shareOf(s, seq, pick(s.Groups+s.Column), pick(s.Rows))
		share.Data[1] = byte(pick(2))
		return share
	}
}

func anyName(q *sequence) string {
	return []string{"a", "ab", "b", "c"}[q.next()%4]
}

// anyTapes are two tapes of which some records stand on both, some twice on one.
func anyTapes(q *sequence, s impl.Shape) impl.World {
	var tapes [2][]impl.Rec
	for range q.next() % 16 {
		r := anyRec(q, s)
		places := [][]int{{0}, {1}, {0, 1}, {0, 1}, {0, 0}, {1, 0, 1}}[q.next()%6]
		for _, tape := range places {
			at := int(q.next() % uint64(len(tapes[tape])+1))
			tapes[tape] = slices.Insert(tapes[tape], at, r)
		}
	}
	return withTapes(s, tapes[0], tapes[1])
}

// eachMixOfTapes goes through many pairs of tapes of all shapes.
func eachMixOfTapes(check func(what string, w impl.World)) {
	for i, s := range recShapes() {
		q := &sequence{state: 60 + uint64(i)}
		for round := range 150 {
			w := anyTapes(q, s)
			check(fmt.Sprint("shape ", i, ", tapes ", round, ": ", w.Tapes), w)
		}
	}
}

func swapped(w impl.World) impl.World {
	told := deepCopy(w, 0)
	told.Tapes[0], told.Tapes[1] = told.Tapes[1], told.Tapes[0]
	return told
}

func TestCountedOfManyTapes(t *testing.T) {
	eachMixOfTapes(func(what string, w impl.World) {
		wantWorldCode(t, what, w, impl.OK)
		wantRecs(t, what, impl.CountedRecs(w), plainCounted(w))
	})
}

// wantSameOnes holds two lists against each other, whatever the order.
func wantSameOnes(t *testing.T, what string, got, want []impl.Rec) {
	t.Helper()
	all := !slices.ContainsFunc(want, func(r impl.Rec) bool { return !holds(got, r) })
	if len(got) != len(want) || !all {
		t.Errorf("%s: records %+v, want %+v", what, got, want)
	}
}

func TestTapesChangedAbout(t *testing.T) {
	eachMixOfTapes(func(what string, w impl.World) {
		got := impl.CountedRecs(swapped(w))
		wantSameOnes(t, what, got.Recs, impl.CountedRecs(w).Recs)
		if got.Code != impl.OK {
			t.Errorf("%s: code %d", what, got.Code)
		}
	})
}

// What counts, told on both tapes or once more on one of them, counts again alone.
func TestCountedToldAgain(t *testing.T) {
	eachMixOfTapes(func(what string, w impl.World) {
		counted := impl.CountedRecs(w).Recs
		twice := slices.Concat(counted, counted)
		for _, again := range []impl.World{
			withTapes(w.Shape, counted, counted), withTapes(w.Shape, counted, nil), withTapes(w.Shape, nil, counted),
			withTapes(w.Shape, twice, nil), withTapes(w.Shape, nil, twice), withTapes(w.Shape, twice, twice),
		} {
			wantRecs(t, what, impl.CountedRecs(again), counted)
			for tape := range int64(2) {
				told := len(again.Tapes[tape].Recs) > 0
				if missing := impl.MissingRecs(again, tape); told && len(missing.Recs) != 0 {
					t.Errorf("%s: missing %v", what, missing.Recs)
				}
			}
		}
	})
}

// All that is asked of tapes is the same when each says what both say.
func TestWhatCountsIsAllThatIsAsked(t *testing.T) {
	eachMixOfTapes(func(what string, w impl.World) {
		counted := impl.CountedRecs(w).Recs
		full := withTapes(w.Shape, counted, counted)
		for _, a := range askers() {
			if a.name == "MissingRecs" {
				continue
			}
			q := question{World: w, Name: "ab"}
			q.Group = int64(len(counted)) % w.Shape.Groups
			first := a.call(q)
			q.World = full
			if second := a.call(q); !same(first, second) {
				t.Errorf("%s, %s: %+v, then %+v", a.name, what, first, second)
			}
		}
	})
}

// pairsOfOneSeq are records of one Seq, unlike in the kind, the group, or in another field alone.
func pairsOfOneSeq(s impl.Shape) [][2]impl.Rec {
	otherRow, otherData, otherDelta := moveOf(s, 4, 0, 1), moveOf(s, 4, 0, 0), moveOf(s, 4, 0, 0)
	otherData.Data[7]++
	otherDelta.Delta[0]++
	otherSum, otherWeight := shareOf(s, 4, 1, 0, 0), shareOf(s, 4, 1, 0, 0)
	otherSum.Data[0]++
	otherWeight.Delta[2]++
	pairs := [][2]impl.Rec{
		{moveOf(s, 4, 0, 0), moveOf(s, 4, 1, 0)}, {doneOf(4, 0), doneOf(4, 2)}, {shareOf(s, 4, 0, 0), shareOf(s, 4, 2, 0)},
		{moveOf(s, 4, 0, 0), otherRow}, {moveOf(s, 4, 0, 0), otherData}, {moveOf(s, 4, 0, 0), otherDelta},
		{shareOf(s, 4, 1, 0, 0), otherSum}, {shareOf(s, 4, 1, 0, 0), otherWeight},
		{shareOf(s, 4, 1, 0, 0), shareOf(s, 4, 1, 1, 0)}, {shareOf(s, 4, 1, 0, 0), shareOf(s, 4, 1, 0, 2)},
		{shareOf(s, 4, 1, 0, 0), shareOf(s, 4, 1, 0, 0, 2)}, {shareOf(s, 4, 1, 0), shareOf(s, 4, 1, 0, 0)},
		{dataItem(4, "a", []byte{1}), dataItem(4, "b", []byte{1})}, {dataItem(4, "a", []byte{1}), dataItem(4, "a", []byte{2})},
		{dataItem(4, "a", []byte{1}), dataItem(4, "a", []byte{1, 0})}, {dataItem(4, "a", []byte{1}), deletedItem(4, "a")},
		{rowsItem(4, "a", 1, 0), rowsItem(4, "a", 1, 1)}, {rowsItem(4, "a", 1, 0), rowsItem(4, "a", 2, 0)},
		{rowsItem(4, "a", 9, 0, 1), rowsItem(4, "a", 9, 1, 0)}, {rowsItem(4, "a", 1, 0), dataItem(4, "a", []byte{0})},
	}
	kinds := []impl.Rec{dataItem(4, "a", []byte{1}), moveOf(s, 4, 1, 0), doneOf(4, 0), shareOf(s, 4, 0, 0)}
	for i, first := range kinds {
		for _, second := range kinds[i+1:] {
			pairs = append(pairs, [2]impl.Rec{first, second})
		}
	}
	return pairs
}

// The two of a pair stand on the tapes in each way; where their numbers are
// alike the one that is told first stays first.
func TestUnlikeRecordsOfOneSeq(t *testing.T) {
	s := middleShape()
	early, late := doneOf(3, 2), deletedItem(5, "zz")
	for i, pair := range pairsOfOneSeq(s) {
		what := fmt.Sprint("pair ", i, pair)
		a, b := pair[0], pair[1]
		if comesAhead(b, a) {
			t.Fatalf("%s: not in order", what)
		}
		forth, back := []impl.Rec{early, a, b, late}, []impl.Rec{early, b, a, late}
		if comesAhead(a, b) {
			back = forth
		}
		for _, tapes := range [][2][]impl.Rec{
			{{a, late}, {b, early}}, {{early, a, b, late}, nil}, {nil, {late, a, b, early}}, {{a, a}, {late, b, early, b}},
			{{a, b}, {b, a, late, early}}, {{a, early}, {b, a, late}}, {{late, a, b}, {b, early}},
		} {
			w := withTapes(s, tapes[0], tapes[1])
			wantRecs(t, what, impl.CountedRecs(w), forth)
			wantSameOnes(t, what, impl.CountedRecs(swapped(w)).Recs, forth)
		}
		w := withTapes(s, []impl.Rec{b, late}, []impl.Rec{a, early})
		wantRecs(t, what+" the other way", impl.CountedRecs(w), back)
	}
}

func TestOneNewestItem(t *testing.T) {
	eachMixOfTapes(func(what string, w impl.World) {
		var names []string
		for _, item := range impl.ItemsOf(w).Recs {
			names = append(names, item.Name)
			wantRecs(t, what, impl.NewestItem(w, item.Name), []impl.Rec{item})
		}
		if !slices.IsSorted(names) || len(slices.Compact(slices.Clone(names))) != len(names) {
			t.Errorf("%s: names %v", what, names)
		}
		for _, name := range []string{"a", "ab", "b", "c"} {
			if !slices.Contains(names, name) {
				wantNoRecs(t, what, impl.NewestItem(w, name), impl.ErrNone)
			}
		}
	})
}

// fullRec has something in each field, whatever its kind has use for.
func fullRec() impl.Rec {
	return impl.Rec{Kind: 2, Seq: 3, Name: "ab", Length: 4, Group: 5, Row: 6, Rows: []int64{7, 8}, Data: []byte{9, 10}, Delta: []byte{11, 12}}
}

// changes are those of one field of a record alone.
func changes() map[string][]func(r *impl.Rec) {
	all := map[string][]func(r *impl.Rec){}
	numbers := map[string]func(r *impl.Rec) *int64{
		"Kind": func(r *impl.Rec) *int64 { return &r.Kind }, "Seq": func(r *impl.Rec) *int64 { return &r.Seq },
		"Length": func(r *impl.Rec) *int64 { return &r.Length }, "Group": groupOf, "Row": rowOf,
	}
	for name, at := range numbers {
		for _, other := range []int64{-1, 77, math.MinInt64, math.MaxInt64} {
			all[name] = append(all[name], func(r *impl.Rec) { *at(r) = other })
		}
		all[name] = append(all[name], func(r *impl.Rec) { *at(r) += 1 << 32 })
	}
	for _, other := range []string{"a", "abc", "aB", "b", "\xff", "ab\x00"} {
		all["Name"] = append(all["Name"], func(r *impl.Rec) { r.Name = other })
	}
	for _, other := range [][]int64{{7}, {8}, {7, 9}, {8, 7}, {7, 8, 0}, {7, 8 + 1<<32}, {9, 9, 9}} {
		all["Rows"] = append(all["Rows"], func(r *impl.Rec) { r.Rows = other })
	}
	for name, at := range map[string]func(r *impl.Rec) *[]byte{"Data": dataOf, "Delta": deltaOf} {
		all[name] = []func(r *impl.Rec){
			func(r *impl.Rec) { *at(r) = (*at(r))[:1] }, func(r *impl.Rec) { *at(r) = (*at(r))[1:] },
			func(r *impl.Rec) { *at(r) = append(*at(r), 0) }, func(r *impl.Rec) { (*at(r))[0]++ }, func(r *impl.Rec) { (*at(r))[1] ^= 128 },
			func(r *impl.Rec) { *at(r) = []byte{1, 2, 3} },
		}
	}
	return all
}

// Each field alone makes two records unlike, whatever their kind names.
func TestSameRecAsksEachField(t *testing.T) {
	bases := []impl.Rec{fullRec(), doneOf(3, 1), {}}
	for name, all := range changes() {
		for i, change := range all {
			for _, base := range bases {
				other := deepCopy(base, 1)
				other.Data, other.Delta = append(other.Data, 5, 6), append(other.Delta, 7, 8)
				first := deepCopy(other, 0)
				change(&other)
				if same(first, other) {
					continue
				}
				if impl.SameRec(first, other) || impl.SameRec(other, first) {
					t.Errorf("%s, change %d: %+v and %+v are said to be alike", name, i, first, other)
				}
			}
		}
	}
}

func TestSameRecOfEmptyLists(t *testing.T) {
	empty := impl.Rec{Rows: []int64{}, Data: []byte{}, Delta: []byte{}}
	if !impl.SameRec(empty, impl.Rec{}) || !impl.SameRec(impl.Rec{}, empty) || !impl.SameRec(fullRec(), deepCopy(fullRec(), 2)) {
		t.Error("alike records are said to be unlike")
	}
	for _, fill := range []func(r *impl.Rec){
		func(r *impl.Rec) { r.Rows = []int64{0} }, func(r *impl.Rec) { r.Data = []byte{0} }, func(r *impl.Rec) { r.Delta = []byte{0} },
	} {
		filled := impl.Rec{}
		fill(&filled)
		if impl.SameRec(empty, filled) || impl.SameRec(filled, empty) {
			t.Errorf("%+v is said to be empty", filled)
		}
	}
}

// A record whose empty lists are written in two ways counts once.
func TestEmptyListsCountOnce(t *testing.T) {
	other := doneOf(2, 1)
	other.Rows, other.Data, other.Delta = []int64{}, []byte{}, []byte{}
	w := withTapes(middleShape(), []impl.Rec{doneOf(2, 1)}, []impl.Rec{other})
	wantRecs(t, "counted", impl.CountedRecs(w), []impl.Rec{other})
	for tape := range int64(2) {
		wantRecs(t, "missing", impl.MissingRecs(w, tape), nil)
	}
}

func TestSameRecKeepsItsArguments(t *testing.T) {
	for name, all := range changes() {
		for _, change := range all {
			first, second := deepCopy(fullRec(), 2), fullRec()
			change(&second)
			second = deepCopy(second, 2)
			wantNew(t, name, func() bool { return impl.SameRec(first, second) }, first, second)
		}
	}
}
