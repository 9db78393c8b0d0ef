package tests

import (
	"fmt"
	"math"
	"reflect"
	"slices"
	"testing"

	"loop.example/g00089/impl"
)

// question is what may be asked of tapes, telling what is answered.
type question struct {
	World       impl.World
	Group, Tape int64
	Name        string
}
type telling struct {
	Code, Value int64
	Recs        []impl.Rec
	List        []int64
}

// asker is a function that asks of tapes, what may be wrong with its question,
// and what it tells by the document.
type asker struct {
	name  string
	call  func(q question) telling
	flaws []flaw[question]
	plain func(q question) telling
}

func recsTold(r impl.RecsResult) telling { return telling{Code: r.Code, Recs: r.Recs} }
func intTold(r impl.IntResult) telling   { return telling{Code: r.Code, Value: r.Value} }

func questionedWorld(q *question) *impl.World { return &q.World }

func anyQuestion() question {
	return question{World: mixedWorld(middleShape(), 1), Group: 1, Tape: 1, Name: "b"}
}

func recAskers() []asker {
	return []asker{
		{name: "CountedRecs",
			call:  func(q question) telling { return recsTold(impl.CountedRecs(q.World)) },
			plain: func(q question) telling { return telling{Recs: plainCounted(q.World)} }},
		{name: "NewestItem", plain: plainNewest,
			call: func(q question) telling { return recsTold(impl.NewestItem(q.World, q.Name)) },
			flaws: []flaw[question]{{"no such name", rankPlace, impl.ErrNone, func(q *question) { q.Name = "none" }},
				{"a deleted name", rankPlace, impl.ErrNone, func(q *question) { q.Name = "a" }}}},
		{name: "ItemsOf", plain: plainItems,
			call: func(q question) telling { return recsTold(impl.ItemsOf(q.World)) }},
		{name: "UndoneAt", plain: plainUndone,
			call:  func(q question) telling { return recsTold(impl.UndoneAt(q.World, q.Group)) },
			flaws: numberFlaws("group", rankPlace, impl.ErrRange, 0, 2, func(q *question) *int64 { return &q.Group })},
		{name: "SpentRecs", plain: plainSpent,
			call: func(q question) telling { return recsTold(impl.SpentRecs(q.World)) }},
		{name: "MissingRecs", plain: plainMissing,
			call:  func(q question) telling { return recsTold(impl.MissingRecs(q.World, q.Tape)) },
			flaws: numberFlaws("tape", rankPlace, impl.ErrRange, 0, 1, func(q *question) *int64 { return &q.Tape })},
	}
}

func askers() []asker {
	lastSeq := flaw[question]{"the last Seq", rankPlace, impl.ErrMany, func(q *question) {
		q.World.Tapes[0].Recs = append(q.World.Tapes[0].Recs, doneOf(impl.MaxSeq, 0))
	}}
	return append(recAskers(),
		asker{name: "NextSeq", plain: plainNext, flaws: []flaw[question]{lastSeq},
			call: func(q question) telling { return intTold(impl.NextSeq(q.World)) }},
		asker{name: "WaitingBytes", plain: plainWaiting,
			call: func(q question) telling { return intTold(impl.WaitingBytes(q.World)) }},
		asker{name: "FreeRows", plain: plainFree,
			flaws: numberFlaws("group", rankPlace, impl.ErrRange, 0, 1, func(q *question) *int64 { return &q.Group }),
			call: func(q question) telling {
				free := impl.FreeRows(q.World, q.Group)
				return telling{Code: free.Code, List: free.List}
			}})
}

func plainNewest(q question) telling {
	told := telling{Code: impl.ErrNone}
	for _, r := range plainCounted(q.World) {
		if r.Kind != impl.RecItem || r.Name != q.Name {
			continue
		}
		told = telling{Recs: []impl.Rec{r}}
		if r.Length == -1 {
			told = telling{Code: impl.ErrNone}
		}
	}
	return told
}

func plainItems(q question) telling {
	var names []string
	for _, r := range plainCounted(q.World) {
		if r.Kind == impl.RecItem && !slices.Contains(names, r.Name) {
			names = append(names, r.Name)
		}
	}
	slices.Sort(names)
	told := telling{}
	for _, name := range names {
		q.Name = name
		told.Recs = append(told.Recs, plainNewest(q).Recs...)
	}
	return told
}

func plainNext(q question) telling {
	greatest := int64(0)
	for _, r := range plainCounted(q.World) {
		greatest = max(greatest, r.Seq)
	}
	return telling{Value: greatest + 1}
}

func plainWaiting(q question) telling {
	told := telling{}
	for _, item := range plainItems(q).Recs {
		told.Value += int64(len(item.Data))
	}
	return told
}

func plainFree(q question) telling {
	told := telling{}
	for row := range q.World.Shape.Rows {
		free := true
		for _, item := range plainItems(q).Recs {
			home := impl.HomeOf(q.World.Shape, item.Name).Value
			free = free && !(home == q.Group && slices.Contains(item.Rows, row))
		}
		for _, r := range plainCounted(q.World) {
			moved := r.Kind == impl.RecMove && r.Group == q.Group
			free = free && !((moved || r.Kind == impl.RecShare) && r.Row == row)
		}
		if free {
			told.List = append(told.List, row)
		}
	}
	return told
}

func plainUndone(q question) telling {
	told := telling{}
	counted := plainCounted(q.World)
	for _, r := range counted {
		its := q.Group >= q.World.Shape.Groups || r.Group == q.Group
		if r.Kind == impl.RecMove && its && !holds(counted, doneOf(r.Seq, q.Group)) {
			told.Recs = append(told.Recs, r)
		}
	}
	return told
}

func plainMissing(q question) telling {
	told := telling{}
	for _, r := range plainCounted(q.World) {
		if !holds(q.World.Tapes[q.Tape].Recs, r) {
			told.Recs = append(told.Recs, r)
		}
	}
	return told
}

// isSpentBy asks of one counted record, at its place among all.
func isSpentBy(s impl.Shape, counted []impl.Rec, place int) bool {
	r := counted[place]
	switch r.Kind {
	case impl.RecItem:
		return slices.ContainsFunc(counted[place+1:], func(o impl.Rec) bool { return o.Kind == impl.RecItem && o.Name == r.Name })
	case impl.RecMove:
		done := holds(counted, doneOf(r.Seq, r.Group))
		for parity := range s.Column {
			done = done && holds(counted, doneOf(r.Seq, s.Groups+parity))
		}
		return done
	case impl.RecDone:
		return !slices.ContainsFunc(counted, func(o impl.Rec) bool { return o.Kind == impl.RecMove && o.Seq == r.Seq })
	}
	return slices.ContainsFunc(counted, func(o impl.Rec) bool {
		newer := o.Kind == impl.RecShare && o.Group == r.Group && o.Row == r.Row && o.Seq > r.Seq
		return newer || o.Kind == impl.RecDone && o.Seq == r.Seq
	})
}

func plainSpent(q question) telling {
	told := telling{}
	counted := plainCounted(q.World)
	for _, r := range counted {
		spent := r.Seq != counted[len(counted)-1].Seq
		for i, other := range counted {
			if other.Kind == r.Kind && other.Seq == r.Seq {
				spent = spent && isSpentBy(q.World.Shape, counted, i)
			}
		}
		if spent {
			told.Recs = append(told.Recs, r)
		}
	}
	return told
}

func TestTapeCodesAndTheirOrder(t *testing.T) {
	for _, a := range askers() {
		flaws := append(lifted(fewWorldFlaws(), 0, questionedWorld), a.flaws...)
		wantFlaws(t, a.name, anyQuestion, flaws, func(t *testing.T, what string, q question, code int64) {
			t.Helper()
			if got := a.call(q); got.Code != code || code != impl.OK && !same(got, telling{Code: code}) {
				t.Errorf("%s: %+v, want code %d", what, got, code)
			}
		})
		if got := a.call(question{}); !same(got, telling{Code: impl.ErrRange}) {
			t.Errorf("%s of nothing: %+v", a.name, got)
		}
	}
}

// eachQuestion goes through all groups, and with them through both tapes and
// all names; no function is asked for more than one of these.
func eachQuestion(w impl.World, check func(q question)) {
	names := []string{"a", "ab", "b", "c"}
	groups := w.Shape.Groups + w.Shape.Column
	for i := range max(groups, int64(len(names))) {
		check(question{World: w, Group: i % groups, Tape: i % 2, Name: names[i%int64(len(names))]})
	}
}

func wantPlain(t *testing.T, what string, a asker, q question) {
	t.Helper()
	want := a.plain(q)
	if a.name == "FreeRows" && q.Group >= q.World.Shape.Groups {
		want = telling{Code: impl.ErrRange}
	}
	if got := a.call(q); !same(got, want) {
		t.Errorf("%s, %s: group %d, tape %d, name %s: %+v, want %+v", a.name, what, q.Group, q.Tape, q.Name, got, want)
	}
}

func TestManyTapesSayWhatTheDocumentSays(t *testing.T) {
	eachMixOfTapes(func(what string, w impl.World) {
		for _, a := range askers() {
			eachQuestion(w, func(q question) { wantPlain(t, what, a, q) })
		}
	})
}

// The tapes are read whether there is power, and whoever is on.
func TestTapesWithoutPower(t *testing.T) {
	for _, on := range [][]int64{nil, {0}, {1, 2}} {
		for _, down := range []bool{false, true} {
			w := mixedWorld(middleShape(), on...)
			if down {
				w = withoutPower(w)
			}
			w.Stop = w.Writes
			for _, a := range askers() {
				eachQuestion(w, func(q question) { wantPlain(t, "power", a, q) })
			}
		}
	}
}

func TestWipedAndEmptyTapes(t *testing.T) {
	recs := mixedWorld(middleShape()).Tapes[0].Recs
	wiped, empty, full := impl.Tape{Wiped: true}, impl.Tape{}, impl.Tape{Recs: recs}
	for _, tapes := range [][]impl.Tape{{wiped, wiped}, {empty, empty}, {wiped, empty}, {wiped, full}, {full, wiped}, {empty, full}, {full, empty}, {full, full}} {
		w := plainWorld(middleShape())
		w.Tapes = tapes
		for _, a := range askers() {
			eachQuestion(w, func(q question) { wantPlain(t, fmt.Sprint(tapes), a, q) })
		}
	}
}

func TestNothingIsSaid(t *testing.T) {
	w := plainWorld(middleShape())
	wantInt(t, "NextSeq", impl.NextSeq(w), impl.IntResult{Value: 1})
	wantInt(t, "WaitingBytes", impl.WaitingBytes(w), impl.IntResult{})
	wantNoRecs(t, "NewestItem", impl.NewestItem(w, "a"), impl.ErrNone)
	for _, told := range []impl.RecsResult{impl.CountedRecs(w), impl.ItemsOf(w), impl.UndoneAt(w, 2), impl.SpentRecs(w), impl.MissingRecs(w, 0)} {
		wantRecs(t, "nothing", told, nil)
	}
	wantFree(t, "FreeRows", w, 1, 0, 1, 2)
}

func TestNextSeqAtItsBounds(t *testing.T) {
	s := middleShape()
	for _, seq := range []int64{1, 2, impl.MaxSeq - 2, impl.MaxSeq - 1, impl.MaxSeq} {
		for _, r := range []impl.Rec{doneOf(seq, 2), deletedItem(seq, "a"), moveOf(s, seq, 0, 0), shareOf(s, seq, 0, 0)} {
			want := impl.IntResult{Value: seq + 1}
			if seq == impl.MaxSeq {
				want = impl.IntResult{Code: impl.ErrMany}
			}
			other := []impl.Rec{doneOf(1, 0)}
			wantInt(t, fmt.Sprint(r), impl.NextSeq(withTapes(s, other, []impl.Rec{r, doneOf(1, 1)})), want)
			wantInt(t, fmt.Sprint(r), impl.NextSeq(withTapes(s, []impl.Rec{r}, nil)), want)
		}
	}
}

func TestNewestItems(t *testing.T) {
	put, again := dataItem(1, "a", []byte{1}), rowsItem(7, "a", 3, 2)
	deleted := deletedItem(4, "a")
	w := withTapes(middleShape(), []impl.Rec{put}, []impl.Rec{dataItem(9, "ab", []byte{5})})
	wantRecs(t, "put", impl.NewestItem(w, "a"), []impl.Rec{put})
	w.Tapes[1].Recs = append(w.Tapes[1].Recs, deleted)
	wantNoRecs(t, "deleted", impl.NewestItem(w, "a"), impl.ErrNone)
	w.Tapes[0].Recs = slices.Insert(w.Tapes[0].Recs, 0, again)
	wantRecs(t, "put again", impl.NewestItem(w, "a"), []impl.Rec{again})
	for _, name := range []string{"", "A", "1a", "aa", "b", "a ", "a\x00", "ninebytes", "é", "\xff"} {
		wantNoRecs(t, name, impl.NewestItem(w, name), impl.ErrNone)
	}
}

// Of two items of one name and Seq the last counted one is the newest: that of
// the tape 1, or the later one of a tape.
func TestNewestItemOfOneSeq(t *testing.T) {
	one, two := dataItem(3, "a", []byte{1}), dataItem(3, "a", []byte{2})
	gone := deletedItem(3, "a")
	tell := func(first, second []impl.Rec) impl.RecsResult {
		return impl.NewestItem(withTapes(middleShape(), first, second), "a")
	}
	wantRecs(t, "two tapes", tell([]impl.Rec{one}, []impl.Rec{two}), []impl.Rec{two})
	wantRecs(t, "two tapes", tell([]impl.Rec{two}, []impl.Rec{one}), []impl.Rec{one})
	wantRecs(t, "both on both", tell([]impl.Rec{one, two}, []impl.Rec{two, one}), []impl.Rec{two})
	wantRecs(t, "one tape", tell([]impl.Rec{two, one, two}, nil), []impl.Rec{one})
	wantRecs(t, "put behind deleted", tell([]impl.Rec{gone}, []impl.Rec{two}), []impl.Rec{two})
	wantNoRecs(t, "deleted behind put", tell([]impl.Rec{two}, []impl.Rec{gone}), impl.ErrNone)
}

func TestItemsByTheirNames(t *testing.T) {
	names := []string{"a", "a0", "a00", "aa", "ab", "b", "b1", "zzzzzzzy", "zzzzzzzz"}
	var rising, falling []impl.Rec
	for i, name := range names {
		item := dataItem(int64(len(names)-i), name, []byte{byte(i)})
		rising = append(rising, item)
		falling = slices.Insert(falling, 0, item)
	}
	gone := []impl.Rec{dataItem(20, "a1", []byte{1}), deletedItem(21, "a1"), dataItem(19, "b", []byte{7})}
	rising[5] = gone[2]
	for _, w := range []impl.World{
		withTapes(middleShape(), slices.Concat(falling, gone), nil), withTapes(middleShape(), gone, falling),
		withTapes(middleShape(), falling, gone), withTapes(middleShape(), slices.Concat(gone, falling[:4]), falling[3:]),
	} {
		wantRecs(t, "items", impl.ItemsOf(w), rising)
	}
}

func TestWaitingBytes(t *testing.T) {
	recs := []impl.Rec{dataItem(1, "a", fours(6)), dataItem(2, "b", []byte{0}), rowsItem(3, "c", 24, 0, 1, 2), dataItem(4, "d", fours(2)),
		deletedItem(5, "d"), dataItem(6, "e", fours(1)), rowsItem(7, "e", 4, 1), deletedItem(8, "f"), dataItem(9, "f", fours(3)), dataItem(10, "g", fours(1)), dataItem(11, "g", []byte{7, 7})}
	want := []int64{24, 25, 25, 33, 25, 29, 25, 25, 37, 41, 39}
	for count := range recs {
		w := withTapes(middleShape(), recs[:count+1], recs[:count/2])
		wantInt(t, fmt.Sprint(count), impl.WaitingBytes(w), impl.IntResult{Value: want[count]})
	}
}

func TestMostWaitingBytes(t *testing.T) {
	var tapes [2][]impl.Rec
	for i := range 400 {
		name := "a" + fmt.Sprint(i)
		tapes[i%2] = append(tapes[i%2], dataItem(int64(i+1), name, fours(9)))
	}
	w := withTapes(greatestShape(), tapes[0], tapes[1])
	wantInt(t, "all", impl.WaitingBytes(w), impl.IntResult{Value: 400 * 36})
	if items := impl.ItemsOf(w); len(items.Recs) != 400 {
		t.Errorf("code %d, %d items", items.Code, len(items.Recs))
	}
	if missing := impl.MissingRecs(w, 1); !same(missing.Recs, tapes[0]) {
		t.Errorf("code %d, %d missing", missing.Code, len(missing.Recs))
	}
}

func wantFree(t *testing.T, what string, w impl.World, group int64, rows ...int64) {
	t.Helper()
	if got := impl.FreeRows(w, group); got.Code != impl.OK || !slices.Equal(got.List, rows) {
		t.Errorf("%s: %v, want %v", what, got, rows)
	}
}

// The home of a, c and e is the group 1 of two, that of b and d the group 0.
func TestFreeRows(t *testing.T) {
	s := middleShape()
	s.Rows = 6
	for _, c := range []struct {
		name  string
		recs  []impl.Rec
		group int64
		free  []int64
	}{
		{"an item of this home", []impl.Rec{rowsItem(1, "a", 17, 4, 0, 2)}, 1, []int64{1, 3, 5}},
		{"an item of another home", []impl.Rec{rowsItem(1, "a", 17, 4, 0, 2)}, 0, upTo(6)},
		{"items of both", []impl.Rec{rowsItem(1, "a", 9, 4, 0), rowsItem(2, "b", 9, 3, 4), rowsItem(3, "d", 1, 5)}, 0, []int64{0, 1, 2}},
		{"no more the newest", []impl.Rec{rowsItem(1, "a", 9, 4, 0), rowsItem(2, "a", 9, 0, 1)}, 1, []int64{2, 3, 4, 5}},
		{"put again", []impl.Rec{rowsItem(1, "a", 9, 4, 0), dataItem(2, "a", []byte{1})}, 1, upTo(6)},
		{"deleted", []impl.Rec{rowsItem(1, "a", 9, 4, 0), deletedItem(2, "a")}, 1, upTo(6)},
		{"a move of this group", []impl.Rec{moveOf(s, 1, 1, 3)}, 1, []int64{0, 1, 2, 4, 5}},
		{"a move of another", []impl.Rec{moveOf(s, 1, 0, 3)}, 1, upTo(6)},
		{"a move that is done", []impl.Rec{moveOf(s, 1, 1, 3), doneOf(1, 1), doneOf(1, 2), doneOf(2, 0)}, 1, []int64{0, 1, 2, 4, 5}},
		{"a share of this group", []impl.Rec{shareOf(s, 1, 1, 0)}, 1, []int64{1, 2, 3, 4, 5}},
		{"a share of another", []impl.Rec{shareOf(s, 1, 0, 5, 1)}, 1, upTo(5)},
		{"a share of parity", []impl.Rec{shareOf(s, 1, 2, 5, 0, 1)}, 0, upTo(5)},
		{"a share that is spent", []impl.Rec{shareOf(s, 1, 2, 2), doneOf(1, 2), doneOf(5, 1)}, 0, []int64{0, 1, 3, 4, 5}},
		{"what is done", []impl.Rec{doneOf(1, 1)}, 1, upTo(6)},
		{"none", []impl.Rec{rowsItem(1, "a", 17, 0, 1, 2), moveOf(s, 2, 1, 3), shareOf(s, 3, 0, 4), shareOf(s, 4, 2, 5)}, 1, nil},
	} {
		wantFree(t, c.name, withTapes(s, c.recs, nil), c.group, c.free...)
		wantFree(t, c.name, withTapes(s, c.recs[1:], c.recs[:1]), c.group, c.free...)
	}
}

// A name's home hangs on how many groups of data there are.
func TestFreeRowsOfEachHome(t *testing.T) {
	for groups := int64(1); groups <= 4; groups++ {
		s := greatestShape()
		s.Groups = groups
		for _, name := range []string{"a", "b", "c", "d", "zz9"} {
			w := withTapes(s, nil, []impl.Rec{rowsItem(1, name, 1, 5)})
			home := impl.HomeOf(s, name).Value
			for group := range groups {
				free := upTo(6)
				if group == home {
					free = upTo(5)
				}
				wantFree(t, name, w, group, free...)
			}
		}
	}
}

func TestGroupsBeyondTheLast(t *testing.T) {
	for _, s := range recShapes() {
		w := withTapes(s, []impl.Rec{moveOf(s, 2, 0, 0)}, []impl.Rec{shareOf(s, 3, 0, 0)})
		for group := int64(-2); group <= 8; group++ {
			wantGroup(t, w, group)
		}
		for _, group := range []int64{math.MinInt64, math.MinInt64 + 1, -1 << 32, 1 << 32, math.MaxInt64 - 1, math.MaxInt64} {
			wantGroup(t, w, group)
		}
	}
}

func wantGroup(t *testing.T, w impl.World, group int64) {
	t.Helper()
	free, undone := impl.FreeRows(w, group), impl.UndoneAt(w, group)
	isData := group >= 0 && group < w.Shape.Groups
	isGroup := isData || group >= 0 && group < w.Shape.Groups+w.Shape.Column
	if free.Code != okOr(impl.ErrRange, isData) || !isData && len(free.List) != 0 {
		t.Errorf("FreeRows of %d: %v", group, free)
	}
	if undone.Code != okOr(impl.ErrRange, isGroup) || !isGroup && len(undone.Recs) != 0 {
		t.Errorf("UndoneAt of %d: %v", group, undone)
	}
}

func TestUndoneMoves(t *testing.T) {
	s := middleShape()
	s.Column = 2
	first, second, third := moveOf(s, 1, 1, 0), moveOf(s, 2, 0, 1), moveOf(s, 3, 1, 0)
	moves := []impl.Rec{third, first, second}
	want := func(what string, dones []impl.Rec, undone [4][]impl.Rec) {
		t.Helper()
		for group, recs := range undone {
			wantRecs(t, fmt.Sprint(what, group), impl.UndoneAt(withTapes(s, moves, dones), int64(group)), recs)
			wantRecs(t, fmt.Sprint(what, group), impl.UndoneAt(withTapes(s, slices.Concat(dones, moves), moves), int64(group)), recs)
		}
	}
	all := []impl.Rec{first, second, third}
	want("none done ", nil, [4][]impl.Rec{{second}, {first, third}, all, all})
	want("done in its own ", []impl.Rec{doneOf(1, 1)}, [4][]impl.Rec{{second}, {third}, all, all})
	want("done in another of data ", []impl.Rec{doneOf(1, 0), doneOf(2, 1)}, [4][]impl.Rec{{second}, {first, third}, all, all})
	want("done in parity ", []impl.Rec{doneOf(1, 2), doneOf(2, 3)}, [4][]impl.Rec{{second}, {first, third}, {second, third}, {first, third}})
	want("another Seq ", []impl.Rec{doneOf(4, 1), doneOf(5, 2)}, [4][]impl.Rec{{second}, {first, third}, all, all})
	want("all done ", []impl.Rec{doneOf(3, 3), doneOf(1, 1), doneOf(2, 0), doneOf(3, 1), doneOf(1, 3), doneOf(2, 3), doneOf(1, 2), doneOf(2, 2), doneOf(3, 2)}, [4][]impl.Rec{})
}

// Moves of one Seq, of two groups, are each done for themselves in their groups, and together in parity.
func TestUndoneMovesOfOneSeq(t *testing.T) {
	s := middleShape()
	left, right := moveOf(s, 5, 0, 0), moveOf(s, 5, 1, 0)
	w := withTapes(s, []impl.Rec{right, doneOf(5, 0)}, []impl.Rec{left})
	wantRecs(t, "done", impl.UndoneAt(w, 0), nil)
	wantRecs(t, "undone", impl.UndoneAt(w, 1), []impl.Rec{right})
	wantRecs(t, "parity", impl.UndoneAt(w, 2), []impl.Rec{left, right})
	w.Tapes[1].Recs = append(w.Tapes[1].Recs, doneOf(5, 2))
	wantRecs(t, "parity", impl.UndoneAt(w, 2), nil)
}

func TestSpentRecords(t *testing.T) {
	s := middleShape()
	s.Column = 2
	last := deletedItem(90, "zz")
	share := shareOf(s, 3, 1, 2)
	moved := []impl.Rec{moveOf(s, 2, 1, 0), doneOf(2, 1), doneOf(2, 2), doneOf(2, 3)}
	for _, c := range []struct {
		name        string
		recs, spent []impl.Rec
	}{
		{"a newest item", []impl.Rec{dataItem(1, "a", []byte{1}), dataItem(2, "b", []byte{1})}, nil},
		{"an older item", []impl.Rec{dataItem(1, "a", []byte{1}), rowsItem(2, "a", 1, 0)}, []impl.Rec{dataItem(1, "a", []byte{1})}},
		{"a deleted item", []impl.Rec{dataItem(1, "a", []byte{1}), deletedItem(2, "a")}, []impl.Rec{dataItem(1, "a", []byte{1})}},
		{"put again", []impl.Rec{deletedItem(1, "a"), deletedItem(2, "a"), dataItem(3, "a", []byte{1})}, []impl.Rec{deletedItem(1, "a"), deletedItem(2, "a")}},
		{"a move everywhere done", moved, moved[:1]},
		{"a move not in its group", []impl.Rec{moved[0], doneOf(2, 0), doneOf(2, 2), doneOf(2, 3)}, nil},
		{"a move not in one of parity", moved[:3], nil},
		{"a move not in the other of parity", []impl.Rec{moved[0], moved[1], moved[3]}, nil},
		{"a move of another Seq", []impl.Rec{moveOf(s, 4, 1, 0), doneOf(2, 1), doneOf(2, 2), doneOf(2, 3)}, moved[1:]},
		{"done without a move", []impl.Rec{doneOf(1, 0), doneOf(2, 0), moveOf(s, 2, 1, 0)}, []impl.Rec{doneOf(1, 0)}},
		{"a share", []impl.Rec{share}, nil},
		{"a share that ended", []impl.Rec{share, doneOf(3, 0)}, []impl.Rec{doneOf(3, 0), share}},
		{"a share beside what is done", []impl.Rec{share, doneOf(2, 1)}, []impl.Rec{doneOf(2, 1)}},
		{"a share with a newer one", []impl.Rec{share, shareOf(s, 4, 1, 2, 0)}, []impl.Rec{share}},
		{"a share of another row", []impl.Rec{share, shareOf(s, 4, 1, 1, 0)}, nil},
		{"a share of another group", []impl.Rec{share, shareOf(s, 4, 2, 2, 0)}, nil},
		{"a share and a move of its row", []impl.Rec{share, moveOf(s, 4, 1, 2)}, nil},
	} {
		want := c.spent
		wantRecs(t, c.name, impl.SpentRecs(withTapes(s, append(slices.Clone(c.recs), last), nil)), want)
		wantRecs(t, c.name, impl.SpentRecs(withTapes(s, []impl.Rec{last}, c.recs)), want)
		wantRecs(t, c.name, impl.SpentRecs(withTapes(s, c.recs[1:], append(slices.Clone(c.recs), last))), want)
	}
}

// Without groups of parity a move is spent once it is done in its own.
func TestSpentMovesWithoutParity(t *testing.T) {
	s := middleShape()
	s.Column = 0
	recs := []impl.Rec{moveOf(s, 1, 0, 0), moveOf(s, 2, 1, 0), doneOf(2, 1), doneOf(1, 1), doneOf(3, 0)}
	wantRecs(t, "moves", impl.SpentRecs(withTapes(s, recs, recs)), recs[1:2])
}

// One that is not spent keeps all of its Kind and Seq.
func TestSpentTogether(t *testing.T) {
	s := middleShape()
	last := doneOf(90, 0)
	old, young := dataItem(1, "a", []byte{1}), dataItem(1, "b", []byte{1})
	left, right := moveOf(s, 2, 0, 0), moveOf(s, 2, 1, 0)
	ended, open := shareOf(s, 3, 0, 0), shareOf(s, 3, 0, 1)
	newItem, newShare := deletedItem(8, "a"), shareOf(s, 9, 0, 0)
	first := []impl.Rec{old, right, ended, newItem, last}
	second := []impl.Rec{young, left, open, doneOf(2, 0), doneOf(2, 2), newShare}
	wantRecs(t, "one of two", impl.SpentRecs(withTapes(s, first, second)), nil)
	wantRecs(t, "one alone", impl.SpentRecs(withTapes(s, first, second[3:])), []impl.Rec{old, ended})
	more := append(slices.Clone(second), deletedItem(10, "b"), doneOf(2, 1), shareOf(s, 11, 0, 1))
	wantRecs(t, "both", impl.SpentRecs(withTapes(s, first, more)), []impl.Rec{old, young, left, right, ended, open})
}

// What has the greatest Seq stays, whatever its kind, and whether it is spent.
func TestTheGreatestSeqStays(t *testing.T) {
	s := middleShape()
	for _, greatest := range []int64{7, impl.MaxSeq} {
		recs := []impl.Rec{dataItem(greatest, "a", []byte{1}), dataItem(greatest, "a", []byte{2}), doneOf(greatest, 0), shareOf(s, greatest, 0, 0)}
		wantRecs(t, "all", impl.SpentRecs(withTapes(s, recs, recs[:2])), nil)
		moved := []impl.Rec{moveOf(s, greatest, 0, 0), doneOf(greatest, 0), doneOf(greatest, 2), doneOf(3, 1)}
		wantRecs(t, "a move", impl.SpentRecs(withTapes(s, moved[:2], moved[2:])), moved[3:])
	}
	wantRecs(t, "alone", impl.SpentRecs(withTapes(s, []impl.Rec{doneOf(1, 0)}, nil)), nil)
}

func TestMissingRecords(t *testing.T) {
	s := middleShape()
	a, b, c := dataItem(1, "a", []byte{1}), moveOf(s, 1, 0, 0), doneOf(2, 0)
	other := moveOf(s, 1, 0, 1)
	for _, k := range []struct {
		name                  string
		first, second         []impl.Rec
		fromFirst, fromSecond []impl.Rec
	}{
		{"none missing", []impl.Rec{a, b, c}, []impl.Rec{c, b, a}, nil, nil},
		{"some", []impl.Rec{c, a}, []impl.Rec{b, a}, []impl.Rec{b}, []impl.Rec{c}},
		{"all", []impl.Rec{c, b, a, b}, nil, nil, []impl.Rec{a, b, c}},
		{"unlike ones", []impl.Rec{b, c}, []impl.Rec{other, a}, []impl.Rec{a, other}, []impl.Rec{b, c}},
		{"told twice", []impl.Rec{a, a, c, c}, []impl.Rec{b, b}, []impl.Rec{b}, []impl.Rec{a, c}},
	} {
		w := withTapes(s, k.first, k.second)
		wantRecs(t, k.name, impl.MissingRecs(w, 0), k.fromFirst)
		wantRecs(t, k.name, impl.MissingRecs(w, 1), k.fromSecond)
		wantRecs(t, k.name+" the other way", impl.MissingRecs(swapped(w), 1), k.fromFirst)
		for _, tape := range beyond(0, 1) {
			wantNoRecs(t, k.name, impl.MissingRecs(w, tape), impl.ErrRange)
		}
	}
}

func TestFullTapes(t *testing.T) {
	w := withTapes(middleShape(), plainRecs(200), nil)
	for i := range 200 {
		w.Tapes[1].Recs = append(w.Tapes[1].Recs, doneOf(int64(400-i), 0))
	}
	counted := impl.CountedRecs(w)
	for i, r := range counted.Recs {
		if !same(r, doneOf(int64(i+1), 0)) {
			t.Fatalf("record %d: %v", i, r)
		}
	}
	if len(counted.Recs) != 400 || len(impl.SpentRecs(w).Recs) != 399 || impl.NextSeq(w).Value != 401 {
		t.Errorf("code %d, %d records", counted.Code, len(counted.Recs))
	}
}

func TestTapesKeepTheirArguments(t *testing.T) {
	for _, a := range askers() {
		for _, f := range append(append(lifted(fewWorldFlaws(), 0, questionedWorld), a.flaws...), flaw[question]{name: "no flaw", make: func(q *question) {}}) {
			q := anyQuestion()
			f.make(&q)
			q = deepCopy(q, 2)
			wantNew(t, a.name+": "+f.name, func() telling { return a.call(q) }, q)
		}
	}
}

// Records that share memory in a world share none in what is told, nor with it.
func TestRecordsToldAreParted(t *testing.T) {
	s := middleShape()
	rows, data := []int64{0}, fours(2)
	recs := []impl.Rec{
		rowsItem(1, "a", 1, rows...), rowsItem(2, "b", 1, rows...), dataItem(3, "c", data), dataItem(4, "d", data), rowsItem(5, "a", 1, rows...),
		{Kind: impl.RecMove, Seq: 6, Row: 1, Data: data, Delta: data}, {Kind: impl.RecMove, Seq: 7, Data: data, Delta: data},
		{Kind: impl.RecShare, Seq: 8, Data: data, Delta: []byte{0, 1, 1}}, {Kind: impl.RecShare, Seq: 9, Data: data, Delta: []byte{0, 1, 1}},
	}
	recs[0].Rows, recs[1].Rows, recs[4].Rows = rows, rows, rows
	w := withTapes(s, recs, recs[:3])
	taken := spansOf(reflect.ValueOf(recs))
	for _, a := range askers() {
		eachQuestion(w, func(q question) {
			wantNew(t, a.name, func() telling { return a.call(q) })
			for _, at := range spansOf(reflect.ValueOf(a.call(q))) {
				if slices.ContainsFunc(taken, func(other span) bool { return at.from < other.to && other.from < at.to }) {
					t.Errorf("%s: a record shares memory with the world", a.name)
				}
			}
		})
	}
}
