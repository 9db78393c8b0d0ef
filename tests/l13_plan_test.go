package tests

import (
	"fmt"
	"slices"
	"testing"

	"loop.example/g00089/impl"
)

func thingsOutcome(r impl.ThingsResult) outcome { return outcome{Code: r.Code, Things: r.Things} }

// lackedMoves are those of the row that the group still lacks.
func lackedMoves(w impl.World, group, row int64) []impl.Rec {
	var lacked []impl.Rec
	for _, move := range plainUndone(question{World: w, Group: group}).Recs {
		if move.Row == row {
			lacked = append(lacked, move)
		}
	}
	return lacked
}

// plainOwnRow is what a group tells of its row without the others: the moves
// that one of parity lacks are made in a world of their own.
func plainOwnRow(w impl.World, group, row int64) (list []byte, there bool) {
	lacked := lackedMoves(w, group, row)
	switch {
	case group < w.Shape.Groups && len(lacked) > 0:
		return lacked[len(lacked)-1].Data, true
	case isDeadIn(w, group):
		return nil, false
	}
	p := planIn(w)
	for _, move := range lacked {
		p.redo(group, move)
	}
	return lyingRow(p.now, group, row), true
}

func plainTrueRow(q request) outcome {
	s := q.World.Shape
	if !isGroupIn(s, q.Group) || !isRowIn(s, q.Row) {
		return outcome{Code: impl.ErrRange}
	}
	if list, there := plainOwnRow(q.World, q.Group, q.Row); there {
		return outcome{Bytes: list}
	}
	var have []int64
	var lists [][]byte
	for other := range s.Groups + s.Column {
		list, there := plainOwnRow(q.World, other, q.Row)
		if there && int64(len(have)) < s.Groups {
			have, lists = append(have, other), append(lists, list)
		}
	}
	if int64(len(have)) < s.Groups {
		return outcome{Code: impl.ErrLost}
	}
	told := outcome{Bytes: make([]byte, 4*s.Data)}
	for i, weight := range solvedWeights(s, have, q.Group) {
		for place, b := range lists[i] {
			told.Bytes[place] ^= impl.MulG(b, weight)
		}
	}
	return told
}

func plainTrueItem(q request) outcome {
	if code := impl.NameFault(q.Name); code != impl.OK {
		return outcome{Code: code}
	}
	newest := plainNewest(question{World: q.World, Name: q.Name})
	if newest.Code != impl.OK {
		return outcome{Code: newest.Code}
	}
	item := newest.Recs[0]
	told := outcome{Bytes: slices.Clone(item.Data)}
	for _, row := range item.Rows {
		part := plainTrueRow(request{World: q.World, Group: homeOfName(q.World.Shape, q.Name), Row: row})
		if part.Code != impl.OK {
			return outcome{Code: impl.ErrLost}
		}
		told.Bytes = append(told.Bytes, part.Bytes...)
	}
	told.Bytes = told.Bytes[:item.Length]
	return told
}

func plainTruth(q request) outcome {
	told := outcome{}
	for _, item := range plainItems(question{World: q.World}).Recs {
		truth := plainTrueItem(request{World: q.World, Name: item.Name})
		told.Things = append(told.Things, impl.Thing{Name: item.Name, Lost: truth.Code != impl.OK, Bytes: truth.Bytes})
	}
	return told
}

func plainTrueColumn(q request) outcome {
	s := q.World.Shape
	var lists [][]byte
	for group := range s.Groups + s.Column {
		told := plainTrueRow(request{World: q.World, Group: group, Row: q.Row})
		if told.Code != impl.OK {
			return outcome{}
		}
		lists = append(lists, told.Bytes)
	}
	return boolOutcome(sameRows(lists, plainColumn(lists[:s.Groups], s.Column)))
}

func trueRowCall(q request) outcome { return bytesOutcome(impl.TrueRow(q.World, q.Group, q.Row)) }
func trueItemCall(q request) outcome {
	return bytesOutcome(impl.TrueItem(q.World, q.Name))
}
func truthCall(q request) outcome      { return thingsOutcome(impl.TruthOf(q.World)) }
func trueColumnCall(q request) outcome { return boolOutcome(impl.TrueColumn(q.World, q.Row)) }

// trueRequest asks for a row of the group 1, and for an item in a row of the
// group 0; one group alone may be lost.
func trueRequest() request {
	q := anyRequest()
	q.Name = "b"
	return q
}

func truthAskers() []worker {
	lost := flaw[request]{"two dead groups", rankFull, impl.ErrLost, func(q *request) {
		wipe(q.World, 0, 2)
		wipe(q.World, 1, 3)
	}}
	return []worker{
		{name: "TrueRow", given: trueRequest, plain: plainTrueRow, call: trueRowCall,
			flaws: slices.Concat(faultyWorlds(), badPlaces(), []flaw[request]{lost})},
		{name: "TrueItem", given: trueRequest, plain: plainTrueItem, call: trueItemCall,
			flaws: slices.Concat(faultyWorlds(), badNames(), noItem(), []flaw[request]{lost})},
		{name: "TruthOf", given: trueRequest, plain: plainTruth, call: truthCall, flaws: faultyWorlds()},
	}
}

// truthTellers are the askers and TrueColumn, which tells no code.
func truthTellers() []worker {
	return append(truthAskers(), worker{name: "TrueColumn", given: trueRequest, plain: plainTrueColumn, call: trueColumnCall,
		flaws: slices.Concat(faultyWorlds(), badRowNumbers())})
}

func TestTruthCodesAndTheirOrder(t *testing.T) {
	for _, f := range truthAskers() {
		wantFlawless(t, f)
	}
}

func TestTruthKeepsItsArguments(t *testing.T) {
	for _, f := range truthTellers() {
		wantKeeper(t, f)
	}
}

// anyUnsettled is a world, of whole columns or not, with several moves that
// are not done everywhere, with drives wiped, and with items of all kinds.
func anyUnsettled(q *sequence, s impl.Shape) impl.World {
	w := anyMachine(q, s)
	if q.pick(3) > 0 {
		copyBlocks(w, columnWorld(q, s))
	}
	if q.pick(3) == 0 {
		healAll(w)
	}
	for range q.pick(7) {
		move := anyMove(q, s, 1+q.pick(9))
		move.Row = q.pick(1 + q.pick(s.Rows))
		layAnywhere(q, w, move)
		if q.pick(3) == 0 {
			layAnywhere(q, w, doneOf(move.Seq, q.pick(s.Groups+s.Column)))
		}
	}
	for range q.pick(4) {
		group := q.pick(s.Groups + s.Column)
		wipe(w, group, q.pick(s.Data+s.Spare+1))
		layLying(q, w, q.pick(s.Groups))
	}
	return w
}

// eachUnsettled goes through many such worlds, of which some have no power.
func eachUnsettled(seed uint64, rounds int, check func(what string, q *sequence, w impl.World)) {
	for i, s := range sharesShapes() {
		q := &sequence{state: seed + uint64(i)}
		for round := range rounds {
			w := anyUnsettled(q, s)
			if q.pick(3) == 0 {
				w = withoutPower(w)
			}
			check(fmt.Sprint("shape ", i, ", world ", round), q, w)
		}
	}
}

func namesIn(w impl.World) []string {
	names := []string{"none"}
	for group := range w.Shape.Groups {
		names = append(names, namesAt(w, group)...)
	}
	slices.Sort(names)
	return slices.Compact(names)
}

// eachTruth asks a world for all its rows and one beyond them, for all its
// groups and one beyond them, and for all its names and one that is not there.
func eachTruth(w impl.World, check func(f worker, q request)) {
	all := truthTellers()
	row, item, truth, column := all[0], all[1], all[2], all[3]
	for at := int64(-1); at <= w.Shape.Rows; at++ {
		for group := int64(-1); group <= w.Shape.Groups+w.Shape.Column; group++ {
			check(row, request{World: w, Group: group, Row: at})
		}
		check(column, request{World: w, Row: at})
	}
	for _, name := range append(namesIn(w), "", "A") {
		check(item, request{World: w, Name: name})
	}
	check(truth, request{World: w})
}

func TestTruthOfManyWorlds(t *testing.T) {
	met := map[string]int{}
	eachUnsettled(1300, 60, func(what string, q *sequence, w impl.World) {
		wantWorldCode(t, what, w, impl.OK)
		eachTruth(w, func(f worker, q request) {
			got := f.call(q)
			wantOutcome(t, f.name+", "+what, got, f.plain(q))
			met[fmt.Sprint(f.name, " ", got.Code, " ", got.Value)]++
		})
		countLost(met, impl.TruthOf(w).Things)
		for group := range w.Shape.Groups + w.Shape.Column {
			countRows(met, w, group, 0)
		}
	})
	for _, what := range []string{"TrueRow 0 0", "TrueRow 3 0", "TrueRow 10 0", "TrueItem 0 0", "TrueItem 4 0", "TrueItem 5 0", "TrueItem 10 0", "TrueColumn 0 0", "TrueColumn 0 1",
		"no things", "all lost", "none lost", "some lost", "dead and reckoned", "dead and moved", "parity that lacks several"} {
		if met[what] < 10 {
			t.Errorf("met with %s only %d times", what, met[what])
		}
	}
}

func countLost(met map[string]int, things []impl.Thing) {
	lost := 0
	for _, thing := range things {
		if thing.Lost {
			lost++
		}
	}
	switch {
	case len(things) == 0:
		met["no things"]++
	case lost == len(things):
		met["all lost"]++
	case lost == 0:
		met["none lost"]++
	default:
		met["some lost"]++
	}
}

func countRows(met map[string]int, w impl.World, group, row int64) {
	lacked := len(lackedMoves(w, group, row))
	dead, data := isDeadIn(w, group), group < w.Shape.Groups
	switch {
	case dead && data && lacked > 0:
		met["dead and moved"]++
	case dead && impl.TrueRow(w, group, row).Code == impl.OK:
		met["dead and reckoned"]++
	case !dead && !data && lacked > 1:
		met["parity that lacks several"]++
	}
}

func TestTruthOfManyWorldsIsNew(t *testing.T) {
	eachUnsettled(1310, 8, func(what string, q *sequence, w impl.World) {
		w = deepCopy(w, int(q.pick(3)))
		eachTruth(w, func(f worker, q request) {
			wantNew(t, f.name+", "+what, func() outcome { return f.call(q) }, q)
		})
	})
}

// What is true hangs neither on power nor on who is on, nor on writes.
func TestTruthWhoeverIsOn(t *testing.T) {
	eachUnsettled(1320, 15, func(what string, q *sequence, w impl.World) {
		s := w.Shape
		for _, on := range [][]int64{nil, {0}, {s.Groups + s.Column - 1}} {
			other := deepCopy(w, 0)
			other.On, other.Down, other.Writes, other.Stop = on, false, 7, 7
			if len(on) == 0 {
				other.Down = q.pick(2) == 0
			}
			eachTruth(w, func(f worker, q request) {
				p := q
				p.World = other
				wantOutcome(t, f.name+", "+what, f.call(p), f.call(q))
			})
		}
	})
}
