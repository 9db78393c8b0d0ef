package tests

import (
	"fmt"
	"slices"

	"loop.example/g00089/impl"
)

func intsOutcome(r impl.IntsResult) outcome { return outcome{Code: r.Code, List: r.List} }

func boolOutcome(holds bool) outcome {
	if holds {
		return outcome{Value: 1}
	}
	return outcome{}
}

// onlyOn is the world with one group on, whatever else is on or has no power.
func onlyOn(w impl.World, group int64) impl.World {
	w.On, w.Down = []int64{group}, false
	return w
}

// lyingRow is what a group that is not dead has in a row, on or not.
func lyingRow(w impl.World, group, row int64) []byte {
	return plainRowBytes(request{World: onlyOn(w, group), Group: group, Row: row}).Bytes
}

func wipedIn(w impl.World, group int64) []int64 {
	var wiped []int64
	for drive, d := range w.Groups[group] {
		if d.Wiped {
			wiped = append(wiped, int64(drive))
		}
	}
	return wiped
}

func plainWipedOf(q request) outcome {
	if !isGroupIn(q.World.Shape, q.Group) {
		return outcome{Code: impl.ErrRange}
	}
	return outcome{List: wipedIn(q.World, q.Group)}
}

func plainBeginAll(q request) outcome {
	s := q.World.Shape
	if q.World.Down {
		return outcome{Code: impl.ErrDown}
	}
	if !isGroupIn(s, q.Group) {
		return outcome{Code: impl.ErrRange}
	}
	p := planIn(q.World)
	p.beginAll(q.Group)
	return p.outcome()
}

func (p *plan) beginAll(group int64) {
	for row := range p.now.Shape.Rows {
		if isDeadIn(p.now, group) && len(plainOpen(p.now, group, row)) == 0 {
			p.begin(group, row)
		}
	}
}

func plainNotReady(q request) outcome {
	s := q.World.Shape
	if !isGroupIn(s, q.Group) {
		return outcome{Code: impl.ErrRange}
	}
	told := outcome{}
	for row := range s.Rows {
		whole := plainWhole(request{World: q.World, Group: q.Group, Row: row})
		if isDeadIn(q.World, q.Group) && whole.Code != impl.OK {
			told.List = append(told.List, row)
		}
	}
	return told
}

// rebuiltBlocks are what a row has when its group is rebuilt, by the world as
// it is at the beginning.
func rebuiltBlocks(w impl.World, group, row int64) []impl.Block {
	list, stamp := lyingRow(w, group, row), plainRowStamp(request{World: onlyOn(w, group), Group: group, Row: row}).Value
	if isDeadIn(w, group) {
		open := plainOpen(w, group, row)[0]
		list, stamp = open.Data, open.Seq
	}
	var blocks []impl.Block
	for _, block := range plainBlocks(w.Shape.Data, w.Shape.Spare, list) {
		blocks = append(blocks, impl.Block{Stamp: stamp, Bytes: block})
	}
	return blocks
}

func openIn(w impl.World, group int64) []impl.Rec {
	var open []impl.Rec
	for row := range w.Shape.Rows {
		open = append(open, plainOpen(w, group, row)...)
	}
	return open
}

// rebuildCode is what is asked ahead of the first write.
func rebuildCode(q request) int64 {
	if code := placeCode(q.World, isGroupIn(q.World.Shape, q.Group), q.Group); code != impl.OK {
		return code
	}
	switch {
	case len(wipedIn(q.World, q.Group)) == 0:
		return impl.ErrNone
	case len(plainNotReady(q).List) > 0:
		return impl.ErrZero
	case mostRecs(q.World)+int64(len(openIn(q.World, q.Group))) > 200:
		return impl.ErrMany
	}
	return impl.OK
}

func plainRebuild(q request) outcome {
	if code := rebuildCode(q); code != impl.OK {
		return outcome{Code: code}
	}
	p := planIn(q.World)
	p.rebuild(q.Group)
	return p.outcome()
}

// rebuild wants a group for which rebuildCode is OK.
func (p *plan) rebuild(group int64) {
	was := deepCopy(p.now, 0)
	wiped := wipedIn(was, group)
	for row := range was.Shape.Rows {
		blocks := rebuiltBlocks(was, group, row)
		for _, drive := range wiped {
			p.write(func(w *impl.World) { w.Groups[group][drive].Blocks[row] = blocks[drive] })
		}
	}
	for _, drive := range wiped {
		p.write(func(w *impl.World) { w.Groups[group][drive].Wiped = false })
	}
	for _, open := range openIn(was, group) {
		p.lay(doneOf(open.Seq, group))
	}
}

func plainColumnHolds(q request) outcome {
	s := q.World.Shape
	if !isRowIn(s, q.Row) || len(plainDead(q).List) > 0 {
		return outcome{}
	}
	for _, tape := range q.World.Tapes {
		for _, r := range tape.Recs {
			if r.Kind == impl.RecMove && r.Row == q.Row {
				return outcome{}
			}
		}
	}
	var lists [][]byte
	for group := range s.Groups + s.Column {
		lists = append(lists, lyingRow(q.World, group, q.Row))
	}
	return boolOutcome(sameRows(lists, plainColumn(lists[:s.Groups], s.Column)))
}

func plainGroupHolds(q request) outcome {
	s := q.World.Shape
	if !isGroupIn(s, q.Group) || isDeadIn(q.World, q.Group) {
		return outcome{}
	}
	for row := range s.Rows {
		blocks := plainBlocks(s.Data, s.Spare, lyingRow(q.World, q.Group, row))
		for drive, d := range q.World.Groups[q.Group] {
			if !d.Wiped && !slices.Equal(d.Blocks[row].Bytes, blocks[drive]) {
				return outcome{}
			}
		}
	}
	return boolOutcome(true)
}

const (
	rankNoneWiped = rankMoved + iota
	rankNotReady
	rankRebuilt
	rankRebuiltPower
)

// deadRequest asks for the group 1, of which two drives are wiped and one is spare.
func deadRequest() request {
	q := anyRequest()
	wipe(q.World, 1, 2)
	return q
}

// readyRequest has, in addition, a whole share of each row on the tape 0.
func readyRequest() request {
	q := deadRequest()
	for row := range int64(3) {
		share := shareOf(q.World.Shape, 2000+row, 1, row, 0, 2)
		share.Data = []byte{1, 2, 3, 4, 5, 6, 7, byte(row)}
		q.World.Tapes[0].Recs = append(q.World.Tapes[0].Recs, share)
	}
	return q
}

// unreadyShares lets one of the three shares be not whole, done, or not there.
func unreadyShares() []flaw[request] {
	last := func(q *request) *[]impl.Rec { return &q.World.Tapes[0].Recs }
	var flaws []flaw[request]
	for back := 1; back <= 3; back++ {
		flaws = append(flaws,
			flaw[request]{"a share that is not whole", rankNotReady, impl.ErrZero, func(q *request) {
				recs := *last(q)
				recs[len(recs)-back].Rows = []int64{2}
			}},
			flaw[request]{"a share that is done", rankNotReady, impl.ErrZero, func(q *request) {
				*last(q) = append(*last(q), doneOf(int64(2003-back), 0))
			}},
			flaw[request]{"no share", rankNotReady, impl.ErrZero, func(q *request) {
				recs := *last(q)
				*last(q) = slices.Delete(recs, len(recs)-back, len(recs)-back+1)
			}})
	}
	return flaws
}

func rebuildAskers() []worker {
	known := append(faultyWorlds(), badGroups()...)
	return []worker{
		{name: "WipedOf", given: deadRequest, plain: plainWipedOf, flaws: known,
			call: func(q request) outcome { return intsOutcome(impl.WipedOf(q.World, q.Group)) }},
		{name: "NotReady", given: deadRequest, plain: plainNotReady, flaws: known,
			call: func(q request) outcome { return intsOutcome(impl.NotReady(q.World, q.Group)) }},
	}
}

func rebuildWriters() []worker {
	none := flaw[request]{"no drive is wiped", rankNoneWiped, impl.ErrNone, func(q *request) {
		for drive := range q.World.Groups[1] {
			q.World.Groups[1][drive].Wiped = false
		}
	}}
	short := flaw[request]{"a tape one record short", rankRebuilt, impl.ErrMany, func(q *request) { q.World.Tapes[1].Recs = plainRecs(198) }}
	return []worker{
		{name: "BeginAll", given: deadRequest, plain: plainBeginAll,
			flaws: powered(badGroups(), []flaw[request]{lostColumn(), fullTape(rankFull), lastSeq(), powerFails(rankPower)}),
			call:  func(q request) outcome { return worldOutcome(impl.BeginAll(q.World, q.Group)) }},
		{name: "RebuildGroup", given: readyRequest, plain: plainRebuild,
			flaws: powered(badGroups(), unreadyShares(), []flaw[request]{isOff(), none, short, fullTape(rankRebuilt), powerFails(rankRebuiltPower)}),
			call:  func(q request) outcome { return worldOutcome(impl.RebuildGroup(q.World, q.Group)) }},
	}
}

// holders tell no code: a false is 0, a true 1.
func holders() []worker {
	return []worker{
		{name: "ColumnHolds", plain: plainColumnHolds, call: func(q request) outcome { return boolOutcome(impl.ColumnHolds(q.World, q.Row)) }},
		{name: "GroupHolds", plain: plainGroupHolds, call: func(q request) outcome { return boolOutcome(impl.GroupHolds(q.World, q.Group)) }},
	}
}

func rebuilders() []worker {
	return append(rebuildAskers(), rebuildWriters()...)
}

func rebuilder(name string) worker {
	all := rebuilders()
	return all[slices.IndexFunc(all, func(f worker) bool { return f.name == name })]
}

// anyBroken is a world of whole columns, or nearly so, one of whose groups has
// drives wiped, and mostly a share of each row.
func anyBroken(q *sequence, s impl.Shape) (w impl.World, group int64) {
	pick := func(count int64) int64 { return int64(q.next() % uint64(count)) }
	w = anyMachine(q, s)
	if pick(4) > 0 {
		copyBlocks(w, columnWorld(q, s))
	}
	if pick(3) == 0 {
		w.Groups[pick(s.Groups+s.Column)][pick(s.Data+s.Spare)].Blocks[pick(s.Rows)].Bytes[pick(4)] ^= byte(1 + pick(255))
	}
	if pick(2) == 0 {
		healAll(w)
	}
	group = pick(s.Groups + s.Column)
	for drive := range w.Groups[group] {
		w.Groups[group][drive].Wiped = pick(2) == 0
	}
	odds := 2 + 20*pick(2)
	for row := range s.Rows {
		if pick(odds) > 0 {
			layAnywhere(q, w, anyWhole(q, s, group, row, pick(odds) > 0))
		}
	}
	if pick(4) == 0 {
		layAnywhere(q, w, doneOf(12+pick(9), pick(s.Groups)))
	}
	return w, group
}

// copyBlocks lets a world have the bytes of another one, with its own stamps.
func copyBlocks(w, from impl.World) {
	for group, drives := range w.Groups {
		for drive, d := range drives {
			for row := range d.Blocks {
				d.Blocks[row].Bytes = from.Groups[group][drive].Blocks[row].Bytes
			}
		}
	}
}

func healAll(w impl.World) {
	for _, drives := range w.Groups {
		for drive := range drives {
			drives[drive].Wiped = false
		}
	}
}

// anyWhole is a share of a Seq above those of other records, which lacks a
// giver if it is not to be whole.
func anyWhole(q *sequence, s impl.Shape, group, row int64, whole bool) impl.Rec {
	share := anyShare(q, s)
	share.Seq, share.Group, share.Row, share.Rows = 12+int64(q.next()%9), group, row, nil
	share.Delta[group] = 0
	for giver, weight := range share.Delta {
		if weight != 0 && whole {
			share.Rows = append(share.Rows, int64(giver))
		}
	}
	return share
}

// layAnywhere lays a record on one tape or on both.
func layAnywhere(q *sequence, w impl.World, r impl.Rec) {
	where := 1 + q.next()%3
	for tape := range w.Tapes {
		if where>>tape&1 == 1 {
			w.Tapes[tape].Recs = append(w.Tapes[tape].Recs, r)
		}
	}
}

// eachBroken goes through many such worlds, and mostly asks for the group that
// is broken, which is mostly on.
func eachBroken(seed uint64, rounds int, check func(what string, q request)) {
	for i, s := range sharesShapes() {
		q := &sequence{state: seed + uint64(i)}
		for round := range rounds {
			w, group := anyBroken(q, s)
			r := anyRequestIn(q, w)
			if q.next()%6 > 0 {
				r.Group = group
			}
			if q.next()%6 > 0 {
				r.World.On = []int64{group}
			}
			r.World.Stop = -1
			if q.next()%4 == 0 {
				r.World.Stop = int64(q.next() % 30)
			}
			check(fmt.Sprint("shape ", i, ", world ", round), r)
		}
	}
}
