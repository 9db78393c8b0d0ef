package tests

import (
	"fmt"
	"slices"

	"loop.example/g00089/impl"
)

// layNext lays a record with the Seq that comes next in the world as it is by now.
func (p *plan) layNext(r impl.Rec) {
	r.Seq = 1
	for _, tape := range p.now.Tapes {
		for _, laid := range tape.Recs {
			r.Seq = max(r.Seq, laid.Seq+1)
		}
	}
	if p.code == impl.OK && r.Seq > impl.MaxSeq {
		p.code = impl.ErrMany
	}
	p.lay(r)
}

// plainOpen goes through the counted shares of the place for the one of the greatest Seq.
func plainOpen(w impl.World, group, row int64) []impl.Rec {
	var shares, dones [2][]impl.Rec
	for tape := range w.Tapes {
		for _, r := range w.Tapes[tape].Recs {
			switch {
			case r.Kind == impl.RecShare && r.Group == group && r.Row == row:
				shares[tape] = append(shares[tape], r)
			case r.Kind == impl.RecDone:
				dones[tape] = append(dones[tape], r)
			}
		}
	}
	var open []impl.Rec
	for _, r := range plainCounted(impl.World{Tapes: []impl.Tape{{Recs: shares[0]}, {Recs: shares[1]}}}) {
		if len(open) == 0 || open[0].Seq < r.Seq {
			open = []impl.Rec{r}
		}
	}
	for _, r := range slices.Concat(dones[0], dones[1]) {
		if len(open) > 0 && open[0].Seq == r.Seq {
			return nil
		}
	}
	return open
}

func eachPlace(s impl.Shape, check func(group, row int64)) {
	for group := range s.Groups + s.Column {
		for row := range s.Rows {
			check(group, row)
		}
	}
}

func isLeft(share impl.Rec, group int64) bool {
	return share.Delta[group] != 0 && !slices.Contains(share.Rows, group)
}

// unitColumn is the column whose group of data of the number has a 1, and all others 0.
func unitColumn(s impl.Shape, number int64) [][]byte {
	lists := make([][]byte, s.Groups)
	for group := range lists {
		lists[group] = []byte{0}
	}
	lists[number][0] = 1
	return plainColumn(lists, s.Column)
}

func plainSharers(q request) outcome {
	s := q.World.Shape
	if !isGroupIn(s, q.Group) {
		return outcome{Code: impl.ErrRange}
	}
	var living []int64
	for group := range s.Groups + s.Column {
		if group != q.Group && !isDeadIn(q.World, group) && int64(len(living)) < s.Groups {
			living = append(living, group)
		}
	}
	if int64(len(living)) < s.Groups {
		return outcome{Code: impl.ErrLost}
	}
	told := outcome{Bytes: make([]byte, s.Groups+s.Column)}
	for i, weight := range solvedWeights(s, living, q.Group) {
		told.Bytes[living[i]] = weight
	}
	return told
}

// solvedWeights are the bytes by which the living groups, as many as there are
// groups of data, sum up to the group in each of the columns that all others
// are made of.
func solvedWeights(s impl.Shape, living []int64, group int64) []byte {
	var rows [][]byte
	var right []byte
	for number := range s.Groups {
		column := unitColumn(s, number)
		row := []byte{}
		for _, other := range living {
			row = append(row, column[other][0])
		}
		rows, right = append(rows, row), append(right, column[group][0])
	}
	return impl.SolveG(rows, right).Bytes
}

func plainOpenShare(q request) outcome {
	if !isGroupIn(q.World.Shape, q.Group) || !isRowIn(q.World.Shape, q.Row) {
		return outcome{Code: impl.ErrRange}
	}
	open := plainOpen(q.World, q.Group, q.Row)
	if len(open) == 0 {
		return outcome{Code: impl.ErrNone}
	}
	return outcome{Recs: open}
}

func plainBegin(q request) outcome {
	s := q.World.Shape
	if q.World.Down {
		return outcome{Code: impl.ErrDown}
	}
	if !isGroupIn(s, q.Group) || !isRowIn(s, q.Row) {
		return outcome{Code: impl.ErrRange}
	}
	p := planIn(q.World)
	p.begin(q.Group, q.Row)
	return p.outcome()
}

func (p *plan) begin(group, row int64) {
	sharers := plainSharers(request{World: p.now, Group: group})
	switch {
	case p.code != impl.OK:
	case sharers.Code != impl.OK:
		p.code = sharers.Code
	case len(plainOpen(p.now, group, row)) > 0:
		p.code = impl.ErrTaken
	default:
		p.layNext(impl.Rec{Kind: impl.RecShare, Group: group, Row: row, Data: make([]byte, 4*p.now.Shape.Data), Delta: sharers.Bytes})
	}
}

func plainGive(q request) outcome {
	s := q.World.Shape
	if code := placeCode(q.World, isGroupIn(s, q.Group), q.Group); code != impl.OK {
		return outcome{Code: code}
	}
	p := planIn(q.World)
	p.give(q.Group)
	return p.outcome()
}

func (p *plan) give(from int64) {
	eachPlace(p.now.Shape, func(group, row int64) {
		open := plainOpen(p.now, group, row)
		if isDeadIn(p.now, from) || len(open) == 0 || !isLeft(open[0], from) {
			return
		}
		given := deepCopy(open[0], 0)
		given.Rows = append(given.Rows, from)
		slices.Sort(given.Rows)
		for i, b := range plainRowBytes(request{World: p.now, Group: from, Row: row}).Bytes {
			given.Data[i] ^= impl.MulG(b, given.Delta[from])
		}
		p.layNext(given)
	})
}

func plainWhole(q request) outcome {
	open := plainOpenShare(q)
	if open.Code != impl.OK {
		return open
	}
	for group := range int64(len(open.Recs[0].Delta)) {
		if isLeft(open.Recs[0], group) {
			return outcome{Code: impl.ErrZero}
		}
	}
	return outcome{Bytes: open.Recs[0].Data}
}

func plainVoid(q request) outcome {
	told := outcome{}
	eachPlace(q.World.Shape, func(group, row int64) {
		for _, open := range plainOpen(q.World, group, row) {
			void := !isDeadIn(q.World, group)
			for giver := range int64(len(open.Delta)) {
				void = void || isLeft(open, giver) && isDeadIn(q.World, giver)
			}
			if void {
				told.Recs = append(told.Recs, open)
			}
		}
	})
	return told
}

func plainDrop(q request) outcome {
	if q.World.Down {
		return outcome{Code: impl.ErrDown}
	}
	p := planIn(q.World)
	p.dropVoid()
	return p.outcome()
}

func (p *plan) dropVoid() {
	for _, void := range plainVoid(request{World: p.now}).Recs {
		p.lay(doneOf(void.Seq, void.Group))
	}
}

// lastSeq lets there be no next one.
func lastSeq() flaw[request] {
	return flaw[request]{"the last Seq", rankFull, impl.ErrMany, func(q *request) {
		q.World.Tapes[0].Recs = append(q.World.Tapes[0].Recs, doneOf(impl.MaxSeq, 0))
	}}
}

// lostColumn leaves the group 1 with fewer living others than it needs.
func lostColumn() flaw[request] {
	return flaw[request]{"too few others live", rankBlock, impl.ErrLost, func(q *request) { wipe(q.World, 0, 2) }}
}

// sharing is a request in whose world one more share stands on the tape 0.
func sharing(group, row int64, share impl.Rec) func() request {
	return func() request {
		q := anyRequest()
		q.Group, q.Row = group, row
		q.World.Tapes[0].Recs = append(q.World.Tapes[0].Recs, deepCopy(share, 0))
		return q
	}
}

func noShares(q *request) {
	for tape := range q.World.Tapes {
		q.World.Tapes[tape].Recs = slices.DeleteFunc(q.World.Tapes[tape].Recs, func(r impl.Rec) bool { return r.Kind == impl.RecShare })
	}
}

func shareAskers() []worker {
	whole := shareOf(middleShape(), 2000, 1, 2, 0, 2)
	none := flaw[request]{"no share", rankBlock, impl.ErrNone, noShares}
	ended := flaw[request]{"the share is done", rankBlock, impl.ErrNone, func(q *request) {
		q.World.Tapes[1].Recs = append(q.World.Tapes[1].Recs, doneOf(2000, 0))
	}}
	notWhole := flaw[request]{"a share that is not whole", rankFull, impl.ErrZero, func(q *request) {
		q.World.Tapes[0].Recs[len(q.World.Tapes[0].Recs)-1].Rows = []int64{2}
	}}
	places := append(badPlaces(), faultyWorlds()...)
	return []worker{
		{name: "SharersOf", given: anyRequest, plain: plainSharers, flaws: slices.Concat(faultyWorlds(), badGroups(), []flaw[request]{lostColumn()}),
			call: func(q request) outcome { return bytesOutcome(impl.SharersOf(q.World, q.Group)) }},
		{name: "OpenShare", given: sharing(1, 2, whole), plain: plainOpenShare, flaws: append(places, none, ended),
			call: func(q request) outcome { return recsOutcome(impl.OpenShare(q.World, q.Group, q.Row)) }},
		{name: "WholeShare", given: sharing(1, 2, whole), plain: plainWhole, flaws: append(places, none, ended, notWhole),
			call: func(q request) outcome { return bytesOutcome(impl.WholeShare(q.World, q.Group, q.Row)) }},
		{name: "VoidShares", given: sharing(1, 2, whole), plain: plainVoid, flaws: faultyWorlds(),
			call: func(q request) outcome { return recsOutcome(impl.VoidShares(q.World)) }},
	}
}

func shareWriters() []worker {
	begun := shareOf(middleShape(), 2000, 0, 1)
	taken := flaw[request]{"an open share", rankOff, impl.ErrTaken, func(q *request) {
		q.World.Tapes[0].Recs = append(q.World.Tapes[0].Recs, shareOf(middleShape(), 2000, 1, 2))
	}}
	late := []flaw[request]{fullTape(rankFull), lastSeq(), powerFails(rankPower)}
	return []worker{
		{name: "BeginShare", given: anyRequest, plain: plainBegin,
			flaws: powered(badPlaces(), []flaw[request]{lostColumn(), taken}, late),
			call:  func(q request) outcome { return worldOutcome(impl.BeginShare(q.World, q.Group, q.Row)) }},
		{name: "GiveShares", given: sharing(1, 0, begun), plain: plainGive,
			flaws: powered(badGroups(), []flaw[request]{isOff()}, late),
			call:  func(q request) outcome { return worldOutcome(impl.GiveShares(q.World, q.Group)) }},
		{name: "DropVoid", given: sharing(0, 0, begun), plain: plainDrop,
			flaws: powered([]flaw[request]{fullTape(rankFull), powerFails(rankPower)}),
			call:  func(q request) outcome { return worldOutcome(impl.DropVoid(q.World)) }},
	}
}

func sharers() []worker {
	return append(shareAskers(), shareWriters()...)
}

// anyShare is given by some of the groups that it wants something of.
func anyShare(q *sequence, s impl.Shape) impl.Rec {
	pick := func(count int64) int64 { return int64(q.next() % uint64(count)) }
	share := shareOf(s, 1+pick(9), pick(s.Groups+s.Column), pick(s.Rows))
	share.Data = q.list(len(share.Data))
	for group := range share.Delta {
		if int64(group) != share.Group {
			share.Delta[group] = byte(pick(4) * pick(80))
		}
		if share.Delta[group] != 0 && pick(3) == 0 {
			share.Rows = append(share.Rows, int64(group))
		}
	}
	return share
}

// sharesShapes have also one group that stands in one or two of parity again.
func sharesShapes() []impl.Shape {
	shapes := recShapes()
	for column := range int64(2) {
		s := middleShape()
		s.Groups, s.Column = 1, column+1
		shapes = append(shapes, s)
	}
	return shapes
}

// eachSharing goes through worlds whose tapes have several shares.
func eachSharing(seed uint64, rounds int, check func(what string, q request)) {
	for i, s := range sharesShapes() {
		q := &sequence{state: seed + uint64(i)}
		for round := range rounds {
			w := anyMachine(q, s)
			for range q.next() % 8 {
				share := anyShare(q, s)
				for tape := range w.Tapes {
					if q.next()%3 > 0 {
						w.Tapes[tape].Recs = append(w.Tapes[tape].Recs, share)
					}
				}
			}
			check(fmt.Sprint("shape ", i, ", world ", round), anyRequestIn(q, w))
		}
	}
}
