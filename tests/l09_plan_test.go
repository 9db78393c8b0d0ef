package tests

import (
	"fmt"
	"slices"

	"loop.example/g00089/impl"
)

func isDataIn(s impl.Shape, group int64) bool { return group >= 0 && group < s.Groups }

// mostRecs is how many records stand on the fuller one of both tapes.
func mostRecs(w impl.World) int64 {
	return int64(max(len(w.Tapes[0].Recs), len(w.Tapes[1].Recs)))
}

// seqAfter is the Seq that comes next, whether there may be such a one or not.
func seqAfter(w impl.World) int64 {
	return plainNext(question{World: w}).Value
}

func homeOfName(s impl.Shape, name string) int64 {
	sum := int64(0)
	for i := range len(name) {
		sum += int64(name[i])
	}
	return sum % s.Groups
}

// nameCode is what is asked of power and of a name.
func nameCode(q request) int64 {
	if q.World.Down {
		return impl.ErrDown
	}
	return impl.NameFault(q.Name)
}

func plainNextDestage(q request) outcome {
	s := q.World.Shape
	if !isDataIn(s, q.Group) {
		return outcome{Code: impl.ErrRange}
	}
	free := plainFree(question{World: q.World, Group: q.Group}).List
	told := outcome{Code: impl.ErrNone}
	for _, item := range plainItems(question{World: q.World}).Recs {
		fits := partsOf(s.Data, item.Length) <= int64(len(free))
		ahead := told.Code != impl.OK || item.Seq < told.Recs[0].Seq
		if len(item.Data) > 0 && homeOfName(s, item.Name) == q.Group && fits && ahead {
			told = outcome{Recs: []impl.Rec{item}}
		}
	}
	return told
}

// sumOf is what a row has and the bytes, summed.
func sumOf(w impl.World, group, row int64, bytes []byte) []byte {
	sum := slices.Clone(plainRowBytes(request{World: w, Group: group, Row: row}).Bytes)
	for i := range sum {
		sum[i] ^= bytes[i]
	}
	return sum
}

// rowCode is what is asked of a row that is to become the bytes.
func rowCode(q request, inBounds bool) int64 {
	code := placeCode(q.World, inBounds, q.Group)
	switch {
	case code == impl.ErrDown || code == impl.ErrRange:
		return code
	case int64(len(q.Bytes)) != 4*q.World.Shape.Data:
		return impl.ErrForm
	case code != impl.OK:
		return code
	case isDeadIn(q.World, q.Group):
		return impl.ErrLost
	}
	return impl.OK
}

func plainOld(q request) outcome {
	s := q.World.Shape
	if code := rowCode(q, isGroupIn(s, q.Group) && isRowIn(s, q.Row)); code != impl.OK {
		return outcome{Code: code}
	}
	return outcome{Bytes: sumOf(q.World, q.Group, q.Row, q.Bytes)}
}

func (p *plan) move(group, row int64, bytes []byte) {
	move := impl.Rec{Kind: impl.RecMove, Seq: seqAfter(p.now), Group: group, Row: row, Data: bytes, Delta: sumOf(p.now, group, row, bytes)}
	p.lay(move)
	p.redo(group, move)
	p.lay(doneOf(move.Seq, group))
}

func plainMoveRow(q request) outcome {
	s := q.World.Shape
	if code := rowCode(q, isDataIn(s, q.Group) && isRowIn(s, q.Row)); code != impl.OK {
		return outcome{Code: code}
	}
	if seqAfter(q.World) > impl.MaxSeq || mostRecs(q.World) > 200-2 {
		return outcome{Code: impl.ErrMany}
	}
	p := planIn(q.World)
	p.move(q.Group, q.Row, q.Bytes)
	return p.outcome()
}

func plainDestage(q request) outcome {
	s := q.World.Shape
	if code := placeCode(q.World, isDataIn(s, q.Group), q.Group); code != impl.OK {
		return outcome{Code: code}
	}
	p := planIn(q.World)
	p.destage(q.Group)
	return p.outcome()
}

func (p *plan) destage(group int64) {
	s := p.now.Shape
	next := plainNextDestage(request{World: p.now, Group: group})
	switch {
	case isDeadIn(p.now, group):
		p.code = impl.ErrLost
		return
	case next.Code != impl.OK:
		p.code = next.Code
		return
	}
	item := next.Recs[0]
	parts := partsOf(s.Data, item.Length)
	if mostRecs(p.now) > 200-(2*parts+1) || seqAfter(p.now)+parts > impl.MaxSeq {
		p.code = impl.ErrMany
		return
	}
	rows := plainFree(question{World: p.now, Group: group}).List[:parts]
	rest := append(slices.Clone(item.Data), make([]byte, 4*s.Data)...)
	for _, row := range rows {
		p.move(group, row, rest[:4*s.Data])
		rest = rest[4*s.Data:]
	}
	p.lay(rowsItem(seqAfter(p.now), item.Name, item.Length, rows...))
}

func plainPut(q request) outcome {
	s := q.World.Shape
	length := int64(len(q.Bytes))
	if code := nameCode(q); code != impl.OK {
		return outcome{Code: code}
	}
	switch {
	case length == 0:
		return outcome{Code: impl.ErrZero}
	case length > 3*4*s.Data:
		return outcome{Code: impl.ErrMany}
	case plainWaiting(question{World: q.World}).Value+length > s.Stage:
		return outcome{Code: impl.ErrBusy}
	}
	p := planIn(q.World)
	p.layNext(dataItem(0, q.Name, q.Bytes))
	return p.outcome()
}

func plainDropItem(q request) outcome {
	if code := nameCode(q); code != impl.OK {
		return outcome{Code: code}
	}
	if plainNewest(question{World: q.World, Name: q.Name}).Code != impl.OK {
		return outcome{Code: impl.ErrNone}
	}
	p := planIn(q.World)
	p.layNext(deletedItem(0, q.Name))
	return p.outcome()
}

func plainItemBytes(q request) outcome {
	if code := nameCode(q); code != impl.OK {
		return outcome{Code: code}
	}
	newest := plainNewest(question{World: q.World, Name: q.Name})
	if newest.Code != impl.OK {
		return outcome{Code: newest.Code}
	}
	item := newest.Recs[0]
	if len(item.Data) > 0 {
		return outcome{Bytes: item.Data}
	}
	told := outcome{}
	for _, row := range item.Rows {
		had := plainRowBytes(request{World: q.World, Group: homeOfName(q.World.Shape, q.Name), Row: row})
		if had.Code != impl.OK {
			return had
		}
		told.Bytes = append(told.Bytes, had.Bytes...)
	}
	told.Bytes = told.Bytes[:item.Length]
	return told
}

const rankMoved = rankPower + 1

// badDataGroups has with the numbers beyond all groups also that of the group of parity.
func badDataGroups() []flaw[request] {
	return numberFlaws("group", rankPlace, impl.ErrRange, 0, 1, func(q *request) *int64 { return &q.Group })
}

func badRowNumbers() []flaw[request] {
	return numberFlaws("row", rankPlace, impl.ErrRange, 0, 2, func(q *request) *int64 { return &q.Row })
}

func badNames() []flaw[request] {
	var flaws []flaw[request]
	for _, name := range []string{"", "A", "1a", "a-b", "a ", "ninebytes", "é", "a\x00", "\xff"} {
		flaws = append(flaws, flaw[request]{"name " + name, rankPlace, impl.ErrText, func(q *request) { q.Name = name }})
	}
	return flaws
}

// badLengths are bytes that are not those of a row.
func badLengths() []flaw[request] {
	var flaws []flaw[request]
	for _, length := range []int{0, 1, 7, 9, 16, 300} {
		flaws = append(flaws, flaw[request]{"bytes not as long as a row", rankBlock, impl.ErrForm, func(q *request) { q.Bytes = make([]byte, length) }})
	}
	return flaws
}

func badObjects() []flaw[request] {
	flaws := []flaw[request]{{"no bytes", rankBlock, impl.ErrZero, func(q *request) { q.Bytes = nil }}}
	for _, length := range []int{25, 36, 37, 4000, 5000} {
		flaws = append(flaws, flaw[request]{"too many bytes", rankBlock, impl.ErrMany, func(q *request) { q.Bytes = make([]byte, length) }})
	}
	return flaws
}

func noItem() []flaw[request] {
	return []flaw[request]{
		{"a name that is not there", rankBlock, impl.ErrNone, func(q *request) { q.Name = "none" }},
		{"a name that is deleted", rankBlock, impl.ErrNone, func(q *request) { q.Name = "a" }},
	}
}

// ranked is a flaw at another place in the order.
func ranked(rank int, f flaw[request]) flaw[request] {
	f.rank = rank
	return f
}

// moveRowRequest asks for the row 2 of the group 1 to become 8 bytes.
func moveRowRequest() request {
	q := anyRequest()
	q.Bytes, q.Name = []byte{8, 7, 6, 5, 4, 3, 2, 1}, "c"
	q.World.Tapes[0].Recs = append(q.World.Tapes[0].Recs, doneOf(2000, 0))
	return q
}

// destageRequest has an item of two parts, for which two rows of the group 1 are free.
func destageRequest() request {
	q := moveRowRequest()
	q.World.Tapes[0].Recs = append(q.World.Tapes[0].Recs, dataItem(2001, "c", []byte("nine char")))
	return q
}

// rowsRequest asks for the item in a row of the group 0, which is on.
func rowsRequest() request {
	q := moveRowRequest()
	q.World.On, q.Group, q.Name = []int64{2, 0}, 0, "b"
	return q
}

func destageAskers() []worker {
	none := flaw[request]{"no item waits", rankFull, impl.ErrNone, func(q *request) { dropRecs(&q.World, "c") }}
	lost := flaw[request]{"a dead home", rankFull, impl.ErrLost, func(q *request) { wipe(q.World, 0, 2) }}
	return []worker{
		{name: "NextDestage", given: destageRequest, plain: plainNextDestage,
			flaws: slices.Concat(faultyWorlds(), badDataGroups(), []flaw[request]{none}),
			call:  func(q request) outcome { return recsOutcome(impl.NextDestage(q.World, q.Group)) }},
		{name: "OldBytes", given: moveRowRequest, plain: plainOld,
			flaws: powered(badPlaces(), badLengths(), []flaw[request]{isOff(), dead()}),
			call:  func(q request) outcome { return bytesOutcome(impl.OldBytes(q.World, q.Group, q.Row, q.Bytes)) }},
		{name: "ItemBytes", given: rowsRequest, plain: plainItemBytes,
			flaws: powered(badNames(), noItem(), []flaw[request]{isOff(), lost}),
			call:  func(q request) outcome { return bytesOutcome(impl.ItemBytes(q.World, q.Name)) }},
	}
}

func destageWriters() []worker {
	none := flaw[request]{"no item waits", rankFull + 1, impl.ErrNone, func(q *request) { dropRecs(&q.World, "c") }}
	busy := flaw[request]{"no room on the staging pair", rankOff, impl.ErrBusy, func(q *request) { q.World.Shape.Stage = int64(len(q.Bytes)) - 1 }}
	short := flaw[request]{"a tape one record short", rankMoved + 1, impl.ErrMany, func(q *request) { q.World.Tapes[1].Recs = plainRecs(199) }}
	late := []flaw[request]{fullTape(rankFull), lastSeq(), powerFails(rankPower)}
	moved := []flaw[request]{isOff(), dead(), short, ranked(rankMoved+1, fullTape(0)), ranked(rankMoved+1, lastSeq()), powerFails(rankMoved + 2)}
	return []worker{
		{name: "MoveRow", given: moveRowRequest, plain: plainMoveRow,
			flaws: powered(badDataGroups(), badRowNumbers(), badLengths(), moved),
			call:  func(q request) outcome { return worldOutcome(impl.MoveRow(q.World, q.Group, q.Row, q.Bytes)) }},
		{name: "DestageOne", given: destageRequest, plain: plainDestage,
			flaws: powered(badDataGroups(), moved, []flaw[request]{none}),
			call:  func(q request) outcome { return worldOutcome(impl.DestageOne(q.World, q.Group)) }},
		{name: "PutItem", given: moveRowRequest, plain: plainPut,
			flaws: powered(badNames(), badObjects(), late, []flaw[request]{busy}),
			call:  func(q request) outcome { return worldOutcome(impl.PutItem(q.World, q.Name, q.Bytes)) }},
		{name: "DropItem", given: droppedRequest, plain: plainDropItem,
			flaws: powered(badNames(), noItem(), late),
			call:  func(q request) outcome { return worldOutcome(impl.DropItem(q.World, q.Name)) }},
	}
}

// droppedRequest has its item on the tape 0, so that the other may be filled.
func droppedRequest() request {
	q := destageRequest()
	q.World.Tapes[0].Recs = append(q.World.Tapes[0].Recs, dataItem(1999, "a", []byte{1}), deletedItem(2002, "a"))
	return q
}

// dropRecs lets no tape have an item of the name.
func dropRecs(w *impl.World, name string) {
	for tape := range w.Tapes {
		w.Tapes[tape].Recs = slices.DeleteFunc(w.Tapes[tape].Recs, func(r impl.Rec) bool { return r.Name == name })
	}
}

func destagers() []worker {
	return append(destageAskers(), destageWriters()...)
}

func destager(name string) worker {
	all := destagers()
	return all[slices.IndexFunc(all, func(f worker) bool { return f.name == name })]
}

// anyStaging is a world with several items that wait, and with few moves and
// shares, so that often there are rows for them.
func anyStaging(q *sequence, s impl.Shape) impl.World {
	pick := func(count int64) int64 { return int64(q.next() % uint64(count)) }
	s.Stage = pick(120)
	w := anyMachine(q, s)
	keep := pick(3) == 0
	for tape := range w.Tapes {
		w.Tapes[tape].Recs = slices.DeleteFunc(w.Tapes[tape].Recs, func(r impl.Rec) bool {
			return !keep && (r.Kind == impl.RecMove || r.Kind == impl.RecShare)
		})
	}
	for range pick(5) {
		item := dataItem(4+pick(8), anyName(q)+[]string{"", "1", "2"}[pick(3)], q.list(1+int(pick(3*4*s.Data))))
		for tape := range w.Tapes {
			if pick(4) > 0 {
				w.Tapes[tape].Recs = append(w.Tapes[tape].Recs, item)
			}
		}
	}
	return w
}

// livingDataGroup lets one group of data be on and have no more drives wiped
// than are spare, so that it may be destaged.
func livingDataGroup(q *sequence, w *impl.World) int64 {
	group := int64(q.next() % uint64(w.Shape.Groups))
	wiped := int64(0)
	for drive := range w.Groups[group] {
		if w.Groups[group][drive].Wiped {
			wiped++
		}
		w.Groups[group][drive].Wiped = w.Groups[group][drive].Wiped && wiped <= w.Shape.Spare
	}
	w.On = []int64{group}
	return group
}

// eachStaging goes through many such worlds, with something to be asked of
// each: mostly of a group of data that is on, with bytes of a row's length.
func eachStaging(seed uint64, rounds int, check func(what string, q request)) {
	for i, s := range sharesShapes() {
		q := &sequence{state: seed + uint64(i)}
		for round := range rounds {
			r := anyRequestIn(q, anyStaging(q, s))
			r.Name, r.Bytes = anyName(q), q.list(4*int(s.Data))
			if q.next()%4 > 0 {
				r.Group = livingDataGroup(q, &r.World)
			}
			if q.next()%4 == 0 {
				r.Bytes = q.list(int(q.next() % uint64(14*s.Data)))
			}
			if q.next()%5 == 0 {
				r.Name = []string{"a1", "b2", "none", "", "A"}[q.next()%5]
			}
			check(fmt.Sprint("shape ", i, ", world ", round), r)
		}
	}
}
