package tests

import (
	"fmt"
	"slices"
	"testing"

	"loop.example/g00089/impl"
)

// outcome is what any function answers that works in a world.
type outcome struct {
	Code, Value int64
	World       impl.World
	Bytes       []byte
	List        []int64
	Recs        []impl.Rec
	Things      []impl.Thing
}

// worker is such a function: with what it goes well, what may be wrong with
// that, and what it answers by the document in a world without a fault.
type worker struct {
	name  string
	call  func(q request) outcome
	given func() request
	flaws []flaw[request]
	plain func(q request) outcome
}

func worldOutcome(r impl.WorldResult) outcome { return outcome{Code: r.Code, World: r.World} }
func bytesOutcome(r impl.BytesResult) outcome { return outcome{Code: r.Code, Bytes: r.Bytes} }
func intOutcome(r impl.IntResult) outcome     { return outcome{Code: r.Code, Value: r.Value} }
func recsOutcome(r impl.RecsResult) outcome   { return outcome{Code: r.Code, Recs: r.Recs} }

// plan is what a call writes, one raw write behind the other, and the code
// that it has when these are done.
type plan struct {
	start, now impl.World
	steps      []func(w *impl.World)
	code       int64
}

func planIn(w impl.World) *plan {
	return &plan{start: w, now: deepCopy(w, 0)}
}

func (p *plan) write(step func(w *impl.World)) {
	step(&p.now)
	p.steps = append(p.steps, step)
}

// outcome says again what the document says of raw writes at which power fails.
func (p *plan) outcome() outcome {
	w := deepCopy(p.start, 0)
	for _, step := range p.steps {
		if w.Stop != -1 && w.Writes >= w.Stop {
			return outcome{Code: impl.ErrDown, World: withoutPower(w)}
		}
		step(&w)
		w.Writes++
	}
	if p.code != impl.OK {
		return outcome{Code: p.code}
	}
	return outcome{World: w}
}

func (p *plan) redo(group int64, move impl.Rec) {
	for drive, d := range p.now.Groups[group] {
		was := d.Blocks[move.Row]
		if d.Wiped || was.Stamp >= move.Seq {
			continue
		}
		block := impl.Block{Stamp: move.Seq, Bytes: plainMoved(p.now.Shape, group, drive, was.Bytes, move)}
		p.write(func(w *impl.World) { w.Groups[group][drive].Blocks[move.Row] = block })
	}
}

// plainMoved reckons a block of a group of parity from the column of what is
// added in the move's own group, zeros in all others.
func plainMoved(s impl.Shape, group int64, drive int, was []byte, move impl.Rec) []byte {
	if group < s.Groups {
		return plainBlocks(s.Data, s.Spare, move.Data)[drive]
	}
	lists := make([][]byte, s.Groups)
	for i := range lists {
		lists[i] = make([]byte, s.Data*impl.Unit)
	}
	lists[move.Group] = move.Delta
	added := plainBlocks(s.Data, s.Spare, plainColumn(lists, s.Column)[group])[drive]
	for i := range added {
		added[i] ^= was[i]
	}
	return added
}

func (p *plan) lay(r impl.Rec) {
	if p.code != impl.OK {
		return
	}
	if len(p.now.Tapes[0].Recs) >= 200 || len(p.now.Tapes[1].Recs) >= 200 {
		p.code = impl.ErrMany
		return
	}
	p.appendTo(0, r)
	p.appendTo(1, r)
}

func (p *plan) appendTo(tape int64, r impl.Rec) {
	p.write(func(w *impl.World) {
		w.Tapes[tape] = impl.Tape{Recs: append(w.Tapes[tape].Recs, r)}
	})
}

func (p *plan) strike(kind, seq int64) {
	for tape := range 2 {
		p.write(func(w *impl.World) {
			var left []impl.Rec
			for _, r := range w.Tapes[tape].Recs {
				if r.Kind != kind || r.Seq != seq {
					left = append(left, r)
				}
			}
			w.Tapes[tape].Recs = left
		})
	}
}

func isGroupIn(s impl.Shape, group int64) bool { return group >= 0 && group < s.Groups+s.Column }

func isRowIn(s impl.Shape, row int64) bool { return row >= 0 && row < s.Rows }

func isDeadIn(w impl.World, group int64) bool {
	living := 0
	for _, d := range w.Groups[group] {
		if !d.Wiped {
			living++
		}
	}
	return int64(living) < w.Shape.Data
}

// placeCode is what is asked of a group, and of a row, that must be on.
func placeCode(w impl.World, inBounds bool, group int64) int64 {
	switch {
	case w.Down:
		return impl.ErrDown
	case !inBounds:
		return impl.ErrRange
	case !slices.Contains(w.On, group):
		return impl.ErrOff
	}
	return impl.OK
}

func plainDead(q request) outcome {
	told := outcome{}
	for group := range int64(len(q.World.Groups)) {
		if isDeadIn(q.World, group) {
			told.List = append(told.List, group)
		}
	}
	return told
}

func plainRowBytes(q request) outcome {
	s := q.World.Shape
	if code := placeCode(q.World, isGroupIn(s, q.Group) && isRowIn(s, q.Row), q.Group); code != impl.OK {
		return outcome{Code: code}
	}
	if isDeadIn(q.World, q.Group) {
		return outcome{Code: impl.ErrLost}
	}
	blocks := make([][]byte, s.Data+s.Spare)
	for drive, d := range q.World.Groups[q.Group] {
		if !d.Wiped {
			blocks[drive] = d.Blocks[q.Row].Bytes
		}
	}
	return outcome{Bytes: impl.DecodeRow(s.Data, s.Spare, blocks).Bytes}
}

func plainRowStamp(q request) outcome {
	s := q.World.Shape
	if code := placeCode(q.World, isGroupIn(s, q.Group) && isRowIn(s, q.Row), q.Group); code != impl.OK {
		return outcome{Code: code}
	}
	stamps := []int64{0}
	for _, d := range q.World.Groups[q.Group] {
		if !d.Wiped {
			stamps = append(stamps, d.Blocks[q.Row].Stamp)
		}
	}
	return outcome{Value: slices.Max(stamps)}
}

func plainRedoMove(q request) outcome {
	s := q.World.Shape
	if code := placeCode(q.World, isGroupIn(s, q.Group), q.Group); code != impl.OK {
		return outcome{Code: code}
	}
	if impl.RecFault(s, q.Rec) != impl.OK || q.Rec.Kind != impl.RecMove || q.Group < s.Groups && q.Group != q.Rec.Group {
		return outcome{Code: impl.ErrForm}
	}
	p := planIn(q.World)
	p.redo(q.Group, q.Rec)
	return p.outcome()
}

func plainLayRec(q request) outcome {
	if q.World.Down {
		return outcome{Code: impl.ErrDown}
	}
	if code := impl.RecFault(q.World.Shape, q.Rec); code != impl.OK {
		return outcome{Code: code}
	}
	p := planIn(q.World)
	p.lay(q.Rec)
	return p.outcome()
}

func plainStrikeBoth(q request) outcome {
	if q.World.Down {
		return outcome{Code: impl.ErrDown}
	}
	p := planIn(q.World)
	p.strike(q.Kind, q.Seq)
	return p.outcome()
}

func plainRedoAll(q request) outcome {
	s := q.World.Shape
	if code := placeCode(q.World, isGroupIn(s, q.Group), q.Group); code != impl.OK {
		return outcome{Code: code}
	}
	p := planIn(q.World)
	p.redoAll(q.Group)
	return p.outcome()
}

func (p *plan) redoAll(group int64) {
	if group < p.now.Shape.Groups && isDeadIn(p.now, group) {
		return
	}
	for _, move := range plainUndone(question{World: p.now, Group: group}).Recs {
		if p.code == impl.OK {
			p.redo(group, move)
			p.lay(doneOf(move.Seq, group))
		}
	}
}

func plainRepair(q request) outcome {
	if q.World.Down {
		return outcome{Code: impl.ErrDown}
	}
	p := planIn(q.World)
	p.repair()
	return p.outcome()
}

func (p *plan) repair() {
	var missing [2][]impl.Rec
	for tape := range missing {
		missing[tape] = plainMissing(question{World: p.now, Tape: int64(tape)}).Recs
		if len(p.now.Tapes[tape].Recs)+len(missing[tape]) > 200 {
			p.code = impl.ErrMany
		}
	}
	for tape, recs := range missing {
		for _, r := range recs {
			if p.code == impl.OK {
				p.appendTo(int64(tape), r)
			}
		}
	}
}

func plainClean(q request) outcome {
	if q.World.Down {
		return outcome{Code: impl.ErrDown}
	}
	p := planIn(q.World)
	p.clean()
	return p.outcome()
}

func (p *plan) clean() {
	struck := map[[2]int64]bool{}
	for _, r := range plainSpent(question{World: p.now}).Recs {
		if !struck[[2]int64{r.Kind, r.Seq}] {
			p.strike(r.Kind, r.Seq)
		}
		struck[[2]int64{r.Kind, r.Seq}] = true
	}
}

// anyMachine is a world of which some groups are on, with drives wiped, and
// with stamps below, at and above the numbers of the moves on its tapes.
func anyMachine(q *sequence, s impl.Shape) impl.World {
	pick := func(count int64) int64 { return int64(q.next() % uint64(count)) }
	w := anyTapes(q, s)
	for _, drives := range w.Groups {
		wiped := pick(s.Spare + 2)
		for drive := range drives {
			for row := range drives[drive].Blocks {
				drives[drive].Blocks[row].Stamp = pick(8)
			}
			drives[drive].Wiped = int64(drive) < wiped
		}
		if pick(2) == 0 {
			slices.Reverse(drives)
		}
	}
	for group := range s.Groups + s.Column {
		if int64(len(w.On)) < s.Cap && pick(3) > 0 {
			w.On = append(w.On, group)
		}
	}
	w.Writes, w.Stop = pick(3), pick(14)-1
	return w
}

// anyRequestIn asks for a group that is on, if there is one, but now and then
// for another, and for one that is none.
func anyRequestIn(q *sequence, w impl.World) request {
	pick := func(count int64) int64 { return int64(q.next() % uint64(count)) }
	s := w.Shape
	r := request{World: w, Group: pick(s.Groups+s.Column+2) - 1, Row: pick(s.Rows+1) - pick(2), Kind: pick(6), Seq: pick(8), Rec: anyRec(q, s)}
	if len(w.On) > 0 && pick(4) > 0 {
		r.Group = w.On[pick(int64(len(w.On)))]
	}
	if pick(4) > 0 {
		r.Rec = anyMove(q, s, 1+pick(8))
		if r.Group >= 0 && r.Group < s.Groups && pick(4) > 0 {
			r.Rec.Group = r.Group
		}
	}
	return r
}

func anyMove(q *sequence, s impl.Shape, seq int64) impl.Rec {
	move := moveOf(s, seq, int64(q.next()%uint64(s.Groups)), int64(q.next()%uint64(s.Rows)))
	move.Data, move.Delta = q.list(len(move.Data)), q.list(len(move.Delta))
	return move
}

// eachMachine goes through many worlds of all shapes, with something to be asked of each.
func eachMachine(seed uint64, rounds int, check func(what string, q request)) {
	for i, s := range recShapes() {
		q := &sequence{state: seed + uint64(i)}
		for round := range rounds {
			r := anyRequestIn(q, anyMachine(q, s))
			check(fmt.Sprint("shape ", i, ", world ", round), r)
		}
	}
}

func wantOutcome(t *testing.T, what string, got, want outcome) {
	t.Helper()
	if !same(got, want) {
		t.Errorf("%s: %+v, want %+v", what, got, want)
	}
}

// wantAllPlain holds workers against what they answer by the document.
func wantAllPlain(t *testing.T, what string, workers []worker, q request) {
	t.Helper()
	for _, f := range workers {
		wantOutcome(t, f.name+", "+what, f.call(q), f.plain(q))
	}
}

// wantFlawless holds a worker against all that may be wrong, and its order.
func wantFlawless(t *testing.T, f worker) {
	t.Helper()
	wantFlaws(t, f.name, f.given, f.flaws, func(t *testing.T, what string, q request, code int64) {
		t.Helper()
		got := f.call(q)
		wantCodeAlone(t, what, q, got.Code, code, same(got, outcome{Code: got.Code}))
	})
	if got := f.call(request{}); !same(got, outcome{Code: impl.ErrRange}) {
		t.Errorf("%s of nothing: %+v", f.name, got)
	}
}

// wantKeeper holds a worker against promise 1, whether all goes well, a code
// stops it, or power fails.
func wantKeeper(t *testing.T, f worker) {
	t.Helper()
	for _, spoil := range append(f.flaws, flaw[request]{name: "no flaw", make: func(q *request) {}}) {
		q := f.given()
		spoil.make(&q)
		q = deepCopy(q, 2)
		wantNew(t, f.name+": "+spoil.name, func() outcome { return f.call(q) }, q)
	}
}

// wantCutAnywhere lets power fail at each of the writes that a call makes.
func wantCutAnywhere(t *testing.T, what string, f worker, q request) {
	t.Helper()
	q.World.Writes, q.World.Stop = 0, -1
	whole := f.call(q)
	for stop := range whole.World.Writes {
		q.World.Stop = stop
		got := f.call(q)
		if got.Code != impl.ErrDown || !got.World.Down || got.World.Writes != stop {
			t.Errorf("%s, %s, stop %d: code %d, down %v, writes %d", f.name, what, stop, got.Code, got.World.Down, got.World.Writes)
		}
		wantOutcome(t, f.name+", "+what, got, f.plain(q))
	}
	q.World.Stop = whole.World.Writes
	if got := f.call(q); got.Code != whole.Code || got.World.Writes != whole.World.Writes {
		t.Errorf("%s, %s: fails behind its last write", f.name, what)
	}
}
