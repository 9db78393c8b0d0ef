package tests

import (
	"fmt"
	"slices"
	"testing"

	"loop.example/g00089/impl"
)

// plainWorld says again what the document says of a new world.
func plainWorld(s impl.Shape) impl.World {
	w := impl.World{Shape: s, Stop: -1, Tapes: []impl.Tape{{}, {}}}
	for range s.Groups + s.Column {
		var drives []impl.Drive
		for range s.Data + s.Spare {
			drives = append(drives, plainDrive(s))
		}
		w.Groups = append(w.Groups, drives)
	}
	return w
}

func plainDrive(s impl.Shape) impl.Drive {
	d := impl.Drive{}
	for range s.Rows {
		d.Blocks = append(d.Blocks, impl.Block{Bytes: []byte{0, 0, 0, 0}})
	}
	return d
}

// mixedWorld has no two blocks alike, both tapes with records of every kind,
// and the groups on that are named.
func mixedWorld(s impl.Shape, on ...int64) impl.World {
	w := plainWorld(s)
	q := &sequence{state: 50}
	for _, drives := range w.Groups {
		for _, drive := range drives {
			for i := range drive.Blocks {
				drive.Blocks[i] = impl.Block{Stamp: int64(q.next() % 1000), Bytes: q.list(4)}
			}
		}
	}
	w.On, w.Writes, w.Stop = on, 3, 90
	w.Tapes[0].Recs = []impl.Rec{dataItem(1, "a", []byte{1, 2, 3}), moveOf(s, 2, 0, 0), doneOf(2, 0), deletedItem(3, "a")}
	w.Tapes[1].Recs = []impl.Rec{rowsItem(4, "b", 2, 0), shareOf(s, 5, 0, 0), doneOf(2, 0)}
	return w
}

// plainRecs are so many records without a fault, no two alike.
func plainRecs(count int) []impl.Rec {
	recs := []impl.Rec{}
	for i := range count {
		recs = append(recs, doneOf(int64(i+1), 0))
	}
	return recs
}

func wantWorldCode(t *testing.T, what string, w impl.World, code int64) {
	t.Helper()
	if got := impl.WorldFault(w); got != code {
		t.Errorf("%s: code %d, want %d", what, got, code)
	}
}

func wantWorld(t *testing.T, what string, got impl.WorldResult, want impl.World) {
	t.Helper()
	if got.Code != impl.OK || !same(got.World, want) {
		t.Errorf("%s: code %d, world %+v, want %+v", what, got.Code, got.World, want)
	}
}

func wantNoWorld(t *testing.T, what string, got impl.WorldResult, code int64) {
	t.Helper()
	if got.Code != code || !same(got.World, impl.World{}) {
		t.Errorf("%s: code %d, want %d, world %+v", what, got.Code, code, got.World)
	}
}

// eachShape goes through every number that says how large a world is.
func eachShape(check func(s impl.Shape)) {
	for groups := int64(1); groups <= 4; groups++ {
		for column := range int64(3) {
			for data := int64(1); data <= 3; data++ {
				for spare := range int64(3) {
					for rows := int64(1); rows <= 6; rows++ {
						check(impl.Shape{Groups: groups, Column: column, Data: data, Spare: spare, Rows: rows, Cap: 1, Batch: 1, Queue: 1})
					}
				}
			}
		}
	}
}

func TestNewWorlds(t *testing.T) {
	eachShape(func(s impl.Shape) {
		answer := impl.NewWorld(s)
		wantWorld(t, fmt.Sprint(s), answer, plainWorld(s))
		wantWorldCode(t, fmt.Sprint(s), answer.World, impl.OK)
	})
	for _, s := range wrongShapesOfAll() {
		wantNoWorld(t, fmt.Sprint(s), impl.NewWorld(s), impl.ErrRange)
	}
	wantNew(t, "NewWorld", func() impl.WorldResult { return impl.NewWorld(greatestShape()) })
}

const (
	rankForm = iota + 1
	rankMany
	rankRecs
	rankWipedTape
	rankWrites
	rankBehindWorld
)

func form(name string, spoil func(w *impl.World)) flaw[impl.World] {
	return flaw[impl.World]{name, rankForm, impl.ErrForm, spoil}
}

// driveFlaws spoil the drives of one group of the middle shape.
func driveFlaws(group int) []flaw[impl.World] {
	flaws := []flaw[impl.World]{
		form("no drives", func(w *impl.World) { w.Groups[group] = nil }),
		form("a drive less", func(w *impl.World) { w.Groups[group] = w.Groups[group][:2] }),
		form("a drive more", func(w *impl.World) { w.Groups[group] = append(w.Groups[group], plainDrive(w.Shape)) }),
	}
	for drive := range 3 {
		at := func(w *impl.World) *impl.Drive { return &w.Groups[group][drive] }
		flaws = append(flaws,
			form("no blocks", func(w *impl.World) { at(w).Blocks = nil }),
			form("a block less", func(w *impl.World) { at(w).Blocks = at(w).Blocks[1:] }),
			form("a block more", func(w *impl.World) { at(w).Blocks = append(at(w).Blocks, at(w).Blocks[0]) }))
		for row := range 3 {
			block := func(w *impl.World) *impl.Block { return &at(w).Blocks[row] }
			flaws = append(flaws, lifted(blockFlaws(), rankForm, block)...)
		}
	}
	return flaws
}

func blockFlaws() []flaw[impl.Block] {
	flaws := numberFlaws("Stamp", 0, impl.ErrForm, 0, impl.MaxSeq, func(b *impl.Block) *int64 { return &b.Stamp })
	for _, length := range []int{0, 1, 3, 5, 8} {
		flaws = append(flaws, flaw[impl.Block]{"bytes", 0, impl.ErrForm, func(b *impl.Block) { b.Bytes = make([]byte, length) }})
	}
	return flaws
}

// formFlaws are those of a world of the middle shape that make it ill-formed.
func formFlaws() []flaw[impl.World] {
	flaws := []flaw[impl.World]{
		form("no groups", func(w *impl.World) { w.Groups = nil }),
		form("a group less", func(w *impl.World) { w.Groups = w.Groups[:2] }),
		form("a group more", func(w *impl.World) { w.Groups = append(w.Groups, deepCopy(w.Groups[0], 0)) }),
		form("one on twice", func(w *impl.World) { w.On = []int64{1, 1} }),
		form("more on than may be", func(w *impl.World) { w.On = []int64{0, 1, 2} }),
		form("more on than there are", func(w *impl.World) { w.Shape.Cap, w.On = 6, []int64{0, 1, 2, 0} }),
		form("one on without power", func(w *impl.World) { w.Down, w.On = true, []int64{0} }),
		form("no tapes", func(w *impl.World) { w.Tapes = nil }),
		form("one tape", func(w *impl.World) { w.Tapes = w.Tapes[:1] }),
		form("three tapes", func(w *impl.World) { w.Tapes = append(w.Tapes, impl.Tape{}) }),
	}
	for _, group := range beyond(0, 2) {
		flaws = append(flaws, form("no such group on", func(w *impl.World) { w.On = []int64{0, group} }))
	}
	for group := range 3 {
		flaws = append(flaws, driveFlaws(group)...)
	}
	return flaws
}

// spoiltRecs have one fault each, with their codes.
func spoiltRecs() []flaw[impl.Rec] {
	return []flaw[impl.Rec]{
		{"a record of no kind", 0, impl.ErrText, func(r *impl.Rec) { r.Kind = 5 }},
		{"a record of no Seq", 0, impl.ErrRange, func(r *impl.Rec) { r.Seq = 0 }},
		{"a record of no name", 0, impl.ErrText, func(r *impl.Rec) { *r = dataItem(1, "A", []byte{1}) }},
		{"a record of no group", 0, impl.ErrRange, func(r *impl.Rec) { r.Group = 3 }},
		{"a record that is filled", 0, impl.ErrForm, func(r *impl.Rec) { r.Row = 1 }},
	}
}

// tapeFlaws are those of what stands on the tapes.
func tapeFlaws() []flaw[impl.World] {
	var flaws []flaw[impl.World]
	for tape := range 2 {
		flaws = append(flaws,
			flaw[impl.World]{"too many records", rankMany, impl.ErrMany, func(w *impl.World) {
				w.Tapes[tape].Recs = append(w.Tapes[tape].Recs, plainRecs(201-len(w.Tapes[tape].Recs))...)
			}},
			flaw[impl.World]{"a wiped tape with records", rankWipedTape, impl.ErrForm, func(w *impl.World) { w.Tapes[tape].Wiped = true }})
		for _, f := range spoiltRecs() {
			flaws = append(flaws, flaw[impl.World]{f.name, rankRecs, f.code, func(w *impl.World) {
				r := doneOf(1, 0)
				f.make(&r)
				w.Tapes[tape].Recs = append(w.Tapes[tape].Recs, r)
			}})
		}
	}
	return flaws
}

func writesFlaws() []flaw[impl.World] {
	return append(
		numberFlaws("Writes", rankWrites, impl.ErrRange, 0, impl.MaxSeq, func(w *impl.World) *int64 { return &w.Writes }),
		numberFlaws("Stop", rankWrites, impl.ErrRange, -1, impl.MaxSeq, func(w *impl.World) *int64 { return &w.Stop })...)
}

func worldFlaws() []flaw[impl.World] {
	shapes := lifted(badShapes(), rankShape, func(w *impl.World) *impl.Shape { return &w.Shape })
	return slices.Concat(shapes, formFlaws(), tapeFlaws(), writesFlaws())
}

// fewWorldFlaws has of the flaws of each name only the first one.
func fewWorldFlaws() []flaw[impl.World] {
	var few []flaw[impl.World]
	for _, f := range worldFlaws() {
		if !slices.ContainsFunc(few, func(other flaw[impl.World]) bool { return other.name == f.name }) {
			few = append(few, f)
		}
	}
	return few
}

func TestWorldFaultsAndTheirOrder(t *testing.T) {
	for _, on := range [][]int64{nil, {0}, {2, 1}} {
		given := func() impl.World { return mixedWorld(middleShape(), on...) }
		wantFlaws(t, "world", given, fewWorldFlaws(), wantWorldCode)
	}
	for _, f := range worldFlaws() {
		w := mixedWorld(middleShape(), 1)
		f.make(&w)
		wantWorldCode(t, f.name, w, f.code)
		roomy := deepCopy(w, 2)
		wantNew(t, "WorldFault: "+f.name, func() int64 { return impl.WorldFault(roomy) }, roomy)
	}
	wantWorldCode(t, "zero", impl.World{}, impl.ErrRange)
	wantWorldCode(t, "a shape alone", impl.World{Shape: middleShape()}, impl.ErrForm)
}

func TestWorldsAtTheirBounds(t *testing.T) {
	bounds := map[string]func(w *impl.World){
		"greatest Stamp": func(w *impl.World) { w.Groups[2][2].Blocks[2].Stamp = impl.MaxSeq },
		"a wiped drive":  func(w *impl.World) { w.Groups[1][1].Wiped = true },
		"all wiped": func(w *impl.World) {
			w.Groups[0][0].Wiped, w.Groups[0][1].Wiped, w.Groups[0][2].Wiped = true, true, true
		},
		"as many on as may be": func(w *impl.World) { w.On = []int64{2, 0} },
		"all on":               func(w *impl.World) { w.Shape.Cap, w.On = 3, []int64{2, 0, 1} },
		"Cap above all":        func(w *impl.World) { w.Shape.Cap, w.On = 6, []int64{2, 0, 1} },
		"no power":             func(w *impl.World) { w.Down, w.On = true, nil },
		"full tapes":           func(w *impl.World) { w.Tapes[0].Recs, w.Tapes[1].Recs = plainRecs(200), plainRecs(200) },
		"empty tapes":          func(w *impl.World) { w.Tapes[0].Recs, w.Tapes[1].Recs = nil, []impl.Rec{} },
		"wiped tapes":          func(w *impl.World) { w.Tapes[0], w.Tapes[1] = impl.Tape{Wiped: true}, impl.Tape{Wiped: true} },
		"a record twice":       func(w *impl.World) { w.Tapes[0].Recs = []impl.Rec{doneOf(9, 1), doneOf(9, 1), doneOf(1, 1)} },
		"Writes 0":             func(w *impl.World) { w.Writes = 0 },
		"greatest Writes":      func(w *impl.World) { w.Writes = impl.MaxSeq },
		"Writes above Stop":    func(w *impl.World) { w.Writes, w.Stop = 9, 2 },
		"Stop -1":              func(w *impl.World) { w.Stop = -1 },
		"Stop 0":               func(w *impl.World) { w.Stop = 0 },
		"greatest Stop":        func(w *impl.World) { w.Stop = impl.MaxSeq },
	}
	for name, change := range bounds {
		w := mixedWorld(middleShape(), 1)
		change(&w)
		wantWorldCode(t, name, w, impl.OK)
	}
}

// Of two records with a fault the first one's is told: tape by tape, record by record.
func TestRecordsAreAskedOneByOne(t *testing.T) {
	places := [][2]int{{0, 0}, {0, 1}, {0, 199}, {1, 0}, {1, 1}, {1, 199}}
	for i, first := range places {
		for _, second := range places[i+1:] {
			for _, early := range spoiltRecs() {
				for _, late := range spoiltRecs() {
					w := plainWorld(middleShape())
					w.Tapes[0].Recs, w.Tapes[1].Recs = plainRecs(200), plainRecs(200)
					early.make(&w.Tapes[first[0]].Recs[first[1]])
					late.make(&w.Tapes[second[0]].Recs[second[1]])
					wantWorldCode(t, fmt.Sprint(first, early.name, second, late.name), w, early.code)
				}
			}
		}
	}
}

// A record is held against the world's own shape.
func TestRecordsOfAnotherShape(t *testing.T) {
	w := plainWorld(middleShape())
	w.Tapes[1].Recs = []impl.Rec{moveOf(greatestShape(), 1, 0, 0)}
	wantWorldCode(t, "a longer row", w, impl.ErrRange)
	w = plainWorld(greatestShape())
	w.Tapes[0].Recs = []impl.Rec{moveOf(greatestShape(), 1, 3, 5), shareOf(greatestShape(), 1, 5, 5, 0, 4)}
	wantWorldCode(t, "its own", w, impl.OK)
}

// capShapes have each number of groups with each Cap.
func capShapes() []impl.Shape {
	var shapes []impl.Shape
	for groups := int64(1); groups <= 4; groups++ {
		for column := range int64(3) {
			for most := int64(1); most <= 6; most++ {
				s := leastShape()
				s.Groups, s.Column, s.Cap = groups, column, most
				shapes = append(shapes, s)
			}
		}
	}
	return shapes
}

// switchedOn says again what the document says of SwitchOn.
func switchedOn(s impl.Shape, on []int64, group int64) (int64, []int64) {
	switch {
	case group < 0 || group >= s.Groups+s.Column:
		return impl.ErrRange, nil
	case slices.Contains(on, group):
		return impl.OK, slices.Clone(on)
	case int64(len(on)) == s.Cap:
		return impl.ErrTaken, nil
	}
	return impl.OK, append(slices.Clone(on), group)
}

func switchedOff(s impl.Shape, on []int64, group int64) (int64, []int64) {
	if group < 0 || group >= s.Groups+s.Column {
		return impl.ErrRange, nil
	}
	if !slices.Contains(on, group) {
		return impl.ErrOff, nil
	}
	return impl.OK, slices.DeleteFunc(slices.Clone(on), func(other int64) bool { return other == group })
}

func TestNeverMoreOnThanMayBe(t *testing.T) {
	q := &sequence{state: 51}
	for _, s := range capShapes() {
		w := mixedWorld(s)
		for range 60 {
			group := int64(q.next()%uint64(s.Groups+s.Column+2)) - 1
			call, plain := impl.SwitchOn, switchedOn
			if q.next()%3 == 0 {
				call, plain = impl.SwitchOff, switchedOff
			}
			code, on := plain(s, w.On, group)
			answer := call(w, group)
			if code != impl.OK {
				wantNoWorld(t, fmt.Sprint(s, w.On, group), answer, code)
				continue
			}
			w.On = on
			wantWorld(t, fmt.Sprint(s, group), answer, w)
			if int64(len(answer.World.On)) > s.Cap {
				t.Errorf("%d are on of %d", len(answer.World.On), s.Cap)
			}
			wantOnlyThoseOn(t, w)
			w = answer.World
		}
	}
}

// wantOnlyThoseOn asks of every group whether it may be read, written and trusted.
func wantOnlyThoseOn(t *testing.T, w impl.World) {
	t.Helper()
	for group := range w.Shape.Groups + w.Shape.Column {
		want := okOr(impl.ErrOff, slices.Contains(w.On, group))
		read := impl.ReadBlock(w, group, 0, 0).Code
		written := impl.WriteBlock(w, group, 0, 0, impl.Block{Bytes: make([]byte, 4)}).Code
		trusted := impl.TrustDrive(w, group, 0).Code
		if read != want || written != want || trusted != want {
			t.Errorf("on %v, group %d: codes %d, %d and %d, want %d", w.On, group, read, written, trusted, want)
		}
	}
}

// One that is on stands where it stood, though as many are on as may be.
func TestSwitchOnAgain(t *testing.T) {
	for _, on := range [][]int64{{0, 2}, {2, 0}, {1, 0}, {1}} {
		w := mixedWorld(middleShape(), on...)
		for _, group := range on {
			wantWorld(t, fmt.Sprint(on, group), impl.SwitchOn(w, group), w)
		}
	}
}

// eachBlock goes through all places of a world.
func eachBlock(s impl.Shape, check func(group, drive, row int64)) {
	for group := range s.Groups + s.Column {
		for drive := range s.Data + s.Spare {
			for row := range s.Rows {
				check(group, drive, row)
			}
		}
	}
}

func TestWhatIsWrittenIsRead(t *testing.T) {
	q := &sequence{state: 52}
	s := greatestShape()
	w := mixedWorld(s, 5, 4, 3, 2, 1, 0)
	w.Stop = -1
	eachBlock(s, func(group, drive, row int64) {
		b := impl.Block{Stamp: int64(q.next() % (impl.MaxSeq + 1)), Bytes: q.list(4)}
		answer := impl.WriteBlock(w, group, drive, row, b)
		w.Groups[group][drive].Blocks[row] = b
		w.Writes++
		wantWorld(t, "WriteBlock", answer, w)
		w = answer.World
	})
	eachBlock(s, func(group, drive, row int64) {
		if got := impl.ReadBlock(w, group, drive, row); got.Code != 0 || !same(got.Block, w.Groups[group][drive].Blocks[row]) {
			t.Errorf("group %d, drive %d, row %d: %v", group, drive, row, got)
		}
	})
}

func TestBlocksAtTheirBounds(t *testing.T) {
	w := mixedWorld(middleShape(), 2)
	for _, stamp := range []int64{0, 1, impl.MaxSeq} {
		b := impl.Block{Stamp: stamp, Bytes: []byte{255, 0, 0, 255}}
		written := impl.WriteBlock(w, 2, 2, 2, b)
		if got := impl.ReadBlock(written.World, 2, 2, 2); got.Code != 0 || !same(got.Block, b) {
			t.Errorf("stamp %d: %v", stamp, got)
		}
	}
}

func TestWipedDrives(t *testing.T) {
	s := middleShape()
	b := impl.Block{Stamp: 8, Bytes: []byte{4, 3, 2, 1}}
	eachBlock(s, func(group, drive, row int64) {
		w := mixedWorld(s, group)
		wiped := impl.WipeDrive(w, group, drive)
		w.Groups[group][drive] = plainDrive(s)
		w.Groups[group][drive].Wiped = true
		wantWorld(t, "WipeDrive", wiped, w)
		wantBlockCode(t, "a wiped drive", impl.ReadBlock(w, group, drive, row), impl.ErrWiped)

		written := impl.WriteBlock(w, group, drive, row, b)
		w.Groups[group][drive].Blocks[row] = b
		w.Writes++
		wantWorld(t, "WriteBlock", written, w)
		wantBlockCode(t, "a wiped drive that was written", impl.ReadBlock(w, group, drive, row), impl.ErrWiped)

		trusted := impl.TrustDrive(w, group, drive)
		w.Groups[group][drive].Wiped = false
		w.Writes++
		wantWorld(t, "TrustDrive", trusted, w)
		if got := impl.ReadBlock(w, group, drive, row); got.Code != 0 || !same(got.Block, b) {
			t.Errorf("a trusted drive: %v", got)
		}
	})
}

func wantBlockCode(t *testing.T, what string, got impl.BlockResult, code int64) {
	t.Helper()
	if got.Code != code || !same(got.Block, impl.Block{}) {
		t.Errorf("%s: %v, want code %d alone", what, got, code)
	}
}

// Only the drive that is asked for is asked whether it is wiped.
func TestOtherDrivesWiped(t *testing.T) {
	w := mixedWorld(middleShape(), 1)
	w.Groups[1][0].Wiped, w.Groups[0][1].Wiped = true, true
	if got := impl.ReadBlock(w, 1, 1, 2); got.Code != 0 || !same(got.Block, w.Groups[1][1].Blocks[2]) {
		t.Error(got)
	}
	trusted := impl.TrustDrive(w, 1, 1)
	w.Writes++
	wantWorld(t, "a drive that is not wiped", trusted, w)
}

func TestAppendedRecords(t *testing.T) {
	s := middleShape()
	recs := []impl.Rec{dataItem(7, "c", fours(6)), rowsItem(7, "c", 24, 2, 0, 1), deletedItem(impl.MaxSeq, "c"),
		moveOf(s, 1, 1, 2), doneOf(2, 2), shareOf(s, 9, 2, 2, 0, 1)}
	for tape := range int64(2) {
		w := mixedWorld(s, 1)
		for _, r := range append(recs, recs...) {
			answer := impl.AppendRec(w, tape, r)
			w.Tapes[tape].Recs = append(w.Tapes[tape].Recs, r)
			w.Writes++
			wantWorld(t, fmt.Sprint(tape, r), answer, w)
			w = answer.World
		}
	}
}

func TestAppendToWipedTapes(t *testing.T) {
	for tape := range int64(2) {
		w := mixedWorld(middleShape(), 1)
		w.Tapes[0], w.Tapes[1] = impl.Tape{Wiped: true}, impl.Tape{Wiped: true}
		answer := impl.AppendRec(w, tape, doneOf(1, 1))
		w.Tapes[tape] = impl.Tape{Recs: []impl.Rec{doneOf(1, 1)}}
		w.Writes++
		wantWorld(t, "AppendRec", answer, w)
		wantWorldCode(t, "AppendRec", answer.World, impl.OK)
	}
}

func TestAppendToFullTapes(t *testing.T) {
	for tape := range int64(2) {
		w := mixedWorld(middleShape())
		w.Tapes[tape].Recs = plainRecs(199)
		answer := impl.AppendRec(w, tape, doneOf(500, 1))
		w.Tapes[tape].Recs = append(plainRecs(199), doneOf(500, 1))
		w.Writes++
		wantWorld(t, "the last one", answer, w)
		wantNoWorld(t, "one more", impl.AppendRec(answer.World, tape, doneOf(501, 1)), impl.ErrMany)
		other := impl.AppendRec(answer.World, 1-tape, doneOf(501, 1))
		if other.Code != impl.OK || len(other.World.Tapes[tape].Recs) != 200 {
			t.Errorf("the other tape: code %d", other.Code)
		}
	}
}

func TestStruckRecords(t *testing.T) {
	s := middleShape()
	recs := []impl.Rec{doneOf(2, 0), deletedItem(2, "a"), doneOf(1, 0), doneOf(2, 1), moveOf(s, 2, 0, 0), doneOf(3, 0),
		dataItem(2, "b", []byte{1}), doneOf(2, 0), shareOf(s, 2, 0, 0, 1), moveOf(s, 1, 0, 1)}
	numbers := []int64{-1 << 63, -1, 0, 1, 2, 3, 4, 5, 1 << 32, 1<<32 + 2, 1<<63 - 1}
	for tape := range int64(2) {
		for _, kind := range numbers {
			for _, seq := range numbers {
				w := mixedWorld(s, 0)
				w.Tapes[0].Recs, w.Tapes[1].Recs = deepCopy(recs, 0), deepCopy(recs, 0)
				answer := impl.StrikeRecs(w, tape, kind, seq)
				var left []impl.Rec
				for _, r := range recs {
					if r.Kind != kind || r.Seq != seq {
						left = append(left, r)
					}
				}
				w.Tapes[tape].Recs = left
				w.Writes++
				wantWorld(t, fmt.Sprint(tape, kind, seq), answer, w)
			}
		}
	}
}

func TestStrikeOfEmptyTapes(t *testing.T) {
	w := plainWorld(middleShape())
	w.Tapes[1].Wiped = true
	for tape := range int64(2) {
		answer := impl.StrikeRecs(w, tape, impl.RecDone, 1)
		want := deepCopy(w, 0)
		want.Writes = 1
		wantWorld(t, "a tape stays as it is", answer, want)
	}
}

func TestWipedTapes(t *testing.T) {
	for tape := range int64(2) {
		for _, down := range []bool{false, true} {
			w := mixedWorld(middleShape())
			w.Down = down
			answer := impl.WipeTape(w, tape)
			w.Tapes[tape] = impl.Tape{Wiped: true}
			wantWorld(t, "WipeTape", answer, w)
			wantWorld(t, "WipeTape again", impl.WipeTape(answer.World, tape), w)
		}
	}
}

func TestWipeDrivesWithoutPower(t *testing.T) {
	eachBlock(middleShape(), func(group, drive, row int64) {
		w := mixedWorld(middleShape())
		w.Down = true
		answer := impl.WipeDrive(w, group, drive)
		w.Groups[group][drive] = plainDrive(w.Shape)
		w.Groups[group][drive].Wiped = true
		wantWorld(t, "WipeDrive", answer, w)
		wantWorld(t, "WipeDrive again", impl.WipeDrive(answer.World, group, drive), w)
	})
}
