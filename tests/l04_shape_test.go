package tests

import (
	"bytes"
	"fmt"
	"math"
	"strings"
	"testing"

	"loop.example/g00089/impl"
)

func leastShape() impl.Shape {
	return impl.Shape{Groups: 1, Data: 1, Rows: 1, Cap: 1, Batch: 1, Queue: 1}
}

func greatestShape() impl.Shape {
	return impl.Shape{Groups: 4, Column: 2, Data: 3, Spare: 2, Rows: 6, Cap: 6, Batch: 4, Queue: 6, Stage: 400}
}

// shapeField is one number of a shape with its bounds, as the document has them.
type shapeField struct {
	name  string
	least int64
	most  int64
	at    func(s *impl.Shape) *int64
}

func shapeFields() []shapeField {
	return []shapeField{
		{"Groups", 1, 4, func(s *impl.Shape) *int64 { return &s.Groups }},
		{"Column", 0, 2, func(s *impl.Shape) *int64 { return &s.Column }},
		{"Data", 1, 3, func(s *impl.Shape) *int64 { return &s.Data }},
		{"Spare", 0, 2, func(s *impl.Shape) *int64 { return &s.Spare }},
		{"Rows", 1, 6, func(s *impl.Shape) *int64 { return &s.Rows }},
		{"Cap", 1, 6, func(s *impl.Shape) *int64 { return &s.Cap }},
		{"Batch", 1, 4, func(s *impl.Shape) *int64 { return &s.Batch }},
		{"Queue", 1, 6, func(s *impl.Shape) *int64 { return &s.Queue }},
		{"Stage", 0, 400, func(s *impl.Shape) *int64 { return &s.Stage }},
	}
}

func (f shapeField) beyond() []int64 {
	return []int64{f.least - 1, f.most + 1, -1 << 32, 1<<32 + f.least, math.MinInt64, math.MinInt64 + f.least, math.MaxInt64}
}

// wrongShapesOfAll has one shape for each number beyond its bounds.
func wrongShapesOfAll() []impl.Shape {
	var wrong []impl.Shape
	for _, base := range []impl.Shape{leastShape(), greatestShape()} {
		for _, field := range shapeFields() {
			for _, number := range field.beyond() {
				s := base
				*field.at(&s) = number
				wrong = append(wrong, s)
			}
		}
	}
	return append(wrong, impl.Shape{})
}

func shapeOfData(data int64) impl.Shape {
	s := leastShape()
	s.Data = data
	return s
}

// eachLength goes through all objects that may be cut, over every data.
func eachLength(t *testing.T, check func(t *testing.T, s impl.Shape, length int64)) {
	for data := int64(1); data <= 3; data++ {
		for length := int64(1); length <= 3*4*data; length++ {
			t.Run(fmt.Sprintf("%d of %d", length, 4*data), func(t *testing.T) { check(t, shapeOfData(data), length) })
		}
	}
}

func partsOf(data, length int64) int64 {
	parts := int64(0)
	for parts*4*data < length {
		parts++
	}
	return parts
}

func TestShapeConstants(t *testing.T) {
	got := []int64{impl.MaxRows, impl.MaxCap, impl.MaxBatch, impl.MaxQueue, impl.MaxStage, impl.MaxParts}
	for i, want := range []int64{6, 6, 4, 6, 400, 3} {
		if got[i] != want {
			t.Errorf("constant %d: %d, want %d", i, got[i], want)
		}
	}
}

func TestNameLengths(t *testing.T) {
	for length := range 20 {
		want := int64(impl.ErrText)
		if length >= 1 && length <= 8 {
			want = impl.OK
		}
		if got := impl.NameFault(strings.Repeat("q", length)); got != want {
			t.Errorf("a name of %d bytes: %d, want %d", length, got, want)
		}
	}
	// Bytes are counted, not letters: eight of two bytes would be too long anyhow.
	if impl.NameFault("aéééé") != impl.ErrText || impl.NameFault(strings.Repeat("é", 8)) != impl.ErrText {
		t.Error("a name with letters of two bytes has no fault")
	}
}

func TestNameBytes(t *testing.T) {
	for b := range 256 {
		letter := strings.ContainsRune("abcdefghijklmnopqrstuvwxyz", rune(b)) && b < 128
		digit := strings.ContainsRune("0123456789", rune(b)) && b < 128
		for length := 1; length <= 8; length++ {
			for place := range length {
				name := bytes.Repeat([]byte{'m'}, length)
				name[place] = byte(b)
				want := int64(impl.ErrText)
				if letter || digit && place > 0 {
					want = impl.OK
				}
				if got := impl.NameFault(string(name)); got != want {
					t.Errorf("%q: %d, want %d", name, got, want)
				}
			}
		}
	}
}

func TestShapesWithinTheirBounds(t *testing.T) {
	for _, base := range []impl.Shape{leastShape(), greatestShape()} {
		if got := impl.ShapeFault(base); got != impl.OK {
			t.Errorf("%v: %d", base, got)
		}
		for _, field := range shapeFields() {
			for number := field.least; number <= field.most; number++ {
				s := base
				*field.at(&s) = number
				if got := impl.ShapeFault(s); got != impl.OK {
					t.Errorf("%s of %d: %d", field.name, number, got)
				}
			}
		}
	}
}

func TestShapesBeyondTheirBounds(t *testing.T) {
	for _, s := range wrongShapesOfAll() {
		if got := impl.ShapeFault(s); got != impl.ErrRange {
			t.Errorf("%v: %d, want ErrRange", s, got)
		}
	}
	fields := shapeFields()
	for i := range fields {
		for j := range i {
			s := greatestShape()
			*fields[i].at(&s) = fields[i].most + 1
			*fields[j].at(&s) = fields[j].least - 1
			if got := impl.ShapeFault(s); got != impl.ErrRange {
				t.Errorf("%s and %s beyond: %d, want ErrRange", fields[i].name, fields[j].name, got)
			}
		}
	}
}

func TestShapeFaultComesFirst(t *testing.T) {
	for _, s := range wrongShapesOfAll() {
		for _, name := range []string{"a", "", "A", "ninebytes"} {
			wantInt(t, "HomeOf", impl.HomeOf(s, name), impl.IntResult{Code: impl.ErrRange})
		}
		for _, length := range []int64{1, 0, -1, 37, math.MinInt64, math.MaxInt64} {
			wantInt(t, "PartsFor", impl.PartsFor(s, length), impl.IntResult{Code: impl.ErrRange})
			wantCode(t, "JoinObject", impl.JoinObject(s, [][]byte{{1, 2, 3, 4}}, length), impl.ErrRange)
			wantCode(t, "JoinObject of nothing", impl.JoinObject(s, nil, length), impl.ErrRange)
		}
		for _, length := range []int{0, 1, 37} {
			wantListsCode(t, "SplitObject", impl.SplitObject(s, make([]byte, length)), impl.ErrRange)
		}
		wantInt(t, "RoomOf", impl.RoomOf(s), impl.IntResult{Code: impl.ErrRange})
	}
}

func TestHomes(t *testing.T) {
	for groups := int64(1); groups <= 4; groups++ {
		for _, base := range []impl.Shape{leastShape(), greatestShape()} {
			s := base
			s.Groups = groups
			for _, name := range []string{"a", "b", "c", "d", "z", "a0", "a1", "z9z9z9z9", "zzzzzzzz", "obj12"} {
				sum := int64(0)
				for _, b := range []byte(name) {
					sum += int64(b)
				}
				wantInt(t, name, impl.HomeOf(s, name), impl.IntResult{Value: sum % groups})
			}
			for _, name := range []string{"", "1a", "ab-c", "ninebytes", "Z", "\x80"} {
				wantInt(t, name, impl.HomeOf(s, name), impl.IntResult{Code: impl.ErrText})
			}
		}
	}
}

func TestHomesOfTheDocument(t *testing.T) {
	s := leastShape()
	s.Groups = 3
	wantInt(t, "a", impl.HomeOf(s, "a"), impl.IntResult{Value: 1})
	// The same bytes in another order have the same home.
	wantInt(t, "ab1", impl.HomeOf(s, "ab1"), impl.HomeOf(s, "ba1"))
}

func TestParts(t *testing.T) {
	wantInt(t, "9 in rows of 8", impl.PartsFor(shapeOfData(2), 9), impl.IntResult{Value: 2})
	eachLength(t, func(t *testing.T, s impl.Shape, length int64) {
		wantInt(t, "PartsFor", impl.PartsFor(s, length), impl.IntResult{Value: partsOf(s.Data, length)})
	})
	for data := int64(1); data <= 3; data++ {
		s := shapeOfData(data)
		for _, length := range []int64{0, -1, -4 * data, math.MinInt64} {
			wantInt(t, "too short", impl.PartsFor(s, length), impl.IntResult{Code: impl.ErrZero})
		}
		for _, length := range []int64{12*data + 1, 16 * data, 1 << 32, 1<<32 + 1, math.MaxInt64 - 4*data, math.MaxInt64 - 1, math.MaxInt64} {
			wantInt(t, "too long", impl.PartsFor(s, length), impl.IntResult{Code: impl.ErrMany})
		}
	}
}

// Only Data says how long a row is.
func TestPartsHangOnDataAlone(t *testing.T) {
	s := greatestShape()
	for length := int64(1); length <= 36; length++ {
		wantInt(t, "PartsFor", impl.PartsFor(s, length), impl.IntResult{Value: partsOf(3, length)})
	}
	wantInt(t, "37 bytes", impl.PartsFor(s, 37), impl.IntResult{Code: impl.ErrMany})
}

func TestObjectsAreCutAndJoined(t *testing.T) {
	s := sequence{state: 4}
	eachLength(t, func(t *testing.T, shape impl.Shape, length int64) {
		row := int(4 * shape.Data)
		for _, object := range [][]byte{s.list(int(length)), make([]byte, length), bytes.Repeat([]byte{255}, int(length))} {
			whole := make([]byte, row*int(partsOf(shape.Data, length)))
			copy(whole, object)
			split := impl.SplitObject(shape, roomy(object))
			wantLists(t, "SplitObject", split, cut(whole, row))
			wantBytes(t, "JoinObject", impl.JoinObject(shape, split.Lists, length), object)
		}
	})
}

func TestJoinTakesTheFirstBytes(t *testing.T) {
	s := sequence{state: 5}
	eachLength(t, func(t *testing.T, shape impl.Shape, length int64) {
		row := int(4 * shape.Data)
		whole := s.list(row * int(partsOf(shape.Data, length)))
		wantBytes(t, "JoinObject", impl.JoinObject(shape, cut(whole, row), length), whole[:length])
	})
}

func TestSplitCodes(t *testing.T) {
	for data := int64(1); data <= 3; data++ {
		s := shapeOfData(data)
		wantListsCode(t, "nil", impl.SplitObject(s, nil), impl.ErrZero)
		wantListsCode(t, "empty", impl.SplitObject(s, []byte{}), impl.ErrZero)
		for _, length := range []int64{12*data + 1, 16 * data, 4096} {
			wantListsCode(t, "too long", impl.SplitObject(s, make([]byte, length)), impl.ErrMany)
		}
	}
}

func TestJoinCodesOfLength(t *testing.T) {
	for data := int64(1); data <= 3; data++ {
		s := shapeOfData(data)
		row := make([]byte, 4*data)
		// Whatever the lists are, the length is asked first.
		for _, lists := range [][][]byte{nil, {nil}, {row}, {row, row, row}, {row, row, row, row}, {row[1:]}} {
			for _, length := range []int64{0, -1, math.MinInt64} {
				wantCode(t, "no length", impl.JoinObject(s, lists, length), impl.ErrZero)
			}
			for _, length := range []int64{12*data + 1, 1<<32 + 1, math.MaxInt64} {
				wantCode(t, "too long", impl.JoinObject(s, lists, length), impl.ErrMany)
			}
		}
	}
}

func TestJoinCodesOfLists(t *testing.T) {
	eachLength(t, func(t *testing.T, s impl.Shape, length int64) {
		row, parts := 4*s.Data, partsOf(s.Data, length)
		for count := range int64(6) {
			if count != parts {
				lists := cut(make([]byte, row*count), int(row))
				wantCode(t, "another count", impl.JoinObject(s, lists, length), impl.ErrForm)
			}
		}
		for place := range parts {
			for _, wrong := range []int64{0, 1, row - 1, row + 1, 2 * row} {
				lists := cut(make([]byte, row*parts), int(row))
				lists[place] = make([]byte, wrong)
				wantCode(t, "another length", impl.JoinObject(s, lists, length), impl.ErrForm)
			}
		}
	})
}

// One list that is too long makes up for no other that is too short.
func TestJoinAsksEachList(t *testing.T) {
	lists := [][]byte{make([]byte, 9), make([]byte, 7)}
	wantCode(t, "9 and 7", impl.JoinObject(shapeOfData(2), lists, 9), impl.ErrForm)
	wantCode(t, "no list is there", impl.JoinObject(shapeOfData(2), nil, 1), impl.ErrForm)
}

func TestRoom(t *testing.T) {
	for groups := int64(1); groups <= 4; groups++ {
		for rows := int64(1); rows <= 6; rows++ {
			for _, base := range []impl.Shape{leastShape(), greatestShape()} {
				base.Groups, base.Rows = groups, rows
				wantInt(t, "RoomOf", impl.RoomOf(base), impl.IntResult{Value: groups * rows})
			}
		}
	}
}

func TestObjectsKeepTheirArguments(t *testing.T) {
	s := sequence{state: 6}
	for length := int64(0); length <= 37; length++ {
		object := [][]byte{roomy(s.list(int(length)))}
		for data := int64(1); data <= 3; data++ {
			shape := shapeOfData(data)
			wantListsKept(t, "SplitObject", func() (int64, [][]byte) {
				answer := impl.SplitObject(shape, object[0])
				return answer.Code, answer.Lists
			}, object)
			for count := range 4 {
				lists := roomyRows(s.rows(count, int(4*data)))
				wantKept(t, "JoinObject", func() impl.BytesResult {
					return impl.JoinObject(shape, lists, length)
				}, lists)
			}
		}
	}
}

// What is appended to one part stands in no other.
func TestAppendedPartsStayApart(t *testing.T) {
	object := []byte{1, 2, 3, 4, 5, 6, 7, 8, 9}
	lists := impl.SplitObject(shapeOfData(1), object).Lists
	_ = append(lists[0], 70, 71, 72, 73)
	if !sameRows(lists, [][]byte{{1, 2, 3, 4}, {5, 6, 7, 8}, {9, 0, 0, 0}}) {
		t.Errorf("lists %v", lists)
	}
}
