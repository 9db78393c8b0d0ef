package tests

import (
	"bytes"
	"testing"

	"loop.example/g00089/impl"
)

// sequence tells numbers that look mixed but are the same in every run.
type sequence struct {
	state uint64
}

func (s *sequence) next() uint64 {
	s.state = s.state*6364136223846793005 + 1442695040888963407
	return s.state >> 33
}

func (s *sequence) list(length int) []byte {
	list := make([]byte, length)
	for i := range list {
		list[i] = byte(s.next())
	}
	return list
}

func (s *sequence) rows(count, length int) [][]byte {
	rows := make([][]byte, count)
	for i := range rows {
		rows[i] = s.list(length)
	}
	return rows
}

// roomy puts a list into a longer one, so that a write behind its end shows as well.
func roomy(list []byte) []byte {
	whole := append(bytes.Clone(list), 0xa5, 0x5a, 0xa5, 0x5a)
	return whole[:len(list)]
}

func roomyRows(rows [][]byte) [][]byte {
	whole := make([][]byte, 0, len(rows)+2)
	for _, row := range rows {
		whole = append(whole, roomy(row))
	}
	whole = append(whole, []byte{1, 2}, []byte{3})
	return whole[:len(rows)]
}

func wholeOf(list []byte) []byte {
	return bytes.Clone(list[:cap(list)])
}

func wholeRows(rows [][]byte) [][]byte {
	all := [][]byte{}
	for _, row := range rows[:cap(rows)] {
		all = append(all, wholeOf(row))
	}
	return all
}

func cloneRows(rows [][]byte) [][]byte {
	all := make([][]byte, len(rows))
	for i := range rows {
		all[i] = bytes.Clone(rows[i])
	}
	return all
}

func sameRows(a, b [][]byte) bool {
	if len(a) != len(b) {
		return false
	}
	for i := range a {
		if !bytes.Equal(a[i], b[i]) {
			return false
		}
	}
	return true
}

// spoil writes over all memory that an answer has.
func spoil(list []byte) {
	list = list[:cap(list)]
	for i := range list {
		list[i] ^= 0xff
	}
}

func wantCode(t *testing.T, what string, got impl.BytesResult, code int64) {
	t.Helper()
	if got.Code != code {
		t.Errorf("%s: code %d, want %d", what, got.Code, code)
	}
	if got.Code != impl.OK && len(got.Bytes) != 0 {
		t.Errorf("%s: code %d beside %d bytes", what, got.Code, len(got.Bytes))
	}
}

func wantBytes(t *testing.T, what string, got impl.BytesResult, want []byte) {
	t.Helper()
	if got.Code != impl.OK || !bytes.Equal(got.Bytes, want) {
		t.Errorf("%s: code %d, bytes %v, want %v", what, got.Code, got.Bytes, want)
	}
}

func wantBlocksCode(t *testing.T, what string, got impl.BlocksResult, code int64) {
	t.Helper()
	if got.Code != code {
		t.Errorf("%s: code %d, want %d", what, got.Code, code)
	}
	if got.Code != impl.OK && len(got.Blocks) != 0 {
		t.Errorf("%s: code %d beside %d blocks", what, got.Code, len(got.Blocks))
	}
}

func wantBlocks(t *testing.T, what string, got impl.BlocksResult, want [][]byte) {
	t.Helper()
	if got.Code != impl.OK || !sameRows(got.Blocks, want) {
		t.Errorf("%s: code %d, blocks %v, want %v", what, got.Code, got.Blocks, want)
	}
}

func wantListsCode(t *testing.T, what string, got impl.ListsResult, code int64) {
	t.Helper()
	if got.Code != code {
		t.Errorf("%s: code %d, want %d", what, got.Code, code)
	}
	if got.Code != impl.OK && len(got.Lists) != 0 {
		t.Errorf("%s: code %d beside %d lists", what, got.Code, len(got.Lists))
	}
}

func wantLists(t *testing.T, what string, got impl.ListsResult, want [][]byte) {
	t.Helper()
	if got.Code != impl.OK || !sameRows(got.Lists, want) {
		t.Errorf("%s: code %d, lists %v, want %v", what, got.Code, got.Lists, want)
	}
}

func wantInt(t *testing.T, what string, got impl.IntResult, want impl.IntResult) {
	t.Helper()
	if got != want {
		t.Errorf("%s: %v, want %v", what, got, want)
	}
}

// wantKept holds a call against promise 1; lists are the arguments that it has.
func wantKept(t *testing.T, name string, call func() impl.BytesResult, lists ...[][]byte) {
	t.Helper()
	wantListsKept(t, name, func() (int64, [][]byte) {
		answer := call()
		return answer.Code, [][]byte{answer.Bytes}
	}, lists...)
}

func wantListsKept(t *testing.T, name string, call func() (int64, [][]byte), lists ...[][]byte) {
	t.Helper()
	var before [][][]byte
	for _, rows := range lists {
		before = append(before, wholeRows(rows))
	}
	code, first := call()
	answer := cloneRows(first)
	secondCode, second := call()
	for i := range first {
		spoil(first[i])
		if !sameRows(first[i+1:], answer[i+1:]) {
			t.Errorf("%s: the list %d shares memory with one behind it", name, i)
		}
	}
	if secondCode != code || !sameRows(second, answer) {
		t.Errorf("%s: answers differ, or share memory", name)
	}
	for i, rows := range lists {
		if !sameRows(before[i], wholeRows(rows)) {
			t.Errorf("%s: an argument is changed", name)
		}
	}
	if thirdCode, third := call(); thirdCode != code || !sameRows(third, answer) {
		t.Errorf("%s: an answer that is written over changes the next one", name)
	}
}
