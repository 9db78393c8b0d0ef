package tests

import (
	"bytes"
	"fmt"
	"math"
	"math/bits"
	"slices"
	"testing"

	"loop.example/g00089/impl"
)

// eachRow goes through all shapes that a row may have.
func eachRow(t *testing.T, check func(t *testing.T, data, spare int64)) {
	for data := int64(1); data <= impl.MaxData; data++ {
		for spare := int64(0); spare <= impl.MaxSpare; spare++ {
			t.Run(fmt.Sprintf("%d and %d", data, spare), func(t *testing.T) { check(t, data, spare) })
		}
	}
}

// undoing looks for the byte whose product with b is 1.
func undoing(b byte) byte {
	for c := range 256 {
		if longProduct(byte(c), b) == 1 {
			return byte(c)
		}
	}
	return 0
}

// plainBlocks says again, byte by byte, what the document says of a row's blocks.
func plainBlocks(data, spare int64, list []byte) [][]byte {
	blocks := cut(bytes.Clone(list), impl.Unit)
	for j := range spare {
		block := make([]byte, impl.Unit)
		for i := range data {
			factor := undoing(byte(128+j) ^ byte(i))
			for k := range block {
				block[k] ^= longProduct(list[int(i)*impl.Unit+k], factor)
			}
		}
		blocks = append(blocks, block)
	}
	return blocks
}

// masked keeps the blocks whose bits are set; of the others every second one
// is nil, the rest empty.
func masked(blocks [][]byte, mask uint) [][]byte {
	kept := make([][]byte, len(blocks))
	for i := range blocks {
		switch {
		case mask&(1<<i) != 0:
			kept[i] = blocks[i]
		case i%2 == 0:
			kept[i] = []byte{}
		}
	}
	return kept
}

func placesOf(mask uint) []int64 {
	var places []int64
	for i := range int64(bits.Len(mask)) {
		if mask&(1<<i) != 0 {
			places = append(places, i)
		}
	}
	return places
}

func TestRowConstants(t *testing.T) {
	if impl.Unit != 4 || impl.MaxData != 3 || impl.MaxSpare != 2 {
		t.Error(impl.Unit, impl.MaxData, impl.MaxSpare)
	}
}

func TestEncodeRow(t *testing.T) {
	eachRow(t, func(t *testing.T, data, spare int64) {
		s := &sequence{state: 20}
		size := int(data) * impl.Unit
		for range 50 {
			list := s.list(size)
			wantBlocks(t, "mixed bytes", impl.EncodeRow(data, spare, list), plainBlocks(data, spare, list))
		}
		zeros := make([]byte, size)
		wantBlocks(t, "zeros", impl.EncodeRow(data, spare, zeros), cut(make([]byte, size+int(spare)*impl.Unit), impl.Unit))
		for i := range size {
			list := make([]byte, size)
			list[i] = 1
			wantBlocks(t, "one byte", impl.EncodeRow(data, spare, list), plainBlocks(data, spare, list))
		}
	})
}

func TestAnyBlocksTellTheRow(t *testing.T) {
	eachRow(t, func(t *testing.T, data, spare int64) {
		s := &sequence{state: 21}
		for range 20 {
			list := s.list(int(data) * impl.Unit)
			row := impl.EncodeRow(data, spare, list).Blocks
			for mask := range uint(1) << (data + spare) {
				wantTold(t, data, spare, masked(row, mask), list, row)
			}
		}
	})
}

// wantTold asks for the row, or for ErrLost where too few blocks are there.
func wantTold(t *testing.T, data, spare int64, blocks [][]byte, list []byte, row [][]byte) {
	t.Helper()
	there := int64(0)
	for _, block := range blocks {
		if len(block) > 0 {
			there++
		}
	}
	decoded := impl.DecodeRow(data, spare, blocks)
	if there < data {
		wantCode(t, "too few", decoded, impl.ErrLost)
	} else {
		wantBytes(t, "the bytes", decoded, list)
	}
	for want := range data + spare {
		told := impl.BlockOf(data, spare, blocks, want)
		if there < data {
			wantCode(t, "a block of too few", told, impl.ErrLost)
		} else {
			wantBytes(t, "a block", told, row[want])
		}
	}
}

// Blocks that are no row's: of those that are there only the first data count.
func TestFirstBlocksAreTaken(t *testing.T) {
	eachRow(t, func(t *testing.T, data, spare int64) {
		s := &sequence{state: 22}
		for range 20 {
			blocks := s.rows(int(data+spare), impl.Unit)
			for mask := range uint(1) << (data + spare) {
				there := placesOf(mask)
				if int64(len(there)) < data {
					continue
				}
				first := make([][]byte, data+spare)
				for _, place := range there[:data] {
					first[place] = blocks[place]
				}
				told := impl.DecodeRow(data, spare, masked(blocks, mask))
				wantBytes(t, "the first alone", impl.DecodeRow(data, spare, first), told.Bytes)
				row := plainBlocks(data, spare, told.Bytes)
				for _, place := range there[:data] {
					wantBytes(t, "one that is taken", impl.BytesResult{Bytes: row[place]}, blocks[place])
				}
				wantTold(t, data, spare, masked(blocks, mask), told.Bytes, row)
			}
		}
	})
}

func TestFirstBlockOfThreeIsTaken(t *testing.T) {
	blocks := impl.EncodeRow(1, 2, []byte{1, 2, 3, 4}).Blocks
	blocks[2] = []byte{9, 9, 9, 9}
	wantBytes(t, "data ahead of spare", impl.DecodeRow(1, 2, blocks), []byte{1, 2, 3, 4})
	wantBytes(t, "a spare block that does not fit", impl.BlockOf(1, 2, blocks, 2), plainBlocks(1, 2, []byte{1, 2, 3, 4})[2])
	blocks[0] = nil
	wantBytes(t, "the first spare", impl.DecodeRow(1, 2, blocks), []byte{1, 2, 3, 4})
	wantBytes(t, "the data block that is not there", impl.BlockOf(1, 2, blocks, 0), []byte{1, 2, 3, 4})
	zeros := [][]byte{{0, 0, 0, 0}, {7, 7, 7, 7}, nil}
	wantBytes(t, "a block of zeros is there", impl.DecodeRow(1, 2, zeros), []byte{0, 0, 0, 0})
	wantBytes(t, "a block of zeros is there", impl.BlockOf(1, 2, zeros, 1), []byte{0, 0, 0, 0})
}

func TestRowWeights(t *testing.T) {
	eachRow(t, func(t *testing.T, data, spare int64) {
		s := &sequence{state: 23}
		for mask := range uint(1) << (data + spare) {
			if int64(bits.OnesCount(mask)) != data {
				continue
			}
			have := placesOf(mask)
			for want := range data + spare {
				weights := impl.RowWeights(data, spare, have, want)
				if weights.Code != impl.OK || int64(len(weights.Bytes)) != data {
					t.Fatalf("have %v, want %d: %v", have, want, weights)
				}
				wantWeighed(t, s, data, spare, have, want, weights.Bytes)
				if at := slices.Index(have, want); at >= 0 {
					alone := make([]byte, data)
					alone[at] = 1
					wantBytes(t, "one of those that it has", weights, alone)
				}
			}
		}
	})
}

func wantWeighed(t *testing.T, s *sequence, data, spare int64, have []int64, want int64, weights []byte) {
	t.Helper()
	for range 10 {
		row := plainBlocks(data, spare, s.list(int(data)*impl.Unit))
		for k := range impl.Unit {
			column := make([]byte, data)
			for i, place := range have {
				column[i] = row[place][k]
			}
			if dot(column, weights) != row[want][k] {
				t.Fatalf("the block %d of those at %v, by %v", want, have, weights)
			}
		}
	}
}

func TestRowFits(t *testing.T) {
	eachRow(t, func(t *testing.T, data, spare int64) {
		s := &sequence{state: 24}
		for range 10 {
			row := impl.EncodeRow(data, spare, s.list(int(data)*impl.Unit)).Blocks
			if !impl.RowFits(data, spare, row) {
				t.Fatal("a row that was told", row)
			}
			for i := range row {
				for k := range impl.Unit {
					for _, change := range []byte{1, 128, 255} {
						other := cloneRows(row)
						other[i][k] ^= change
						// Without spare blocks all are the blocks of some bytes.
						if impl.RowFits(data, spare, other) != (spare == 0) {
							t.Fatalf("block %d, byte %d is another", i, k)
						}
					}
				}
			}
			for i := range row {
				other := cloneRows(row)
				other[i] = nil
				wantNoFit(t, data, spare, other)
			}
		}
	})
}

func wantNoFit(t *testing.T, data, spare int64, blocks [][]byte) {
	t.Helper()
	if impl.RowFits(data, spare, blocks) {
		t.Errorf("%d and %d: %v fits", data, spare, blocks)
	}
}

func TestRowFitsWrongInputs(t *testing.T) {
	eachRow(t, func(t *testing.T, data, spare int64) {
		zeros := cut(make([]byte, int(data+spare)*impl.Unit), impl.Unit)
		if !impl.RowFits(data, spare, zeros) {
			t.Error("zeros")
		}
		wantNoFit(t, data, spare, nil)
		wantNoFit(t, data, spare, zeros[1:])
		wantNoFit(t, data, spare, append(cloneRows(zeros), make([]byte, impl.Unit)))
		wantNoFit(t, data, spare, append(cloneRows(zeros), nil))
		wantNoFit(t, data, spare, make([][]byte, len(zeros)))
		for i := range zeros {
			for _, length := range []int{0, 1, impl.Unit - 1, impl.Unit + 1, 2 * impl.Unit, 5000} {
				other := cloneRows(zeros)
				other[i] = make([]byte, length)
				wantNoFit(t, data, spare, other)
			}
		}
	})
	for _, c := range wrongShapes() {
		for count := range 7 {
			wantNoFit(t, c[0], c[1], cut(make([]byte, count*impl.Unit), impl.Unit))
		}
	}
}

// wrongShapes are pairs of data and spare one of which leaves its bounds.
func wrongShapes() [][2]int64 {
	wrong := [][2]int64{}
	for _, data := range []int64{math.MinInt64, -1, 0, impl.MaxData + 1, 1 << 32, 1 << 62, math.MaxInt64} {
		wrong = append(wrong, [2]int64{data, 0}, [2]int64{data, impl.MaxSpare}, [2]int64{data, -1}, [2]int64{data, -data})
	}
	for _, spare := range []int64{math.MinInt64, -1, impl.MaxSpare + 1, 1 << 32, 1 << 62, math.MaxInt64} {
		wrong = append(wrong, [2]int64{1, spare}, [2]int64{impl.MaxData, spare}, [2]int64{0, spare})
	}
	return wrong
}

func TestSummedRowsHaveSummedBlocks(t *testing.T) {
	eachRow(t, func(t *testing.T, data, spare int64) {
		s := &sequence{state: 25}
		for range 50 {
			list, by := s.list(int(data)*impl.Unit), s.list(int(data)*impl.Unit)
			sum := impl.AddBytes(list, by).Bytes
			row := impl.EncodeRow(data, spare, list).Blocks
			shifted := impl.ShiftRow(data, spare, row, by)
			wantBlocks(t, "a row and bytes", shifted, plainBlocks(data, spare, sum))
			wantBlocks(t, "and back", impl.ShiftRow(data, spare, shifted.Blocks, by), row)
			wantBlocks(t, "by zeros", impl.ShiftRow(data, spare, row, make([]byte, len(by))), row)
			// It asks for no row: blocks that fit nothing are summed alike.
			blocks := s.rows(int(data+spare), impl.Unit)
			want := plainBlocks(data, spare, by)
			for i := range want {
				want[i] = impl.AddBytes(want[i], blocks[i]).Bytes
			}
			wantBlocks(t, "blocks of no row", impl.ShiftRow(data, spare, blocks, by), want)
		}
	})
}

func TestRowShapesBeyondTheirBounds(t *testing.T) {
	row := impl.EncodeRow(1, 1, []byte{1, 2, 3, 4}).Blocks
	for _, c := range wrongShapes() {
		what := fmt.Sprint("shape ", c)
		wantBlocksCode(t, what, impl.EncodeRow(c[0], c[1], []byte{1, 2, 3, 4}), impl.ErrRange)
		wantBlocksCode(t, what, impl.EncodeRow(c[0], c[1], nil), impl.ErrRange)
		wantCode(t, what, impl.RowWeights(c[0], c[1], []int64{0}, 0), impl.ErrRange)
		wantCode(t, what, impl.RowWeights(c[0], c[1], nil, -1), impl.ErrRange)
		wantCode(t, what, impl.DecodeRow(c[0], c[1], row), impl.ErrRange)
		wantCode(t, what, impl.DecodeRow(c[0], c[1], nil), impl.ErrRange)
		wantCode(t, what, impl.DecodeRow(c[0], c[1], [][]byte{{1}}), impl.ErrRange)
		wantCode(t, what, impl.BlockOf(c[0], c[1], row, 0), impl.ErrRange)
		wantCode(t, what, impl.BlockOf(c[0], c[1], nil, 0), impl.ErrRange)
		wantBlocksCode(t, what, impl.ShiftRow(c[0], c[1], row, []byte{1, 2, 3, 4}), impl.ErrRange)
		wantBlocksCode(t, what, impl.ShiftRow(c[0], c[1], nil, nil), impl.ErrRange)
	}
}

func TestEncodeRowCodes(t *testing.T) {
	eachRow(t, func(t *testing.T, data, spare int64) {
		right := int(data) * impl.Unit
		for _, length := range []int{0, 1, impl.Unit - 1, impl.Unit, impl.Unit + 1, 2 * impl.Unit, 3 * impl.Unit, 4 * impl.Unit, right - 1, right + 1, 5000} {
			code := int64(impl.ErrForm)
			if length == right {
				code = impl.OK
			}
			wantBlocksCode(t, fmt.Sprint(length, " bytes"), impl.EncodeRow(data, spare, make([]byte, length)), code)
		}
	})
}

func TestRowWeightsCodes(t *testing.T) {
	eachRow(t, func(t *testing.T, data, spare int64) {
		right := placesOf(1<<data - 1)
		short, long := right[1:], append(slices.Clone(right), data)
		form := [][]int64{nil, {}, short, long, make([]int64, 5000)}
		for i := range right {
			for _, number := range []int64{-1, data + spare, data + spare + 1, math.MinInt64, math.MaxInt64} {
				other := slices.Clone(right)
				other[i] = number
				form = append(form, other)
			}
			for k := range i {
				twice, swapped := slices.Clone(right), slices.Clone(right)
				twice[i] = twice[k]
				swapped[i], swapped[k] = swapped[k], swapped[i]
				form = append(form, twice, swapped)
			}
		}
		for _, have := range form {
			for _, want := range []int64{0, -1, data + spare} {
				wantCode(t, fmt.Sprintf("have %v, want %d", have, want), impl.RowWeights(data, spare, have, want), impl.ErrForm)
			}
		}
		for _, want := range []int64{-1, data + spare, data + spare + 1, math.MinInt64, math.MaxInt64} {
			wantCode(t, fmt.Sprint("want ", want), impl.RowWeights(data, spare, right, want), impl.ErrRange)
		}
	})
}

func TestDecodeRowCodes(t *testing.T) {
	eachRow(t, func(t *testing.T, data, spare int64) {
		row := cut(make([]byte, int(data+spare)*impl.Unit), impl.Unit)
		none := make([][]byte, data+spare)
		form := [][][]byte{nil, row[1:], none[1:], append(cloneRows(row), nil), append(cloneRows(none), nil), make([][]byte, 5000)}
		for i := range row {
			for _, length := range []int{1, impl.Unit - 1, impl.Unit + 1, 2 * impl.Unit, 5000} {
				// One wrong block, whether the others are there or not.
				for _, others := range [][][]byte{row, none} {
					blocks := cloneRows(others)
					blocks[i] = make([]byte, length)
					form = append(form, blocks)
				}
			}
		}
		for _, blocks := range form {
			wantCode(t, "decoding", impl.DecodeRow(data, spare, blocks), impl.ErrForm)
			for _, want := range []int64{0, -1, data + spare} {
				wantCode(t, "a block", impl.BlockOf(data, spare, blocks, want), impl.ErrForm)
			}
		}
		wantCode(t, "none there", impl.DecodeRow(data, spare, none), impl.ErrLost)
		wantCode(t, "none there", impl.BlockOf(data, spare, none, data+spare-1), impl.ErrLost)
		for _, want := range []int64{-1, data + spare, data + spare + 1, math.MinInt64, math.MaxInt64} {
			wantCode(t, "beyond", impl.BlockOf(data, spare, row, want), impl.ErrRange)
			wantCode(t, "beyond, and none there", impl.BlockOf(data, spare, none, want), impl.ErrRange)
		}
	})
}

func TestShiftRowCodes(t *testing.T) {
	eachRow(t, func(t *testing.T, data, spare int64) {
		row := cut(make([]byte, int(data+spare)*impl.Unit), impl.Unit)
		by := make([]byte, int(data)*impl.Unit)
		wantBlocks(t, "zeros", impl.ShiftRow(data, spare, row, by), row)
		for _, blocks := range [][][]byte{nil, row[1:], append(cloneRows(row), by[:impl.Unit]), append(cloneRows(row), nil), make([][]byte, len(row))} {
			wantBlocksCode(t, "a wrong number of blocks", impl.ShiftRow(data, spare, blocks, by), impl.ErrForm)
		}
		for i := range row {
			for _, length := range []int{0, 1, impl.Unit - 1, impl.Unit + 1, 2 * impl.Unit} {
				blocks := cloneRows(row)
				blocks[i] = make([]byte, length)
				wantBlocksCode(t, "a wrong block", impl.ShiftRow(data, spare, blocks, by), impl.ErrForm)
			}
		}
		for _, length := range []int{0, 1, len(by) - 1, len(by) + 1, len(by) + impl.Unit, 5000} {
			wantBlocksCode(t, "wrong bytes", impl.ShiftRow(data, spare, row, make([]byte, length)), impl.ErrForm)
		}
	})
}

// Blocks that are there stay what they are, and nothing that is answered
// reaches an argument or another block of the answer.
func TestRowsKeepTheirArguments(t *testing.T) {
	eachRow(t, func(t *testing.T, data, spare int64) {
		s := &sequence{state: 26}
		list := roomy(s.list(int(data) * impl.Unit))
		by := roomy(s.list(int(data) * impl.Unit))
		row := roomyRows(impl.EncodeRow(data, spare, list).Blocks)
		last := masked(row, (1<<data-1)<<spare)
		arguments := [][][]byte{{list, by}, row, last}
		for name, call := range map[string]func() impl.BlocksResult{
			"EncodeRow": func() impl.BlocksResult { return impl.EncodeRow(data, spare, list) },
			"ShiftRow":  func() impl.BlocksResult { return impl.ShiftRow(data, spare, row, by) },
		} {
			wantListsKept(t, name, func() (int64, [][]byte) {
				answer := call()
				return answer.Code, answer.Blocks
			}, arguments...)
		}
		for _, blocks := range [][][]byte{row, last} {
			wantKept(t, "DecodeRow", func() impl.BytesResult { return impl.DecodeRow(data, spare, blocks) }, arguments...)
			for want := range data + spare {
				wantKept(t, "BlockOf", func() impl.BytesResult { return impl.BlockOf(data, spare, blocks, want) }, arguments...)
			}
		}
		wantKept(t, "RowFits", func() impl.BytesResult {
			if impl.RowFits(data, spare, row) {
				return impl.BytesResult{Bytes: []byte{1}}
			}
			return impl.BytesResult{}
		}, arguments...)
	})
}

func TestRowWeightsKeepHave(t *testing.T) {
	eachRow(t, func(t *testing.T, data, spare int64) {
		whole := append(placesOf(1<<data-1), 77, 78)
		before := slices.Clone(whole)
		for want := range data + spare {
			wantKept(t, "RowWeights", func() impl.BytesResult { return impl.RowWeights(data, spare, whole[:data], want) })
		}
		if !slices.Equal(whole, before) {
			t.Error("have is changed")
		}
	})
}

// An answer's blocks have no room behind them in which the next one stands.
func TestAppendedBlocksStayApart(t *testing.T) {
	eachRow(t, func(t *testing.T, data, spare int64) {
		list := (&sequence{state: 27}).list(int(data) * impl.Unit)
		want := plainBlocks(data, spare, list)
		row := impl.EncodeRow(data, spare, list)
		shifted := impl.ShiftRow(data, spare, row.Blocks, make([]byte, len(list)))
		for i := range want {
			_ = append(row.Blocks[i], 1, 2, 3)
			_ = append(shifted.Blocks[i], 1, 2, 3)
		}
		wantBlocks(t, "EncodeRow", row, want)
		wantBlocks(t, "ShiftRow", shifted, want)
	})
}
