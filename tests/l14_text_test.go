package tests

import (
	"encoding/hex"
	"fmt"
	"slices"
	"strings"
	"testing"

	"loop.example/g00089/impl"
)

// allBytes are the 256 that there are.
func allBytes() []byte {
	list := make([]byte, 256)
	for i := range list {
		list[i] = byte(i)
	}
	return list
}

func TestHexOf(t *testing.T) {
	for _, c := range []struct {
		list []byte
		want string
	}{
		{nil, ""}, {[]byte{}, ""}, {[]byte{0}, "00"}, {[]byte{1, 254}, "01fe"}, {[]byte{9, 10, 15, 16, 159, 160}, "090a0f109fa0"}, {[]byte{255, 255}, "ffff"},
	} {
		if got := impl.HexOf(c.list); got != c.want {
			t.Errorf("%v: %q, want %q", c.list, got, c.want)
		}
	}
	q := &sequence{state: 1400}
	for _, list := range [][]byte{allBytes(), q.list(80), q.list(81), q.list(4001)} {
		if got := impl.HexOf(list); got != hex.EncodeToString(list) {
			t.Errorf("%v: %q", list, got)
		}
		list = roomy(list)
		wantNew(t, "HexOf", func() string { return impl.HexOf(list) }, list)
	}
	for b := range 256 {
		if got := impl.HexOf([]byte{byte(b)}); got != fmt.Sprintf("%02x", b) {
			t.Errorf("%d: %q", b, got)
		}
	}
}

// A text of as many bytes as may be is read, and tells half as many.
func TestBytesOfHex(t *testing.T) {
	q := &sequence{state: 1401}
	for length := range 41 {
		list := q.list(length)
		wantBytes(t, fmt.Sprint(length, " bytes"), impl.BytesOfHex(impl.HexOf(list)), list)
	}
	for _, b := range allBytes() {
		wantBytes(t, fmt.Sprint("byte ", b), impl.BytesOfHex(impl.HexOf([]byte{b, 255 - b})), []byte{b, 255 - b})
	}
	for length := 41; length < 60; length++ {
		wantCode(t, fmt.Sprint(length, " bytes"), impl.BytesOfHex(impl.HexOf(q.list(length))), impl.ErrMany)
	}
	for _, text := range []string{"", "00", impl.HexOf(q.list(40)), impl.HexOf(q.list(41)), "0", "zz"} {
		wantNew(t, text, func() impl.BytesResult { return impl.BytesOfHex(text) })
	}
}

func TestTextsThatAreNoHex(t *testing.T) {
	for _, text := range []string{"0", "000", "f", "0a0", "A0", "0A", "aF", "0g", "g0", "0G", " 0", "0 ", "00 ", " 00", "0 0", "-1", "+1", "0x", "x0", "0x00", "0_", "\x00\x00", "0\x00",
		"/0", "0/", ":0", "0:", "`0", "0`", "{0", "0\n", "\n", "00\n", "0\r", "\t0", "\xff\xff", "0\xff", "\xff0", "\xc3\xa9", "é", "é0", "0é0", "０", "０0", "٠", "00é", "é00", "\xef\xbf\xbd", "\xef\xbf\xbd0"} {
		wantCode(t, fmt.Sprintf("%q", text), impl.BytesOfHex(text), impl.ErrText)
	}
	right := strings.Repeat("0f", 40)
	for place := range 80 {
		for b := range 256 {
			text := right[:place] + string([]byte{byte(b)}) + right[place+1:]
			told := impl.BytesOfHex(text)
			if want, err := hex.DecodeString(text); err != nil || strings.ToLower(text) != text {
				wantCode(t, fmt.Sprintf("%q", text), told, impl.ErrText)
			} else {
				wantBytes(t, fmt.Sprintf("%q", text), told, want)
			}
		}
	}
}

// That there are too many is asked ahead of what they are.
func TestTextsThatAreTooLong(t *testing.T) {
	for _, sign := range []string{"0", "f", "F", "z", " ", "\n", "\xff", "\x00"} {
		for length := range 200 {
			code := int64(impl.OK)
			switch {
			case length > 80:
				code = impl.ErrMany
			case length%2 == 1 || length > 0 && sign != "0" && sign != "f":
				code = impl.ErrText
			}
			wantCode(t, fmt.Sprintf("%d of %q", length, sign), impl.BytesOfHex(strings.Repeat(sign, length)), code)
		}
	}
	// It is bytes that are too many, not signs.
	wantCode(t, "40 signs of 2 bytes", impl.BytesOfHex(strings.Repeat("é", 40)), impl.ErrText)
	wantCode(t, "41 signs of 2 bytes", impl.BytesOfHex(strings.Repeat("é", 41)), impl.ErrMany)
	wantCode(t, "very many", impl.BytesOfHex(strings.Repeat("00", 100000)), impl.ErrMany)
}

func wantWords(t *testing.T, line string, want ...string) {
	t.Helper()
	if got := impl.WordsOf(line); !slices.Equal(got, want) {
		t.Errorf("%q: %q, want %q", line, got, want)
	}
}

func TestWordsOf(t *testing.T) {
	wantWords(t, "")
	wantWords(t, " ")
	wantWords(t, "      ")
	wantWords(t, "a", "a")
	wantWords(t, " a", "a")
	wantWords(t, "a ", "a")
	wantWords(t, "   a   ", "a")
	wantWords(t, "put a 0102", "put", "a", "0102")
	wantWords(t, "  put   a  0102 ", "put", "a", "0102")
	wantWords(t, "a a a", "a", "a", "a")
	for _, sign := range []string{"\t", "\n", "\r", "\v", "\f", "\x00", "\x7f", "\x1f", "!", "\u0085", "\u00a0", "\u2003", "\u3000", "\xff", "\xa0", "\x85", "\xe2\x80", "\xef\xbf\xbd"} {
		wantWords(t, sign, sign)
		wantWords(t, "a"+sign+"b", "a"+sign+"b")
		wantWords(t, " "+sign+" "+sign+"c "+sign, sign, sign+"c", sign)
	}
	long := strings.Repeat("x", 5000)
	wantWords(t, long+" "+long+" ", long, long)
	wantWords(t, string(allBytes()), string(allBytes()[:32]), string(allBytes()[33:]))
}

// Words are the longest pieces: with one blank between them they are the line
// again, but for the blanks that were more.
func TestWordsOfManyLines(t *testing.T) {
	q := &sequence{state: 1402}
	for range 4000 {
		signs := []string{" ", " ", "  ", "a", "\xff", "é", "\n", "0"}
		line := ""
		for range q.pick(12) {
			line += signs[q.pick(int64(len(signs)))]
		}
		want := []string{}
		for _, piece := range strings.Split(line, " ") {
			if piece != "" {
				want = append(want, piece)
			}
		}
		wantWords(t, line, want...)
		wantNew(t, line, func() []string { return impl.WordsOf(line) })
	}
}
