package wire_test

import (
	"math"
	"testing"

	"slatewall/api"
	"slatewall/wire"
)

// text is a string of n bytes in which neighbouring bytes differ.
func text(n int) string {
	b := make([]byte, n)
	for i := range b {
		b[i] = byte(i*7 + i>>8)
	}
	return string(b)
}

// wantString checks what String returns.
func wantString(t *testing.T, s string, at int, want string, next int, e api.Errno) {
	t.Helper()
	if got, next1, e1 := wire.String(s, at); got != want || next1 != next || e1 != e {
		t.Errorf("String(%.40q, %d) = %.40q, %d, %d; want %.40q, %d, %d", s, at, got, next1, e1, want, next, e)
	}
}

// P1.2: strings are encoded and decoded, whatever surrounds the encoding.
func TestStrings(t *testing.T) {
	for _, c := range []struct{ s, length string }{
		{"", "\x00"},
		{"a", "\x02"},
		{"ab", "\x04"},
		{"\x00", "\x02"},
		{"\xff\x80\x00", "\x06"},
		{"äöü", "\x0c"},
		{text(63), "\x7e"},
		{text(64), "\x80\x01"},
		{text(8191), "\xfe\x7f"},
		{text(8192), "\x80\x80\x01"},
		{text(api.MaxString - 1), "\xfe\xff\x07"},
		{text(api.MaxString), "\x80\x80\x08"},
	} {
		code, e := wire.PutString(c.s)
		if code != c.length+c.s || e != api.OK {
			t.Errorf("PutString(%.40q) = %.40q, %d", c.s, code, e)
		}
		wantString(t, code, 0, c.s, len(code), api.OK)
		wantString(t, "\x80\x02"+code+"\x00", 2, c.s, 2+len(code), api.OK)
	}
}

// P1.2: a string of more than MaxString bytes is not encoded.
func TestPutStringTooLong(t *testing.T) {
	for _, n := range []int{api.MaxString + 1, api.MaxString + 2, 2 * api.MaxString} {
		if code, e := wire.PutString(text(n)); code != "" || e != api.ErrWire {
			t.Errorf("PutString of %d bytes = %.40q, %d; want ErrWire", n, code, e)
		}
	}
}

// P1.2: no encoding of an integer from 0 to MaxString, or fewer bytes than it says.
func TestStringNoEncoding(t *testing.T) {
	for _, s := range []string{
		"",
		"\x02",
		"\x04a",
		"\x06ab",
		"\x01",
		"\x01abc",
		"\x03abc",
		"\x7fabc",
		"\x80",
		"\x82\x00a",
		"\x80\x00",
		"\x80\x80\x08" + text(api.MaxString-1),
		"\x82\x80\x08" + text(api.MaxString+1),
		"\x82\x80\x08" + text(api.MaxString+2),
		"\x81\x80\x08" + text(api.MaxString+1),
		"\xfe\xff\xff\xff\xff\xff\xff\xff\x7fabc",
		"\xfd\xff\xff\xff\xff\xff\xff\xff\x7fabc",
		"\xff\xff\xff\xff\xff\xff\xff\xff\x7fabc",
	} {
		wantString(t, s, 0, "", 0, api.ErrWire)
		wantString(t, "\x00"+s, 1, "", 0, api.ErrWire)
	}
}

// P1.2: every encoding that is cut anywhere is none.
func TestStringCut(t *testing.T) {
	for _, n := range []int{0, 1, 2, 63, 64, 200} {
		code, _ := wire.PutString(text(n))
		for k := range len(code) {
			wantString(t, code[:k], 0, "", 0, api.ErrWire)
		}
	}
}

// P1.2: the end of a string is an offset into it, and what lies outside is none; that error comes first.
func TestStringOffsets(t *testing.T) {
	for _, s := range []string{"", "\x00", "\x04a", "\x04ab", "\x01", "\x80"} {
		for _, at := range []int{-1, -2, len(s) + 1, len(s) + 2, math.MaxInt, math.MinInt} {
			wantString(t, s, at, "", 0, api.ErrArg)
		}
		wantString(t, s, len(s), "", 0, api.ErrWire)
	}
	wantString(t, "\x04ab\x00\x02c", 0, "ab", 3, api.OK)
	wantString(t, "\x04ab\x00\x02c", 3, "", 4, api.OK)
	wantString(t, "\x04ab\x00\x02c", 4, "c", 6, api.OK)
}
