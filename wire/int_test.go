package wire_test

import (
	"math"
	"math/bits"
	"testing"

	"slatewall/api"
	"slatewall/wire"
)

// encodings are integers with their encodings, at each number of bytes the least and the greatest ones.
var encodings = []struct {
	n    int
	code string
}{
	{0, "\x00"},
	{1, "\x02"},
	{-1, "\x01"},
	{63, "\x7e"},
	{-64, "\x7f"},
	{64, "\x80\x01"},
	{-65, "\x81\x01"},
	{150, "\xac\x02"},
	{-150, "\xab\x02"},
	{8191, "\xfe\x7f"},
	{-8192, "\xff\x7f"},
	{8192, "\x80\x80\x01"},
	{-8193, "\x81\x80\x01"},
	{1 << 31, "\x80\x80\x80\x80\x10"},
	{-1 << 31, "\xff\xff\xff\xff\x0f"},
	{1<<55 - 1, "\xfe\xff\xff\xff\xff\xff\xff\x7f"},
	{-1 << 55, "\xff\xff\xff\xff\xff\xff\xff\x7f"},
	{1 << 55, "\x80\x80\x80\x80\x80\x80\x80\x80\x01"},
	{-1<<55 - 1, "\x81\x80\x80\x80\x80\x80\x80\x80\x01"},
	{api.MaxInt - 1, "\xfc\xff\xff\xff\xff\xff\xff\xff\x7f"},
	{-api.MaxInt + 1, "\xfb\xff\xff\xff\xff\xff\xff\xff\x7f"},
	{api.MaxInt, "\xfe\xff\xff\xff\xff\xff\xff\xff\x7f"},
	{-api.MaxInt, "\xfd\xff\xff\xff\xff\xff\xff\xff\x7f"},
}

// wantInt checks what Int returns.
func wantInt(t *testing.T, s string, at int, n int, next int, e api.Errno) {
	t.Helper()
	if n1, next1, e1 := wire.Int(s, at); n1 != n || next1 != next || e1 != e {
		t.Errorf("Int(%.40q, %d) = %d, %d, %d; want %d, %d, %d", s, at, n1, next1, e1, n, next, e)
	}
}

// wantPutInt checks what PutInt returns.
func wantPutInt(t *testing.T, n int, code string, e api.Errno) {
	t.Helper()
	if code1, e1 := wire.PutInt(n); code1 != code || e1 != e {
		t.Errorf("PutInt(%d) = %q, %d; want %q, %d", n, code1, e1, code, e)
	}
}

// P1.1: integers are encoded and decoded, whatever surrounds the encoding.
func TestIntegers(t *testing.T) {
	for _, c := range encodings {
		wantPutInt(t, c.n, c.code, api.OK)
		wantInt(t, c.code, 0, c.n, len(c.code), api.OK)
		wantInt(t, "\xff\x00"+c.code+"\xff\xff", 2, c.n, 2+len(c.code), api.OK)
	}
}

// P1.1: what lies beyond MaxInt and -MaxInt is not encoded.
func TestPutIntOutOfRange(t *testing.T) {
	for _, n := range []int{api.MaxInt + 1, -api.MaxInt - 1, api.MaxInt + 2, -api.MaxInt - 2, math.MaxInt, math.MinInt, math.MinInt + 1} {
		wantPutInt(t, n, "", api.ErrWire)
	}
}

// P1.1: encodings that are cut, that have a superfluous zero group, or that say a number out of range.
func TestIntNoEncoding(t *testing.T) {
	for _, s := range []string{
		"",
		"\x80",
		"\xff\xff",
		"\xff\xff\xff\xff\xff\xff\xff\xff",
		"\xff\xff\xff\xff\xff\xff\xff\xff\xff",
		"\x80\x00",
		"\xff\x00",
		"\x80\x80\x00",
		"\xff\xff\xff\xff\xff\xff\xff\xff\x00",
		"\xfe\xff\xff\xff\xff\xff\xff\xff\xff\x00",
		"\x80\x80\x80\x80\x80\x80\x80\x80\x80\x00",
		"\xff\xff\xff\xff\xff\xff\xff\xff\x7f",
		"\x80\x80\x80\x80\x80\x80\x80\x80\x80\x01",
		"\xfe\xff\xff\xff\xff\xff\xff\xff\xff\x01",
		"\x80\x80\x80\x80\x80\x80\x80\x80\x80\x80\x01",
		"\x82\x80\x80\x80\x80\x80\x80\x80\x80\x02",
		"\xff\xff\xff\xff\xff\xff\xff\xff\xff\xff\xff\xff\xff\xff\xff\xff\x7f",
	} {
		wantInt(t, s, 0, 0, 0, api.ErrWire)
		wantInt(t, "\x02"+s, 1, 0, 0, api.ErrWire)
	}
}

// P1.1: every encoding that is cut anywhere is none.
func TestIntCut(t *testing.T) {
	for _, c := range encodings {
		for k := range len(c.code) {
			wantInt(t, c.code[:k], 0, 0, 0, api.ErrWire)
		}
	}
}

// P1.1: the end of a string is an offset into it, and what lies outside is none; that error comes first.
func TestIntOffsets(t *testing.T) {
	for _, s := range []string{"", "\x02", "\x80", "\x80\x00", "\x02\x02\x02"} {
		for _, at := range []int{-1, -2, len(s) + 1, len(s) + 2, math.MaxInt, math.MinInt} {
			wantInt(t, s, at, 0, 0, api.ErrArg)
		}
		wantInt(t, s, len(s), 0, 0, api.ErrWire)
	}
	wantInt(t, "\x02\x04\x06", 0, 1, 1, api.OK)
	wantInt(t, "\x02\x04\x06", 1, 2, 2, api.OK)
	wantInt(t, "\x02\x04\x06", 2, 3, 3, api.OK)
	wantInt(t, "\xac\x02", 1, 1, 2, api.OK)
}

// P1.1: the encoding is the LEB128 encoding of z, at all powers of 2 and near them.
func TestPutIntNearPowers(t *testing.T) {
	for k := range 62 {
		for _, n := range []int{1<<k - 1, 1 << k, 1<<k + 1} {
			if n > api.MaxInt {
				continue
			}
			wantPutInt(t, n, plainLEB(2*uint64(n)), api.OK)
			if n > 0 {
				wantPutInt(t, -n, plainLEB(2*uint64(n)-1), api.OK)
			}
		}
	}
}

// plainLEB is the unsigned LEB128 encoding of z, as the chapter tells it: the number of groups first, and then each of them.
func plainLEB(z uint64) string {
	count := max(1, (bits.Len64(z)+6)/7)
	code := make([]byte, count)
	for i := range code {
		code[i] = byte(z >> (7 * i) & 127)
		if i < count-1 {
			code[i] += 128
		}
	}
	return string(code)
}
