package wire_test

import (
	"math/rand"
	"strings"
	"testing"

	"slatewall/api"
	"slatewall/wire"
)

// source is the same for every run of a test.
func source() *rand.Rand { return rand.New(rand.NewSource(1)) }

// anyInt is an integer from -MaxInt to MaxInt, of any number of bits.
func anyInt(r *rand.Rand) int {
	n := int(r.Uint64()>>2) >> r.Intn(62)
	if r.Intn(2) == 0 {
		return -n
	}
	return n
}

// anyString is a string of fewer than n bytes.
func anyString(r *rand.Rand, n int) string {
	b := make([]byte, r.Intn(n))
	for i := range b {
		b[i] = byte(r.Intn(256))
	}
	return string(b)
}

// P1.4: what Int accepts is exactly what PutInt returns, for all strings of up to two bytes and many of three.
func TestIntAcceptsOnlyEncodings(t *testing.T) {
	encoded := map[string]bool{}
	for n := -1 << 20; n <= 1<<20; n++ {
		code, e := wire.PutInt(n)
		if e != api.OK || encoded[code] {
			t.Fatalf("PutInt(%d) = %q, %d: no encoding, or another integer's", n, code, e)
		}
		encoded[code] = true
	}
	for a := range 256 {
		checkAccepted(t, encoded, []byte{byte(a)})
		for b := range 256 {
			checkAccepted(t, encoded, []byte{byte(a), byte(b)})
			for _, c := range []byte{0, 1, 2, 64, 127, 128, 129, 255} {
				checkAccepted(t, encoded, []byte{byte(a), byte(b), c})
			}
		}
	}
}

// checkAccepted checks that Int accepts the beginning of a string that is an encoding, and nothing else.
func checkAccepted(t *testing.T, encoded map[string]bool, b []byte) {
	t.Helper()
	s := string(b)
	length := 0
	for k := 1; k <= len(s); k++ {
		if encoded[s[:k]] {
			length = k
			break
		}
	}
	n, next, e := wire.Int(s, 0)
	if length == 0 {
		if n != 0 || next != 0 || e != api.ErrWire {
			t.Fatalf("Int(%q, 0) = %d, %d, %d; want ErrWire", s, n, next, e)
		}
		return
	}
	if back, _ := wire.PutInt(n); e != api.OK || next != length || back != s[:length] {
		t.Fatalf("Int(%q, 0) = %d, %d, %d; that is encoded %q", s, n, next, e, back)
	}
}

// P1.4: what Int and String accept in any bytes is what PutInt and PutString return; no call panics.
func TestDecodeAnyBytes(t *testing.T) {
	r := source()
	for range 200000 {
		s := anyString(r, 24)
		at := r.Intn(28) - 2
		if n, next, e := wire.Int(s, at); e == api.OK {
			if back, f := wire.PutInt(n); f != api.OK || back != s[at:next] {
				t.Fatalf("Int(%q, %d) = %d, %d; that is encoded %q", s, at, n, next, back)
			}
		} else if n != 0 || next != 0 || (e == api.ErrArg) != (at < 0 || at > len(s)) {
			t.Fatalf("Int(%q, %d) = %d, %d, %d", s, at, n, next, e)
		}
		if u, next, e := wire.String(s, at); e == api.OK {
			if back, f := wire.PutString(u); f != api.OK || back != s[at:next] {
				t.Fatalf("String(%q, %d) = %q, %d; that is encoded %q", s, at, u, next, back)
			}
		} else if u != "" || next != 0 || (e == api.ErrArg) != (at < 0 || at > len(s)) {
			t.Fatalf("String(%q, %d) = %q, %d, %d", s, at, u, next, e)
		}
	}
}

// P1.4: Int and String return what PutInt and PutString were given, whatever surrounds the encoding.
func TestRoundTrip(t *testing.T) {
	r := source()
	for range 100000 {
		before, after := anyString(r, 12), anyString(r, 12)
		n := anyInt(r)
		code, e := wire.PutInt(n)
		if e != api.OK {
			t.Fatalf("PutInt(%d): error %d", n, e)
		}
		wantInt(t, before+code+after, len(before), n, len(before)+len(code), api.OK)
		s := anyString(r, 200)
		code, e = wire.PutString(s)
		if e != api.OK {
			t.Fatalf("PutString(%q): error %d", s, e)
		}
		wantString(t, before+code+after, len(before), s, len(before)+len(code), api.OK)
	}
}

// P1.4: no encoding begins another one, of integers or of strings.
func TestPrefixFree(t *testing.T) {
	r := source()
	ints := map[string]int{}
	texts := map[string]string{}
	for range 400 {
		n := anyInt(r)
		code, _ := wire.PutInt(n)
		ints[code] = n
		s := anyString(r, 6)
		code, _ = wire.PutString(s)
		texts[code] = s
	}
	for a, m := range ints {
		for b, n := range ints {
			if m != n && strings.HasPrefix(b, a) {
				t.Fatalf("the encoding %q of %d begins the encoding %q of %d", a, m, b, n)
			}
		}
	}
	for a, u := range texts {
		for b, v := range texts {
			if u != v && strings.HasPrefix(b, a) {
				t.Fatalf("the encoding %q of %q begins the encoding %q of %q", a, u, b, v)
			}
		}
	}
}

// P1.4: a concatenation of encodings is decoded to what was encoded, and ends where it ends.
func TestConcatenation(t *testing.T) {
	r := source()
	for range 2000 {
		ints := make([]int, r.Intn(8))
		texts := make([]string, len(ints))
		all := ""
		for i := range ints {
			ints[i] = anyInt(r)
			texts[i] = anyString(r, 100)
			a, _ := wire.PutInt(ints[i])
			b, _ := wire.PutString(texts[i])
			all += a + b
		}
		at := 0
		for i := range ints {
			n, next, e := wire.Int(all, at)
			s, after, f := wire.String(all, next)
			if e != api.OK || f != api.OK || n != ints[i] || s != texts[i] {
				t.Fatalf("part %d of %q: %d, %d, %q, %d", i, all, n, e, s, f)
			}
			at = after
		}
		if at != len(all) {
			t.Fatalf("%q ends at %d, not at %d", all, len(all), at)
		}
	}
}

// flip changes bits of a string from bit first on, as pattern says; the bits of each byte are counted from the lowest one.
func flip(s string, first int, pattern uint32) string {
	b := []byte(s)
	for k := range 32 {
		if pattern>>k&1 == 1 {
			b[(first+k)/8] ^= 1 << ((first + k) % 8)
		}
	}
	return string(b)
}

// P1.4: a change of at most 10 consecutive bits changes the checksum: all such changes.
func TestSumShortChanges(t *testing.T) {
	s := text(40)
	sum := wire.Sum(s)
	for first := range 8 * 32 {
		for pattern := uint32(1); pattern < 1<<10; pattern++ {
			if wire.Sum(flip(s, first, pattern)) == sum {
				t.Fatalf("bits %x from %d on change nothing", pattern, first)
			}
		}
	}
}

// P1.4: a change of at most 32 consecutive bits changes the checksum: many changes, among them that of the register's own pattern.
func TestSumLongChanges(t *testing.T) {
	r := source()
	for _, n := range []int{4, 5, 8, 64, 300} {
		s := text(n)
		sum := wire.Sum(s)
		for first := range 8*n - 31 {
			patterns := []uint32{0xFFFFFFFF, 0x80000001, 0x82F63B78, 0x05EC76F1, r.Uint32() | 1, r.Uint32() | 1<<31}
			for _, pattern := range patterns {
				if wire.Sum(flip(s, first, pattern)) == sum {
					t.Fatalf("of %d bytes, bits %x from %d on change nothing", n, pattern, first)
				}
			}
		}
	}
}
