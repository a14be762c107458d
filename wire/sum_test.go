package wire_test

import (
	"hash/crc32"
	"strings"
	"testing"

	"slatewall/wire"
)

// plainSum is the checksum as the chapter defines it, bit by bit.
func plainSum(s string) int {
	register := uint32(0xFFFFFFFF)
	for i := range len(s) {
		register ^= uint32(s[i])
		for range 8 {
			out := register & 1
			register >>= 1
			if out == 1 {
				register ^= 0x82F63B78
			}
		}
	}
	return int(^register)
}

// P1.3: checksums that are known from elsewhere.
func TestSumKnown(t *testing.T) {
	rising := make([]byte, 32)
	falling := make([]byte, 32)
	for i := range 32 {
		rising[i] = byte(i)
		falling[i] = byte(31 - i)
	}
	for _, c := range []struct {
		s   string
		sum int
	}{
		{"", 0},
		{"a", 0xC1D04330},
		{"123456789", 3808858755},
		{strings.Repeat("\x00", 32), 0x8A9136AA},
		{strings.Repeat("\xff", 32), 0x62A8AB43},
		{string(rising), 0x46DD794E},
		{string(falling), 0x113FDB5C},
	} {
		if sum := wire.Sum(c.s); sum != c.sum {
			t.Errorf("Sum(%q) = %x, want %x", c.s, sum, c.sum)
		}
	}
}

// P1.3: every string of one byte and of two.
func TestSumShort(t *testing.T) {
	for a := range 256 {
		one := string([]byte{byte(a)})
		if sum := wire.Sum(one); sum != plainSum(one) {
			t.Fatalf("Sum(%q) = %x, want %x", one, sum, plainSum(one))
		}
		for b := range 256 {
			two := string([]byte{byte(a), byte(b)})
			if sum := wire.Sum(two); sum != plainSum(two) {
				t.Fatalf("Sum(%q) = %x, want %x", two, sum, plainSum(two))
			}
		}
	}
}

// P1.3: longer strings, and from 0 to 4294967295.
func TestSumLong(t *testing.T) {
	table := crc32.MakeTable(crc32.Castagnoli)
	for _, n := range []int{3, 4, 5, 15, 16, 17, 255, 256, 1000, 65536, 100001} {
		s := text(n)
		sum := wire.Sum(s)
		if sum != plainSum(s) || sum != int(crc32.Checksum([]byte(s), table)) {
			t.Errorf("Sum of %d bytes = %x, want %x", n, sum, plainSum(s))
		}
		if sum < 0 || sum > 4294967295 {
			t.Errorf("Sum of %d bytes = %d is out of range", n, sum)
		}
	}
}
