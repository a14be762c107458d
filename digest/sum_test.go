package digest_test

import (
	"strings"
	"testing"

	"slatewall/digest"
)

// P2.1: digests that are known from elsewhere, the examples of the chapter among them.
func TestSumKnown(t *testing.T) {
	for _, c := range []struct{ s, want string }{
		{"", "e3b0c44298fc1c149afbf4c8996fb92427ae41e4649b934ca495991b7852b855"},
		{"abc", "ba7816bf8f01cfea414140de5dae2223b00361a396177a9cb410ff61f20015ad"},
		{"abcdbcdecdefdefgefghfghighijhijkijkljklmklmnlmnomnopnopq", "248d6a61d20638b8e5c026930c3e6039a33ce45964ff2167f6ecedd419db06c1"},
		{strings.Repeat("a", 1000000), "cdc76e5c9914fb9281a1c7e284d73e67f1809a48a497200e046d39ccc7112cd0"},
		{"\xbd", "68325720aabd7c82f30f554b313d0570c95accbb7dc4b5aae11204c08ffe732b"},
	} {
		wantHex(t, "Sum", digest.Sum(c.s), c.want)
	}
	wantHex(t, "Leaf", digest.Leaf("abc"), "609f6e36d2405585188d5cfd761f407c7cc46a7d3f314c88270469dde315fcd1")
	wantHex(t, "Chain", digest.Chain("a", "bc"), "909ac45e439911193205994d09399c29fede977ab212605f29ead5250a812e73")
	wantHex(t, "Node", digest.Node("ab", "c"), "1e18834c426d00e57788444cb3ccd62c771b420c095bb0c4e040a8c122c4570d")
}

// P2.1: all lengths to beyond some blocks: from 56 bytes of the last block on, the padding takes one more.
func TestSumLengths(t *testing.T) {
	for n := range 400 {
		for _, s := range []string{text(n), strings.Repeat("\x00", n), strings.Repeat("\xff", n), strings.Repeat("\x80", n)} {
			if digest.Sum(s) != plainSum(s) {
				t.Errorf("Sum of %d bytes, %.20q..: wrong", n, s)
			}
			if digest.Leaf(s) != plainSum("\x00", s) {
				t.Errorf("Leaf of %d bytes, %.20q..: wrong", n, s)
			}
		}
	}
}

// P2.1: the length of a long string takes several bytes.
func TestSumLong(t *testing.T) {
	for _, n := range []int{8191, 8192, 65535, 65536, 1<<21 - 1, 1 << 21, 1<<24 + 55, 1<<24 + 56} {
		if s := text(n); digest.Sum(s) != plainSum(s) {
			t.Errorf("Sum of %d bytes: wrong", n)
		}
	}
	r := source()
	for range 2000 {
		if s := text(r.Intn(3000)); digest.Sum(s) != plainSum(s) {
			t.Errorf("Sum of %d bytes: wrong", len(s))
		}
	}
}

// P2.1: two parts are digested one after the other, whatever their lengths are: they need not be digests.
func TestTwoParts(t *testing.T) {
	for n := range 140 {
		for m := range 140 {
			a, b := text(n), text(200+m)
			if digest.Chain(a, b) != plainSum("\x02", a, b) {
				t.Errorf("Chain of %d and %d bytes: wrong", n, m)
			}
			if digest.Node(a, b) != plainSum("\x01", a, b) {
				t.Errorf("Node of %d and %d bytes: wrong", n, m)
			}
		}
	}
	long := text(100000)
	if digest.Chain(long, long) != plainSum("\x02", long, long) || digest.Node(long, "") != plainSum("\x01", long) {
		t.Error("long parts: wrong")
	}
}

// P2.1: only the joined bytes count, not where they are parted; the marks keep leaves, nodes and chains apart.
func TestMarks(t *testing.T) {
	if digest.Chain("ab", "c") != digest.Chain("a", "bc") || digest.Node("", "abc") != digest.Node("abc", "") {
		t.Error("the same bytes have different digests")
	}
	for _, s := range []string{"", "abc", text(64), text(65)} {
		all := map[string]bool{digest.Sum(s): true, digest.Leaf(s): true, digest.Node(s, ""): true, digest.Chain("", s): true}
		if len(all) != 4 {
			t.Errorf("of %.20q.., two marks have the same digest", s)
		}
		if digest.Leaf(s) != digest.Sum("\x00"+s) || digest.Node("", s) != digest.Sum("\x01"+s) || digest.Chain(s, "") != digest.Sum("\x02"+s) {
			t.Errorf("of %.20q..: other marks", s)
		}
	}
}

// P2.1: a digest has 32 bytes.
func TestDigestSize(t *testing.T) {
	for _, s := range []string{
		digest.Sum(""), digest.Sum("abc"), digest.Chain("", ""), digest.Leaf(""), digest.Node("", ""),
		digest.Root(nil), digest.Root([]string{""}), digest.Root(entries(7)),
	} {
		if len(s) != 32 {
			t.Errorf("a digest of %d bytes", len(s))
		}
	}
}
