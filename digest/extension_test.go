package digest_test

import (
	"math"
	"slices"
	"testing"

	"slatewall/api"
	"slatewall/digest"
)

// P2.1: the example of the chapter, and the other extensions to three and to four entries.
func TestExtensionByHand(t *testing.T) {
	l := []string{"a", "b", "c", "d"}
	a, b, c, d := digest.Leaf("a"), digest.Leaf("b"), digest.Leaf("c"), digest.Leaf("d")
	for _, x := range []struct {
		n, m int
		want []string
	}{
		{3, 0, nil},
		{3, 1, []string{b, c}},
		{3, 2, []string{c}},
		{3, 3, nil},
		{4, 0, nil},
		{4, 1, []string{b, digest.Node(c, d)}},
		{4, 2, []string{digest.Node(c, d)}},
		{4, 3, []string{c, d, digest.Node(a, b)}},
		{4, 4, nil},
	} {
		if proof, e := digest.Extension(l[:x.n], x.m); e != api.OK || !slices.Equal(proof, x.want) {
			t.Errorf("Extension from %d to %d = %q, %d; want %q", x.m, x.n, proof, e, x.want)
		}
	}
}

// P2.1, P2.2: extensions are what they should be, are accepted, and have at most twice as many elements as the number of entries has digits.
func TestExtensions(t *testing.T) {
	for _, n := range sizes() {
		l := entries(n)
		root := digest.Root(l)
		for m := range n + 1 {
			proof, e := digest.Extension(l, m)
			if e != api.OK || !slices.Equal(proof, plainExtension(l, m)) {
				t.Errorf("Extension from %d to %d = %q, %d", m, n, proof, e)
			}
			if !digest.VerifyExtension(digest.Root(l[:m]), m, root, n, proof) {
				t.Errorf("the extension from %d to %d is refused", m, n)
			}
			if len(proof) > 2*digits(n) {
				t.Errorf("the extension from %d to %d has %d elements", m, n, len(proof))
			}
		}
	}
}

// P2.1: numbers of entries that l does not begin with.
func TestExtensionNoNumber(t *testing.T) {
	for _, n := range []int{0, 1, 2, 3, 4, 7} {
		for _, m := range []int{-1, -2, n + 1, n + 2, math.MaxInt, math.MinInt} {
			if proof, e := digest.Extension(entries(n), m); e != api.ErrArg || len(proof) != 0 {
				t.Errorf("Extension from %d to %d = %q, %d; want ErrArg", m, n, proof, e)
			}
		}
	}
	if proof, e := digest.Extension(nil, 0); e != api.OK || len(proof) != 0 {
		t.Errorf("Extension of no list = %q, %d", proof, e)
	}
}

// wantExtension checks what VerifyExtension says, by hand and in the other way.
func wantExtension(t *testing.T, old string, m int, root string, n int, proof []string, want bool) {
	t.Helper()
	if got := digest.VerifyExtension(old, m, root, n, proof); got != want || plainVerifyExtension(old, m, root, n, proof) != want {
		t.Errorf("VerifyExtension(%x, %d, %x, %d, %x) = %v; want %v", old, m, root, n, proof, got, want)
	}
}

// P2.1: proofs that are too short, too long or changed, and roots and numbers that are none.
func TestVerifyExtensionRefuses(t *testing.T) {
	for _, n := range []int{1, 2, 3, 4, 5, 8, 11, 13} {
		l := entries(n)
		root := digest.Root(l)
		for m := 1; m <= n; m++ {
			old := digest.Root(l[:m])
			proof, _ := digest.Extension(l, m)
			wantExtension(t, old, m, root, n, proof, true)
			for _, bad := range []string{"", old[:31], old + "\x00", digest.Sum("x"), digest.Root(l[:m-1])} {
				wantExtension(t, bad, m, root, n, proof, false)
			}
			for _, bad := range []string{"", root[:31], root + "\x00", digest.Sum("x"), digest.Root(l[:n-1])} {
				wantExtension(t, old, m, bad, n, proof, false)
			}
			for _, other := range []int{-1, 0, n + 1, math.MaxInt, math.MinInt} {
				wantExtension(t, old, other, root, n, proof, false)
			}
			for _, other := range []int{-1, 0, m - 1, math.MinInt} {
				wantExtension(t, old, m, root, other, proof, false)
			}
			for k := range len(proof) + 1 {
				for _, more := range []string{old, root, digest.Sum("x")} {
					wantExtension(t, old, m, root, n, slices.Insert(slices.Clone(proof), k, more), false)
				}
			}
			for k, x := range proof {
				wantExtension(t, old, m, root, n, slices.Delete(slices.Clone(proof), k, k+1), false)
				for _, y := range []string{"", x[:31], x + "\x00", x[1:] + "\x00", digest.Sum("x")} {
					wantExtension(t, old, m, root, n, replaced(proof, k, y), false)
				}
			}
		}
	}
}

// P2.1: no entries are the beginning of every list, whatever its root is, even if it has none itself.
func TestVerifyExtensionOfNothing(t *testing.T) {
	none := digest.Sum("")
	for _, n := range []int{0, 1, 2, 7, 1 << 40, math.MaxInt} {
		for _, root := range []string{none, digest.Sum("x"), text(32)} {
			wantExtension(t, none, 0, root, n, nil, true)
			wantExtension(t, none, 0, root, n, []string{}, true)
			wantExtension(t, none, 0, root, n, []string{none}, false)
			wantExtension(t, digest.Sum("x"), 0, root, n, nil, false)
			wantExtension(t, root[:31], 0, root, n, nil, false)
			wantExtension(t, "", 0, root, n, nil, false)
			wantExtension(t, none, 0, root[:31], n, nil, false)
			wantExtension(t, none, 0, root+"x", n, nil, false)
			wantExtension(t, none, 0, "", n, nil, false)
		}
	}
	for _, n := range []int{-1, -2, math.MinInt} {
		wantExtension(t, none, 0, none, n, nil, false)
		wantExtension(t, none, n, none, n, nil, false)
		wantExtension(t, none, n, none, 0, nil, false)
	}
}

// P2.1: a list begins with itself, whatever its root is, but that must be a digest.
func TestVerifyExtensionOfAll(t *testing.T) {
	x := text(32)
	for _, n := range []int{1, 2, 3, 8, 1 << 62, math.MaxInt} {
		wantExtension(t, x, n, x, n, nil, true)
		wantExtension(t, x, n, x, n, []string{x}, false)
		wantExtension(t, x, n, digest.Sum("x"), n, nil, false)
		for _, bad := range []string{"", x[:31], x + "x"} {
			wantExtension(t, bad, n, bad, n, nil, false)
		}
	}
}

// P2.1: proofs whose elements, or whose roots, are no digests are refused, though their bytes would give the roots.
func TestVerifyExtensionNoDigests(t *testing.T) {
	for _, x := range []string{"", "x", text(31), text(33), text(64)} {
		y := text(32)
		wantExtension(t, y, 1, digest.Node(y, x), 2, []string{x}, false)
		wantExtension(t, x, 1, digest.Node(x, y), 2, []string{y}, false)
		wantExtension(t, digest.Node(y, x), 3, digest.Node(y, digest.Node(x, y)), 4, []string{x, y, y}, false)
		wantExtension(t, digest.Node(y, y), 3, digest.Node(y, digest.Node(y, x)), 4, []string{y, x, y}, false)
		wantExtension(t, digest.Node(x, y), 3, digest.Node(x, digest.Node(y, y)), 4, []string{y, y, x}, false)
	}
	y := text(32)
	wantExtension(t, y, 1, digest.Node(y, y), 2, []string{y}, true)
	wantExtension(t, digest.Node(y, y), 3, digest.Node(y, digest.Node(y, y)), 4, []string{y, y, y}, true)
}

// P2.1: with other numbers, VerifyExtension accepts what it should, and nothing else.
func TestVerifyExtensionOtherNumbers(t *testing.T) {
	r := source()
	accepted := 0
	for range 20000 {
		l := entries(1 + r.Intn(12))
		m := r.Intn(len(l) + 1)
		old, root := digest.Root(l[:m]), digest.Root(l)
		proof, _ := digest.Extension(l, m)
		other, n := r.Intn(14), r.Intn(14)
		if r.Intn(2) == 0 {
			other = m
		}
		want := plainVerifyExtension(old, other, root, n, proof)
		wantExtension(t, old, other, root, n, proof, want)
		if want && m > 0 && m < len(l) && n != len(l) {
			accepted++
		}
	}
	if accepted == 0 {
		t.Error("no proof fits two numbers of entries: nothing is tested")
	}
}

// P2.1: a list may have any number of entries; a proof whose length does not fit is refused.
func TestVerifyExtensionGreatNumbers(t *testing.T) {
	r := source()
	all := make([]string, 140)
	for k := range all {
		all[k] = text(32 + k)[:32]
	}
	for range 100 {
		n := 2 + int(r.Uint64()>>1)>>(1+r.Intn(61))
		m := 1 + r.Intn(n-1)
		if r.Intn(3) == 0 {
			n, m = math.MaxInt-r.Intn(3), 1<<62-1+r.Intn(3)
		}
		fits := 0
		for count := range all {
			old, root, ended := plainTwoRoots(text(32), m, n, all[:count])
			if ended {
				fits++
			}
			wantExtension(t, old, m, root, n, all[:count], ended)
		}
		if fits != 1 {
			t.Errorf("%d lengths of a proof from %d to %d fit", fits, m, n)
		}
	}
}

// P2.1 (R3): no argument is changed, its spare capacity is not written to, and the results share no memory.
func TestExtensionMemory(t *testing.T) {
	l := entries(13)
	spare := append(slices.Clone(l), "spare", "more")
	for m := range 14 {
		wantOwnMemory(t, func() []string {
			proof, _ := digest.Extension(spare[:13], m)
			return proof
		}, func(proof []string) bool {
			return digest.VerifyExtension(digest.Root(l[:m]), m, digest.Root(l), 13, proof)
		})
	}
	if !slices.Equal(spare, append(entries(13), "spare", "more")) {
		t.Error("the list was changed")
	}
}

// P2.1: a proof that is too short or too long is refused, though the roots are what it would give if nothing were in the place of what fails.
func TestVerifyExtensionOfEmptyString(t *testing.T) {
	x := text(32)
	root := digest.Node(x, "")
	for _, n := range []int{4, 7, 8} {
		m := n - 1
		wantExtension(t, root, m, root, n, []string{x}, false)
		wantExtension(t, digest.Node(x, root), m, digest.Node(x, root), n, []string{x, x}, false)
		wantExtension(t, digest.Node(x, root), m, digest.Node(x, root), n, []string{x, x, x, x, x, x}, false)
	}
	wantExtension(t, root, 3, digest.Node(x, digest.Node("", x)), 4, []string{x, x}, false)
	wantExtension(t, root, 3, digest.Node(root, x), 5, []string{x, x}, false)
	wantExtension(t, root, 3, root, 3, []string{x}, false)
}
