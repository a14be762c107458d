package digest_test

import (
	"math"
	"slices"
	"testing"

	"slatewall/api"
	"slatewall/digest"
)

// sizes are numbers of entries: all small ones, and powers of two with their neighbours.
func sizes() []int {
	var all []int
	for n := range 36 {
		all = append(all, n)
	}
	return append(all, 63, 64, 65, 100, 127, 128, 129)
}

// P2.1: roots that are put together by hand.
func TestRootByHand(t *testing.T) {
	leaf, node := digest.Leaf, digest.Node
	l := []string{"a", "b", "c", "d", "e", "f", "g"}
	ab, cd, ef := node(leaf("a"), leaf("b")), node(leaf("c"), leaf("d")), node(leaf("e"), leaf("f"))
	for n, want := range []string{
		digest.Sum(""),
		leaf("a"),
		ab,
		node(ab, leaf("c")),
		node(ab, cd),
		node(node(ab, cd), leaf("e")),
		node(node(ab, cd), ef),
		node(node(ab, cd), node(ef, leaf("g"))),
	} {
		if digest.Root(l[:n]) != want {
			t.Errorf("the root of %d entries is wrong", n)
		}
	}
	if digest.Root([]string{}) != digest.Sum("") || digest.Root([]string{""}) != leaf("") || digest.Root([]string{"", ""}) != node(leaf(""), leaf("")) {
		t.Error("empty lists or entries have other roots")
	}
}

// P2.1: roots of lists of all sizes, and of equal entries.
func TestRoots(t *testing.T) {
	for _, n := range append(sizes(), 1000, 1<<14, 1<<14+1) {
		l := entries(min(n, 500))
		for len(l) < n {
			l = append(l, text(len(l)%90))
		}
		if digest.Root(l) != plainRoot(l) {
			t.Errorf("the root of %d entries is wrong", n)
		}
		same := slices.Repeat([]string{"a"}, n)
		if digest.Root(same) != plainRoot(same) {
			t.Errorf("the root of %d equal entries is wrong", n)
		}
	}
}

// P2.1: the example of the chapter, and the other proofs in a list with three entries.
func TestProofByHand(t *testing.T) {
	l := []string{"a", "b", "c"}
	a, b, c := digest.Leaf("a"), digest.Leaf("b"), digest.Leaf("c")
	for i, want := range [][]string{{b, c}, {a, c}, {digest.Node(a, b)}} {
		if proof, e := digest.Proof(l, i); e != api.OK || !slices.Equal(proof, want) {
			t.Errorf("Proof of %d = %q, %d; want %q", i, proof, e, want)
		}
	}
	if proof, e := digest.Proof([]string{"a"}, 0); e != api.OK || len(proof) != 0 {
		t.Errorf("Proof in a list of one entry = %q, %d", proof, e)
	}
}

// P2.1, P2.2: proofs are what they should be, are accepted, and have at most as many elements as the number of entries has digits.
func TestProofs(t *testing.T) {
	for _, n := range sizes() {
		l := entries(n)
		root := digest.Root(l)
		for i, s := range l {
			proof, e := digest.Proof(l, i)
			if e != api.OK || !slices.Equal(proof, plainProof(l, i)) {
				t.Errorf("Proof of %d of %d entries = %q, %d", i, n, proof, e)
			}
			if !digest.Verify(root, n, i, s, proof) {
				t.Errorf("the proof of %d of %d entries is refused", i, n)
			}
			if len(proof) > digits(n) {
				t.Errorf("the proof of %d of %d entries has %d elements", i, n, len(proof))
			}
		}
	}
}

// digits is how many binary digits n has.
func digits(n int) int {
	count := 0
	for n > 0 {
		n, count = n/2, count+1
	}
	return count
}

// P2.1: indices that are none.
func TestProofNoEntry(t *testing.T) {
	for _, n := range []int{0, 1, 2, 3, 4, 7} {
		for _, i := range []int{-1, -2, n, n + 1, math.MaxInt, math.MinInt} {
			if proof, e := digest.Proof(entries(n), i); e != api.ErrArg || len(proof) != 0 {
				t.Errorf("Proof of %d of %d entries = %q, %d; want ErrArg", i, n, proof, e)
			}
		}
	}
	if _, e := digest.Proof(nil, 0); e != api.ErrArg {
		t.Errorf("Proof in no list: error %d", e)
	}
}

// wantVerify checks what Verify says, by hand and in the other way.
func wantVerify(t *testing.T, root string, n int, i int, s string, proof []string, want bool) {
	t.Helper()
	if got := digest.Verify(root, n, i, s, proof); got != want || plainVerify(root, n, i, s, proof) != want {
		t.Errorf("Verify(%x, %d, %d, %.20q, %x) = %v; want %v", root, n, i, s, proof, got, want)
	}
}

// P2.1: proofs that are too short, too long or changed, and roots, numbers and indices that are none.
func TestVerifyRefuses(t *testing.T) {
	for _, n := range []int{1, 2, 3, 4, 5, 8, 11} {
		l := entries(n)
		root := digest.Root(l)
		for i, s := range l {
			proof, _ := digest.Proof(l, i)
			wantVerify(t, root, n, i, s, proof, true)
			wantVerify(t, root, n, i, s+"x", proof, false)
			wantVerify(t, root[:31], n, i, s, proof, false)
			wantVerify(t, root+"\x00", n, i, s, proof, false)
			wantVerify(t, "", n, i, s, proof, false)
			wantVerify(t, digest.Root(l[:n-1]), n, i, s, proof, false)
			for _, other := range []int{-1, -n, n, n + 1, math.MaxInt, math.MinInt} {
				wantVerify(t, root, n, other, s, proof, false)
			}
			for _, other := range []int{0, -1, i, i - n, math.MinInt} {
				wantVerify(t, root, other, i, s, proof, false)
			}
			for k := range len(proof) + 1 {
				for _, more := range []string{root, digest.Leaf(s), digest.Sum("x")} {
					wantVerify(t, root, n, i, s, slices.Insert(slices.Clone(proof), k, more), false)
				}
			}
			for k, x := range proof {
				wantVerify(t, root, n, i, s, slices.Delete(slices.Clone(proof), k, k+1), false)
				for _, y := range []string{"", x[:31], x + "\x00", x[1:] + "\x00", root} {
					wantVerify(t, root, n, i, s, replaced(proof, k, y), false)
				}
			}
		}
	}
}

// replaced is a proof with another element.
func replaced(proof []string, k int, x string) []string {
	changed := slices.Clone(proof)
	changed[k] = x
	return changed
}

// P2.1: a proof whose elements are no digests is refused, though it would give the root.
func TestVerifyNoDigests(t *testing.T) {
	for _, x := range []string{"", "x", text(31), text(33), text(64)} {
		wantVerify(t, digest.Node(digest.Leaf("a"), x), 2, 0, "a", []string{x}, false)
		wantVerify(t, digest.Node(x, digest.Leaf("a")), 2, 1, "a", []string{x}, false)
		wantVerify(t, digest.Leaf("a"), 1, 0, "a", []string{x}, false)
	}
	x := text(32)
	wantVerify(t, digest.Node(digest.Leaf("a"), x), 2, 0, "a", []string{x}, true)
	wantVerify(t, digest.Node(x, digest.Leaf("a")), 2, 1, "a", []string{x}, true)
}

// P2.1: a list may have any number of entries; only the way to the entry counts.
func TestVerifyGreatNumbers(t *testing.T) {
	r := source()
	numbers := []int{math.MaxInt, math.MaxInt - 1, 1 << 62, 1<<62 + 1, 1<<62 - 1, 1<<31 + 1}
	for range 40 {
		numbers = append(numbers, 1+int(r.Uint64()>>1)>>r.Intn(62))
	}
	for _, n := range numbers {
		for _, i := range []int{0, n - 1, n / 2, r.Intn(n), n, -1} {
			checkGreatProof(t, n, i)
		}
	}
}

// checkGreatProof makes a proof of the length that fits, with the root that it gives, and changes its length.
func checkGreatProof(t *testing.T, n int, i int) {
	t.Helper()
	all := make([]string, 70)
	for k := range all {
		all[k] = text(32 + k)[:32]
	}
	fits := -1
	for count := range all {
		root := plainSum("\x00", "a")
		ended := climb(n, i, all[:count], func(x string, before bool) {
			if before {
				root = plainSum("\x01", x, root)
			} else {
				root = plainSum("\x01", root, x)
			}
		})
		if ended {
			fits = count
		}
		wantVerify(t, root, n, i, "a", all[:count], ended && 0 <= i && i < n)
	}
	if 0 <= i && i < n && (fits < 0 || fits > digits(n)) {
		t.Errorf("no proof of %d of %d entries fits: %d", i, n, fits)
	}
}

// P2.1: with other numbers and indices, Verify accepts what it should, and nothing else.
func TestVerifyOtherNumbers(t *testing.T) {
	r := source()
	accepted := 0
	for range 20000 {
		l := entries(1 + r.Intn(9))
		i := r.Intn(len(l))
		proof, _ := digest.Proof(l, i)
		n, other := 1+r.Intn(10), r.Intn(10)
		want := plainVerify(digest.Root(l), n, other, l[i], proof)
		wantVerify(t, digest.Root(l), n, other, l[i], proof, want)
		if want && n != len(l) {
			accepted++
		}
	}
	if accepted == 0 {
		t.Error("no proof fits two numbers of entries: nothing is tested")
	}
}

// P2.1 (R3): no argument is changed, its spare capacity is not written to, and the results share no memory.
func TestProofMemory(t *testing.T) {
	l := entries(13)
	spare := append(slices.Clone(l), "spare", "more")
	for i := range l {
		wantOwnMemory(t, func() []string {
			proof, _ := digest.Proof(spare[:13], i)
			return proof
		}, func(proof []string) bool {
			return digest.Verify(digest.Root(l), 13, i, l[i], proof)
		})
	}
	if !slices.Equal(spare, append(entries(13), "spare", "more")) {
		t.Error("the list was changed")
	}
}

// wantOwnMemory checks that two proofs share no memory, and that verifying one changes neither it nor what is behind it.
func wantOwnMemory(t *testing.T, prove func() []string, verify func(proof []string) bool) {
	t.Helper()
	first, second := prove(), prove()
	want := slices.Clone(second)
	for k := range first[:cap(first)] {
		first[:cap(first)][k] = "x"
	}
	if !slices.Equal(second, want) {
		t.Error("two proofs share memory")
	}
	long := append(slices.Clone(second), "spare")
	if !verify(long[:len(second)]) || !slices.Equal(long, append(want, "spare")) {
		t.Errorf("the proof %x was changed or refused", want)
	}
}

// P2.1: a proof that is too short is refused, though the root is what it would give if nothing were in the place of what is missing.
func TestVerifyOfEmptyString(t *testing.T) {
	x := text(32)
	for _, n := range []int{3, 4, 7, 8} {
		wantVerify(t, digest.Node("", x), n, 0, "a", []string{x}, false)
		wantVerify(t, digest.Node(digest.Leaf(""), x), n, 0, "a", []string{x}, false)
	}
	for _, n := range []int{4, 7, 8} {
		wantVerify(t, digest.Node(x, ""), n, n-1, "a", []string{x}, false)
		wantVerify(t, digest.Node(x, digest.Leaf("")), n, n-1, "a", []string{x}, false)
	}
}
