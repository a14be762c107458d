package digest_test

import (
	"math"
	"strings"
	"testing"

	"slatewall/digest"
)

// pool are the digests that occur in the tree of a list and in the trees of its beginnings, and some that do not.
func pool(l []string) []string {
	all := []string{digest.Sum(""), digest.Leaf("forged"), strings.Repeat("\x00", 32)}
	known := map[string]bool{}
	for m := 1; m <= len(l); m++ {
		for _, level := range plainLevels(l[:m]) {
			for _, x := range level {
				if !known[x] {
					known[x], all = true, append(all, x)
				}
			}
		}
	}
	return all
}

// everyProof calls visit with every proof of up to n elements of the pool.
func everyProof(all []string, n int, visit func(proof []string)) {
	proof := make([]string, 0, n)
	var extend func()
	extend = func() {
		visit(proof)
		if len(proof) == n {
			return
		}
		for _, x := range all {
			proof = append(proof, x)
			extend()
			proof = proof[:len(proof)-1]
		}
	}
	extend()
}

// P2.3: no proof that is put together from known digests shows another entry than that of the list,
// not even one that consists of what nodes and leaves are digests of.
func TestVerifyBinds(t *testing.T) {
	for n := 1; n <= 5; n++ {
		l := []string{"a", "b", "", "ab", "a"}[:n]
		root, all := digest.Root(l), pool(l)
		forged := []string{"", "a", "b", "ab", "c", "\x00a", "\x00", root, "\x01" + root}
		for _, x := range all[3:min(len(all), 7)] {
			forged = append(forged, x+x, "\x01"+x+x, all[3]+x, "\x01"+all[3]+x)
		}
		accepted := 0
		everyProof(all, 3, func(proof []string) {
			for i, entry := range l {
				for _, s := range forged {
					if !digest.Verify(root, n, i, s, proof) {
						continue
					}
					if s != entry {
						t.Fatalf("of %d entries, %q is accepted as that with the index %d", n, s, i)
					}
					accepted++
				}
			}
		})
		if accepted != n {
			t.Errorf("of %d entries, %d proofs are accepted", n, accepted)
		}
	}
}

// P2.3: the heads of different lists are different: of all lists of up to four of these records.
func TestHeadsBind(t *testing.T) {
	zeros := strings.Repeat("\x00", 32)
	records := []string{"", "a", "b", "ab", "\x00", "\x02", zeros, zeros + "a", digest.Chain(zeros, "a"), "\x02" + digest.Chain(zeros, "a") + "b"}
	heads := map[string]string{}
	var extend func(head string, list string, more int)
	extend = func(head string, list string, more int) {
		if other, ok := heads[head]; ok {
			t.Fatalf("the lists %s and %s have the same head", list, other)
		}
		heads[head] = list
		if more == 0 {
			return
		}
		for i, record := range records {
			extend(digest.Chain(head, record), list+string(rune('0'+i)), more-1)
		}
	}
	extend(zeros, "", 4)
	if len(heads) != 11111 {
		t.Errorf("%d lists", len(heads))
	}
}

// P2.4: no proof that is put together from known digests shows other first entries than those of the list.
func TestVerifyExtensionBinds(t *testing.T) {
	for n := 1; n <= 5; n++ {
		l := []string{"a", "b", "", "ab", "a"}[:n]
		root, all := digest.Root(l), pool(l)
		for m := range n + 1 {
			accepted := 0
			everyProof(all, 3, func(proof []string) {
				for _, old := range all {
					if !digest.VerifyExtension(old, m, root, n, proof) {
						continue
					}
					if old != digest.Root(l[:m]) {
						t.Fatalf("from %d to %d, another root is accepted", m, n)
					}
					accepted++
				}
			})
			if want := len(plainExtension(l, m)) <= 3; (accepted == 1) != want {
				t.Errorf("from %d to %d, %d proofs are accepted", m, n, accepted)
			}
		}
	}
}

// P2.4: a byte that goes from the old root to the proof, or back, leaves what is digested the same, but is refused.
func TestVerifyExtensionMovedBytes(t *testing.T) {
	for _, n := range []int{2, 3, 5, 6, 8} {
		l := entries(n)
		for m := 1; m < n; m *= 2 {
			old, root := digest.Root(l[:m]), digest.Root(l)
			proof, _ := digest.Extension(l, m)
			joined := old + proof[0]
			for at := range len(joined) + 1 {
				moved := replaced(proof, 0, joined[at:])
				wantExtension(t, joined[:at], m, root, n, moved, at == 32)
			}
		}
	}
}

// P2.1: no call panics, and every call ends, for any numbers and strings, and says the same when it is repeated.
func TestAnyArguments(t *testing.T) {
	r := source()
	numbers := []int{math.MinInt, math.MinInt + 1, -1, 0, 1, 2, 3, 4, 5, 1 << 40, 1<<62 - 1, 1 << 62, math.MaxInt - 1, math.MaxInt}
	number := func() int { return numbers[r.Intn(len(numbers))] }
	for range 40000 {
		l := make([]string, r.Intn(6))
		for i := range l {
			l[i] = text(r.Intn(3) * 32)
			if r.Intn(12) == 0 {
				l[i] = text(r.Intn(70))
			}
		}
		a, b := number(), number()
		s, root := text(r.Intn(40)), text(32*r.Intn(2))
		wantVerify(t, root, a, b, s, l, digest.Verify(root, a, b, s, l))
		wantExtension(t, s, a, root, b, l, digest.VerifyExtension(s, a, root, b, l))
		wantExtension(t, root, a, root, b, l, digest.VerifyExtension(root, a, root, b, l))
		proof, e := digest.Proof(l, a)
		if (e == 0) != (0 <= a && a < len(l)) || e != 0 && len(proof) > 0 {
			t.Errorf("Proof of %d of %d entries: %d", a, len(l), e)
		}
		proof, e = digest.Extension(l, b)
		if (e == 0) != (0 <= b && b <= len(l)) || e != 0 && len(proof) > 0 {
			t.Errorf("Extension from %d to %d: %d", b, len(l), e)
		}
	}
}

// P2.1: a proof of very many elements is refused, and not walked.
func TestLongProofs(t *testing.T) {
	long := make([]string, 1<<20)
	x := text(32)
	for i := range long {
		long[i] = x
	}
	for _, n := range []int{1, 2, 3, 1000, math.MaxInt} {
		wantVerify(t, x, n, 0, "a", long, false)
		wantVerify(t, x, n, n-1, "a", long, false)
		wantExtension(t, x, 1, x, n, long, false)
		wantExtension(t, x, n-1, x, n, long, false)
		wantExtension(t, x, n, x, n, long, false)
	}
}
