package digest

import "slatewall/api"

// Proof returns what proves that the entry with the index i belongs to l, or ErrArg if there is no such entry.
func Proof(l []string, i int) ([]string, api.Errno) {
	if i < 0 || i >= len(l) {
		return nil, api.ErrArg
	}
	return proofOf(l, i), api.OK
}

// Verify says whether the proof shows that s is the entry with the index i of a list with n entries and the given root.
func Verify(root string, n int, i int, s string, proof []string) bool {
	if i < 0 || i >= n || !allDigests(proof...) {
		return false
	}
	found, ok := value(n, i, s, proof)
	return ok && found == root
}

// split returns the greatest power of two that is less than n: so many entries of n are in the first half of a tree. n is at least 2.
func split(n int) int {
	k := 1
	// Twice k may be beyond the greatest integer, what is left of n is not.
	for k < n-k {
		k *= 2
	}
	return k
}

// proofOf returns the proof of the entry with the index i, which l has: the roots of the halves that it is not in, the least one first.
func proofOf(l []string, i int) []string {
	if len(l) == 1 {
		return nil
	}
	k := split(len(l))
	if i < k {
		return append(proofOf(l[:k], i), Root(l[k:]))
	}
	return append(proofOf(l[k:], i-k), Root(l[:k]))
}

// value returns the root that a list with n entries has if s is the one with the index i, and the proof is its proof.
// It returns false if the proof has more or fewer elements than there are halves on the way to the entry.
func value(n int, i int, s string, proof []string) (string, bool) {
	if n == 1 {
		return Leaf(s), len(proof) == 0
	}
	if len(proof) == 0 {
		return "", false
	}
	rest, x := cutLast(proof)
	k := split(n)
	if i < k {
		first, ok := value(k, i, s, rest)
		return Node(first, x), ok
	}
	second, ok := value(n-k, i-k, s, rest)
	return Node(x, second), ok
}

// cutLast returns all elements of a proof but the last one, and the last one. The proof is not empty.
func cutLast(proof []string) ([]string, string) {
	last := len(proof) - 1
	return proof[:last], proof[last]
}
