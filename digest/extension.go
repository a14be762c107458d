package digest

import "slatewall/api"

// Extension returns what proves that l begins with its first m entries, or ErrArg if it has fewer.
func Extension(l []string, m int) ([]string, api.Errno) {
	if m < 0 || m > len(l) {
		return nil, api.ErrArg
	}
	if m == 0 {
		return nil, api.OK
	}
	return extensionOf(l, m, true), api.OK
}

// VerifyExtension says whether the proof shows that a list with n entries and the given root begins with m entries whose root is old.
func VerifyExtension(old string, m int, root string, n int, proof []string) bool {
	if m < 0 || m > n || !allDigests(old, root) || !allDigests(proof...) {
		return false
	}
	if m == 0 {
		// Every list begins with no entries, whatever its root is.
		return len(proof) == 0 && old == Root(nil)
	}
	first, second, ok := twoValues(old, m, n, proof, true)
	return ok && first == old && second == root
}

// extensionOf returns the part of the proof that is about l and its first m entries; m is from 1 to their number.
// whole says that these are all of the entries that the longer list begins with: their root is known to whoever verifies.
func extensionOf(l []string, m int, whole bool) []string {
	if m == len(l) {
		if whole {
			return nil
		}
		return []string{Root(l)}
	}
	k := split(len(l))
	if m <= k {
		return append(extensionOf(l[:k], m, whole), Root(l[k:]))
	}
	return append(extensionOf(l[k:], m-k, false), Root(l[:k]))
}

// twoValues returns the roots that m entries and the n entries that begin with them have if the proof is what extensionOf returns; m is from 1 to n.
// It returns false if the proof has more or fewer elements than that has.
func twoValues(old string, m int, n int, proof []string, whole bool) (string, string, bool) {
	if m == n {
		return sameValues(old, proof, whole)
	}
	if len(proof) == 0 {
		return "", "", false
	}
	rest, x := cutLast(proof)
	k := split(n)
	if m <= k {
		first, second, ok := twoValues(old, m, k, rest, whole)
		return first, Node(second, x), ok
	}
	first, second, ok := twoValues(old, m-k, n-k, rest, false)
	return Node(x, first), Node(x, second), ok
}

// sameValues returns the root of the entries that both lists have, twice: it is old, or, if whole is false, the only element of the proof.
func sameValues(old string, proof []string, whole bool) (string, string, bool) {
	if whole {
		return old, old, len(proof) == 0
	}
	if len(proof) != 1 {
		return "", "", false
	}
	return proof[0], proof[0], true
}
