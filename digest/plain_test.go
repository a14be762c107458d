package digest_test

import (
	"crypto/sha256"
	"encoding/hex"
	"math/bits"
	"math/rand"
	"slices"
	"testing"
)

// This file computes digests, roots and proofs in other ways than the package does: SHA-256 is that of the library,
// and trees are built from their leaves on, with no greatest power of two in them.

// plainSum is the SHA-256 of the parts, one after the other.
func plainSum(parts ...string) string {
	all := ""
	for _, part := range parts {
		all += part
	}
	sum := sha256.Sum256([]byte(all))
	return string(sum[:])
}

// plainLevels are the levels of the tree of a list, from the leaves on: pairs are joined, and a last one that is left over goes up as it is.
func plainLevels(l []string) [][]string {
	level := make([]string, len(l))
	for i, s := range l {
		level[i] = plainSum("\x00", s)
	}
	levels := [][]string{level}
	for len(level) > 1 {
		var up []string
		for pair := range slices.Chunk(level, 2) {
			if len(pair) == 2 {
				up = append(up, plainSum("\x01", pair[0], pair[1]))
			} else {
				up = append(up, pair[0])
			}
		}
		levels, level = append(levels, up), up
	}
	return levels
}

// plainRoot is the root of a list.
func plainRoot(l []string) string {
	if len(l) == 0 {
		return plainSum()
	}
	levels := plainLevels(l)
	return levels[len(levels)-1][0]
}

// plainSiblings are the digests beside the way up from an index of a level.
func plainSiblings(levels [][]string, i int) []string {
	var proof []string
	for _, level := range levels {
		if i^1 < len(level) {
			proof = append(proof, level[i^1])
		}
		i /= 2
	}
	return proof
}

// plainProof is the proof of the entry with the index i.
func plainProof(l []string, i int) []string {
	return plainSiblings(plainLevels(l), i)
}

// plainExtension is the proof that l begins with its first m entries: what lies beside the way up from the greatest tree that they end with.
func plainExtension(l []string, m int) []string {
	if m == 0 || m == len(l) {
		return nil
	}
	levels := plainLevels(l)
	up := bits.TrailingZeros(uint(m))
	i := m>>up - 1
	proof := plainSiblings(levels[up:], i)
	if i == 0 {
		return proof
	}
	return append([]string{levels[up][i]}, proof...)
}

// plainDigests says whether all strings have 32 bytes.
func plainDigests(l ...string) bool {
	return !slices.ContainsFunc(l, func(s string) bool { return len(s) != 32 })
}

// climb walks the proof up from the entry with the index i of n, and calls join with each element: before says whether it goes before what was found.
// It says whether the way ends where the proof does.
func climb(n int, i int, proof []string, join func(x string, before bool)) bool {
	end := n - 1
	for _, x := range proof {
		if end == 0 {
			return false
		}
		join(x, i%2 == 1 || i == end)
		for i%2 == 0 && i == end && i > 0 {
			i, end = i/2, end/2
		}
		i, end = i/2, end/2
	}
	return end == 0
}

// plainVerify is what Verify should say.
func plainVerify(root string, n int, i int, s string, proof []string) bool {
	if i < 0 || i >= n || !plainDigests(proof...) {
		return false
	}
	found := plainSum("\x00", s)
	ended := climb(n, i, proof, func(x string, before bool) {
		if before {
			found = plainSum("\x01", x, found)
		} else {
			found = plainSum("\x01", found, x)
		}
	})
	return ended && found == root
}

// plainVerifyExtension is what VerifyExtension should say.
func plainVerifyExtension(old string, m int, root string, n int, proof []string) bool {
	if m < 0 || m > n || !plainDigests(old, root) || !plainDigests(proof...) {
		return false
	}
	switch m {
	case 0:
		return len(proof) == 0 && old == plainSum()
	case n:
		return len(proof) == 0 && old == root
	}
	first, second, ended := plainTwoRoots(old, m, n, proof)
	return ended && first == old && second == root
}

// plainTwoRoots are the roots that a proof from m to n gives, as far as it goes, and whether it goes as far as it should; m is from 1 to n - 1.
// The way up begins at the greatest tree that the m entries end with: at old, if it is all of them, and at the first element otherwise.
func plainTwoRoots(old string, m int, n int, proof []string) (string, string, bool) {
	up := bits.TrailingZeros(uint(m))
	first := old
	if m != 1<<up {
		if len(proof) == 0 {
			return "", "", false
		}
		first, proof = proof[0], proof[1:]
	}
	second := first
	// What goes before belongs to both lists: it lies to the left of their common part.
	ended := climb((n-1)>>up+1, m>>up-1, proof, func(x string, before bool) {
		if before {
			first, second = plainSum("\x01", x, first), plainSum("\x01", x, second)
		} else {
			second = plainSum("\x01", second, x)
		}
	})
	return first, second, ended
}

// source is the same for every run of a test.
func source() *rand.Rand { return rand.New(rand.NewSource(2)) }

// text is a string of n bytes that look like random ones, always the same for n.
func text(n int) string {
	b := make([]byte, n)
	x := uint64(n)
	for i := range b {
		x = x*6364136223846793005 + 1442695040888963407
		b[i] = byte(x >> 56)
	}
	return string(b)
}

// entries is a list of n entries of different lengths, none of which is the same as another one; the first one is empty.
func entries(n int) []string {
	l := make([]string, n)
	for i := range l {
		l[i] = text(i)
	}
	return l
}

// wantHex checks a digest that is written in hexadecimal.
func wantHex(t *testing.T, what string, got string, want string) {
	t.Helper()
	if h := hex.EncodeToString([]byte(got)); h != want {
		t.Errorf("%s = %s; want %s", what, h, want)
	}
}
