package proof

import (
	"bytes"
	"crypto/sha256"
	"encoding/hex"
	"math"
	"math/bits"
	"math/rand"
	"slices"
	"testing"

	"inspeximus/api"
)

// nothing is the root of no leaves.
func nothing() api.Hash { return sha256.Sum256(nil) }

// hashes are n leaves' hashes, all of them different, one list beginning each longer one.
func hashes(n int) []api.Hash {
	out := make([]api.Hash, n)
	for i := range out {
		out[i] = sha256.Sum256([]byte{0, byte(i >> 16), byte(i >> 8), byte(i)})
	}
	return out
}

// anyHashes are n hashes that are no list's, from a seed.
func anyHashes(seed, n int) []api.Hash {
	out := make([]api.Hash, n)
	r := rand.New(rand.NewSource(int64(seed)))
	for i := range out {
		r.Read(out[i][:])
	}
	return out
}

// sizes are all from 1 to some dozens, and powers of two, one below and one above.
func sizes() []int {
	var out []int
	for n := 1; n <= 70; n++ {
		out = append(out, n)
	}
	return append(out, 100, 127, 128, 129, 255, 256, 257)
}

// withRoom is a copy of l with marked room behind it, and a check that l and the room are as they were.
func withRoom(t *testing.T, l []api.Hash) ([]api.Hash, func()) {
	t.Helper()
	whole := slices.Concat(l, slices.Repeat([]api.Hash{{0xa5}}, 40))
	kept := slices.Clone(whole)
	return whole[:len(l)], func() {
		t.Helper()
		if !slices.Equal(whole, kept) {
			t.Errorf("a list of %d that was handed in, or the room behind it, was changed", len(l))
		}
	}
}

// spoil writes over an answer and all its spare room, which nobody else may see.
func spoil(l []api.Hash) {
	l = l[:cap(l)]
	for i := range l {
		l[i] = other(l[i])
	}
}

// other is a hash that differs in every byte.
func other(h api.Hash) api.Hash {
	for i := range h {
		h[i] ^= 0xff
	}
	return h
}

// wordsNode is a node's hash by the words of layer 5, by the library's digest.
func wordsNode(l, r api.Hash) api.Hash {
	return sha256.Sum256(slices.Concat([]byte{1}, l[:], r[:]))
}

// wordsSplit is the greatest power of two below n, gone up to.
func wordsSplit(n int) int {
	k := 1
	for 2*k < n {
		k *= 2
	}
	return k
}

// wordsRoot is a list's root by the words of layer 5.
func wordsRoot(l []api.Hash) api.Hash {
	if len(l) == 0 {
		return nothing()
	}
	if len(l) == 1 {
		return l[0]
	}
	k := wordsSplit(len(l))
	return wordsNode(wordsRoot(l[:k]), wordsRoot(l[k:]))
}

// wordsPath is the path of the leaf i by the words of the chapter.
func wordsPath(l []api.Hash, i int) []api.Hash {
	if len(l) == 1 {
		return nil
	}
	k := wordsSplit(len(l))
	if i < k {
		return slices.Concat(wordsPath(l[:k], i), []api.Hash{wordsRoot(l[k:])})
	}
	return slices.Concat(wordsPath(l[k:], i-k), []api.Hash{wordsRoot(l[:k])})
}

// wordsSub is SUB(m, D, b) by the words of the chapter.
func wordsSub(l []api.Hash, m int, b bool) []api.Hash {
	if m == len(l) {
		if b {
			return nil
		}
		return []api.Hash{wordsRoot(l)}
	}
	k := wordsSplit(len(l))
	if m <= k {
		return slices.Concat(wordsSub(l[:k], m, b), []api.Hash{wordsRoot(l[k:])})
	}
	return slices.Concat(wordsSub(l[k:], m-k, false), []api.Hash{wordsRoot(l[:k])})
}

// wayUp is where a leaf lies, and where the last one does, in each row of nodes from the leaves up.
type wayUp struct{ at, last int }

// step goes up to the next row in which the node has one beside it, and says on which side that is.
func (w *wayUp) step() (left bool) {
	left = w.at&1 == 1 || w.at == w.last
	for left && w.at&1 == 0 && w.at != 0 {
		w.at, w.last = w.at/2, w.last/2
	}
	w.at, w.last = w.at/2, w.last/2
	return left
}

// upwardsComes is what a path comes to, gone through from its first hash on, row by row, by numbers alone (RFC 9162, 2.1.3.2).
func upwardsComes(leaf api.Hash, i, n int, path []api.Hash) (api.Hash, bool) {
	if i < 0 || i >= n || n > 1<<20 {
		return api.Hash{}, false
	}
	way := wayUp{i, n - 1}
	root := leaf
	for _, side := range path {
		if way.last == 0 {
			return api.Hash{}, false
		}
		if way.step() {
			root = wordsNode(side, root)
		} else {
			root = wordsNode(root, side)
		}
	}
	if way.last != 0 {
		return api.Hash{}, false
	}
	return root, true
}

// upwardsBoth is what a proof comes to, gone through from its first hash on (RFC 9162, 2.1.4.2).
func upwardsBoth(m, n int, old api.Hash, proof []api.Hash) (api.Hash, api.Hash, bool) {
	if m < 1 || m > n || n > 1<<20 || m == n && len(proof) > 0 {
		return api.Hash{}, api.Hash{}, false
	}
	if m == n {
		return old, old, true
	}
	if m&(m-1) == 0 {
		proof = slices.Concat([]api.Hash{old}, proof)
	}
	if len(proof) == 0 {
		return api.Hash{}, api.Hash{}, false
	}
	way := wayUp{m - 1, n - 1}
	for way.at&1 == 1 {
		way.at, way.last = way.at/2, way.last/2
	}
	first, all := proof[0], proof[0]
	for _, side := range proof[1:] {
		if way.last == 0 {
			return api.Hash{}, api.Hash{}, false
		}
		if way.step() {
			first, all = wordsNode(side, first), wordsNode(side, all)
		} else {
			all = wordsNode(all, side)
		}
	}
	if way.last != 0 {
		return api.Hash{}, api.Hash{}, false
	}
	return first, all, true
}

// checkComes holds Comes and In against what is known: a root, or none.
func checkComes(t *testing.T, leaf api.Hash, i, n int, path []api.Hash, want api.Hash, ok bool) {
	t.Helper()
	path, stays := withRoom(t, path)
	defer stays()
	got, gotOK := Comes(leaf, i, n, path)
	if got != want || gotOK != ok {
		t.Errorf("Comes of leaf %d of %d by %d hashes: %x %v, want %x %v", i, n, len(path), got, gotOK, want, ok)
	}
	if In(leaf, i, n, path, want) != ok {
		t.Errorf("In of leaf %d of %d by %d hashes: want %v", i, n, len(path), ok)
	}
	for _, root := range []api.Hash{{}, other(want), nothing(), leaf} {
		if In(leaf, i, n, path, root) != (ok && root == want) {
			t.Errorf("In of leaf %d of %d by %d hashes takes another root, or not its own", i, n, len(path))
		}
	}
}

// checkBoth holds Both against what is known: two roots, or none.
func checkBoth(t *testing.T, m, n int, old api.Hash, proof []api.Hash, first, all api.Hash, ok bool) {
	t.Helper()
	proof, stays := withRoom(t, proof)
	defer stays()
	gotFirst, gotAll, gotOK := Both(m, n, old, proof)
	if gotFirst != first || gotAll != all || gotOK != ok {
		t.Errorf("Both of %d of %d by %d hashes: %x %x %v, want %x %x %v", m, n, len(proof), gotFirst, gotAll, gotOK, first, all, ok)
	}
	if Begins(m, n, old, all, proof) != (ok && first == old) {
		t.Errorf("Begins of %d of %d by %d hashes: want %v", m, n, len(proof), ok && first == old)
	}
	for _, root := range []api.Hash{{}, other(all), nothing(), old} {
		if Begins(m, n, old, root, proof) != (ok && first == old && root == all) {
			t.Errorf("Begins of %d of %d by %d hashes takes another root, or not its own", m, n, len(proof))
		}
	}
}

// noPath checks that a path comes to nothing.
func noPath(t *testing.T, leaf api.Hash, i, n int, path []api.Hash) {
	t.Helper()
	checkComes(t, leaf, i, n, path, api.Hash{}, false)
}

// noProof checks that a proof comes to nothing.
func noProof(t *testing.T, m, n int, old api.Hash, proof []api.Hash) {
	t.Helper()
	checkBoth(t, m, n, old, proof, api.Hash{}, api.Hash{}, false)
}

// known are the leaves by which trees of this form are held against each other, as hashes.
func known() []api.Hash {
	var out []api.Hash
	for _, leaf := range []string{"", "\x00", "\x10", "\x20\x21", "\x30\x31", "\x40\x41\x42\x43", "\x50\x51\x52\x53\x54\x55\x56\x57", "\x60\x61\x62\x63\x64\x65\x66\x67\x68\x69\x6a\x6b\x6c\x6d\x6e\x6f"} {
		out = append(out, sha256.Sum256(append([]byte{0}, leaf...)))
	}
	return out
}

// digits are hashes as hexadecimal digits.
func digits(l []api.Hash) []string {
	var out []string
	for _, h := range l {
		out = append(out, hex.EncodeToString(h[:]))
	}
	return out
}

// P6.1: paths that are known by heart.
func TestKnownPaths(t *testing.T) {
	for _, c := range []struct {
		i, n int
		want []string
	}{
		{0, 1, nil},
		{0, 8, []string{"96a296d224f285c67bee93c30f8a309157f0daa35dc5b87e410b78630a09cfc7", "5f083f0a1a33ca076a95279832580db3e0ef4584bdff1f54c8a360f50de3031e", "6b47aaf29ee3c2af9af889bc1fb9254dabd31177f16232dd6aab035ca39bf6e4"}},
		{5, 8, []string{"bc1a0643b12e4d2d7c77918f44e0f4f79a838b6cf9ec5b5c283e1f4d88599e6b", "ca854ea128ed050b41b35ffc1b87b8eb2bde461e9e3b5596ece6b9d5975a0ae0", "d37ee418976dd95753c1c73862b9398fa2a2cf9b4ff0fdfe8b30cd95209614b7"}},
		{2, 3, []string{"fac54203e7cc696cf0dfcb42c92a1d9dbaf70ad9e621f4bd8d98662f00e3c125"}},
		{1, 5, []string{"6e340b9cffb37a989ca544e6bb780a2c78901d3fb33738768511a30617afa01d", "5f083f0a1a33ca076a95279832580db3e0ef4584bdff1f54c8a360f50de3031e", "bc1a0643b12e4d2d7c77918f44e0f4f79a838b6cf9ec5b5c283e1f4d88599e6b"}},
	} {
		path, ok := Path(known()[:c.n], c.i)
		if !ok || !slices.Equal(digits(path), c.want) {
			t.Errorf("the path of leaf %d of %d: %v %v, want %v", c.i, c.n, digits(path), ok, c.want)
		}
	}
}

// P6.1: proofs that are known by heart.
func TestKnownProofs(t *testing.T) {
	for _, c := range []struct {
		m, n int
		want []string
	}{
		{1, 1, nil},
		{1, 8, []string{"96a296d224f285c67bee93c30f8a309157f0daa35dc5b87e410b78630a09cfc7", "5f083f0a1a33ca076a95279832580db3e0ef4584bdff1f54c8a360f50de3031e", "6b47aaf29ee3c2af9af889bc1fb9254dabd31177f16232dd6aab035ca39bf6e4"}},
		{6, 8, []string{"0ebc5d3437fbe2db158b9f126a1d118e308181031d0a949f8dededebc558ef6a", "ca854ea128ed050b41b35ffc1b87b8eb2bde461e9e3b5596ece6b9d5975a0ae0", "d37ee418976dd95753c1c73862b9398fa2a2cf9b4ff0fdfe8b30cd95209614b7"}},
		{2, 5, []string{"5f083f0a1a33ca076a95279832580db3e0ef4584bdff1f54c8a360f50de3031e", "bc1a0643b12e4d2d7c77918f44e0f4f79a838b6cf9ec5b5c283e1f4d88599e6b"}},
	} {
		proof, ok := Prove(known()[:c.n], c.m)
		if !ok || !slices.Equal(digits(proof), c.want) {
			t.Errorf("the proof of the first %d of %d: %v %v, want %v", c.m, c.n, digits(proof), ok, c.want)
		}
	}
}

// P6.1: the chapter's example, and lists small enough to be told one by one.
func TestFewLeaves(t *testing.T) {
	l := hashes(7)
	two, four := wordsNode(l[0], l[1]), wordsRoot(l[:4])
	for _, c := range []struct {
		n, i int
		want []api.Hash
	}{
		{3, 2, []api.Hash{two}},
		{1, 0, nil},
		{2, 0, l[1:2]},
		{2, 1, l[:1]},
		{3, 0, []api.Hash{l[1], l[2]}},
		{3, 1, []api.Hash{l[0], l[2]}},
		{7, 4, []api.Hash{l[5], l[6], four}},
		{7, 6, []api.Hash{wordsNode(l[4], l[5]), four}},
	} {
		if got, ok := Path(l[:c.n], c.i); !ok || !slices.Equal(got, c.want) {
			t.Errorf("the path of leaf %d of %d: %x %v, want %x", c.i, c.n, got, ok, c.want)
		}
	}
	for _, c := range []struct {
		n, m int
		want []api.Hash
	}{
		{1, 1, nil},
		{2, 1, l[1:2]},
		{2, 2, nil},
		{3, 1, []api.Hash{l[1], l[2]}},
		{3, 2, l[2:3]},
		{3, 3, nil},
		{7, 3, []api.Hash{l[2], l[3], two, wordsRoot(l[4:7])}},
		{7, 4, []api.Hash{wordsRoot(l[4:7])}},
		{7, 6, []api.Hash{wordsNode(l[4], l[5]), l[6], four}},
		{7, 7, nil},
	} {
		if got, ok := Prove(l[:c.n], c.m); !ok || !slices.Equal(got, c.want) {
			t.Errorf("the proof of the first %d of %d: %x %v, want %x", c.m, c.n, got, ok, c.want)
		}
	}
}

// P6.1, P6.3, P6.4: the path of each leaf of lists of every size, against the words; it comes to the root, and isn't too long.
func TestPaths(t *testing.T) {
	for _, n := range sizes() {
		l, stays := withRoom(t, hashes(n))
		root := wordsRoot(l)
		for i := range l {
			path, ok := Path(l, i)
			if want := wordsPath(l, i); !ok || !slices.Equal(path, want) {
				t.Errorf("the path of leaf %d of %d: %x %v, want %x", i, n, path, ok, want)
			}
			if len(path) > bits.Len(uint(n)) {
				t.Errorf("the path of leaf %d of %d has %d hashes", i, n, len(path))
			}
			checkComes(t, l[i], i, n, path, root, true)
		}
		stays()
	}
}

// P6.1, P6.3, P6.4: the proof of each beginning of lists of every size, against the words; it comes to both roots.
func TestProofs(t *testing.T) {
	for _, n := range sizes() {
		l, stays := withRoom(t, hashes(n))
		root := wordsRoot(l)
		for m := 1; m <= n; m++ {
			proof, ok := Prove(l, m)
			if want := wordsSub(l, m, true); !ok || !slices.Equal(proof, want) {
				t.Errorf("the proof of the first %d of %d: %x %v, want %x", m, n, proof, ok, want)
			}
			old := wordsRoot(l[:m])
			checkBoth(t, m, n, old, proof, old, root, true)
		}
		stays()
	}
}

// P6.1: places where there is no leaf.
func TestPathOfNone(t *testing.T) {
	for _, n := range []int{0, 1, 2, 3, 8, 20} {
		l, stays := withRoom(t, hashes(n))
		for _, i := range []int{math.MinInt, math.MinInt32, -n - 1, -n, -2, -1, n, n + 1, 2*n + 1, n + 40, math.MaxInt32, math.MaxInt} {
			if i >= 0 && i < n {
				continue
			}
			if path, ok := Path(l, i); len(path) != 0 || ok {
				t.Errorf("the path of leaf %d of %d: %x %v", i, n, path, ok)
			}
		}
		stays()
	}
	for _, l := range [][]api.Hash{nil, {}, hashes(5)[:0], hashes(5)[5:]} {
		for i := -3; i < 6; i++ {
			if path, ok := Path(l, i); len(path) != 0 || ok {
				t.Errorf("the path of leaf %d of none: %x %v", i, path, ok)
			}
		}
	}
}

// P6.1: beginnings that a list hasn't.
func TestProveNone(t *testing.T) {
	for _, n := range []int{0, 1, 2, 3, 8, 20} {
		l, stays := withRoom(t, hashes(n))
		for _, m := range []int{math.MinInt, math.MinInt32, -n - 1, -n, -2, -1, 0, n + 1, n + 2, 2*n + 1, n + 40, math.MaxInt32, math.MaxInt} {
			if proof, ok := Prove(l, m); len(proof) != 0 || ok {
				t.Errorf("the proof of the first %d of %d: %x %v", m, n, proof, ok)
			}
		}
		stays()
	}
	for _, l := range [][]api.Hash{nil, {}, hashes(5)[:0], hashes(5)[5:]} {
		for m := -3; m < 6; m++ {
			if proof, ok := Prove(l, m); len(proof) != 0 || ok {
				t.Errorf("the proof of the first %d of none: %x %v", m, proof, ok)
			}
		}
	}
}

// P6.1: lists may be longer than those of which paths come to something; the edge of these is 2^20.
func TestLongLists(t *testing.T) {
	const most = 1 << 20
	wholes := []api.Hash{{7}} // the roots of the whole trees of leaves that are all the same
	for len(wholes) < 21 {
		last := wholes[len(wholes)-1]
		wholes = append(wholes, wordsNode(last, last))
	}
	l := slices.Repeat(wholes[:1], most+1)
	path, ok := Path(l, most)
	if !ok || !slices.Equal(path, wholes[20:]) {
		t.Errorf("the path of the last leaf of 2^20 + 1: %x %v", path, ok)
	}
	noPath(t, l[most], most, most+1, path)
	proof, ok := Prove(l, most)
	if !ok || !slices.Equal(proof, wholes[:1]) {
		t.Errorf("the proof of the first 2^20 of one more: %x %v", proof, ok)
	}
	noProof(t, most, most+1, wholes[20], proof)
	path, ok = Path(l[:most], most-1)
	if !ok || !slices.Equal(path, wholes[:20]) {
		t.Errorf("the path of the last leaf of 2^20: %x %v", path, ok)
	}
	checkComes(t, l[0], most-1, most, path, wholes[20], true)
	proof, ok = Prove(l[:most], 1)
	if !ok || !slices.Equal(proof, wholes[:20]) {
		t.Errorf("the proof of the first of 2^20: %x %v", proof, ok)
	}
	checkBoth(t, 1, most, l[0], proof, l[0], wholes[20], true)
}

// P6.2: any hashes come to a root just if there are as many as it takes, held against the way upwards.
func TestComesOfAnyHashes(t *testing.T) {
	for n := 1; n <= 40; n++ {
		for i := range n {
			takes := 0
			for length := range 9 {
				path := anyHashes(n*i+length, length)
				want, ok := upwardsComes(api.Hash{1}, i, n, path)
				if ok {
					takes++
				}
				checkComes(t, api.Hash{1}, i, n, path, want, ok)
			}
			if takes != 1 {
				t.Errorf("leaf %d of %d: %d lengths", i, n, takes)
			}
		}
	}
}

// P6.2, P6.3: any hashes come to two roots just if there are as many as it takes, held against the way upwards.
func TestBothOfAnyHashes(t *testing.T) {
	for n := 1; n <= 40; n++ {
		for m := 1; m <= n; m++ {
			takes := 0
			for length := range 10 {
				proof := anyHashes(n*m+length, length)
				first, all, ok := upwardsBoth(m, n, api.Hash{1}, proof)
				if ok {
					takes++
				}
				checkBoth(t, m, n, api.Hash{1}, proof, first, all, ok)
			}
			if takes != 1 {
				t.Errorf("the first %d of %d: %d lengths", m, n, takes)
			}
		}
	}
}

// P6.2: lists that are too great to be made, up to the greatest one that may be.
func TestGreatLists(t *testing.T) {
	r := rand.New(rand.NewSource(6))
	for _, n := range []int{1000, 4095, 4096, 4097, 65537, 1<<19 + 1, 1<<20 - 1, 1 << 20} {
		places := []int{0, 1, 2, n/2 - 1, n / 2, n/2 + 1, n - 2, n - 1}
		for range 20 {
			places = append(places, r.Intn(n))
		}
		for _, i := range places {
			for length := range 24 {
				hs := anyHashes(i+length, length)
				root, ok := upwardsComes(api.Hash{2}, i, n, hs)
				checkComes(t, api.Hash{2}, i, n, hs, root, ok)
				first, all, ok := upwardsBoth(i+1, n, api.Hash{2}, hs)
				checkBoth(t, i+1, n, api.Hash{2}, hs, first, all, ok)
			}
		}
	}
}

// P6.2: numbers that may not be come to nothing, by any number of hashes.
func TestWrongNumbers(t *testing.T) {
	const most = 1 << 20
	for _, c := range []struct{ i, n int }{
		{-1, 0}, {0, 0}, {1, 0}, {-1, 1}, {1, 1}, {2, 1}, {-1, 3}, {-3, 3}, {3, 3}, {4, 3}, {-1, -1}, {-2, -1}, {0, -1},
		{-1, most}, {most, most}, {0, most + 1}, {1, most + 1}, {most, most + 1}, {most + 1, most + 1}, {0, 2 * most}, {0, math.MaxInt32}, {0, math.MaxInt},
		{math.MaxInt - 1, math.MaxInt}, {math.MaxInt, math.MaxInt}, {math.MinInt, math.MinInt}, {math.MinInt, math.MaxInt}, {math.MaxInt, math.MinInt}, {math.MinInt, 1}, {math.MaxInt, 1}, {0, math.MinInt},
	} {
		for length := range 66 {
			noPath(t, api.Hash{3}, c.i, c.n, anyHashes(length, length))
		}
	}
	for _, c := range []struct{ m, n int }{
		{1, 0}, {-1, 0}, {2, 1}, {-1, 1}, {4, 3}, {5, 3}, {-3, 3}, {-1, -1}, {-2, -1}, {1, -1},
		{-1, most}, {most + 1, most}, {1, most + 1}, {most, most + 1}, {most + 1, most + 1}, {most + 2, most + 1}, {1, 2 * most}, {2 * most, 2 * most}, {1, math.MaxInt32}, {1, math.MaxInt},
		{math.MaxInt, math.MaxInt}, {math.MinInt, math.MinInt}, {math.MinInt, math.MaxInt}, {math.MaxInt, math.MinInt}, {math.MinInt, 1}, {math.MaxInt, 1}, {1, math.MinInt},
	} {
		for length := range 66 {
			noProof(t, c.m, c.n, api.Hash{3}, anyHashes(length, length))
			noProof(t, c.m, c.n, nothing(), anyHashes(length, length))
		}
	}
	for n := -1; n < 5; n++ {
		if first, all, ok := Both(0, n, nothing(), nil); ok || first != (api.Hash{}) || all != (api.Hash{}) {
			t.Errorf("the first 0 of %d come to roots", n)
		}
	}
}

// P6.2: of one leaf, and of all leaves, no hash is taken: what comes is what was told, whatever it is.
func TestNoHashTaken(t *testing.T) {
	for _, h := range []api.Hash{{}, {1}, nothing(), api.Hash(bytes.Repeat([]byte{0xff}, 32))} {
		for _, none := range [][]api.Hash{nil, {}, hashes(3)[:0]} {
			checkComes(t, h, 0, 1, none, h, true)
			for _, n := range []int{1, 2, 3, 4, 7, 100, 1<<20 - 1, 1 << 20} {
				checkBoth(t, n, n, h, none, h, h, true)
			}
		}
		noPath(t, h, 0, 1, []api.Hash{h})
		noProof(t, 1, 1, h, []api.Hash{h})
		noProof(t, 3, 3, h, []api.Hash{h})
	}
}

// P6.2: a hash more or less, wherever it is, comes to nothing; so do very many more.
func TestOneMoreOneLess(t *testing.T) {
	many := make([]api.Hash, 5000)
	for n := 1; n <= 33; n++ {
		l := hashes(n)
		for i := range l {
			path, _ := Path(l, i)
			for at := range len(path) + 1 {
				noPath(t, l[i], i, n, slices.Insert(slices.Clone(path), at, api.Hash{9}))
				if at < len(path) {
					noPath(t, l[i], i, n, slices.Delete(slices.Clone(path), at, at+1))
				}
			}
			noPath(t, l[i], i, n, slices.Concat(many, path))
		}
		for m := 1; m <= n; m++ {
			old := wordsRoot(l[:m])
			proof, _ := Prove(l, m)
			for at := range len(proof) + 1 {
				noProof(t, m, n, old, slices.Insert(slices.Clone(proof), at, api.Hash{9}))
				if at < len(proof) {
					noProof(t, m, n, old, slices.Delete(slices.Clone(proof), at, at+1))
				}
			}
			noProof(t, m, n, old, slices.Concat(many, proof))
		}
	}
}

// P6.2, P6.3: with another hash in a place, or another leaf, a path comes to another root.
func TestPathTellsEachHash(t *testing.T) {
	for n := 1; n <= 33; n++ {
		l := hashes(n)
		root := wordsRoot(l)
		for i := range l {
			path, _ := Path(l, i)
			for at := range path {
				wrong := slices.Clone(path)
				wrong[at][n%32] ^= 1
				want, _ := upwardsComes(l[i], i, n, wrong)
				checkComes(t, l[i], i, n, wrong, want, true)
				if In(l[i], i, n, wrong, root) {
					t.Errorf("leaf %d of %d: hash %d doesn't tell", i, n, at)
				}
			}
			if In(other(l[i]), i, n, path, root) {
				t.Errorf("leaf %d of %d may be another one", i, n)
			}
			for j := range n {
				if j != i && (In(l[i], j, n, path, root) || In(l[j], i, n, path, root)) {
					t.Errorf("leaf %d of %d: its path is one of %d", i, n, j)
				}
			}
		}
	}
}

// P6.2, P6.3: with another hash in a place, or another old root, a proof comes to other roots.
func TestProofTellsEachHash(t *testing.T) {
	for n := 1; n <= 33; n++ {
		l := hashes(n)
		root := wordsRoot(l)
		for m := 1; m <= n; m++ {
			old := wordsRoot(l[:m])
			proof, _ := Prove(l, m)
			for at := range proof {
				wrong := slices.Clone(proof)
				wrong[at][n%32] ^= 1
				first, all, _ := upwardsBoth(m, n, old, wrong)
				checkBoth(t, m, n, old, wrong, first, all, true)
				if Begins(m, n, old, root, wrong) {
					t.Errorf("the first %d of %d: hash %d doesn't tell", m, n, at)
				}
			}
			if Begins(m, n, other(old), root, proof) || Begins(m, n, old, other(root), proof) {
				t.Errorf("the first %d of %d: a root may be another one", m, n)
			}
			if m < n && (Begins(m, n, root, root, proof) || Begins(m, n, old, old, proof) || Begins(m, n, root, old, proof)) {
				t.Errorf("the first %d of %d: a root may be the other one", m, n)
			}
		}
	}
}

// P6.3: each of the two roots is asked, bit by bit.
func TestBeginsAsksBothRoots(t *testing.T) {
	l := hashes(7)
	for _, m := range []int{3, 4, 5, 7} {
		old, all := wordsRoot(l[:m]), wordsRoot(l)
		proof, _ := Prove(l, m)
		for bit := range 256 {
			flip := func(h api.Hash) api.Hash { h[bit/8] ^= 1 << (bit % 8); return h }
			if Begins(m, 7, flip(old), all, proof) || Begins(m, 7, old, flip(all), proof) {
				t.Errorf("the first %d of 7: bit %d doesn't tell", m, bit)
			}
		}
	}
}

// P6.3: a proof of other numbers isn't one, unless it is by chance the same.
func TestBeginsOfOtherNumbers(t *testing.T) {
	l := hashes(20)
	for n := 1; n <= 20; n++ {
		for m := 1; m <= n; m++ {
			proof, _ := Prove(l[:n], m)
			old, all := wordsRoot(l[:m]), wordsRoot(l[:n])
			for wrongM := -1; wrongM <= 21; wrongM++ {
				first, whole, ok := upwardsBoth(wrongM, n, old, proof)
				if Begins(wrongM, n, old, all, proof) != (ok && first == old && whole == all) {
					t.Errorf("the first %d of %d, as %d", m, n, wrongM)
				}
			}
		}
	}
}

// P6.3: nothing begins every list that may be, whatever its root is, by no hash at all.
func TestBeginsOfNothing(t *testing.T) {
	const most = 1 << 20
	some := []api.Hash{{}, {1}, nothing(), other(nothing())}
	for _, n := range []int{math.MinInt, -most, -2, -1, 0, 1, 2, 3, 100, most - 1, most, most + 1, 2 * most, math.MaxInt} {
		may := n >= 0 && n <= most
		for _, all := range some {
			for _, none := range [][]api.Hash{nil, {}, hashes(3)[:0]} {
				for _, old := range some {
					if got, want := Begins(0, n, old, all, none), may && old == nothing(); got != want {
						t.Errorf("nothing, by %x, begins %d leaves: %v, want %v", old, n, got, want)
					}
				}
			}
			for length := 1; length < 4; length++ {
				if Begins(0, n, nothing(), all, anyHashes(n, length)) || Begins(0, n, nothing(), all, make([]api.Hash, length)) {
					t.Errorf("nothing begins %d leaves by %d hashes", n, length)
				}
			}
		}
	}
}

// P6.4: whatever the leaves' hashes are, the same one many times among them.
func TestListsOfAnyHashes(t *testing.T) {
	for _, h := range []api.Hash{{}, nothing(), api.Hash(bytes.Repeat([]byte{0xff}, 32))} {
		for n := 1; n <= 33; n++ {
			l := slices.Repeat([]api.Hash{h}, n)
			root := wordsRoot(l)
			for i := range l {
				path, ok := Path(l, i)
				if !ok {
					t.Errorf("leaf %d of %d has no path", i, n)
				}
				checkComes(t, h, i, n, path, root, true)
				proof, ok := Prove(l, i+1)
				if !ok {
					t.Errorf("the first %d of %d have no proof", i+1, n)
				}
				old := wordsRoot(l[:i+1])
				checkBoth(t, i+1, n, old, proof, old, root, true)
			}
		}
	}
}

// P6.4: no path has more hashes than n has binary digits, as far as lists go of which paths come to something.
func TestPathsAreShort(t *testing.T) {
	for n := 1; n <= 1<<20; n = 2*n + n%3 {
		for _, size := range []int{n, n + 1, 2*n - 1} {
			for _, i := range []int{0, size / 2, size - 1} {
				for length := bits.Len(uint(size)) + 1; length < 24; length++ {
					noPath(t, api.Hash{4}, i, size, anyHashes(length, length))
				}
			}
		}
	}
}

// Rule 4: an answer is new memory, its spare room too: written over, it leaves the list and other answers as they were.
func TestAnswersAreNew(t *testing.T) {
	for n := 1; n <= 33; n++ {
		l, stays := withRoom(t, hashes(n))
		for i := range l {
			path, again := answers(Path(l, i)), answers(Path(l, i))
			spoil(path)
			if !slices.Equal(again, wordsPath(l, i)) {
				t.Errorf("the path of leaf %d of %d changed with another answer", i, n)
			}
			_ = append(again, api.Hash{0x5a}, api.Hash{0x5a})
			proof, again := answers(Prove(l, i+1)), answers(Prove(l, i+1))
			spoil(proof)
			if !slices.Equal(again, wordsSub(l, i+1, true)) {
				t.Errorf("the proof of the first %d of %d changed with another answer", i+1, n)
			}
			_ = append(again, api.Hash{0x5a}, api.Hash{0x5a})
			stays()
		}
	}
}

// answers is the list of an answer.
func answers(l []api.Hash, _ bool) []api.Hash { return l }

// Rules 4 and 6: nothing is kept of what was handed in, be it a list, a path or a proof.
func TestNothingIsKept(t *testing.T) {
	for n := 2; n <= 20; n++ {
		for i := range n {
			l := hashes(n)
			path, proof := answers(Path(l, i)), answers(Prove(l, i+1))
			keptPath, keptProof := slices.Clone(path), slices.Clone(proof)
			root, _ := Comes(l[i], i, n, path)
			spoil(l)
			if !slices.Equal(path, keptPath) || !slices.Equal(proof, keptProof) {
				t.Errorf("leaf %d of %d: an answer changed with the list", i, n)
			}
			if !slices.Equal(answers(Path(l, i)), wordsPath(l, i)) || !slices.Equal(answers(Prove(l, i+1)), wordsSub(l, i+1, true)) {
				t.Errorf("leaf %d of %d: an answer hangs on the call before it", i, n)
			}
			noPath(t, hashes(n)[i], i, n, path[1:])
			spoil(path)
			want, _ := upwardsComes(hashes(n)[i], i, n, path)
			checkComes(t, hashes(n)[i], i, n, path, want, true)
			if root != wordsRoot(hashes(n)) {
				t.Errorf("leaf %d of %d: a root changed", i, n)
			}
		}
	}
}

// Rules 4 and 6: many callers may share what they hand in: nobody writes to it.
func TestManyAtOnce(t *testing.T) {
	l := hashes(33)
	root := wordsRoot(l)
	path, proof := answers(Path(l, 20)), answers(Prove(l, 21))
	for n := range 16 {
		t.Run("", func(t *testing.T) {
			t.Parallel()
			for i := range l {
				if !In(l[i], i, 33, answers(Path(l, i)), root) || !Begins(i+1, 33, wordsRoot(l[:i+1]), root, answers(Prove(l, i+1))) {
					t.Errorf("%d: leaf %d", n, i)
				}
				if !In(l[20], 20, 33, path, root) || !Begins(21, 33, wordsRoot(l[:21]), root, proof) {
					t.Error(n)
				}
				if In(l[20], 20, 33, path[1:], root) || Begins(21, 33, wordsRoot(l[:21]), root, proof[1:]) {
					t.Error(n)
				}
			}
		})
	}
}

// Section 'Ways': who asks for more hashes than there are is given up, and who leaves some is given up too.
func TestTakenFromTheEnd(t *testing.T) {
	l := hashes(5)
	for asked := range 8 {
		var got []api.Hash
		made, ok := ofAll(l, func(take func() api.Hash) int {
			for range asked {
				got = append(got, take())
			}
			return 77
		})
		want := slices.Clone(l[max(0, len(l)-asked):])
		slices.Reverse(want)
		if !slices.Equal(got, want) {
			t.Errorf("%d hashes were asked: %x, want %x", asked, got, want)
		}
		if ok != (asked == len(l)) || ok && made != 77 || !ok && made != 0 {
			t.Errorf("%d hashes were asked: %d %v", asked, made, ok)
		}
	}
}
