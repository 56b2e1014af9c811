package clash

import (
	"bytes"
	"crypto/sha256"
	"encoding/hex"
	"math"
	"math/rand"
	"slices"
	"strings"
	"testing"

	"inspeximus/api"
)

// digest is one by which a tree may be made. Of SHA-256 no clash is known, so that what a search finds is tried by weaker ones.
type digest func(text []byte) api.Hash

// strong is SHA-256, by the library.
func strong(text []byte) api.Hash { return sha256.Sum256(text) }

// narrow is a digest of a few bits.
func narrow(bits int) digest {
	return func(text []byte) api.Hash { return api.Hash{strong(text)[0] >> (8 - bits)} }
}

// narrowOf is a digest of a few bits of those texts alone that begin with a mark: of leaves (0), or of nodes (1).
func narrowOf(mark byte, bits int) digest {
	return func(text []byte) api.Hash {
		if bytes.HasPrefix(text, []byte{mark}) {
			return narrow(bits)(text)
		}
		return strong(text)
	}
}

// weakDigest is one that has clashes, and where those of lists and those of paths lie.
type weakDigest struct {
	name         string
	digest       digest
	lists, paths string
}

// weak are digests that have clashes of every kind.
func weak() []weakDigest {
	all := "top node leaf"
	return []weakDigest{
		{"all the same", func([]byte) api.Hash { return api.Hash{5} }, "leaf", all},
		{"1 bit", narrow(1), all, all},
		{"2 bits", narrow(2), all, all},
		{"4 bits", narrow(4), all, all},
		{"2 bits of leaves", narrowOf(0, 2), "leaf", "leaf"},
		{"2 bits of nodes", narrowOf(1, 2), "top node", "top node"},
	}
}

// leaf is a leaf's hash by the words of layer 5.
func (d digest) leaf(b []byte) api.Hash { return d(slices.Concat([]byte{0}, b)) }

// node is a node's hash by the words of layer 5.
func (d digest) node(l, r api.Hash) api.Hash { return d(slices.Concat([]byte{1}, l[:], r[:])) }

// root is a list's root by the words of layer 5.
func (d digest) root(l []api.Hash) api.Hash {
	if len(l) == 0 {
		return d(nil)
	}
	if len(l) == 1 {
		return l[0]
	}
	k := wordsSplit(len(l))
	return d.node(d.root(l[:k]), d.root(l[k:]))
}

// roots is the root of leaves, told by their bytes.
func (d digest) roots(l [][]byte) api.Hash {
	var out []api.Hash
	for _, b := range l {
		out = append(out, d.leaf(b))
	}
	return d.root(out)
}

// clash says whether two texts differ, and have one digest.
func (d digest) clash(x, y []byte) bool { return string(x) != string(y) && d(x) == d(y) }

// wordsSplit is the greatest power of two below n, gone up to.
func wordsSplit(n int) int {
	k := 1
	for 2*k < n {
		k *= 2
	}
	return k
}

// sameLists says whether two lists of one length are the same, leaf by leaf.
func sameLists(a, b [][]byte) bool {
	for i := range a {
		if string(a[i]) != string(b[i]) {
			return false
		}
	}
	return true
}

// extract is the clash of two lists by the words of the chapter.
func (d digest) extract(a, b [][]byte) ([]byte, []byte, bool) {
	if len(a) != len(b) || sameLists(a, b) || d.roots(a) != d.roots(b) {
		return nil, nil, false
	}
	k := wordsSplit(len(a))
	if len(a) == 1 || d.roots(a[:k]) != d.roots(b[:k]) || d.roots(a[k:]) != d.roots(b[k:]) {
		return d.top(a), d.top(b), true
	}
	if !sameLists(a[:k], b[:k]) {
		return d.extract(a[:k], b[:k])
	}
	return d.extract(a[k:], b[k:])
}

// textsUp are the texts on a leaf's way, from the leaf up, gone through row by row, by numbers alone (RFC 9162, 2.1.3.2); none if the path hasn't just as many hashes.
func (d digest) textsUp(leaf []byte, i, n int, path []api.Hash) ([][]byte, bool) {
	if i < 0 || i >= n || n > 1<<20 {
		return nil, false
	}
	at, last := i, n-1
	texts := [][]byte{append([]byte{0}, leaf...)}
	for _, side := range path {
		if last == 0 {
			return nil, false
		}
		below := d(texts[len(texts)-1])
		if at%2 == 1 || at == last {
			texts = append(texts, slices.Concat([]byte{1}, side[:], below[:]))
			for at%2 == 0 && at > 0 {
				at, last = at/2, last/2
			}
		} else {
			texts = append(texts, slices.Concat([]byte{1}, below[:], side[:]))
		}
		at, last = at/2, last/2
	}
	return texts, last == 0
}

// comes is what a path comes to.
func (d digest) comes(leaf api.Hash, i, n int, path []api.Hash) (api.Hash, bool) {
	// Only the leaf's hash is known, so that its text is cut off and the digest answers the hash instead.
	known := digest(func(text []byte) api.Hash {
		if text[0] == 0 {
			return leaf
		}
		return d(text)
	})
	texts, ok := known.textsUp(nil, i, n, path)
	if !ok {
		return api.Hash{}, false
	}
	return known(texts[len(texts)-1]), true
}

// paths is the clash of two leaves' paths by the words of the chapter.
func (d digest) paths(leaf, other []byte, i, n int, p, q []api.Hash) ([]byte, []byte, bool) {
	xs, ok := d.textsUp(leaf, i, n, p)
	ys, too := d.textsUp(other, i, n, q)
	if !ok || !too || string(leaf) == string(other) || d(xs[len(xs)-1]) != d(ys[len(ys)-1]) {
		return nil, nil, false
	}
	for k := len(xs) - 1; ; k-- {
		if d.clash(xs[k], ys[k]) {
			return xs[k], ys[k], true
		}
	}
}

// The calls of which clashes are asked, for one digest.
type (
	asLists func(a, b [][]byte) ([]byte, []byte, bool)
	asPaths func(leaf, other []byte, i, n int, p, q []api.Hash) ([]byte, []byte, bool)
)

// searchLists is the program's search by a digest.
func searchLists(d digest) asLists {
	return func(a, b [][]byte) ([]byte, []byte, bool) { return ofLists(a, b, d.leaf, d.root) }
}

// searchPaths is the program's search by a digest.
func searchPaths(d digest) asPaths {
	return func(leaf, other []byte, i, n int, p, q []api.Hash) ([]byte, []byte, bool) {
		return ofPaths(way{leaf, d.leaf(leaf), i, n, p}, way{other, d.leaf(other), i, n, q}, d.comes)
	}
}

// room is how much marked room lies behind what is handed in.
const room = 40

// roomy is a copy of l with marked room behind it, and says whether l and the room are as they were.
func roomy[T comparable](l []T, mark T) ([]T, func() bool) {
	whole := slices.Concat(l, slices.Repeat([]T{mark}, room))
	kept := slices.Clone(whole)
	return whole[:len(l)], func() bool { return slices.Equal(whole, kept) }
}

// roomyBytes is a text with marked room behind it.
func roomyBytes(b []byte) ([]byte, func() bool) { return roomy(b, 0xa5) }

// roomyPath is a path with marked room behind it.
func roomyPath(p []api.Hash) ([]api.Hash, func() bool) { return roomy(p, api.Hash{0xa5}) }

// roomyList is a list with marked room behind it and behind each leaf.
func roomyList(l [][]byte) ([][]byte, func() bool) {
	whole := make([][]byte, len(l)+room)
	checks := make([]func() bool, len(whole))
	for i := range whole {
		b := []byte("behind")
		if i < len(l) {
			b = l[i]
		}
		whole[i], checks[i] = roomyBytes(b)
	}
	lies := slices.Clone(whole)
	return whole[:len(l)], func() bool {
		for i, check := range checks {
			// Each leaf still lies where it lay, and is what it was.
			if len(whole[i]) != len(lies[i]) || &whole[i][:1][0] != &lies[i][:1][0] || !check() {
				return false
			}
		}
		return true
	}
}

// taken is a copy of an answer, which is then written over, its spare room too: nobody else may see that.
func taken(b []byte) []byte {
	out := slices.Clone(b)
	for i := range b[:cap(b)] {
		b[:cap(b)][i] ^= 0xff
	}
	return out
}

// askLists asks for the clash of two lists, and sees to it that they are neither changed nor handed out.
func askLists(t *testing.T, ask asLists, a, b [][]byte) ([]byte, []byte, bool) {
	t.Helper()
	a, aStays := roomyList(a)
	b, bStays := roomyList(b)
	gotX, gotY, ok := ask(a, b)
	x := taken(gotX)
	y := taken(gotY)
	if !aStays() || !bStays() {
		t.Errorf("lists of %d and %d that were handed in, or the room behind them, were changed", len(a), len(b))
	}
	return x, y, ok
}

// askPaths asks for the clash of two leaves' paths, and sees to it that they are neither changed nor handed out.
func askPaths(t *testing.T, ask asPaths, leaf, other []byte, i, n int, p, q []api.Hash) ([]byte, []byte, bool) {
	t.Helper()
	leaf, leafStays := roomyBytes(leaf)
	other, otherStays := roomyBytes(other)
	p, pStays := roomyPath(p)
	q, qStays := roomyPath(q)
	gotX, gotY, ok := ask(leaf, other, i, n, p, q)
	x := taken(gotX)
	y := taken(gotY)
	if !leafStays() || !otherStays() || !pStays() || !qStays() {
		t.Errorf("what was handed in of leaf %d of %d, or the room behind it, was changed", i, n)
	}
	return x, y, ok
}

// found counts clashes by where they lie: in the texts of two roots, of nodes below, of leaves.
type found struct{ top, node, leaf int }

// add counts a clash whose first text is x, of a root's text top.
func (f *found) add(x, top []byte) {
	switch {
	case x[0] == 0:
		f.leaf++
	case bytes.Equal(x, top):
		f.top++
	default:
		f.node++
	}
}

// places are the names of where there were some.
func (f *found) places() string {
	var out []string
	for i, n := range []int{f.top, f.node, f.leaf} {
		if n > 0 {
			out = append(out, []string{"top", "node", "leaf"}[i])
		}
	}
	return strings.Join(out, " ")
}

// top is the text that a list's root is the digest of.
func (d digest) top(l [][]byte) []byte {
	if len(l) == 1 {
		return append([]byte{0}, l[0]...)
	}
	k := wordsSplit(len(l))
	first, others := d.roots(l[:k]), d.roots(l[k:])
	return slices.Concat([]byte{1}, first[:], others[:])
}

// checkLists holds the clash of two lists against the words, and counts it.
func checkLists(t *testing.T, d digest, ask asLists, a, b [][]byte, f *found) {
	t.Helper()
	x, y, ok := askLists(t, ask, a, b)
	wantX, wantY, want := d.extract(a, b)
	if !bytes.Equal(x, wantX) || !bytes.Equal(y, wantY) || ok != want {
		t.Errorf("the clash of %q and %q: %x and %x, %v, want %x and %x, %v", a, b, x, y, ok, wantX, wantY, want)
		return
	}
	if ok != d.clash(x, y) {
		t.Errorf("the clash of %q and %q: %x and %x is told as %v", a, b, x, y, ok)
	}
	if none := len(a) != len(b) || sameLists(a, b) || d.roots(a) != d.roots(b); ok == none {
		t.Errorf("%q and %q: %v", a, b, ok)
	}
	if ok {
		f.add(x, d.top(a))
	}
}

// checkPaths holds the clash of two paths against the words, and counts it.
func checkPaths(t *testing.T, d digest, ask asPaths, leaf, other []byte, i, n int, p, q []api.Hash, f *found) {
	t.Helper()
	x, y, ok := askPaths(t, ask, leaf, other, i, n, p, q)
	wantX, wantY, want := d.paths(leaf, other, i, n, p, q)
	if !bytes.Equal(x, wantX) || !bytes.Equal(y, wantY) || ok != want {
		t.Errorf("the clash of %q and %q at %d of %d by %x and %x: %x and %x, %v, want %x and %x, %v", leaf, other, i, n, p, q, x, y, ok, wantX, wantY, want)
		return
	}
	if ok != d.clash(x, y) {
		t.Errorf("the clash of %q and %q at %d of %d: %x and %x is told as %v", leaf, other, i, n, x, y, ok)
	}
	if ok {
		texts, _ := d.textsUp(leaf, i, n, p)
		f.add(x, texts[len(texts)-1])
	}
}

// noLists checks that two lists have no clash, whichever comes first.
func noLists(t *testing.T, a, b [][]byte) {
	t.Helper()
	for _, two := range [][2][][]byte{{a, b}, {b, a}} {
		if x, y, ok := askLists(t, Extract, two[0], two[1]); len(x)+len(y) != 0 || ok {
			t.Errorf("%q and %q have a clash: %x and %x, %v", two[0], two[1], x, y, ok)
		}
	}
}

// noPaths checks that two paths have no clash, whichever comes first.
func noPaths(t *testing.T, leaf, other []byte, i, n int, p, q []api.Hash) {
	t.Helper()
	if x, y, ok := askPaths(t, Paths, leaf, other, i, n, p, q); len(x)+len(y) != 0 || ok {
		t.Errorf("%q and %q at %d of %d have a clash: %x and %x, %v", leaf, other, i, n, x, y, ok)
	}
	if x, y, ok := askPaths(t, Paths, other, leaf, i, n, q, p); len(x)+len(y) != 0 || ok {
		t.Errorf("%q and %q at %d of %d have a clash: %x and %x, %v", other, leaf, i, n, x, y, ok)
	}
}

// leaves are n of them, all of different bytes and of lengths from 0 to some dozens, one list beginning each longer one.
func leaves(n int) [][]byte {
	out := make([][]byte, n)
	for i := range out {
		out[i] = bytes.Repeat([]byte{byte(i), byte(i >> 8)}, i%40)
	}
	return out
}

// sizes are all from 0 to some dozens, and powers of two, one below and one above.
func sizes() []int {
	var out []int
	for n := range 70 {
		out = append(out, n)
	}
	return append(out, 100, 127, 128, 129, 255, 256, 257)
}

// digits are a hash's, in sixteen.
func digits(h api.Hash) string { return hex.EncodeToString(h[:]) }

// path is that of the leaf i by the words of layer 6.
func (d digest) path(l [][]byte, i int) []api.Hash {
	if len(l) == 1 {
		return nil
	}
	k := wordsSplit(len(l))
	if i < k {
		return append(d.path(l[:k], i), d.roots(l[k:]))
	}
	return append(d.path(l[k:], i-k), d.roots(l[:k]))
}

// with is a copy of l in which the leaf i is another one.
func with(l [][]byte, i int, b []byte) [][]byte {
	out := slices.Clone(l)
	out[i] = b
	return out
}

// P7.1: roots that are known by heart.
func TestKnownRoots(t *testing.T) {
	known := [][]byte{nil, {0}, {0x10}, {0x20, 0x21}, {0x30, 0x31}, {0x40, 0x41, 0x42, 0x43}, []byte("PQRSTUVW"), []byte("`abcdefghijklmno")}
	for n, want := range []string{
		"e3b0c44298fc1c149afbf4c8996fb92427ae41e4649b934ca495991b7852b855",
		"6e340b9cffb37a989ca544e6bb780a2c78901d3fb33738768511a30617afa01d",
		"fac54203e7cc696cf0dfcb42c92a1d9dbaf70ad9e621f4bd8d98662f00e3c125",
		"aeb6bcfe274b70a14fb067a5e5578264db0fa9b51af5e0ba159158f329e06e77",
		"d37ee418976dd95753c1c73862b9398fa2a2cf9b4ff0fdfe8b30cd95209614b7",
		"4e3bbb1f7b478dcfe71fb631631519a3bca12c9aefca1612bfce4c13a86264d4",
		"76e67dadbcdf1e10e1b74ddc608abd2f98dfb16fbce75277b5232a127f2087ef",
		"ddb89be403809e325750d3d263cd78929c2942b7942a34b77e122c9594a74c8c",
		"5dc9da79a70659a9ad559cb701ded9a2ab9d823aad2f4960cfe370eff4604328",
	} {
		if got := digits(Roots(known[:n])); got != want {
			t.Errorf("the root of %d leaves: %s, want %s", n, got, want)
		}
	}
}

// P7.1: the root of leaves of every number, against the words of layer 5.
func TestRoots(t *testing.T) {
	for _, n := range sizes() {
		l, stays := roomyList(leaves(n))
		want := digest(strong).roots(l)
		for range 2 {
			if got := Roots(l); got != want {
				t.Errorf("the root of %d leaves: %x, want %x", n, got, want)
			}
		}
		if !stays() {
			t.Errorf("%d leaves were changed", n)
		}
	}
	for _, l := range [][][]byte{nil, {}, leaves(5)[:0], leaves(5)[5:]} {
		if got := Roots(l); got != strong(nil) {
			t.Errorf("the root of no leaves: %x", got)
		}
	}
	if Roots([][]byte{nil, {}, nil}) != Roots([][]byte{{}, nil, {}}) || Roots([][]byte{nil}) != strong([]byte{0}) {
		t.Error("leaves that are nil, and that are empty")
	}
}

// P7.1: texts that are the same are no clash, and of SHA-256 none that differ are known.
func TestIs(t *testing.T) {
	long := bytes.Repeat([]byte("0123456789abcdef"), 20)
	texts := [][]byte{nil, {}, {0}, {0, 0}, {1}, []byte("a"), []byte("b"), []byte("ab"), long[:55], long[:56], long[:63], long[:64], long[:65], long[:len(long)-1], long}
	texts = append(texts, append(slices.Clone(long[:64]), 0x80), slices.Concat([]byte{1}, long[:64]))
	for _, a := range texts {
		for _, b := range texts {
			x, xStays := roomyBytes(a)
			y, yStays := roomyBytes(b)
			if Is(x, y) {
				t.Errorf("%q and %q are a clash", x, y)
			}
			if !xStays() || !yStays() {
				t.Errorf("%q or %q was changed", a, b)
			}
		}
		if Is(a, a) {
			t.Errorf("%q is a clash with itself", a)
		}
	}
	// A text of which another one is a filled-up form has a digest of its own.
	if Is([]byte("abc"), slices.Concat([]byte("abc\x80"), make([]byte, 59), []byte{24})) {
		t.Error("a text, and what it is filled up to")
	}
}

// P7.1, P7.3: the chapter's example: two lists that are the same have no clash.
func TestSameLists(t *testing.T) {
	for _, n := range sizes() {
		noLists(t, leaves(n), leaves(n))
		l := leaves(n)
		if x, y, ok := Extract(l, l); len(x)+len(y) != 0 || ok {
			t.Errorf("a list of %d has a clash with itself", n)
		}
	}
	for _, a := range [][][]byte{nil, {}, leaves(5)[:0], leaves(5)[5:]} {
		noLists(t, a, nil)
		noLists(t, a, [][]byte{})
		noLists(t, a, [][]byte{nil})
		noLists(t, a, leaves(4))
	}
	noLists(t, [][]byte{nil, {}, nil}, [][]byte{{}, nil, nil})
}

// P7.1, P7.3: lists of other lengths have none.
func TestListsOfOtherLengths(t *testing.T) {
	for _, n := range sizes() {
		l := leaves(n)
		noLists(t, l, leaves(n+1))
		noLists(t, l, leaves(2*n+1))
		noLists(t, l, append(leaves(n), nil))
		noLists(t, l, append([][]byte{nil}, l...))
		if n > 0 {
			noLists(t, l, l[:n-1])
			noLists(t, l, l[1:])
			noLists(t, l, append(leaves(n), l[n-1]))
		}
	}
	// A list whose leaf is a node's text: the marks tell them apart.
	two := [][]byte{[]byte("a"), []byte("b")}
	a, b := digest(strong).leaf(two[0]), digest(strong).leaf(two[1])
	noLists(t, two, [][]byte{slices.Concat([]byte{1}, a[:], b[:])})
	noLists(t, two, [][]byte{slices.Concat(a[:], b[:])})
}

// P7.1, P7.3: lists that differ in a leaf, in its length, in their order have none, unless somebody knows a clash of SHA-256.
func TestListsThatDiffer(t *testing.T) {
	for _, n := range sizes() {
		l := leaves(n)
		for i := range l {
			if n > 20 && i%11 != 3 && i != 0 && i != n-1 {
				continue
			}
			noLists(t, l, with(l, i, []byte("other")))
			noLists(t, l, with(l, i, append(slices.Clone(l[i]), 0)))
			if len(l[i]) > 0 {
				noLists(t, l, with(l, i, nil))
				noLists(t, l, with(l, i, l[i][1:]))
				noLists(t, l, with(l, i, append([]byte{l[i][0] ^ 1}, l[i][1:]...)))
			}
			if i > 0 {
				noLists(t, l, with(with(l, i, l[i-1]), i-1, l[i]))
			}
		}
		if n > 1 {
			turned := slices.Clone(l)
			slices.Reverse(turned)
			noLists(t, l, turned)
			noLists(t, l, append(slices.Clone(l[1:]), l[0]))
		}
	}
}

// P7.2: a leaf's own path, and paths that differ, of leaves that are the same and that differ.
func TestPathsOfLeaves(t *testing.T) {
	d := digest(strong)
	for _, n := range []int{1, 2, 3, 4, 5, 6, 7, 8, 9, 15, 16, 17, 31, 32, 33} {
		l := leaves(n)
		for i := range l {
			p := d.path(l, i)
			for _, other := range [][]byte{l[i], nil, {0}, []byte("other"), append(slices.Clone(l[i]), 0), l[(i+1)%n]} {
				noPaths(t, l[i], other, i, n, p, p)
				noPaths(t, l[i], other, i, n, p, d.path(with(l, i, other), i))
				for k := range p {
					q := slices.Clone(p)
					q[k][31] ^= 1
					noPaths(t, l[i], other, i, n, p, q)
				}
				for _, q := range [][]api.Hash{nil, append(slices.Clone(p), p...), append(slices.Clone(p), api.Hash{})} {
					noPaths(t, l[i], other, i, n, p, q)
				}
				if len(p) > 0 {
					noPaths(t, l[i], other, i, n, p, p[1:])
					noPaths(t, l[i], other, i, n, p, p[:len(p)-1])
				}
			}
		}
	}
}

// P7.2: places where there is no leaf, and lists that are too long.
func TestPathsOfNone(t *testing.T) {
	far := []int{math.MinInt, math.MinInt32, -1, 0, 1, 2, 3, 4, 1<<20 - 1, 1 << 20, 1<<20 + 1, 1 << 21, math.MaxInt32, math.MaxInt}
	var paths [][]api.Hash
	for _, n := range []int{0, 1, 2, 19, 20, 21, 22, 31, 62, 63, 64} {
		paths = append(paths, make([]api.Hash, n))
	}
	for _, i := range far {
		for _, n := range far {
			for _, p := range paths {
				noPaths(t, nil, nil, i, n, p, p)
				noPaths(t, []byte("a"), []byte("b"), i, n, p, p)
				noPaths(t, []byte("a"), []byte("b"), i, n, p, nil)
			}
		}
	}
	noPaths(t, nil, []byte{}, 0, 1, nil, []api.Hash{})
}

// anyList is a list of n leaves, of few that there are.
func anyList(r *rand.Rand, n int) [][]byte {
	out := make([][]byte, n)
	for i := range out {
		out[i] = []byte("abcdefgh")[:r.Intn(9)]
	}
	return out
}

// near is a list that differs from l in a leaf or a few, or by chance in none.
func near(r *rand.Rand, l [][]byte) [][]byte {
	out := slices.Clone(l)
	for range 1 + r.Intn(3) {
		out[r.Intn(len(out))] = []byte("ABCDEFGH")[:r.Intn(9)]
	}
	return out
}

// holdLists holds the clashes of lists of any leaves against the words, and says where they were found.
func holdLists(t *testing.T, d digest, ask asLists) string {
	var f found
	r := rand.New(rand.NewSource(7))
	for n := 1; n <= 20; n++ {
		for range 30 {
			a := anyList(r, n)
			for _, b := range [][][]byte{anyList(r, n), near(r, a), near(r, a), a, a[1:], append(slices.Clone(a), nil)} {
				checkLists(t, d, ask, a, b, &f)
				checkLists(t, d, ask, b, a, &f)
			}
		}
	}
	return f.places()
}

// pathSize is how many hashes the path of the leaf i of n has; 0 where there is no leaf.
func pathSize(i, n int) int {
	if i < 0 || i >= n || n == 1 {
		return 0
	}
	k := wordsSplit(n)
	if i < k {
		return 1 + pathSize(i, k)
	}
	return 1 + pathSize(i-k, n-k)
}

// anyPath is a path of n hashes, of few that there are.
func anyPath(r *rand.Rand, n int) []api.Hash {
	out := make([]api.Hash, n)
	for i := range out {
		out[i][r.Intn(32)] = byte(r.Intn(3))
	}
	return out
}

// nearPath is a path that ends as p does, and by chance is p.
func nearPath(r *rand.Rand, p []api.Hash) []api.Hash {
	k := r.Intn(len(p) + 1)
	return slices.Concat(anyPath(r, k), p[k:])
}

// holdPaths holds the clashes of paths of any hashes against the words, and says where they were found.
func holdPaths(t *testing.T, d digest, ask asPaths) string {
	var f found
	r := rand.New(rand.NewSource(7))
	for _, n := range []int{0, 1, 2, 3, 4, 5, 6, 7, 8, 9, 15, 16, 17, 33, 100, 1<<20 - 1, 1 << 20, 1<<20 + 1} {
		for _, i := range []int{-1, 0, 1, n / 3, n / 2, n - 2, n - 1, n} {
			for range 20 {
				l, p := anyList(r, 2), anyPath(r, pathSize(i, n))
				for _, q := range [][]api.Hash{p, anyPath(r, len(p)), nearPath(r, p), nearPath(r, p), anyPath(r, len(p)+1), p[:len(p)/2]} {
					checkPaths(t, d, ask, l[0], l[1], i, n, p, q, &f)
					checkPaths(t, d, ask, l[1], l[0], i, n, q, p, &f)
					checkPaths(t, d, ask, l[0], l[0], i, n, p, q, &f)
				}
			}
		}
	}
	return f.places()
}

// P7.1, P7.3: by digests that have clashes: two lists have none just if they are the same, or of other lengths or roots; else it is the one that the words tell.
func TestClashesOfLists(t *testing.T) {
	for _, w := range weak() {
		t.Run(w.name, func(t *testing.T) {
			t.Parallel()
			if got := holdLists(t, w.digest, searchLists(w.digest)); got != w.lists {
				t.Errorf("found at %q, want %q", got, w.lists)
			}
		})
	}
}

// P7.1, P7.3: all lists of a few leaves, of three that there are, against each other.
func TestClashesOfAllShortLists(t *testing.T) {
	var all [][][]byte
	for n := 0; n <= 4; n++ {
		for number := range int(math.Pow(3, float64(n))) {
			l := make([][]byte, n)
			for i := range l {
				l[i] = []byte("ab")[:number%3]
				number /= 3
			}
			all = append(all, l)
		}
	}
	for _, w := range weak() {
		t.Run(w.name, func(t *testing.T) {
			t.Parallel()
			var f found
			for _, a := range all {
				for _, b := range all {
					checkLists(t, w.digest, searchLists(w.digest), a, b, &f)
				}
			}
		})
	}
}

// P7.2, P7.3: by digests that have clashes: of leaves that differ it is the first from the root down, and of others there is none.
func TestClashesOfPaths(t *testing.T) {
	for _, w := range weak() {
		t.Run(w.name, func(t *testing.T) {
			t.Parallel()
			if got := holdPaths(t, w.digest, searchPaths(w.digest)); got != w.paths {
				t.Errorf("found at %q, want %q", got, w.paths)
			}
		})
	}
}

// P7.1: clashes that are told one by one: by a digest that knows no leaf from another one, and by one that knows no node's sides.
func TestFewClashes(t *testing.T) {
	blind := digest(func(text []byte) api.Hash {
		if text[0] == 0 {
			return api.Hash{1}
		}
		return strong(text)
	})
	a, b := [][]byte{[]byte("a"), []byte("b"), []byte("c")}, [][]byte{[]byte("a"), []byte("d"), []byte("e")}
	if x, y, ok := askLists(t, searchLists(blind), a, b); string(x) != "\x00b" || string(y) != "\x00d" || !ok {
		t.Errorf("the first leaves that differ: %q and %q, %v", x, y, ok)
	}
	if x, y, ok := askLists(t, searchLists(blind), a[2:], b[2:]); string(x) != "\x00c" || string(y) != "\x00e" || !ok {
		t.Errorf("two leaves: %q and %q, %v", x, y, ok)
	}
	if x, y, ok := askLists(t, searchLists(blind), a[:1], [][]byte{nil}); string(x) != "\x00a" || string(y) != "\x00" || !ok {
		t.Errorf("a leaf, and an empty one: %q and %q, %v", x, y, ok)
	}
	turned := digest(func(text []byte) api.Hash {
		if text[0] == 0 {
			return strong(text)
		}
		var sum api.Hash
		for i := range sum {
			sum[i] = text[1+i] ^ text[33+i]
		}
		return sum
	})
	c := [][]byte{[]byte("b"), []byte("a"), []byte("c")}
	ha, hb, hc := strong([]byte("\x00a")), strong([]byte("\x00b")), strong([]byte("\x00c"))
	ab, ba := slices.Concat([]byte{1}, ha[:], hb[:]), slices.Concat([]byte{1}, hb[:], ha[:])
	if x, y, ok := askLists(t, searchLists(turned), a, c); !bytes.Equal(x, ab) || !bytes.Equal(y, ba) || !ok {
		t.Errorf("two nodes, turned: %x and %x, %v", x, y, ok)
	}
	p, q := []api.Hash{hb, hc}, []api.Hash{ha, hc}
	if x, y, ok := askPaths(t, searchPaths(turned), a[0], c[0], 0, 3, p, q); !bytes.Equal(x, ab) || !bytes.Equal(y, ba) || !ok {
		t.Errorf("two paths, turned: %x and %x, %v", x, y, ok)
	}
	if x, y, ok := askPaths(t, searchPaths(blind), a[0], a[1], 0, 3, p, p); string(x) != "\x00a" || string(y) != "\x00b" || !ok {
		t.Errorf("two leaves of one path: %x and %x, %v", x, y, ok)
	}
}

// P7.2: leaves that are the same have none, even if two paths of theirs that differ come to one root.
func TestPathsOfOneLeaf(t *testing.T) {
	d := digest(func(text []byte) api.Hash { return api.Hash{text[0]} })
	p, q := []api.Hash{{1}, {2}}, []api.Hash{{3}, {4}}
	if _, _, ok := askPaths(t, searchPaths(d), []byte("a"), []byte("b"), 0, 3, p, q); !ok {
		t.Error("two leaves have no clash")
	}
	for _, leaf := range [][]byte{nil, []byte("a")} {
		if x, y, ok := askPaths(t, searchPaths(d), leaf, slices.Clone(leaf), 0, 3, p, q); len(x)+len(y) != 0 || ok {
			t.Errorf("the leaf %q has one: %x and %x, %v", leaf, x, y, ok)
		}
	}
}

// Section 'Ways': one goes down as long as there is told where, and no farther than to the first two texts that differ.
func TestGoingDown(t *testing.T) {
	for depth := range 6 {
		for apart := range 9 {
			steps := 0
			text := func(n int) []byte {
				if n >= 100+apart {
					return []byte{1, byte(n)}
				}
				return []byte{0, byte(n % 100)}
			}
			x, y, ok := firstApart(0, 100, text, func(x, y int) (int, int, bool) {
				steps++
				return x + 1, y + 1, steps <= depth
			})
			if ok != (apart <= depth) {
				t.Errorf("apart at %d of %d: %v", apart, depth, ok)
			}
			if ok && (steps != apart || !bytes.Equal(x, []byte{0, byte(apart)}) || !bytes.Equal(y, []byte{1, byte(100 + apart)})) {
				t.Errorf("apart at %d of %d: %x and %x behind %d steps", apart, depth, x, y, steps)
			}
			if !ok && (len(x)+len(y) != 0 || steps != depth+1) {
				t.Errorf("apart at none of %d: %x and %x behind %d steps", depth, x, y, steps)
			}
		}
	}
}

// Rules 4 and 6: nothing is kept: what is told stays as it is when what was handed in changes, and hangs on no call before.
func TestNothingIsKept(t *testing.T) {
	d := narrowOf(0, 0)
	a, b := leaves(9), with(leaves(9), 5, []byte("other"))
	x, y, _ := searchLists(d)(a, b)
	keptX, keptY := slices.Clone(x), slices.Clone(y)
	leaf, other, p := []byte("leaf"), []byte("other"), make([]api.Hash, 4)
	v, w, _ := searchPaths(d)(leaf, other, 2, 9, p, p)
	for _, l := range [][][]byte{a, b, {leaf, other}} {
		for i := range l {
			taken(l[i])
			l[i] = nil
		}
	}
	if !bytes.Equal(x, keptX) || !bytes.Equal(y, keptY) || string(x) != "\x00"+string(leaves(9)[5]) || string(y) != "\x00other" {
		t.Errorf("the clash of two lists changed with them: %q and %q", x, y)
	}
	if string(v) != "\x00leaf" || string(w) != "\x00other" {
		t.Errorf("the clash of two paths changed with them: %q and %q", v, w)
	}
	noLists(t, a, b)
	if Roots(a) != digest(strong).roots(a) || Roots(leaves(9)) != digest(strong).roots(leaves(9)) {
		t.Error("a root hangs on the call before it")
	}
}

// Rules 4 and 6: many callers may share what they hand in: nobody writes to it.
func TestManyAtOnce(t *testing.T) {
	a, b := leaves(33), with(leaves(33), 20, []byte("other"))
	p := digest(strong).path(a, 20)
	d := narrowOf(0, 0)
	for range 8 {
		t.Run("", func(t *testing.T) {
			t.Parallel()
			for range 20 {
				_, _, one := Extract(a, b)
				_, _, two := Paths(a[20], b[20], 20, 33, p, p)
				if one || two || Is(a[20], b[20]) || Roots(a) == Roots(b) {
					t.Error("a clash of SHA-256")
				}
				if x, y, ok := searchLists(d)(a, b); !ok || !bytes.Equal(x[1:], a[20]) || !bytes.Equal(y[1:], b[20]) {
					t.Errorf("%q and %q, %v", x, y, ok)
				}
			}
		})
	}
}
