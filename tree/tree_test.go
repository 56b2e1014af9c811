package tree

import (
	"bytes"
	"crypto/sha256"
	"encoding/hex"
	"math"
	"math/rand"
	"slices"
	"testing"

	"inspeximus/api"
)

// text is n bytes that differ, so that one out of place shows.
func text(n int) []byte {
	out := make([]byte, n)
	rand.New(rand.NewSource(int64(n))).Read(out)
	return out
}

// hashes are n leaves' hashes, all of them different, one list beginning each longer one.
func hashes(n int) []api.Hash {
	out := make([]api.Hash, n)
	for i := range out {
		out[i] = sha256.Sum256([]byte{0, byte(i >> 16), byte(i >> 8), byte(i)})
	}
	return out
}

// sizes are all up to some dozens, and each power of two, one below and one above.
func sizes() []int {
	var out []int
	for n := range 100 {
		out = append(out, n)
	}
	for power := 128; power <= 4096; power *= 2 {
		out = append(out, power-1, power, power+1)
	}
	return append(out, 400, 1000, 3000)
}

// withRoom is a copy of l with marked room behind it, and a check that l and the room are as they were.
func withRoom[T comparable](t *testing.T, l []T, mark T) ([]T, func()) {
	t.Helper()
	whole := slices.Concat(l, slices.Repeat([]T{mark}, 80))
	kept := slices.Clone(whole)
	return whole[:len(l)], func() {
		t.Helper()
		if !slices.Equal(whole, kept) {
			t.Errorf("a list of %d that was handed in, or the room behind it, was changed", len(l))
		}
	}
}

// spoil writes over an answer and all its spare room, which nobody else may see.
func spoil(l []api.Hash) {
	l = l[:cap(l)]
	for i := range l {
		for j := range l[i] {
			l[i][j] ^= 0xff
		}
	}
}

// wordsNode is a node's hash by the words of the chapter, by the library's digest.
func wordsNode(l, r api.Hash) api.Hash {
	return sha256.Sum256(slices.Concat([]byte{1}, l[:], r[:]))
}

// wordsSplit is the greatest power of two below n, gone up to; 0 of n below 2.
func wordsSplit(n int) int {
	greatest := 0
	for power := uint64(1); n > 0 && power < uint64(n); power *= 2 {
		greatest = int(power)
	}
	return greatest
}

// wordsRoot is a list's root by the words of the chapter.
func wordsRoot(l []api.Hash) api.Hash {
	if len(l) == 0 {
		return sha256.Sum256(nil)
	}
	if len(l) == 1 {
		return l[0]
	}
	k := wordsSplit(len(l))
	return wordsNode(wordsRoot(l[:k]), wordsRoot(l[k:]))
}

// wordsTrees are the roots of the whole trees that a list makes: of each power of two in how many there are, from the greatest one on.
func wordsTrees(l []api.Hash) []api.Hash {
	var out []api.Hash
	for power := 1 << 30; power > 0; power /= 2 {
		if len(l)/power%2 == 1 {
			begin := len(l) / (2 * power) * 2 * power
			out = append(out, wordsRoot(l[begin:begin+power]))
		}
	}
	return out
}

// checkFront holds a frontier against the list that it has taken.
func checkFront(t *testing.T, f *Front, l []api.Hash) {
	t.Helper()
	for range 2 {
		if got := f.Size(); got != len(l) {
			t.Errorf("%d leaves: the size is %d", len(l), got)
		}
		if got, want := f.Root(), wordsRoot(l); got != want {
			t.Errorf("%d leaves: the root is %x, want %x", len(l), got, want)
		}
		if got, want := f.Trees(), wordsTrees(l); !slices.Equal(got, want) {
			t.Errorf("%d leaves: the trees are %x, want %x", len(l), got, want)
		}
	}
}

// known are the leaves by which trees of this form are held against each other, and their roots, from none of them on.
func known() (leaves []string, roots []string) {
	return []string{"", "\x00", "\x10", "\x20\x21", "\x30\x31", "\x40\x41\x42\x43", "\x50\x51\x52\x53\x54\x55\x56\x57", "\x60\x61\x62\x63\x64\x65\x66\x67\x68\x69\x6a\x6b\x6c\x6d\x6e\x6f"},
		[]string{
			"e3b0c44298fc1c149afbf4c8996fb92427ae41e4649b934ca495991b7852b855",
			"6e340b9cffb37a989ca544e6bb780a2c78901d3fb33738768511a30617afa01d",
			"fac54203e7cc696cf0dfcb42c92a1d9dbaf70ad9e621f4bd8d98662f00e3c125",
			"aeb6bcfe274b70a14fb067a5e5578264db0fa9b51af5e0ba159158f329e06e77",
			"d37ee418976dd95753c1c73862b9398fa2a2cf9b4ff0fdfe8b30cd95209614b7",
			"4e3bbb1f7b478dcfe71fb631631519a3bca12c9aefca1612bfce4c13a86264d4",
			"76e67dadbcdf1e10e1b74ddc608abd2f98dfb16fbce75277b5232a127f2087ef",
			"ddb89be403809e325750d3d263cd78929c2942b7942a34b77e122c9594a74c8c",
			"5dc9da79a70659a9ad559cb701ded9a2ab9d823aad2f4960cfe370eff4604328",
		}
}

// P5.1, P5.2: roots that are known by heart, the chapter's example ahead.
func TestKnownRoots(t *testing.T) {
	leaves, roots := known()
	var l []api.Hash
	var f Front
	for n, want := range roots {
		if got := Root(l); hex.EncodeToString(got[:]) != want {
			t.Errorf("%d leaves: the root is %x, want %s", n, got, want)
		}
		if got := f.Root(); hex.EncodeToString(got[:]) != want {
			t.Errorf("%d leaves: the frontier's root is %x, want %s", n, got, want)
		}
		if n < len(leaves) {
			h := Leaf([]byte(leaves[n]))
			l = append(l, h)
			f.Add(h)
		}
	}
}

// P5.1: a leaf's hash, of every length about the edges of a block, no bytes among them.
func TestLeaf(t *testing.T) {
	none := "6e340b9cffb37a989ca544e6bb780a2c78901d3fb33738768511a30617afa01d"
	for _, b := range [][]byte{nil, {}} {
		if got := Leaf(b); hex.EncodeToString(got[:]) != none {
			t.Errorf("a leaf of no bytes: %x, want %s", got, none)
		}
	}
	for n := range 200 {
		b, stays := withRoom(t, text(n), 0xa5)
		if got, want := Leaf(b), api.Hash(sha256.Sum256(append([]byte{0}, b...))); got != want {
			t.Errorf("a leaf of %d bytes: %x, want %x", n, got, want)
		}
		stays()
	}
	b := text(100000)
	if Leaf(b) != sha256.Sum256(append([]byte{0}, b...)) {
		t.Error("a leaf of 100000 bytes")
	}
}

// P5.1: a node's hash, whose two sides are told apart.
func TestNode(t *testing.T) {
	some := append(hashes(20), api.Hash{}, api.Hash{1}, api.Hash{31: 1}, api.Hash(bytes.Repeat([]byte{0xff}, 32)))
	seen := map[api.Hash]int{}
	for _, l := range some {
		for _, r := range some {
			keptL, keptR := l, r
			if got, want := Node(l, r), wordsNode(keptL, keptR); got != want {
				t.Errorf("Node(%x, %x): %x, want %x", keptL, keptR, got, want)
			}
			seen[Node(l, r)]++
		}
	}
	if len(seen) != len(some)*len(some) {
		t.Errorf("%d nodes of %d", len(seen), len(some)*len(some))
	}
}

// P5.1: a leaf is no node, whatever its bytes are.
func TestLeafIsNoNode(t *testing.T) {
	l := hashes(2)
	both := slices.Concat(l[0][:], l[1][:])
	for i, b := range [][]byte{both, append([]byte{0}, both...), append([]byte{1}, both...)} {
		if Leaf(b) == Node(l[0], l[1]) {
			t.Errorf("%d: a leaf has a node's hash", i)
		}
	}
}

// P5.1: where lists are split, by heart: edges, and numbers of which there is none.
func TestSplitKnown(t *testing.T) {
	for n, want := range map[int]int{
		math.MinInt: 0, math.MinInt + 1: 0, math.MinInt32: 0, -8: 0, -5: 0, -3: 0, -2: 0, -1: 0,
		0: 0, 1: 0, 2: 1, 3: 2, 4: 2, 5: 4, 6: 4, 7: 4, 8: 4, 9: 8, 15: 8, 16: 8, 17: 16, 400: 256,
		math.MaxInt32: 1 << 30, math.MaxInt: math.MaxInt/2 + 1, math.MaxInt - 1: math.MaxInt/2 + 1,
	} {
		if got := Split(n); got != want {
			t.Errorf("Split(%d): %d, want %d", n, got, want)
		}
	}
}

// P5.1: where lists are split, held against the words.
func TestSplitByWords(t *testing.T) {
	check := func(n int) {
		t.Helper()
		if got, want := Split(n), wordsSplit(n); got != want {
			t.Errorf("Split(%d): %d, want %d", n, got, want)
		}
	}
	for n := -2000; n < 5000; n++ {
		check(n)
	}
	for power := 1; power > 0; power *= 2 {
		for off := -2; off <= 2; off++ {
			check(power + off)
			check(-power + off)
		}
	}
}

// P5.1: roots of lists of every size, held against the words; the list and its spare room stay.
func TestRoot(t *testing.T) {
	for _, n := range sizes() {
		l, stays := withRoom(t, hashes(n), api.Hash{0xa5})
		if got, want := Root(l), wordsRoot(hashes(n)); got != want {
			t.Errorf("%d leaves: %x, want %x", n, got, want)
		}
		stays()
	}
}

// P5.1: the root of none is the digest of nothing, nil or empty; of one it is that hash, whatever it is.
func TestRootOfFew(t *testing.T) {
	nothing := api.Hash(sha256.Sum256(nil))
	for i, l := range [][]api.Hash{nil, {}, hashes(5)[:0], hashes(5)[5:]} {
		if got := Root(l); got != nothing {
			t.Errorf("%d: the root of nothing is %x", i, got)
		}
	}
	for _, h := range append(hashes(5), api.Hash{}, nothing, api.Hash(bytes.Repeat([]byte{0xff}, 32))) {
		if got := Root([]api.Hash{h}); got != h {
			t.Errorf("the root of %x alone is %x", h, got)
		}
		if got := Root([]api.Hash{h, h}); got != wordsNode(h, h) {
			t.Errorf("the root of %x, twice, is %x", h, got)
		}
	}
}

// P5.1: a list that lies anywhere in another one has its own root.
func TestRootOfPieces(t *testing.T) {
	whole, stays := withRoom(t, hashes(40), api.Hash{0xa5})
	for i := range len(whole) + 1 {
		for j := i; j <= len(whole); j++ {
			if Root(whole[i:j]) != wordsRoot(hashes(40)[i:j]) {
				t.Errorf("the leaves from %d to %d", i, j)
			}
		}
	}
	stays()
}

// Rules 4 and 6: nothing is kept of a list that was handed in.
func TestRootKeepsNothing(t *testing.T) {
	for n := 1; n < 40; n++ {
		l := hashes(n)
		first := Root(l)
		spoil(l)
		if Root(l) != wordsRoot(l) {
			t.Errorf("%d leaves: a root hangs on the call before it", n)
		}
		if first != wordsRoot(hashes(n)) {
			t.Errorf("%d leaves: a root changed with its list", n)
		}
	}
}

// P5.2: a zero frontier has taken none.
func TestFrontOfNone(t *testing.T) {
	checkFront(t, new(Front), nil)
	checkFront(t, &Front{}, nil)
	var f Front
	checkFront(t, &f, nil)
}

// P5.2: a nil frontier is none, and takes none.
func TestFrontNil(t *testing.T) {
	var f *Front
	checkFront(t, f, nil)
	for _, h := range hashes(5) {
		f.Add(h)
		checkFront(t, f, nil)
	}
}

// P5.2, P5.3: a frontier behind each leaf: its size, its root and its trees against the list's.
func TestFront(t *testing.T) {
	l := hashes(300)
	var f Front
	for n := range l {
		checkFront(t, &f, l[:n])
		f.Add(l[n])
	}
	checkFront(t, &f, l)
}

// P5.2, P5.3: a frontier that is asked only at the end.
func TestFrontAskedLate(t *testing.T) {
	for _, n := range sizes() {
		l := hashes(n)
		f := new(Front)
		for _, h := range l {
			f.Add(h)
		}
		if f.Root() != Root(l) {
			t.Errorf("%d leaves: the frontier's root isn't the list's", n)
		}
		checkFront(t, f, l)
	}
}

// P5.2, P5.3: whatever the hashes are, the same one many times among them.
func TestFrontOfAnyHashes(t *testing.T) {
	for _, h := range []api.Hash{{}, api.Hash(sha256.Sum256(nil)), api.Hash(bytes.Repeat([]byte{0xff}, 32))} {
		var f Front
		var l []api.Hash
		for range 70 {
			f.Add(h)
			l = append(l, h)
			checkFront(t, &f, l)
			if f.Root() != Root(l) {
				t.Errorf("%d times %x: the frontier's root isn't the list's", len(l), h)
			}
		}
	}
}

// P5.2: there are as many trees as there are ones in how many leaves there are; the root is theirs, put together from the last one on.
func TestTreesMakeTheRoot(t *testing.T) {
	var f Front
	for n, h := range hashes(1100) {
		f.Add(h)
		trees := f.Trees()
		ones := 0
		for rest := n + 1; rest > 0; rest /= 2 {
			ones += rest % 2
		}
		if len(trees) != ones {
			t.Fatalf("%d leaves: %d trees, want %d", n+1, len(trees), ones)
		}
		root := trees[len(trees)-1]
		for _, whole := range slices.Backward(trees[:len(trees)-1]) {
			root = wordsNode(whole, root)
		}
		if f.Root() != root {
			t.Fatalf("%d leaves: the trees don't make the root", n+1)
		}
	}
}

// Rule 4: trees that are answered are new memory, their spare room too; the frontier stays as it was, and goes on.
func TestTreesAreNew(t *testing.T) {
	l := hashes(130)
	var f Front
	for n := range l {
		first, second := f.Trees(), f.Trees()
		kept := slices.Clone(first)
		spoil(first)
		if !slices.Equal(second, kept) {
			t.Errorf("%d leaves: two answers share memory", n)
		}
		checkFront(t, &f, l[:n])
		f.Add(l[n])
		if !slices.Equal(second, kept) {
			t.Errorf("%d leaves: an answer changed with the next leaf", n)
		}
		_ = append(second, api.Hash{0x5a}, api.Hash{0x5a})
		checkFront(t, &f, l[:n+1])
	}
}

// Rule 4: what a frontier was handed is a value of its own.
func TestFrontKeepsNoList(t *testing.T) {
	l, stays := withRoom(t, hashes(50), api.Hash{0xa5})
	var f Front
	for i := range l {
		f.Add(l[i])
	}
	stays()
	spoil(l)
	checkFront(t, &f, hashes(50))
}

// Rule 6: frontiers don't hang on each other, one by one or at the same time.
func TestFrontsAreApart(t *testing.T) {
	l := hashes(40)
	fronts := make([]Front, 5)
	for n := range l {
		for i := range fronts {
			if n%(i+1) == 0 {
				fronts[i].Add(l[n])
			}
		}
	}
	for i := range fronts {
		var taken []api.Hash
		for n := 0; n < len(l); n += i + 1 {
			taken = append(taken, l[n])
		}
		checkFront(t, &fronts[i], taken)
	}
	for n := range 50 {
		t.Run("", func(t *testing.T) {
			t.Parallel()
			l := hashes(n)
			var f Front
			for i, h := range l {
				checkFront(t, &f, l[:i])
				f.Add(h)
			}
			if Root(l) != f.Root() {
				t.Error(n)
			}
		})
	}
}

// P5.3: of one size, a list that differs anywhere, by a bit, has another root, and another frontier's root.
func TestRootTellsEachLeaf(t *testing.T) {
	for n := 1; n <= 33; n++ {
		l := hashes(n)
		seen := map[api.Hash]bool{Root(l): true}
		for i := range l {
			for _, bit := range []int{0, 7, 100, 255} {
				other := slices.Clone(l)
				other[i][bit/8] ^= 1 << (bit % 8)
				root := Root(other)
				if seen[root] {
					t.Errorf("%d leaves: leaf %d, bit %d doesn't tell", n, i, bit)
				}
				seen[root] = true
				var f Front
				for _, h := range other {
					f.Add(h)
				}
				if f.Root() != root {
					t.Errorf("%d leaves: leaf %d, bit %d: the frontier's root isn't the list's", n, i, bit)
				}
			}
		}
	}
}

// P5.3: of one size, a list of another order has another root.
func TestRootTellsTheOrder(t *testing.T) {
	for n := 2; n <= 33; n++ {
		l := hashes(n)
		seen := map[api.Hash]bool{Root(l): true}
		for i := range l {
			for j := range i {
				other := slices.Clone(l)
				other[i], other[j] = other[j], other[i]
				if root := Root(other); seen[root] {
					t.Errorf("%d leaves: %d and %d may change places", n, i, j)
				} else {
					seen[root] = true
				}
			}
		}
	}
}

// P5.3: all lists of up to five leaves, each one of four, have as many roots as there are lists.
func TestRootOfAllSmallLists(t *testing.T) {
	leaves := []api.Hash{Leaf(nil), Leaf([]byte{0}), Leaf([]byte{1}), {}}
	lists := [][]api.Hash{nil}
	seen := map[api.Hash]bool{}
	for size := 1; size <= 5; size++ {
		var longer [][]api.Hash
		for _, l := range lists {
			for _, h := range leaves {
				longer = append(longer, append(slices.Clone(l), h))
			}
		}
		lists = longer
		for _, l := range lists {
			seen[Root(l)] = true
		}
	}
	if want := 4 + 16 + 64 + 256 + 1024; len(seen) != want {
		t.Errorf("%d roots of %d lists", len(seen), want)
	}
}

// A stack answers what was pushed last, whatever its things are.
func TestStack(t *testing.T) {
	var s stack[string]
	for _, thing := range []string{"a", "b", "c"} {
		s.push(thing)
	}
	if got := s.pop(); got != "c" || s.height() != 2 {
		t.Errorf("%q was on top, %d are left", got, s.height())
	}
	s.push("d")
	var got string
	for i, thing := range s.fromTop() {
		got += string(rune('0'+i)) + thing
	}
	if got != "0d1b2a" || s.height() != 3 {
		t.Errorf("from the top: %s", got)
	}
}

// A stack's iterator may be left anywhere, and be gone through again.
func TestStackMayBeLeft(t *testing.T) {
	var s stack[int]
	for range s.fromTop() {
		t.Error("an empty stack handed on something")
	}
	for i := range 5 {
		s.push(i)
	}
	all := s.fromTop()
	for leave := range 7 {
		n := 0
		for above, thing := range all {
			if above != n || thing != 4-n {
				t.Errorf("%d, %d above it; want %d, %d", thing, above, 4-n, n)
			}
			if n++; n > leave {
				break
			}
		}
		if n != min(leave+1, 5) {
			t.Errorf("left behind %d things, want %d", n, leave+1)
		}
	}
}
