package sha

import (
	"bytes"
	"crypto/sha256"
	"encoding"
	"encoding/binary"
	"encoding/hex"
	"math"
	"math/big"
	"math/rand"
	"slices"
	"strings"
	"testing"

	"inspeximus/api"
)

// text is n bytes that differ, so that one out of place shows.
func text(n int) []byte {
	out := make([]byte, n)
	rand.New(rand.NewSource(int64(n))).Read(out)
	return out
}

// guarded is a copy of b with spare room that is marked, and a check that neither changed.
func guarded(t *testing.T, b []byte) ([]byte, func()) {
	t.Helper()
	whole := append(slices.Clone(b), bytes.Repeat([]byte{0xa5}, 80)...)
	kept := slices.Clone(whole)
	return whole[:len(b)], func() {
		t.Helper()
		if !bytes.Equal(whole, kept) {
			t.Errorf("what was handed in (%d bytes), or its spare room, was changed", len(b))
		}
	}
}

// edges are lengths about the places where a filled text gets one block more.
func edges() []int {
	var out []int
	for _, blocks := range []int{0, 1, 2, 3, 16} {
		for _, n := range []int{0, 1, 54, 55, 56, 57, 62, 63} {
			out = append(out, 64*blocks+n)
		}
	}
	return out
}

// checkFill holds a filling against the words: 80, as few 0 as may be, 8 n.
func checkFill(t *testing.T, n int) {
	t.Helper()
	got := Fill(n)
	if len(got) < 9 || len(got) > 72 {
		t.Fatalf("Fill(%d) has %d bytes", n, len(got))
	}
	zeros := len(got) - 9
	if got[0] != 0x80 || !bytes.Equal(got[1:1+zeros], make([]byte, zeros)) {
		t.Errorf("Fill(%d) begins %x", n, got[:1+zeros])
	}
	if (n%64+1+zeros)%64 != 56 || zeros > 63 {
		t.Errorf("Fill(%d) has %d bytes 0", n, zeros)
	}
	eight := new(big.Int).Lsh(big.NewInt(int64(n)), 3)
	want := make([]byte, 9)
	eight.FillBytes(want)
	if !bytes.Equal(got[1+zeros:], want[1:]) {
		t.Errorf("Fill(%d) ends %x, want %x", n, got[1+zeros:], want[1:])
	}
}

// P1.1: what fills up a text.
func TestFill(t *testing.T) {
	for n := range 400 {
		checkFill(t, n)
	}
	for shift := range 8 {
		for less := range 130 {
			checkFill(t, math.MaxInt32>>shift-less)
			checkFill(t, math.MaxInt>>shift-less)
		}
	}
}

// P1.1: a filling, byte by byte, of each edge.
func TestFillEdges(t *testing.T) {
	for n, want := range map[int]string{
		3:   "80" + strings.Repeat("00", 52) + "0000000000000018",
		0:   "80" + strings.Repeat("00", 55) + "0000000000000000",
		55:  "80" + "00000000000001b8",
		56:  "80" + strings.Repeat("00", 63) + "00000000000001c0",
		63:  "80" + strings.Repeat("00", 56) + "00000000000001f8",
		64:  "80" + strings.Repeat("00", 55) + "0000000000000200",
		119: "80" + "00000000000003b8",
		120: "80" + strings.Repeat("00", 63) + "00000000000003c0",
	} {
		if got := hex.EncodeToString(Fill(n)); got != want {
			t.Errorf("Fill(%d): %s, want %s", n, got, want)
		}
	}
}

// P1.1: nothing fills up a text of fewer than no bytes.
func TestFillBelowZero(t *testing.T) {
	for _, n := range []int{-1, -8, -9, -55, -56, -63, -64, -65, math.MinInt32, math.MinInt + 1, math.MinInt} {
		if got := Fill(n); len(got) != 0 {
			t.Errorf("Fill(%d): %x", n, got)
		}
	}
}

// P1.1, rule 4: an answer is new memory, its spare room too.
func TestFillIsNew(t *testing.T) {
	for n := range 130 {
		want := slices.Clone(Fill(n))
		first, second := Fill(n), Fill(n)
		whole := first[:cap(first)]
		for i := range whole {
			whole[i] = 0xff
		}
		if !bytes.Equal(second, want) || !bytes.Equal(Fill(n), want) {
			t.Errorf("Fill(%d): two answers share memory", n)
		}
	}
}

// libraryTurn is Turn by the library: its hash is put into the state h, is given the block, and asked for its state.
func libraryTurn(t *testing.T, h [8]uint32, block []byte) [8]uint32 {
	t.Helper()
	hash := sha256.New()
	kept, err := hash.(encoding.BinaryMarshaler).MarshalBinary()
	if err != nil {
		t.Fatal(err)
	}
	for i, x := range h {
		binary.BigEndian.PutUint32(kept[4+4*i:], x)
	}
	if err := hash.(encoding.BinaryUnmarshaler).UnmarshalBinary(kept); err != nil {
		t.Fatal(err)
	}
	hash.Write(block)
	kept, err = hash.(encoding.BinaryMarshaler).MarshalBinary()
	if err != nil {
		t.Fatal(err)
	}
	for i := range h {
		h[i] = binary.BigEndian.Uint32(kept[4+4*i:])
	}
	return h
}

// P1.1: the state behind a block, from any state.
func TestTurn(t *testing.T) {
	random := rand.New(rand.NewSource(1))
	states := [][8]uint32{{}, api.First, {1}, {0xffffffff, 0xffffffff, 0xffffffff, 0xffffffff, 0xffffffff, 0xffffffff, 0xffffffff, 0xffffffff}}
	for range 60 {
		var h [8]uint32
		for i := range h {
			h[i] = random.Uint32()
		}
		states = append(states, h)
	}
	blocks := [][]byte{make([]byte, 64), bytes.Repeat([]byte{0xff}, 64), text(64)}
	for i := range 64 {
		block := make([]byte, 64)
		block[i] = 0x81
		blocks = append(blocks, block)
	}
	for _, h := range states {
		for _, b := range blocks {
			block, unchanged := guarded(t, b)
			if got, want := Turn(h, block), libraryTurn(t, h, block); got != want {
				t.Fatalf("Turn(%x, %x): %x, want %x", h, block, got, want)
			}
			unchanged()
		}
	}
}

// P1.1: the state behind the one block of "abc" is its digest's numbers.
func TestTurnOfABC(t *testing.T) {
	want := [8]uint32{0xba7816bf, 0x8f01cfea, 0x414140de, 0x5dae2223, 0xb00361a3, 0x96177a9c, 0xb410ff61, 0xf20015ad}
	if got := Turn(api.First, append([]byte("abc"), Fill(3)...)); got != want {
		t.Errorf("%x, want %x", got, want)
	}
}

// P1.1: a block that hasn't 64 bytes turns nothing.
func TestTurnOfOtherLengths(t *testing.T) {
	states := [][8]uint32{{}, api.First, {1, 2, 3, 4, 5, 6, 7, 8}}
	for n := range 300 {
		if n == 64 {
			continue
		}
		for _, h := range states {
			block, unchanged := guarded(t, text(n))
			if got := Turn(h, block); got != h {
				t.Errorf("Turn of %d bytes: %x, want %x", n, got, h)
			}
			unchanged()
		}
	}
	if got := Turn(api.First, nil); got != api.First {
		t.Errorf("Turn of nil: %x", got)
	}
}

// P1.2: digests that are known by heart.
func TestSumKnown(t *testing.T) {
	for s, want := range map[string]string{
		"":    "e3b0c44298fc1c149afbf4c8996fb92427ae41e4649b934ca495991b7852b855",
		"abc": "ba7816bf8f01cfea414140de5dae2223b00361a396177a9cb410ff61f20015ad",
		"abcdbcdecdefdefgefghfghighijhijkijkljklmklmnlmnomnopnopq":                                                         "248d6a61d20638b8e5c026930c3e6039a33ce45964ff2167f6ecedd419db06c1",
		"abcdefghbcdefghicdefghijdefghijkefghijklfghijklmghijklmnhijklmnoijklmnopjklmnopqklmnopqrlmnopqrsmnopqrstnopqrstu": "cf5b16a778af8380036ce59e7b0492370b249b11e8f07a51afac45037afee9d1",
		strings.Repeat("a", 1000000): "cdc76e5c9914fb9281a1c7e284d73e67f1809a48a497200e046d39ccc7112cd0",
	} {
		if got := Hex(Sum([]byte(s))); got != want {
			t.Errorf("%.20q: %s, want %s", s, got, want)
		}
	}
}

// P1.2: digests of every length about the edges, held against the library's.
func TestSumLengths(t *testing.T) {
	for n := range 330 {
		b, unchanged := guarded(t, text(n))
		if got := Sum(b); got != sha256.Sum256(b) {
			t.Errorf("Sum of %d bytes: %x", n, got)
		}
		unchanged()
	}
	for _, n := range append(edges(), 4096, 65535, 65536, 100003) {
		if b := text(n); Sum(b) != sha256.Sum256(b) {
			t.Errorf("Sum of %d bytes", n)
		}
	}
}

// P1.2: Sum is the turns of the blocks of the text that is filled up.
func TestSumIsTurns(t *testing.T) {
	for _, n := range edges() {
		whole := append(text(n), Fill(n)...)
		h := api.First
		for ; len(whole) > 0; whole = whole[64:] {
			h = Turn(h, whole[:64])
		}
		sum := Sum(text(n))
		for i, x := range h {
			if got := binary.BigEndian.Uint32(sum[4*i:]); got != x {
				t.Errorf("%d bytes, number %d: %x, want %x", n, i, got, x)
			}
		}
	}
}

// P1.2: no parts, and parts without bytes, are a text of none.
func TestSumOfNothing(t *testing.T) {
	want := api.Hash(sha256.Sum256(nil))
	for i, got := range []api.Hash{Sum(), Sum(nil), Sum([]byte{}), Sum(nil, []byte{}, nil), Sum([][]byte(nil)...), Sum([][]byte{}...)} {
		if got != want {
			t.Errorf("%d: %x", i, got)
		}
	}
}

// P1.3: a text that is cut in two, anywhere, with empty parts among them.
func TestSumCutInTwo(t *testing.T) {
	for _, n := range []int{1, 3, 55, 56, 63, 64, 65, 119, 120, 127, 128, 129, 191, 192, 193} {
		b := text(n)
		want := api.Hash(sha256.Sum256(b))
		for i := range n + 1 {
			if Sum(b[:i], b[i:]) != want {
				t.Errorf("%d bytes, cut at %d", n, i)
			}
			if Sum(nil, b[:i], []byte{}, nil, b[i:], nil) != want {
				t.Errorf("%d bytes, cut at %d, empty parts among them", n, i)
			}
		}
	}
}

// P1.3: a text that is cut in three, anywhere.
func TestSumCutInThree(t *testing.T) {
	for _, n := range []int{66, 130} {
		b := text(n)
		want := api.Hash(sha256.Sum256(b))
		for i := range n + 1 {
			for j := i; j <= n; j++ {
				if Sum(b[:i], b[i:j], b[j:]) != want {
					t.Fatalf("%d bytes, cut at %d and %d", n, i, j)
				}
			}
		}
	}
}

// P1.3: a text that is cut into equal parts of every size, and by lot.
func TestSumCutIntoMany(t *testing.T) {
	random := rand.New(rand.NewSource(3))
	for _, n := range edges() {
		b := text(n)
		want := api.Hash(sha256.Sum256(b))
		for size := 1; size <= 130; size++ {
			if Sum(slices.Collect(slices.Chunk(b, size))...) != want {
				t.Errorf("%d bytes, in parts of %d", n, size)
			}
		}
		for range 20 {
			var parts [][]byte
			for rest := b; len(rest) > 0; {
				k := random.Intn(min(len(rest), 150) + 1)
				parts = append(parts, rest[:k])
				rest = rest[k:]
			}
			if Sum(parts...) != want {
				t.Errorf("%d bytes, in %d parts by lot", n, len(parts))
			}
		}
	}
}

// P1.2: the parts' order tells, and so does each byte.
func TestSumTellsApart(t *testing.T) {
	seen := map[api.Hash]int{}
	for i := range 200 {
		b := make([]byte, 200)
		b[i] = 1
		seen[Sum(b)]++
		seen[Sum(make([]byte, i))]++
	}
	if len(seen) != 400 {
		t.Errorf("%d digests of 400 texts", len(seen))
	}
	if Sum([]byte("ab"), []byte("c")) == Sum([]byte("c"), []byte("ab")) {
		t.Error("the order of parts doesn't tell")
	}
}

// Rule 4: parts, the list of them and what is behind it are left as they are; parts may share memory.
func TestSumLeavesItsParts(t *testing.T) {
	for _, n := range edges() {
		b, unchanged := guarded(t, text(n))
		behind := []byte("behind")
		parts := [][]byte{b[:n/3], b[n/3 : n/2], b[n/2:], behind, behind}
		Sum(parts[:3]...)
		unchanged()
		for i, want := range [][]byte{b[:n/3], b[n/3 : n/2], b[n/2:], behind, behind} {
			if !bytes.Equal(parts[i], want) {
				t.Errorf("%d bytes: part %d of the list was changed", n, i)
			}
		}
		if string(behind) != "behind" {
			t.Error("bytes behind the list were changed")
		}
		if Sum(b, b, b) != sha256.Sum256(slices.Concat(b, b, b)) {
			t.Errorf("%d bytes, three times the same part", n)
		}
	}
}

// Rule 4 and 6: nothing is kept from call to call.
func TestSumKeepsNothing(t *testing.T) {
	for _, n := range edges() {
		b := text(n)
		first := Sum(b)
		for i := range b {
			b[i] ^= 0xff
		}
		if Sum(b) != sha256.Sum256(b) {
			t.Errorf("%d bytes: a digest hangs on the call before it", n)
		}
		if b := text(n); first != sha256.Sum256(b) || Sum(b) != first {
			t.Errorf("%d bytes: a digest changed with its text", n)
		}
	}
}

// Rule 6: calls at the same time don't hang on each other.
func TestSumAtTheSameTime(t *testing.T) {
	for n := range 100 {
		t.Run("", func(t *testing.T) {
			t.Parallel()
			b := text(3 * n)
			for range 20 {
				if Sum(b[:n], b[n:]) != sha256.Sum256(b) {
					t.Fatal(n)
				}
			}
		})
	}
}

// The tables that all of it hangs on are left as they are.
func TestTablesStay(t *testing.T) {
	k, first := api.K, api.First
	for _, n := range edges() {
		Sum(text(n))
	}
	Turn(api.First, text(64))
	if api.K != k || api.First != first {
		t.Error("a table of api was changed")
	}
}

// P1.2: digits in sixteen, of each byte in each place.
func TestHex(t *testing.T) {
	if got := Hex(api.Hash{}); got != strings.Repeat("0", 64) {
		t.Error(got)
	}
	var h api.Hash
	for b := range 256 {
		for i := range h {
			h[i] = byte(b + 37*i)
		}
		got := Hex(h)
		if got != hex.EncodeToString(h[:]) || len(got) != 64 || got != strings.ToLower(got) {
			t.Errorf("%x: %s", h, got)
		}
	}
	for i := range h {
		var one api.Hash
		one[i] = 0xa1
		if got, want := Hex(one), strings.Repeat("00", i)+"a1"+strings.Repeat("00", 31-i); got != want {
			t.Errorf("%s, want %s", got, want)
		}
	}
}

// Blocks are handed on by an iterator: each has 64 bytes, together they are the text that is filled up.
func TestBlocks(t *testing.T) {
	for _, n := range edges() {
		var got []byte
		for block := range blocks([][]byte{text(n)[:n/2], nil, text(n)[n/2:]}) {
			if len(block) != 64 {
				t.Errorf("%d bytes: a block of %d", n, len(block))
			}
			got = append(got, block...)
		}
		if want := append(text(n), Fill(n)...); !bytes.Equal(got, want) {
			t.Errorf("%d bytes: %x, want %x", n, got, want)
		}
	}
}

// An iterator may be left at any block, or part, and be gone through again.
func TestIteratorsMayBeLeft(t *testing.T) {
	parts := [][]byte{text(70), text(130), nil, text(10)}
	all := blocks(parts)
	for leave := range 5 {
		n := 0
		for range all {
			if n++; n > leave {
				break
			}
		}
		if n != min(leave+1, 4) {
			t.Errorf("left behind %d of blocks, want %d", n, leave+1)
		}
	}
	for leave := range 6 {
		n := 0
		for range filled(parts) {
			if n++; n > leave {
				break
			}
		}
		if n != min(leave+1, 5) {
			t.Errorf("left behind %d of parts, want %d", n, leave+1)
		}
	}
}

func BenchmarkSum(b *testing.B) {
	whole := text(8192)
	b.SetBytes(int64(len(whole)))
	for b.Loop() {
		Sum(whole)
	}
}
