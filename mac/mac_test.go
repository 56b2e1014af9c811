package mac

import (
	"bytes"
	"crypto/hmac"
	"crypto/sha256"
	"encoding/binary"
	"encoding/hex"
	"fmt"
	"math"
	"math/rand"
	"slices"
	"strings"
	"testing"

	"inspeximus/api"
)

// sample is n bytes that differ, so that one out of place shows.
func sample(n int) []byte {
	out := make([]byte, n)
	rand.New(rand.NewSource(int64(n))).Read(out)
	return out
}

// guarded is a copy of b with spare room that is marked, and a check that neither changed.
func guarded(t *testing.T, b []byte) ([]byte, func()) {
	t.Helper()
	whole := append(slices.Clone(b), bytes.Repeat([]byte{0xa5}, 80)...)
	kept := slices.Clone(whole)
	return whole[:len(b)], func() {
		t.Helper()
		if !bytes.Equal(whole, kept) {
			t.Errorf("what was handed in (%d bytes), or its spare room, was changed", len(b))
		}
	}
}

// guardedList is a copy of a list with spare room behind it, each part with spare room of its own, and a check that none of it changed.
func guardedList(t *testing.T, parts [][]byte) ([][]byte, func()) {
	t.Helper()
	var whole [][]byte
	var checks []func()
	for _, part := range append(slices.Clone(parts), []byte("behind"), []byte("it")) {
		b, unchanged := guarded(t, part)
		whole = append(whole, b)
		checks = append(checks, unchanged)
	}
	kept := slices.Clone(whole)
	return whole[:len(parts)], func() {
		t.Helper()
		for i, part := range kept {
			if !bytes.Equal(whole[i], part) || cap(whole[i]) != cap(part) {
				t.Errorf("part %d of the list, or of its spare room, was changed", i)
			}
			checks[i]()
		}
	}
}

// libraryTag is the tag by the library.
func libraryTag(key []byte, parts ...[]byte) api.Hash {
	h := hmac.New(sha256.New, key)
	for _, part := range parts {
		h.Write(part)
	}
	return api.Hash(h.Sum(nil))
}

// wordsTag is the tag of a key and a text by the words of the chapter, the library's digest put in.
func wordsTag(key, text []byte) api.Hash {
	if len(key) > 64 {
		short := sha256.Sum256(key)
		key = short[:]
	}
	filled := append(slices.Clone(key), make([]byte, 64-len(key))...)
	mask := func(m byte) []byte {
		out := slices.Clone(filled)
		for i := range out {
			out[i] ^= m
		}
		return out
	}
	inner := sha256.Sum256(append(mask(0x36), text...))
	return sha256.Sum256(append(mask(0x5c), inner[:]...))
}

// domainText is the text whose digest Of is, by the words of the chapter.
func domainText(domain int, parts ...[]byte) []byte {
	out := []byte{byte(domain)}
	for _, part := range parts {
		out = binary.BigEndian.AppendUint32(out, uint32(len(part)))
		out = append(out, part...)
	}
	return out
}

// unhex is the bytes of digits in sixteen.
func unhex(t *testing.T, digits string) []byte {
	t.Helper()
	out, err := hex.DecodeString(digits)
	if err != nil {
		t.Fatal(err)
	}
	return out
}

// P2.1: tags that are known by heart: the chapter's example, and those of RFC 4231.
func TestTagKnown(t *testing.T) {
	for i, x := range []struct{ key, text, want string }{
		{hex.EncodeToString([]byte("key")), hex.EncodeToString([]byte("The quick brown fox jumps over the lazy dog")), "f7bc83f430538424b13298e6aa6fb143ef4d59a14946175997479dbc2d1a3cd8"},
		{"", "", "b613679a0814d9ec772f95d778c35fc5ff1697c493715653c6c712144292c5ad"},
		{strings.Repeat("0b", 20), hex.EncodeToString([]byte("Hi There")), "b0344c61d8db38535ca8afceaf0bf12b881dc200c9833da726e9376c2e32cff7"},
		{hex.EncodeToString([]byte("Jefe")), hex.EncodeToString([]byte("what do ya want for nothing?")), "5bdcc146bf60754e6a042426089575c75a003f089d2739839dec58b964ec3843"},
		{strings.Repeat("aa", 20), strings.Repeat("dd", 50), "773ea91e36800e46854db8ebd09181a72959098b3ef8c122d9635514ced565fe"},
		{"0102030405060708090a0b0c0d0e0f10111213141516171819", strings.Repeat("cd", 50), "82558a389a443c0ea4cc819899f2083a85f0faa3e578f8077a2e3ff46729665b"},
		{strings.Repeat("aa", 131), hex.EncodeToString([]byte("Test Using Larger Than Block-Size Key - Hash Key First")), "60e431591ee0b67f0d8a26aacbf5b77f8e0bc6213728c5140546040f0ee37f54"},
		{strings.Repeat("aa", 131), hex.EncodeToString([]byte("This is a test using a larger than block-size key and a larger than block-size data. The key needs to be hashed before being used by the HMAC algorithm.")), "9b09ffa71b942fcb27635fbcd5b0e944bfdc63644f0713938a7f51535c3a35e2"},
	} {
		got := Tag(unhex(t, x.key), unhex(t, x.text))
		if hex.EncodeToString(got[:]) != x.want {
			t.Errorf("%d: %x, want %s", i, got, x.want)
		}
	}
}

// P2.1: keys of every length about 64, texts about the edges of a block; held against the library and the chapter's words.
func TestTagLengths(t *testing.T) {
	for n := range 200 {
		for _, m := range []int{0, 1, 55, 56, 63, 64, 65, 119, 128, 300} {
			key, keyStays := guarded(t, sample(n))
			text, textStays := guarded(t, sample(m))
			got := Tag(key, text)
			if got != libraryTag(key, text) || got != wordsTag(key, text) {
				t.Errorf("a key of %d bytes, a text of %d: %x", n, m, got)
			}
			keyStays()
			textStays()
		}
	}
	for _, n := range []int{4096, 65535, 65536, 100003} {
		if b := sample(n); Tag(b, b) != libraryTag(b, b) {
			t.Errorf("a key and a text of %d bytes", n)
		}
	}
}

// P2.1: a key of 65 bytes and more is its digest; one of up to 64 is itself, with bytes 0 behind it.
func TestTagOfKeysThatAreOne(t *testing.T) {
	text := []byte("text")
	for n := range 200 {
		key := sample(n)
		short := sha256.Sum256(key)
		if got := Tag(key, text) == Tag(short[:], text); got != (n > 64) {
			t.Errorf("a key of %d bytes: is it its digest? %v", n, got)
		}
		if n < 64 {
			for zeros := range 64 - n + 1 {
				if Tag(append(slices.Clone(key), make([]byte, zeros)...), text) != Tag(key, text) {
					t.Errorf("a key of %d bytes, with %d bytes 0 behind it", n, zeros)
				}
			}
		}
	}
}

// P2.1: no parts, parts without bytes, a key without bytes.
func TestTagOfNothing(t *testing.T) {
	for _, n := range []int{0, 1, 63, 64, 65, 131} {
		key := sample(n)
		want := libraryTag(key)
		for i, got := range []api.Hash{Tag(key), Tag(key, nil), Tag(key, []byte{}), Tag(key, nil, []byte{}, nil), Tag(key, [][]byte(nil)...), Tag(key, [][]byte{}...)} {
			if got != want {
				t.Errorf("a key of %d bytes, %d: %x, want %x", n, i, got, want)
			}
		}
	}
	if Tag(nil, []byte("a")) != Tag([]byte{}, []byte("a")) || Tag(nil, []byte("a")) != libraryTag(nil, []byte("a")) {
		t.Error("a key of no bytes")
	}
}

// P2.1: each byte of a key and of a text tells, and so does the parts' order.
func TestTagTellsApart(t *testing.T) {
	seen := map[api.Hash]int{}
	for _, n := range []int{64, 65} {
		for i := range n {
			b := make([]byte, n)
			b[i] = 1
			seen[Tag(b, sample(9))]++
			seen[Tag(sample(9), b)]++
		}
	}
	if len(seen) != 2*(64+65) {
		t.Errorf("%d tags of %d", len(seen), 2*(64+65))
	}
	if Tag(nil, []byte("ab"), []byte("c")) == Tag(nil, []byte("c"), []byte("ab")) {
		t.Error("the order of parts doesn't tell")
	}
	if Tag([]byte("a"), []byte("b")) == Tag([]byte("b"), []byte("a")) {
		t.Error("the key is as good as the text")
	}
}

// P2.3: a tag is the same however its text is cut in two, with empty parts among them.
func TestTagCutInTwo(t *testing.T) {
	for _, k := range []int{0, 5, 63, 64, 65} {
		key := sample(k)
		for _, n := range []int{1, 3, 55, 56, 63, 64, 65, 128, 193} {
			b := sample(n)
			want := libraryTag(key, b)
			for i := range n + 1 {
				if Tag(key, b[:i], b[i:]) != want {
					t.Errorf("%d bytes, cut at %d", n, i)
				}
				if Tag(key, nil, b[:i], []byte{}, nil, b[i:], nil) != want {
					t.Errorf("%d bytes, cut at %d, empty parts among them", n, i)
				}
			}
		}
	}
}

// P2.3: a tag is the same however its text is cut into many parts.
func TestTagCutIntoMany(t *testing.T) {
	key := sample(32)
	random := rand.New(rand.NewSource(3))
	for _, n := range []int{0, 1, 63, 64, 65, 200, 1000} {
		b := sample(n)
		want := libraryTag(key, b)
		for size := 1; size <= 130; size++ {
			if Tag(key, slices.Collect(slices.Chunk(b, size))...) != want {
				t.Errorf("%d bytes, in parts of %d", n, size)
			}
		}
		for range 20 {
			var parts [][]byte
			for rest := b; len(rest) > 0; {
				k := random.Intn(min(len(rest), 150) + 1)
				parts = append(parts, rest[:k])
				rest = rest[k:]
			}
			if Tag(key, parts...) != want {
				t.Errorf("%d bytes, in %d parts by lot", n, len(parts))
			}
		}
	}
}

// P2.1: hashes that are the same.
func TestEqualOfTheSame(t *testing.T) {
	full := api.Hash(bytes.Repeat([]byte{0xff}, 32))
	for i, a := range []api.Hash{{}, full, {1}, {31: 1}, api.Hash(sample(32)), Tag(nil)} {
		b := a
		if !Equal(a, b) || !Equal(a, a) {
			t.Errorf("%d: %x isn't itself", i, a)
		}
	}
}

// P2.1: one bit, anywhere, is told; so are differences that would make up for each other.
func TestEqualOfOthers(t *testing.T) {
	for _, a := range []api.Hash{{}, api.Hash(sample(32)), api.Hash(bytes.Repeat([]byte{0xff}, 32))} {
		for i := range a {
			for bit := range 8 {
				b := a
				b[i] ^= 1 << bit
				if Equal(a, b) || Equal(b, a) {
					t.Errorf("byte %d, bit %d", i, bit)
				}
				for j := range i {
					c := b
					c[j] ^= 1 << bit
					if Equal(a, c) || Equal(c, a) || Equal(b, c) {
						t.Errorf("bytes %d and %d, bit %d", i, j, bit)
					}
					c = a
					c[i]++
					c[j]--
					if Equal(a, c) || Equal(c, a) {
						t.Errorf("bytes %d and %d, one more and one less", i, j)
					}
				}
			}
		}
		b := a
		for i := range b {
			b[i] ^= 0xff
		}
		if Equal(a, b) {
			t.Error("all bytes differ")
		}
	}
	if turned := (api.Hash{1, 2}); Equal(turned, api.Hash{2, 1}) {
		t.Error("the order of bytes doesn't tell")
	}
}

// P2.1: all bytes are gone through, whichever differ.
func TestEqualGoesThroughAll(t *testing.T) {
	a := api.Hash(sample(32))
	others := []api.Hash{a, {}}
	for i := range a {
		b := a
		b[i]++
		others = append(others, b)
	}
	for k, b := range others {
		var left, right []byte
		eachPair(a, b, func(x, y byte) {
			left = append(left, x)
			right = append(right, y)
		})
		if !bytes.Equal(left, a[:]) || !bytes.Equal(right, b[:]) {
			t.Errorf("%d: %x and %x", k, left, right)
		}
	}
}

// P2.2: digests of domains, byte by byte.
func TestOfKnown(t *testing.T) {
	for i, x := range []struct {
		got  api.Hash
		text string
	}{
		{Of(0), "\x00"},
		{Of(7), "\x07"},
		{Of(255), "\xff"},
		{Of(1, nil), "\x01\x00\x00\x00\x00"},
		{Of(1, nil, nil), "\x01\x00\x00\x00\x00\x00\x00\x00\x00"},
		{Of(5, []byte("ab"), nil), "\x05\x00\x00\x00\x02ab\x00\x00\x00\x00"},
		{Of(5, nil, []byte("ab")), "\x05\x00\x00\x00\x00\x00\x00\x00\x02ab"},
		{Of(2, []byte("a"), []byte("bc")), "\x02\x00\x00\x00\x01a\x00\x00\x00\x02bc"},
		{Of(-1, []byte("a")), "\xff\x00\x00\x00\x01a"},
		{Of(258, []byte("a")), "\x02\x00\x00\x00\x01a"},
	} {
		if x.got != sha256.Sum256([]byte(x.text)) {
			t.Errorf("%d: not of the text %x", i, x.text)
		}
	}
}

// P2.2: how many bytes a part has is told by four bytes, the highest first.
func TestOfLengths(t *testing.T) {
	for _, n := range []int{0, 1, 54, 55, 56, 63, 64, 65, 255, 256, 257, 65535, 65536, 65537, 1 << 24, 0x01020304} {
		part := make([]byte, n)
		if Of(9, part) != sha256.Sum256(domainText(9, part)) {
			t.Errorf("a part of %d bytes", n)
		}
	}
	for n := range 300 {
		parts, unchanged := guardedList(t, [][]byte{sample(n), nil, sample(300 - n)})
		if Of(n, parts...) != sha256.Sum256(domainText(n, parts...)) {
			t.Errorf("parts of %d, 0 and %d bytes", n, 300-n)
		}
		unchanged()
	}
}

// P2.2: a domain is the low byte of the number, of one below 0 and above 255 too.
func TestOfDomains(t *testing.T) {
	parts := [][]byte{[]byte("one"), nil, []byte("two")}
	seen := map[api.Hash]int{}
	for domain := range 256 {
		want := api.Hash(sha256.Sum256(domainText(domain, parts...)))
		seen[want]++
		for _, n := range []int{domain, domain + 256, domain - 256, domain - 1024, domain + 1<<20, domain + math.MaxInt - 255, domain + math.MinInt} {
			if Of(n, parts...) != want {
				t.Errorf("Of(%d) isn't of the domain %d", n, domain)
			}
		}
	}
	if len(seen) != 256 {
		t.Errorf("%d digests of 256 domains", len(seen))
	}
}

// P2.2: nil and empty are one, but no part isn't an empty part.
func TestOfNothing(t *testing.T) {
	if Of(3) != Of(3, [][]byte(nil)...) || Of(3) != Of(3, [][]byte{}...) {
		t.Error("no parts")
	}
	if Of(3, nil) != Of(3, []byte{}) || Of(3, nil, []byte("a")) != Of(3, []byte{}, []byte("a")) {
		t.Error("empty parts")
	}
	if Of(3) == Of(3, nil) || Of(3, nil) == Of(3, nil, nil) || Of(3, []byte("a")) == Of(3, []byte("a"), nil) || Of(3, []byte("a")) == Of(3, nil, []byte("a")) {
		t.Error("an empty part doesn't tell")
	}
}

// lists is all lists of at most n of the parts.
func lists(parts [][]byte, n int) [][][]byte {
	out := [][][]byte{nil}
	for last := out; n > 0; n-- {
		var next [][][]byte
		for _, list := range last {
			for _, part := range parts {
				next = append(next, append(slices.Clone(list), part))
			}
		}
		out = append(out, next...)
		last = next
	}
	return out
}

// P2.3: lists that differ have digests that do, those among them whose parts look like lengths.
func TestOfTellsListsApart(t *testing.T) {
	parts := [][]byte{nil, {0}, {1}, {0, 0}, {0, 1}, {0, 0, 0, 0}, {0, 0, 0, 1}, {1, 0, 0, 0}, {0, 0, 0, 0, 0}, {0, 0, 0, 0, 1}, {0, 0, 0, 1, 0}, {0, 0, 0, 0, 0, 0, 0, 0}}
	seen := map[api.Hash]string{}
	for _, list := range lists(parts, 3) {
		for domain := range 2 {
			got, name := Of(domain, list...), fmt.Sprint(domain, list)
			if other, twice := seen[got]; twice {
				t.Errorf("%s and %s have one digest", name, other)
			}
			seen[got] = name
		}
	}
}

// P2.3: a text that is cut otherwise has another digest, wherever it is cut.
func TestOfTellsCutsApart(t *testing.T) {
	for _, b := range [][]byte{sample(70), make([]byte, 70)} {
		seen := map[api.Hash]int{Of(4, b): 1}
		for i := range len(b) + 1 {
			seen[Of(4, b[:i], b[i:])]++
			for j := i; j <= len(b); j++ {
				seen[Of(4, b[:i], b[i:j], b[j:])]++
			}
		}
		if want := 1 + 71 + 71*72/2; len(seen) != want {
			t.Errorf("%d digests of %d lists", len(seen), want)
		}
	}
}

// P2.3: a part that is the text of another list isn't that list.
func TestOfTellsTextsFromLists(t *testing.T) {
	list := [][]byte{[]byte("a"), []byte("bc")}
	text := domainText(1, list...)
	for i, other := range []api.Hash{Of(1, text), Of(1, text[1:]), Of(1, text[5:]), Of(1, slices.Concat(list...)), Of(2, list...), Of(1, list[1], list[0])} {
		if Of(1, list...) == other {
			t.Errorf("%d: one digest", i)
		}
	}
}

// wordsText is words as eight bytes each, the highest first.
func wordsText(words ...int) []byte {
	var out []byte
	for _, word := range words {
		out = binary.BigEndian.AppendUint64(out, uint64(int64(word)))
	}
	return out
}

// P2.2: a word, byte by byte.
func TestKeyKnown(t *testing.T) {
	key := api.Hash(sample(32))
	for word, text := range map[int]string{
		0:                  "\x00\x00\x00\x00\x00\x00\x00\x00",
		1:                  "\x00\x00\x00\x00\x00\x00\x00\x01",
		256:                "\x00\x00\x00\x00\x00\x00\x01\x00",
		0x0102030405060708: "\x01\x02\x03\x04\x05\x06\x07\x08",
		-1:                 "\xff\xff\xff\xff\xff\xff\xff\xff",
		-2:                 "\xff\xff\xff\xff\xff\xff\xff\xfe",
		-256:               "\xff\xff\xff\xff\xff\xff\xff\x00",
		math.MaxInt64:      "\x7f\xff\xff\xff\xff\xff\xff\xff",
		math.MinInt64:      "\x80\x00\x00\x00\x00\x00\x00\x00",
		math.MinInt32:      "\xff\xff\xff\xff\x80\x00\x00\x00",
		math.MaxUint32:     "\x00\x00\x00\x00\xff\xff\xff\xff",
	} {
		if Key(key, word) != libraryTag(key[:], []byte(text)) {
			t.Errorf("the word %d", word)
		}
	}
}

// P2.2: any words, by any hash; none of them; it is the tag of their bytes.
func TestKeyOfWords(t *testing.T) {
	random := rand.New(rand.NewSource(5))
	for n := range 40 {
		var key api.Hash
		random.Read(key[:])
		if n < 2 {
			key = api.Hash(bytes.Repeat([]byte{byte(-n)}, 32))
		}
		words := make([]int, n, n+8)
		for i := range words {
			words[i] = int(random.Uint64()) >> random.Intn(64)
		}
		want := libraryTag(key[:], wordsText(words...))
		if Key(key, words...) != want || Tag(key[:], wordsText(words...)) != want {
			t.Errorf("%d words: %v", n, words)
		}
	}
}

// P2.2: no words are an empty text.
func TestKeyOfNoWords(t *testing.T) {
	for _, key := range []api.Hash{{}, {1}, api.Hash(sample(32))} {
		want := libraryTag(key[:])
		if Key(key) != want || Key(key, []int(nil)...) != want || Key(key, []int{}...) != want {
			t.Errorf("the key %x", key)
		}
	}
}

// P2.2: keys, words, how many and in which order: all of it tells.
func TestKeyTellsApart(t *testing.T) {
	seen := map[api.Hash]string{}
	for i := range 32 {
		for _, words := range [][]int{nil, {0}, {0, 0}, {1}, {-1}, {1, 2}, {2, 1}, {1, -2}, {-1, 2}, {256}, {1 << 32}, {0, 0, 0}} {
			var key api.Hash
			key[i] = 1
			got, name := Key(key, words...), fmt.Sprint(i, words)
			if other, twice := seen[got]; twice {
				t.Errorf("%s and %s have one tag", name, other)
			}
			seen[got] = name
		}
	}
}

// Rule 4: keys, parts, the list of them, and what is behind each, are left as they are.
func TestWhatIsHandedInStays(t *testing.T) {
	for _, n := range []int{0, 1, 31, 32, 63, 64, 65, 130} {
		key, keyStays := guarded(t, sample(n))
		parts, partsStay := guardedList(t, [][]byte{sample(n), nil, sample(2 * n), {}, []byte("abc")})
		Tag(key, parts...)
		Of(n, parts...)
		keyStays()
		partsStay()
	}
	words := []int{1, 2, 3, -4, -5, -6}
	var key api.Hash
	Key(key, words[:3]...)
	if !slices.Equal(words, []int{1, 2, 3, -4, -5, -6}) || key != (api.Hash{}) {
		t.Errorf("words, what is behind them or a key were changed: %v, %x", words, key)
	}
}

// Rule 4: parts may share memory, with each other and with the key.
func TestPartsMayShareMemory(t *testing.T) {
	for _, n := range []int{1, 32, 64, 65, 200} {
		whole := sample(3 * n)
		key, a, b := whole[:n], whole[n/2:2*n], whole[n:]
		if Tag(key, a, b, key, a) != libraryTag(slices.Clone(key), slices.Concat(a, b, key, a)) {
			t.Errorf("a tag of parts about %d bytes", n)
		}
		if Of(n, a, b, a) != sha256.Sum256(domainText(n, a, b, a)) {
			t.Errorf("a digest of parts about %d bytes", n)
		}
		if !bytes.Equal(whole, sample(3*n)) {
			t.Errorf("%d bytes were changed", 3*n)
		}
	}
}

// Rules 4 and 6: nothing is kept from call to call.
func TestNothingIsKept(t *testing.T) {
	for _, n := range []int{1, 63, 64, 65, 130} {
		key, part, words := sample(n), sample(n+1), []int{n, -n}
		hash := api.Hash(sample(32))
		tag, of, keyed := Tag(key, part), Of(n, part), Key(hash, words...)
		for i := range key {
			key[i] ^= 0xff
			part[i] ^= 0xff
		}
		words[0]++
		hash[0]++
		if Tag(key, part) != libraryTag(key, part) || Of(n, part) != sha256.Sum256(domainText(n, part)) || Key(hash, words...) != libraryTag(hash[:], wordsText(words...)) {
			t.Errorf("%d bytes: an answer hangs on the call before it", n)
		}
		if tag != Tag(sample(n), sample(n+1)) || of != Of(n, sample(n+1)) || keyed != Key(api.Hash(sample(32)), n, -n) {
			t.Errorf("%d bytes: an answer isn't the same twice", n)
		}
	}
}

// Rule 6: calls at the same time don't hang on each other.
func TestCallsAtTheSameTime(t *testing.T) {
	for n := range 100 {
		t.Run("", func(t *testing.T) {
			t.Parallel()
			key, part := sample(n), sample(2*n)
			for range 20 {
				if Tag(key, part) != libraryTag(key, part) || Of(n, key, part) != sha256.Sum256(domainText(n, key, part)) {
					t.Fatal(n)
				}
			}
		})
	}
}
