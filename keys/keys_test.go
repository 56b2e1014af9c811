package keys

import (
	"bytes"
	"crypto/hmac"
	"crypto/sha256"
	"encoding/binary"
	"encoding/hex"
	"fmt"
	"math"
	"math/rand"
	"slices"
	"testing"

	"inspeximus/api"
)

// secrets is n hashes that differ, and from those of other seeds.
func secrets(seed, n int) []api.Hash {
	random := rand.New(rand.NewSource(int64(seed)))
	out := make([]api.Hash, n)
	for i := range out {
		random.Read(out[i][:])
	}
	return out
}

// keysOf is keys of so many participants and witnesses.
func keysOf(parts, wits, need int) api.Keys {
	return api.Keys{Parts: secrets(1, parts), Wits: secrets(2, wits), Need: need}
}

// known is keys whose tags are told by heart below.
func known() api.Keys {
	return api.Keys{Parts: []api.Hash{full(0x11), full(0x22)}, Wits: []api.Hash{full(0x33), full(0x44), full(0x55)}, Need: 2}
}

// full is a hash of one byte, again and again.
func full(b byte) api.Hash { return api.Hash(bytes.Repeat([]byte{b}, 32)) }

// unhex is the hash of digits in sixteen.
func unhex(t *testing.T, digits string) api.Hash {
	t.Helper()
	b, err := hex.DecodeString(digits)
	if err != nil {
		t.Fatal(err)
	}
	return api.Hash(b)
}

// edges are numbers about the ends of a range that begins with 0, great ones, and those that come into it if they are cut.
func edges(last int) []int {
	out := []int{-1, 0, 1, last - 1, last, last + 1, last + 2, -last, last * 2, math.MaxInt32, math.MinInt32, math.MaxInt, math.MaxInt - 1, math.MinInt, math.MinInt + 1}
	for _, shift := range []int{2, 8, 9, 16, 31, 32, 62} {
		out = append(out, 1<<shift, last+1<<shift, last-1<<shift)
	}
	return out
}

// everyKeys is keys of 0 to 6 participants and witnesses, of each Need about these numbers, and great ones.
func everyKeys() []api.Keys {
	var out []api.Keys
	for parts := range 7 {
		for wits := range 7 {
			for _, need := range append(edges(wits), 2, 3, 4, 5) {
				out = append(out, keysOf(parts, wits, need))
			}
		}
	}
	return out
}

// wordsMay says whether keys may be, by the words of the chapter.
func wordsMay(k api.Keys) bool {
	parts, wits := len(k.Parts), len(k.Wits)
	return parts >= 1 && parts <= 4 && wits >= 1 && wits <= 4 && k.Need >= 1 && k.Need <= wits
}

// tagBy is a tag by a secret, of the library.
func tagBy(secret api.Hash, text []byte) api.Hash {
	h := hmac.New(sha256.New, secret[:])
	h.Write(text)
	return api.Hash(h.Sum(nil))
}

// keyBy is the tag of words, by the words of layer 2.
func keyBy(secret api.Hash, words ...int) api.Hash {
	var text []byte
	for _, w := range words {
		text = binary.BigEndian.AppendUint64(text, uint64(w))
	}
	return tagBy(secret, text)
}

// hasEpoch says whether there is a participant's key of an epoch, by the words of the chapter.
func hasEpoch(k api.Keys, part, epoch int) bool {
	return wordsMay(k) && part >= 0 && part < len(k.Parts) && epoch >= 0 && epoch <= 400
}

// wordsPart is a participant's key, by the words of the chapter.
func wordsPart(k api.Keys, part, epoch int) api.Hash {
	if !hasEpoch(k, part, epoch) {
		return api.Hash{}
	}
	return keyBy(k.Parts[part], 1, epoch)
}

// wordsReceipt is a receipt's tag, by the words of the chapter.
func wordsReceipt(k api.Keys, x api.Rec) api.Hash {
	if x.Kind != 3 || !hasEpoch(k, x.Part, x.Epoch) {
		return api.Hash{}
	}
	back, good := 0, 0
	if x.Back {
		back = 1
	}
	if x.Good {
		good = 1
	}
	return keyBy(wordsPart(k, x.Part, x.Epoch), 2, x.Saga, x.Step, back, good)
}

// isReceipt says whether a record is a right receipt, by the words of layer 4.
func isReceipt(x api.Rec) bool {
	in := func(n, least, most int) bool { return n >= least && n <= most }
	return x.Kind == 3 && in(x.Saga, 0, 11) && in(x.Seq, 1, 400) && in(x.Step, 0, 5) && in(x.Try, 1, 9) &&
		in(x.Part, 0, 3) && in(x.Epoch, 0, 400) &&
		x.End == 0 && len(x.Steps) == 0 && len(x.Data) == 0 && x.Salt == api.Hash{} && !x.Gone && x.Com == api.Hash{}
}

// wordsHolds says whether a receipt's tag is right, by the words of the chapter.
func wordsHolds(k api.Keys, x api.Rec) bool {
	return isReceipt(x) && hasEpoch(k, x.Part, x.Epoch) && x.Tag == wordsReceipt(k, x)
}

// ordinary is a right receipt with nothing 0 that needn't be, and no tag yet.
func ordinary() api.Rec {
	return api.Rec{Kind: api.Receipt, Saga: 7, Seq: 4, Step: 5, Try: 6, Back: true, Good: true, Part: 1, Epoch: 200}
}

// receipts are right receipts without tags: of each saga, step, way, answer and participant, and of epochs about the ends and where a number has one byte more.
func receipts() []api.Rec {
	var out []api.Rec
	for n := range 12 * 6 * 2 * 2 * 4 {
		x := api.Rec{Kind: api.Receipt, Saga: n % 12, Step: n / 12 % 6, Back: n/72%2 == 1, Good: n/144%2 == 1, Part: n / 288}
		x.Seq, x.Try = 1+n%400, 1+n%9
		for _, epoch := range []int{0, 1, 127, 128, 399, 400} {
			x.Epoch = epoch
			out = append(out, x)
		}
	}
	return out
}

// tagged is a receipt with the tag that it must have.
func tagged(k api.Keys, x api.Rec) api.Rec {
	x.Tag = wordsReceipt(k, x)
	return x
}

// changed is a hash with one byte changed.
func changed(h api.Hash, at int, by byte) api.Hash {
	h[at] ^= by
	return h
}

// P10.1: keys of each number of participants and witnesses, of each Need about these.
func TestMay(t *testing.T) {
	counts := map[bool]int{}
	for _, k := range everyKeys() {
		want := wordsMay(k)
		counts[want]++
		if May(k) != want {
			t.Errorf("%d participants, %d witnesses, Need %d: %v", len(k.Parts), len(k.Wits), k.Need, !want)
		}
	}
	if counts[true] < 40 || counts[false] < 400 {
		t.Errorf("%d keys that may be and %d others are too few", counts[true], counts[false])
	}
}

// P10.1: which keys may be, by heart.
func TestMayByHeart(t *testing.T) {
	for _, x := range []struct {
		parts, wits, need int
		want              bool
	}{
		{1, 1, 1, true}, {4, 4, 4, true}, {4, 4, 1, true}, {1, 4, 3, true}, {4, 1, 1, true}, {2, 3, 2, true},
		{0, 1, 1, false}, {5, 1, 1, false}, {1, 0, 0, false}, {1, 0, 1, false}, {1, 5, 1, false}, {1, 5, 5, false}, {0, 0, 0, false},
		{1, 1, 0, false}, {1, 1, 2, false}, {4, 4, 5, false}, {4, 4, 0, false}, {4, 3, 4, false}, {2, 3, -1, false}, {1, 4, math.MaxInt, false}, {1, 4, math.MinInt, false},
		{1000, 1, 1, false}, {1, 1000, 1, false}, {257, 257, 1, false},
	} {
		if May(keysOf(x.parts, x.wits, x.need)) != x.want {
			t.Errorf("%+v", x)
		}
	}
}

// P10.1: no secrets, nil or an empty list, with room behind it or not.
func TestMayOfEmptyLists(t *testing.T) {
	some := secrets(1, 2)
	for i, none := range [][]api.Hash{nil, {}, make([]api.Hash, 0, 3), secrets(1, 3)[:0]} {
		for need := -1; need <= 2; need++ {
			for j, k := range []api.Keys{{Parts: none, Wits: none, Need: need}, {Parts: none, Wits: some, Need: need}, {Parts: some, Wits: none, Need: need}} {
				x := tagged(known(), ordinary())
				p := api.Point{Sigs: []api.Sig{{}}}
				if May(k) || Part(k, 0, 0) != (api.Hash{}) || Receipt(k, x) != (api.Hash{}) || Holds(k, x) || Sign(k, 0, p) != (api.Hash{}) || Check(k, p) != api.ErrArg {
					t.Errorf("%d, %d: Need %d", i, j, need)
				}
			}
		}
	}
}

// P10.1: secrets may be any, of zeros or all the same.
func TestSecretsMayBeAny(t *testing.T) {
	for _, h := range []api.Hash{{}, full(0xff)} {
		k := api.Keys{Parts: []api.Hash{h, h}, Wits: []api.Hash{h, h, h}, Need: 3}
		x := tagged(k, ordinary())
		p := signedBy(k, api.Point{Size: 3, Root: h}, 0, 1, 2)
		if !May(k) || Part(k, 1, 9) != keyBy(h, 1, 9) || Receipt(k, x) != x.Tag || !Holds(k, x) || Check(k, p) != api.OK {
			t.Errorf("secrets %x", h)
		}
	}
}

// P10.1: participants' keys, by heart.
func TestPartKnown(t *testing.T) {
	for _, x := range []struct {
		part, epoch int
		want        string
	}{
		{0, 0, "735fc2d832ff6236fc9706cb50fa9339eaaaeee91d8ecc7a08b1ffb71fc9f9da"},
		{1, 7, "30b7da51cf0db3207725fe12515e733624cdc1626112b687d263b8000b5ef45d"},
		{1, 400, "1248f4bb75801006ec2d2c53c23a76ad027c5e27e4f933ba98a49d19057ee3c9"},
		{2, 0, ""}, {-1, 0, ""}, {0, -1, ""}, {0, 401, ""}, {1, math.MaxInt, ""}, {math.MaxInt, 1, ""},
	} {
		var want api.Hash
		if x.want != "" {
			want = unhex(t, x.want)
		}
		if got := Part(known(), x.part, x.epoch); got != want {
			t.Errorf("participant %d, epoch %d: %x", x.part, x.epoch, got)
		}
	}
}

// P10.1: a participant's key, of each participant and epoch and of those that there aren't, held against the words of the chapter.
func TestPartByWords(t *testing.T) {
	for parts := 1; parts <= 4; parts++ {
		k := keysOf(parts, 2, 1)
		for _, part := range edges(parts - 1) {
			for _, epoch := range append(edges(400), 127, 128, 255, 256) {
				if got, want := Part(k, part, epoch), wordsPart(k, part, epoch); got != want {
					t.Errorf("participant %d of %d, epoch %d: %x, want %x", part, parts, epoch, got, want)
				}
			}
		}
	}
}

// P10.1: no keys and no tags of keys that may not be, whoever is asked for.
func TestReceiptsOfKeysThatMayNotBe(t *testing.T) {
	for _, k := range everyKeys() {
		for part := -1; part <= 6; part++ {
			x := ordinary()
			x.Part = part
			if got, want := Part(k, part, 200), wordsPart(k, part, 200); got != want {
				t.Errorf("participant %d of %d, Need %d of %d: key %x, want %x", part, len(k.Parts), k.Need, len(k.Wits), got, want)
			}
			if got, want := Receipt(k, x), wordsReceipt(k, x); got != want {
				t.Errorf("participant %d of %d, Need %d of %d: tag %x, want %x", part, len(k.Parts), k.Need, len(k.Wits), got, want)
			}
			// Zeros among the tags too: where there is none, zeros aren't one.
			for _, x.Tag = range []api.Hash{{}, wordsReceipt(k, x), wordsReceipt(keysOf(4, 1, 1), x)} {
				if got, want := Holds(k, x), wordsHolds(k, x); got != want {
					t.Errorf("participant %d of %d, Need %d of %d, tag %x: holds is %v", part, len(k.Parts), k.Need, len(k.Wits), x.Tag, got)
				}
			}
		}
	}
}

// P10.1: receipts' tags, by heart.
func TestReceiptKnown(t *testing.T) {
	for i, x := range []struct {
		x    api.Rec
		want string
	}{
		{api.Rec{Kind: 3, Seq: 1, Try: 1}, "96bfde07612b421b981ea5cb5a86f51f50f8229df2158d5d1b91f125888b5964"},
		{api.Rec{Kind: 3, Seq: 2, Try: 1, Saga: 3, Step: 4, Back: true, Part: 1, Epoch: 7}, "29422d3ca0535354f130199f2ffb8ca57fe342104e5c86e76d9505a98bc9777c"},
		{api.Rec{Kind: 3, Seq: 400, Try: 9, Saga: 11, Step: 5, Good: true, Part: 1, Epoch: 400}, "779554d54f476834e504b851640f130662dfef063b7aeba4dfd200835da57237"},
		{api.Rec{Kind: 3, Seq: 9, Try: 2, Saga: 11, Step: 5, Back: true, Good: true, Part: 0, Epoch: 128}, "c6768a31f3ebdabba0181607ac91492b1370f40235291e88832d6b423a669921"},
	} {
		x.x.Tag = unhex(t, x.want)
		if got := Receipt(known(), x.x); got != x.x.Tag || !Holds(known(), x.x) {
			t.Errorf("%d: %x", i, got)
		}
		if x.x.Tag[0]++; Receipt(known(), x.x) != unhex(t, x.want) || Holds(known(), x.x) {
			t.Errorf("%d: another tag that it had tells, or holds", i)
		}
	}
}

// P10.1, P10.4: each receipt's tag, held against the words of the chapter; it holds then, and no other receipt has it.
func TestReceiptByWords(t *testing.T) {
	k := keysOf(4, 1, 1)
	seen := map[api.Hash]api.Rec{}
	for _, x := range receipts() {
		if got, want := Receipt(k, x), wordsReceipt(k, x); got != want {
			t.Fatalf("%+v: %x, want %x", x, got, want)
		}
		x.Tag = Receipt(k, x)
		if !Holds(k, x) {
			t.Fatalf("%+v doesn't hold", x)
		}
		if other, twice := seen[x.Tag]; twice {
			t.Fatalf("%+v and %+v have one tag", x, other)
		}
		seen[x.Tag] = x
	}
}

// P10.1: the tag is the same of each try, and wherever the receipt stands.
func TestReceiptOfSeveralTries(t *testing.T) {
	k := keysOf(3, 2, 2)
	want := tagged(k, ordinary()).Tag
	for try := 1; try <= 9; try++ {
		for _, seq := range []int{1, 2, 127, 128, 400} {
			x := ordinary()
			x.Try, x.Seq, x.Tag = try, seq, want
			if Receipt(k, x) != want || !Holds(k, x) {
				t.Errorf("try %d, place %d: another tag", try, seq)
			}
		}
	}
}

// P10.1: a record of another kind has no tag, and doesn't hold, whatever its tag is.
func TestReceiptOfOtherKinds(t *testing.T) {
	k := keysOf(4, 4, 4)
	steps := []api.Step{{Part: 1, Kind: api.Comp}}
	list := []api.Rec{
		{},
		{Kind: api.Begin, Saga: 5, Steps: steps, Data: []byte("payload")},
		{Kind: api.Begin, Saga: 5, Steps: steps, Gone: true},
		{Kind: api.Intent, Seq: 3, Try: 1},
		{Kind: api.Lapse, Seq: 3, Try: 1, Back: true},
		{Kind: api.Closed, Seq: 9, End: api.Stuck},
		{Kind: api.Rotate, Part: 2, Epoch: 127},
	}
	for _, kind := range append(edges(6), 2, 4) {
		if kind != api.Receipt {
			x := tagged(k, ordinary())
			x.Kind = kind
			list = append(list, x)
		}
	}
	for _, x := range list {
		for _, x.Tag = range []api.Hash{{}, x.Tag, full(1)} {
			if got := Receipt(k, x); got != (api.Hash{}) || Holds(k, x) {
				t.Errorf("%+v: %x, or it holds", x, got)
			}
		}
	}
}

// P10.1: a receipt that isn't right has the tag of its words all the same, as far as there is a key; it never holds.
func TestReceiptThatIsNotRight(t *testing.T) {
	k := keysOf(4, 3, 1)
	wrong := 0
	try := func(name string, turn func(x *api.Rec)) {
		x := ordinary()
		turn(&x)
		if got, want := Receipt(k, x), wordsReceipt(k, x); got != want {
			t.Errorf("%s: %+v: %x, want %x", name, x, got, want)
		}
		for _, x.Tag = range []api.Hash{{}, wordsReceipt(k, x)} {
			if got, want := Holds(k, x), wordsHolds(k, x); got != want {
				t.Errorf("%s: %+v: holds is %v", name, x, got)
			}
		}
		if !isReceipt(x) {
			wrong++
		}
	}
	for name, x := range map[string]struct {
		last int
		put  func(x *api.Rec, n int)
	}{
		"Saga":  {11, func(x *api.Rec, n int) { x.Saga = n }},
		"Seq":   {400, func(x *api.Rec, n int) { x.Seq = n }},
		"Step":  {5, func(x *api.Rec, n int) { x.Step = n }},
		"Try":   {9, func(x *api.Rec, n int) { x.Try = n }},
		"Part":  {3, func(x *api.Rec, n int) { x.Part = n }},
		"Epoch": {400, func(x *api.Rec, n int) { x.Epoch = n }},
		"End":   {0, func(x *api.Rec, n int) { x.End = n }},
	} {
		for _, n := range edges(x.last) {
			try(name, func(r *api.Rec) { x.put(r, n) })
		}
	}
	for name, turn := range map[string]func(x *api.Rec){
		"Steps":           func(x *api.Rec) { x.Steps = make([]api.Step, 1) },
		"Data":            func(x *api.Rec) { x.Data = make([]byte, 1) },
		"Salt":            func(x *api.Rec) { x.Salt[31] = 1 },
		"Gone":            func(x *api.Rec) { x.Gone = true },
		"Com":             func(x *api.Rec) { x.Com[0] = 1 },
		"empty lists":     func(x *api.Rec) { x.Steps, x.Data = []api.Step{}, []byte{} },
		"nothing of that": func(x *api.Rec) {},
	} {
		try(name, turn)
	}
	if wrong < 100 {
		t.Errorf("%d receipts that aren't right are too few", wrong)
	}
}

// P10.1, P10.4: a receipt doesn't hold with one bit of its tag changed, nor with the tag of one that says another thing.
func TestHoldsOfOtherTags(t *testing.T) {
	k := keysOf(4, 2, 1)
	x := tagged(k, ordinary())
	for at := range 32 {
		for bit := range 8 {
			y := x
			if y.Tag = changed(x.Tag, at, 1<<bit); Holds(k, y) {
				t.Errorf("byte %d, bit %d", at, bit)
			}
		}
	}
	for name, turn := range map[string]func(x *api.Rec){
		"saga": func(x *api.Rec) { x.Saga-- }, "step": func(x *api.Rec) { x.Step-- }, "way": func(x *api.Rec) { x.Back = false }, "answer": func(x *api.Rec) { x.Good = false },
		"way and answer": func(x *api.Rec) { x.Back, x.Good = false, false }, "participant": func(x *api.Rec) { x.Part++ }, "epoch": func(x *api.Rec) { x.Epoch++ }, "epoch before": func(x *api.Rec) { x.Epoch-- },
		"saga and step": func(x *api.Rec) { x.Saga, x.Step = 5, 3 },
	} {
		y := ordinary()
		turn(&y)
		if y.Tag = x.Tag; Holds(k, y) {
			t.Errorf("another %s: it holds", name)
		}
		if !Holds(k, tagged(k, y)) {
			t.Errorf("another %s: by its own tag it doesn't hold", name)
		}
	}
}

// P10.1: by other keys a receipt doesn't hold; those of other participants, the witnesses' and Need don't tell.
func TestHoldsByOtherKeys(t *testing.T) {
	k := keysOf(4, 2, 1)
	x := tagged(k, ordinary())
	for part := range 4 {
		other := keysOf(4, 2, 1)
		other.Parts[part][31] ^= 1
		if Holds(other, x) != (part != x.Part) {
			t.Errorf("another secret of the participant %d", part)
		}
	}
	swapped := keysOf(4, 2, 1)
	swapped.Parts[0], swapped.Parts[1] = swapped.Parts[1], swapped.Parts[0]
	others := api.Keys{Parts: k.Parts[:2], Wits: secrets(9, 4), Need: 3}
	if Holds(swapped, x) || !Holds(others, x) {
		t.Error("secrets swapped, or other witnesses")
	}
}

// P10.1: a participant that there isn't, though the next places of the list's memory hold a secret.
func TestPartsBehindTheList(t *testing.T) {
	all := keysOf(4, 1, 1)
	for n := 1; n < 4; n++ {
		k := api.Keys{Parts: all.Parts[:n], Wits: all.Wits, Need: 1}
		for part := n; part < 4; part++ {
			x := ordinary()
			x.Part = part
			if Part(k, part, 0) != (api.Hash{}) || Receipt(k, x) != (api.Hash{}) || Holds(k, x) || Holds(k, tagged(all, x)) {
				t.Errorf("participant %d of %d", part, n)
			}
		}
	}
}

// apart is what notes hashes, and tells those that are zeros or were there ahead.
func apart(t *testing.T) func(h api.Hash, name string) {
	seen := map[api.Hash]string{{}: "nothing"}
	return func(h api.Hash, name string) {
		t.Helper()
		if other, twice := seen[h]; twice {
			t.Errorf("%s and %s have one hash", name, other)
		}
		seen[h] = name
	}
}

// P10.4: each participant, epoch and secret has a key of its own.
func TestPartTellsApart(t *testing.T) {
	note := apart(t)
	k := keysOf(4, 1, 1)
	for part := range 4 {
		for epoch := range 401 {
			note(Part(k, part, epoch), fmt.Sprintf("participant %d, epoch %d", part, epoch))
		}
	}
	for at := range 32 {
		other := keysOf(4, 1, 1)
		other.Parts[0][at] ^= 0x80
		note(Part(other, 0, 0), fmt.Sprintf("byte %d changed", at))
		if Part(other, 1, 0) != Part(k, 1, 0) {
			t.Errorf("byte %d of another's secret tells", at)
		}
	}
}

// withRoom is a copy of a list with marked room behind it, and a check that the list and the room are as they were.
func withRoom[T any](t *testing.T, list []T, mark T, same func(a, b T) bool) ([]T, func()) {
	t.Helper()
	whole := append(slices.Clone(list), slices.Repeat([]T{mark}, 9)...)
	kept := slices.Clone(whole)
	return whole[:len(list)], func() {
		t.Helper()
		if !slices.EqualFunc(whole, kept, same) {
			t.Errorf("a list of %d, or the room behind it, was changed", len(list))
		}
	}
}

func sameAs[T comparable](a, b T) bool { return a == b }

// keysWithRoom is a copy of keys with marked room behind the lists, and a check of all of it.
func keysWithRoom(t *testing.T, k api.Keys) (api.Keys, func()) {
	t.Helper()
	parts, partsStay := withRoom(t, k.Parts, full(0xa5), sameAs)
	wits, witsStay := withRoom(t, k.Wits, full(0x5a), sameAs)
	return api.Keys{Parts: parts, Wits: wits, Need: k.Need}, func() {
		t.Helper()
		partsStay()
		witsStay()
	}
}

// Rule 4: what is handed in is left as it is, with the room behind its lists.
func TestWhatIsHandedInStays(t *testing.T) {
	for _, plain := range append(everyKeys(), known()) {
		k, keysStay := keysWithRoom(t, plain)
		steps, stepsStay := withRoom(t, make([]api.Step, 3), api.Step{Part: 77, Kind: 88}, sameAs)
		data, dataStay := withRoom(t, []byte("data"), 0xa5, sameAs)
		x := tagged(k, ordinary())
		p := signedBy(keysOf(4, 4, 4), api.Point{Size: 9, Root: full(7)}, 1, 0, 1)
		sigs, sigsStay := withRoom(t, p.Sigs, api.Sig{Wit: 99, Tag: full(0xa5)}, sameAs)
		for n := range len(sigs) + 1 {
			p.Sigs = sigs[:n]
			Check(k, p)
			Sign(k, n-1, p)
		}
		May(k)
		Part(k, 0, 5)
		Holds(k, x)
		x.Steps, x.Data = steps, data
		Receipt(k, x)
		Holds(k, x)
		for _, stays := range []func(){keysStay, stepsStay, dataStay, sigsStay} {
			stays()
		}
	}
}

// Rules 4 and 6: nothing is kept: what is asked again is answered the same, whatever was asked in between; a secret that was changed tells at once.
func TestNothingIsKept(t *testing.T) {
	k, x := known(), tagged(known(), ordinary())
	p := signedBy(k, api.Point{Size: 3, Root: full(9)}, 0, 2)
	tell := func() string {
		return fmt.Sprint(May(k), Part(k, 1, 9), Receipt(k, x), Holds(k, x), Sign(k, 2, p), Check(k, p))
	}
	first := tell()
	for _, other := range everyKeys() {
		Part(other, 1, 9)
		Holds(other, x)
		Sign(other, 2, p)
		Check(other, p)
	}
	if tell() != first {
		t.Error("asked again, the answers are others")
	}
	k.Parts[1][0]++
	k.Wits[2][0]++
	if Part(k, 1, 9) != wordsPart(k, 1, 9) || Receipt(k, x) != wordsReceipt(k, x) || Holds(k, x) || Sign(k, 2, p) != wordsSign(k, 2, p) || Check(k, p) != api.ErrSign {
		t.Error("a secret that was changed doesn't tell")
	}
	k.Parts[1][0]--
	k.Wits[2][0]--
	if tell() != first {
		t.Error("a secret that is as it was doesn't tell")
	}
}

// Rule 6: calls at the same time don't hang on each other.
func TestCallsAtTheSameTime(t *testing.T) {
	for seed := range 8 {
		k := api.Keys{Parts: secrets(seed, 4), Wits: secrets(seed+50, 4), Need: 3}
		t.Run("", func(t *testing.T) {
			t.Parallel()
			for n := range 100 {
				x := ordinary()
				x.Epoch = n
				p := signedBy(k, api.Point{Size: n, Root: full(byte(seed))}, 3, 1, 0)
				if !Holds(k, tagged(k, x)) || Check(k, p) != api.OK {
					t.Fatalf("epoch and size %d", n)
				}
			}
		})
	}
}
