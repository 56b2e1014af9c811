package keys

import (
	"crypto/sha256"
	"fmt"
	"math"
	"math/rand"
	"slices"
	"testing"

	"inspeximus/api"
)

// wordsSign is a witness's tag, by the words of the chapters.
func wordsSign(k api.Keys, wit int, p api.Point) api.Hash {
	if !wordsMay(k) || wit < 0 || wit >= len(k.Wits) || p.Size < 0 || p.Size > 400 {
		return api.Hash{}
	}
	size := []byte{byte(p.Size)}
	if p.Size >= 128 {
		size = []byte{byte(128 + p.Size/128), byte(p.Size % 128)}
	}
	text := append([]byte{6, 0, 0, 0, byte(len(size))}, size...)
	text = append(append(text, 0, 0, 0, 32), p.Root[:]...)
	digest := sha256.Sum256(text)
	return tagBy(k.Wits[wit], append([]byte{3}, digest[:]...))
}

// wordsCheck is what a checkpoint's check tells, by the words of the chapter.
func wordsCheck(k api.Keys, p api.Point) api.Errno {
	if !wordsMay(k) || p.Size < 0 || p.Size > 400 {
		return api.ErrArg
	}
	ahead := map[int]int{}
	for _, s := range p.Sigs {
		ahead[s.Wit]++
		if s.Wit < 0 || s.Wit >= len(k.Wits) || ahead[s.Wit] > 1 || s.Tag != wordsSign(k, s.Wit, p) {
			return api.ErrSign
		}
	}
	if len(ahead) < k.Need {
		return api.ErrSign
	}
	return api.OK
}

// signedBy is a checkpoint with these witnesses' marks, in their order.
func signedBy(k api.Keys, p api.Point, wits ...int) api.Point {
	p.Sigs = nil
	for _, wit := range wits {
		p.Sigs = append(p.Sigs, api.Sig{Wit: wit, Tag: wordsSign(k, wit, p)})
	}
	return p
}

// orders are all lists of different witnesses of n, in each order, the empty one too.
func orders(n int) [][]int {
	out := [][]int{nil}
	for at := 0; at < len(out); at++ {
		for wit := range n {
			if !slices.Contains(out[at], wit) {
				out = append(out, append(slices.Clone(out[at]), wit))
			}
		}
	}
	return out
}

// points are checkpoints without marks: sizes about the ends, and where a number has one byte more.
func points() []api.Point {
	var out []api.Point
	for _, size := range []int{0, 1, 127, 128, 399, 400} {
		out = append(out, api.Point{Size: size, Root: full(byte(size))}, api.Point{Size: size, Root: secrets(size, 1)[0]})
	}
	return out
}

// holdCheck holds a checkpoint's check against what is wanted, and that against the words.
func holdCheck(t *testing.T, k api.Keys, p api.Point, want api.Errno, when string) {
	t.Helper()
	if words := wordsCheck(k, p); words != want {
		t.Fatalf("%s: error %d is wanted, but by the words it is %d", when, want, words)
	}
	if got := Check(k, p); got != want {
		t.Errorf("%s: Need %d of %d, %d marks: error %d, want %d", when, k.Need, len(k.Wits), len(p.Sigs), got, want)
	}
}

// P10.3: the chapter's example.
func TestExample(t *testing.T) {
	k := keysOf(1, 3, 2)
	p := api.Point{Size: 5, Root: full(8)}
	p.Sigs = []api.Sig{{Wit: 1, Tag: Sign(k, 1, p)}}
	if e := Check(k, p); e != api.ErrSign {
		t.Errorf("one of the two that must sign: error %d", e)
	}
	p.Sigs = append(p.Sigs, api.Sig{Wit: 0, Tag: Sign(k, 0, p)})
	if e := Check(k, p); e != api.OK {
		t.Errorf("two: error %d", e)
	}
}

// The errors have the chapter's numbers.
func TestErrors(t *testing.T) {
	if e := Check(api.Keys{}, api.Point{}); e != 1 {
		t.Errorf("no keys: error %d", e)
	}
	if e := Check(known(), api.Point{}); e != 8 {
		t.Errorf("nobody signed: error %d", e)
	}
	if e := Check(known(), signedBy(known(), api.Point{}, 2, 1)); e != 0 {
		t.Errorf("enough signed: error %d", e)
	}
}

// P10.2: witnesses' tags, by heart.
func TestSignKnown(t *testing.T) {
	var count api.Hash
	for i := range count {
		count[i] = byte(i)
	}
	for _, x := range []struct {
		wit, size int
		root      api.Hash
		want      string
	}{
		{0, 0, api.Hash{}, "7403484a6f3af3e6c90199a4826e358ec3311ffe1badbe2730987054b00192f5"},
		{1, 5, full(0xab), "6f79ae52c585f7503f7dee695d8feecd013f5463a4b2f851f0bb13c3628e00ed"},
		{2, 400, full(0xab), "c7161379061854875b40f93df1d7ead4a27d86b1e0904ec62d6be7db40bafbf3"},
		{2, 128, count, "cf14fce81910e16c75120afad3d6b5b57a8603e41cd2766f88d3cde9205c18a8"},
		{3, 5, full(0xab), ""}, {-1, 5, full(0xab), ""}, {1, 401, full(0xab), ""}, {1, -1, full(0xab), ""}, {1, math.MaxInt, full(0xab), ""}, {math.MinInt, 1, full(0xab), ""},
	} {
		var want api.Hash
		if x.want != "" {
			want = unhex(t, x.want)
		}
		if got := Sign(known(), x.wit, api.Point{Size: x.size, Root: x.root}); got != want {
			t.Errorf("witness %d, size %d: %x", x.wit, x.size, got)
		}
	}
}

// P10.2: a witness's tag, of each witness and size and of those that there aren't, held against the words of the chapter.
func TestSignByWords(t *testing.T) {
	for wits := 1; wits <= 4; wits++ {
		k := keysOf(1, wits, wits)
		for _, wit := range edges(wits - 1) {
			for _, size := range append(edges(400), 127, 128, 255, 256) {
				p := api.Point{Size: size, Root: secrets(size, 1)[0]}
				if got, want := Sign(k, wit, p), wordsSign(k, wit, p); got != want {
					t.Errorf("witness %d of %d, size %d: %x, want %x", wit, wits, size, got, want)
				}
			}
		}
	}
}

// P10.2, P10.3: no tags of keys that may not be; a check of them is ErrArg, whoever signed.
func TestPointsOfKeysThatMayNotBe(t *testing.T) {
	plain := api.Point{Size: 9, Root: full(3)}
	for _, k := range everyKeys() {
		for wit := -1; wit <= 6; wit++ {
			if got, want := Sign(k, wit, plain), wordsSign(k, wit, plain); got != want {
				t.Errorf("witness %d of %d, Need %d, %d participants: %x, want %x", wit, len(k.Wits), k.Need, len(k.Parts), got, want)
			}
		}
		for n := range 7 {
			right := plain
			for wit := range n {
				right.Sigs = append(right.Sigs, api.Sig{Wit: wit, Tag: wordsSign(keysOf(1, 4, 1), wit, plain)})
			}
			zeros := plain
			zeros.Sigs = make([]api.Sig, n)
			for _, p := range []api.Point{right, zeros, signedBy(k, plain, []int{0, 1, 2, 3, 4, 5}[:n]...)} {
				if got, want := Check(k, p), wordsCheck(k, p); got != want || !wordsMay(k) && want != api.ErrArg {
					t.Errorf("%d participants, %d witnesses, Need %d, %d marks: error %d, want %d", len(k.Parts), len(k.Wits), k.Need, n, got, want)
				}
			}
		}
	}
}

// P10.2: the marks that a checkpoint has don't tell.
func TestSignOfSigned(t *testing.T) {
	k := keysOf(2, 4, 3)
	for _, p := range points() {
		for _, wits := range orders(4) {
			if got := Sign(k, 2, signedBy(k, p, wits...)); got != wordsSign(k, 2, p) {
				t.Errorf("size %d, signed by %v: %x", p.Size, wits, got)
			}
		}
	}
}

// P10.4: each witness, size, root and secret has a tag of its own.
func TestSignTellsApart(t *testing.T) {
	note := apart(t)
	k := keysOf(1, 4, 1)
	for wit := range 4 {
		for size := range 401 {
			note(Sign(k, wit, api.Point{Size: size}), fmt.Sprintf("witness %d, size %d", wit, size))
		}
	}
	for at := range 32 {
		for bit := range 8 {
			note(Sign(k, 0, api.Point{Root: changed(api.Hash{}, at, 1<<bit)}), fmt.Sprintf("byte %d, bit %d of the root", at, bit))
		}
		other := keysOf(1, 4, 1)
		other.Wits[0][at] ^= 0x80
		note(Sign(other, 0, api.Point{}), fmt.Sprintf("byte %d of the secret", at))
		if Sign(other, 1, api.Point{}) != Sign(k, 1, api.Point{}) {
			t.Errorf("byte %d of another's secret tells", at)
		}
	}
}

// P10.3, P10.4: marks of no witness, of fewer than Need, just as many and more, in each order.
func TestCheckOfEachOrder(t *testing.T) {
	for wits := 1; wits <= 4; wits++ {
		for need := 1; need <= wits; need++ {
			k := keysOf(4, wits, need)
			for _, p := range points() {
				for _, list := range orders(wits) {
					want := api.OK
					if len(list) < need {
						want = api.ErrSign
					}
					holdCheck(t, k, signedBy(k, p, list...), want, fmt.Sprintf("size %d, signed by %v", p.Size, list))
				}
			}
		}
	}
}

// P10.4: what Sign answers, Check takes.
func TestCheckOfSign(t *testing.T) {
	k := keysOf(1, 4, 4)
	for size := range 401 {
		p := api.Point{Size: size, Root: secrets(size, 1)[0]}
		for wit := range 4 {
			p.Sigs = append(p.Sigs, api.Sig{Wit: wit, Tag: Sign(k, wit, p)})
		}
		if e := Check(k, p); e != api.OK {
			t.Errorf("size %d: error %d", size, e)
		}
	}
}

// putIn is a list with one more at a place.
func putIn(list []api.Sig, at int, s api.Sig) []api.Sig {
	return slices.Insert(slices.Clone(list), at, s)
}

// P10.3: a witness that signed twice, ahead of others, among them and behind them, by the same mark or a wrong one: however many signed.
func TestCheckOfTwice(t *testing.T) {
	plain := api.Point{Size: 300, Root: full(6)}
	for need := 1; need <= 4; need++ {
		k := keysOf(1, 4, need)
		for _, list := range orders(4) {
			p := signedBy(k, plain, list...)
			for _, s := range p.Sigs {
				for at := range len(p.Sigs) + 1 {
					twice := p
					twice.Sigs = putIn(p.Sigs, at, s)
					holdCheck(t, k, twice, api.ErrSign, fmt.Sprintf("signed by %v, by %d again at %d", list, s.Wit, at))
					twice.Sigs = putIn(p.Sigs, at, api.Sig{Wit: s.Wit})
					holdCheck(t, k, twice, api.ErrSign, fmt.Sprintf("signed by %v, a mark of zeros by %d at %d", list, s.Wit, at))
				}
			}
		}
	}
}

// P10.3: a mark of no witness, at each place, whatever its tag: however many others signed.
func TestCheckOfNoWitness(t *testing.T) {
	plain := api.Point{Size: 2, Root: full(4)}
	all := keysOf(1, 4, 1)
	for wits := 1; wits <= 4; wits++ {
		k := api.Keys{Parts: all.Parts, Wits: all.Wits[:wits], Need: 1}
		for _, list := range orders(wits) {
			p := signedBy(k, plain, list...)
			for _, wit := range edges(wits - 1) {
				if wit >= 0 && wit < wits {
					continue
				}
				for i, tag := range []api.Hash{{}, wordsSign(k, 0, p), wordsSign(all, wit, p)} {
					for at := range len(p.Sigs) + 1 {
						q := p
						q.Sigs = putIn(p.Sigs, at, api.Sig{Wit: wit, Tag: tag})
						holdCheck(t, k, q, api.ErrSign, fmt.Sprintf("signed by %v of %d, a mark %d of %d at %d", list, wits, i, wit, at))
					}
				}
			}
		}
	}
}

// wrongTags are tags that aren't a witness's of a checkpoint.
func wrongTags(k api.Keys, wit int, p api.Point) []api.Hash {
	right := wordsSign(k, wit, p)
	out := []api.Hash{{}, full(0xff), k.Wits[wit], p.Root}
	for at := range 32 {
		out = append(out, changed(right, at, 1), changed(right, at, 0x80))
		q := p
		q.Root = changed(p.Root, at, 1)
		out = append(out, wordsSign(k, wit, q))
	}
	for _, size := range []int{p.Size - 1, p.Size + 1, 0, 400} {
		if size != p.Size {
			out = append(out, wordsSign(k, wit, api.Point{Size: size, Root: p.Root}))
		}
	}
	for other := range k.Wits {
		if other != wit {
			out = append(out, wordsSign(k, other, p))
		}
	}
	return out
}

// P10.3, P10.4: a mark of another witness, another size or another root, or with a byte changed, at each place: however many signed rightly.
func TestCheckOfWrongTags(t *testing.T) {
	plain := api.Point{Size: 128, Root: full(0x77)}
	for need := 1; need <= 3; need++ {
		k := keysOf(1, 3, need)
		for _, list := range orders(3) {
			for at, wit := range list {
				for i, tag := range wrongTags(k, wit, plain) {
					p := signedBy(k, plain, list...)
					p.Sigs[at].Tag = tag
					holdCheck(t, k, p, api.ErrSign, fmt.Sprintf("signed by %v, that of %d is the wrong one %d", list, wit, i))
				}
			}
		}
	}
}

// P10.4: marks that were good aren't any more at another size or root, or by other secrets.
func TestCheckOfAnotherPoint(t *testing.T) {
	for wits := 1; wits <= 4; wits++ {
		k := keysOf(2, wits, 1)
		for _, list := range orders(wits)[1:] {
			p := signedBy(k, api.Point{Size: 127, Root: full(0x77)}, list...)
			for _, size := range []int{0, 126, 128, 400} {
				q := p
				q.Size = size
				holdCheck(t, k, q, api.ErrSign, fmt.Sprintf("signed by %v, size %d", list, size))
			}
			for at := range 32 {
				q := p
				q.Root = changed(p.Root, at, 4)
				holdCheck(t, k, q, api.ErrSign, fmt.Sprintf("signed by %v, byte %d of the root", list, at))
			}
			for wit := range wits {
				other := keysOf(2, wits, 1)
				other.Wits[wit][31] ^= 1
				want := api.OK
				if slices.Contains(list, wit) {
					want = api.ErrSign
				}
				holdCheck(t, other, p, want, fmt.Sprintf("signed by %v, another secret of %d", list, wit))
			}
			other := api.Keys{Parts: secrets(9, 1), Wits: k.Wits, Need: 1}
			holdCheck(t, other, p, api.OK, "other participants")
		}
	}
}

// P10.3: sizes: ErrArg is told ahead of ErrSign, whoever signed; at the ends of what a size may be nothing else tells.
func TestCheckOfSizes(t *testing.T) {
	k := keysOf(1, 2, 2)
	for _, size := range edges(400) {
		p := api.Point{Size: size, Root: full(5)}
		isSize := size >= 0 && size <= 400
		for _, x := range []struct {
			sigs []api.Sig
			want api.Errno
		}{
			{signedBy(k, p, 0, 1).Sigs, api.OK},
			{nil, api.ErrSign},
			{signedBy(k, p, 0).Sigs, api.ErrSign},
			{signedBy(k, p, 0, 0).Sigs, api.ErrSign},
			{[]api.Sig{{Wit: -1}, {Wit: 2}}, api.ErrSign},
		} {
			if p.Sigs = x.sigs; !isSize {
				x.want = api.ErrArg
			}
			holdCheck(t, k, p, x.want, fmt.Sprintf("size %d", size))
		}
	}
}

// P10.3: keys that may not be, with marks that would do by others, and none.
func TestCheckErrArgAheadOfErrSign(t *testing.T) {
	good := keysOf(1, 4, 1)
	p := signedBy(good, api.Point{Size: 5}, 0, 1, 2, 3)
	signed := p.Sigs
	for i, k := range []api.Keys{
		{}, {Wits: good.Wits, Need: 1}, {Parts: good.Parts, Need: 1}, {Parts: good.Parts, Wits: good.Wits}, {Parts: good.Parts, Wits: good.Wits, Need: 5},
		{Parts: good.Parts, Wits: good.Wits, Need: -1}, {Parts: secrets(1, 5), Wits: good.Wits, Need: 1}, {Parts: good.Parts, Wits: secrets(2, 5), Need: 1},
		{Parts: good.Parts, Wits: good.Wits, Need: math.MaxInt}, {Parts: good.Parts, Wits: good.Wits, Need: 1<<32 + 1}, {Parts: good.Parts, Wits: good.Wits, Need: math.MinInt},
	} {
		for _, p.Sigs = range [][]api.Sig{nil, {}, {{Wit: 7}}, {signed[0], signed[0]}, signed} {
			holdCheck(t, k, p, api.ErrArg, fmt.Sprintf("keys %d, %d marks", i, len(p.Sigs)))
		}
		far := api.Point{Size: -1, Sigs: signed}
		holdCheck(t, k, far, api.ErrArg, fmt.Sprintf("keys %d, and a wrong size", i))
	}
}

// P10.3: every list of up to three marks, each of some witness, or none, with a right tag, another's or zeros; held against the words of the chapter.
func TestCheckByWords(t *testing.T) {
	plain := api.Point{Size: 64, Root: full(0x31)}
	for wits := 1; wits <= 3; wits++ {
		k := keysOf(1, wits, 1)
		var marks []api.Sig
		for wit := -1; wit <= wits; wit++ {
			for _, tag := range []api.Hash{{}, wordsSign(k, 0, plain), wordsSign(k, wits-1, plain), wordsSign(k, wit, plain)} {
				if s := (api.Sig{Wit: wit, Tag: tag}); !slices.Contains(marks, s) {
					marks = append(marks, s)
				}
			}
		}
		lists := [][]api.Sig{nil}
		for at := 0; at < len(lists) && len(lists[at]) < 3; at++ {
			for _, s := range marks {
				lists = append(lists, append(slices.Clone(lists[at]), s))
			}
		}
		counts := map[api.Errno]int{}
		for _, sigs := range lists {
			for k.Need = 1; k.Need <= wits; k.Need++ {
				p := plain
				p.Sigs = sigs
				want := wordsCheck(k, p)
				counts[want]++
				holdCheck(t, k, p, want, fmt.Sprint(sigs))
			}
		}
		if counts[api.OK] < wits || counts[api.ErrSign] < 10 {
			t.Errorf("%d witnesses: %v", wits, counts)
		}
	}
}

// P10.3: marks by lot, of four witnesses, most of them right; held against the words of the chapter.
func TestCheckByLot(t *testing.T) {
	random := rand.New(rand.NewSource(10))
	counts := map[api.Errno]int{}
	for range 5000 {
		k := keysOf(1+random.Intn(4), 1+random.Intn(4), 1+random.Intn(4))
		p := api.Point{Size: random.Intn(402), Root: full(byte(random.Intn(3)))}
		for _, wit := range random.Perm(len(k.Wits))[:random.Intn(len(k.Wits)+1)] {
			p.Sigs = append(p.Sigs, api.Sig{Wit: wit, Tag: wordsSign(k, wit, p)})
		}
		if len(p.Sigs) > 0 && random.Intn(4) == 0 {
			s := &p.Sigs[random.Intn(len(p.Sigs))]
			s.Wit = random.Intn(6) - 1
		}
		if random.Intn(6) == 0 {
			p.Size = random.Intn(402)
		}
		want := wordsCheck(k, p)
		counts[want]++
		holdCheck(t, k, p, want, fmt.Sprintf("%+v", p))
	}
	if counts[api.OK] < 500 || counts[api.ErrSign] < 500 || counts[api.ErrArg] < 500 {
		t.Errorf("%v", counts)
	}
}

// P10.3: nil and empty lists of marks are one, with right marks in the room behind them too.
func TestCheckOfEmptyLists(t *testing.T) {
	k := keysOf(1, 2, 1)
	p := signedBy(k, api.Point{}, 0, 1)
	for _, p.Sigs = range [][]api.Sig{nil, {}, make([]api.Sig, 0, 4), p.Sigs[:0]} {
		holdCheck(t, k, p, api.ErrSign, "no marks")
	}
}

// Rule 1: a great many marks: the witnesses have all signed, again and again.
func TestCheckOfVeryMany(t *testing.T) {
	k := keysOf(4, 4, 4)
	p := signedBy(k, api.Point{Size: 1}, 3, 2, 1, 0)
	p.Sigs = slices.Repeat(p.Sigs, 1<<18)
	if e := Check(k, p); e != api.ErrSign {
		t.Errorf("error %d", e)
	}
}
