package part

import (
	"crypto/hmac"
	"crypto/sha256"
	"encoding/binary"
	"fmt"
	"math"
	"math/rand"
	"slices"
	"testing"

	"inspeximus/api"
)

// secrets is n hashes that differ, and from those of other seeds.
func secrets(seed, n int) []api.Hash {
	random := rand.New(rand.NewSource(int64(seed)))
	out := make([]api.Hash, n)
	for i := range out {
		random.Read(out[i][:])
	}
	return out
}

// keysOf is keys of so many participants and witnesses.
func keysOf(parts, wits, need int) api.Keys {
	return api.Keys{Parts: secrets(1, parts), Wits: secrets(2, wits), Need: need}
}

// edges are numbers about the ends of a range, great ones, and those that come into it if they are cut.
func edges(least, last int) []int {
	out := []int{least - 1, least, least + 1, last - 1, last, last + 1, last + 2, -last, math.MaxInt, math.MaxInt - 1, math.MinInt, math.MinInt + 1}
	for _, shift := range []int{2, 4, 8, 16, 31, 32, 62} {
		out = append(out, 1<<shift, -1<<shift, least+1<<shift, last+1<<shift)
	}
	return out
}

// keyBy is the tag of words by a secret, by the words of layer 2.
func keyBy(secret api.Hash, words ...int) api.Hash {
	h := hmac.New(sha256.New, secret[:])
	for _, w := range words {
		h.Write(binary.BigEndian.AppendUint64(nil, uint64(w)))
	}
	return api.Hash(h.Sum(nil))
}

// tagOf is the tag of an answer, by the words of layer 10.
func tagOf(k api.Keys, c api.Call) api.Hash {
	bit := map[bool]int{true: 1}
	return keyBy(keyBy(k.Parts[c.Part], 1, c.Epoch), 2, c.Saga, c.Step, bit[c.Back], bit[c.Good])
}

// words is a participant by the words of the chapter.
type words struct {
	number, epoch int
	keys          api.Keys
	entries       []api.Entry
}

// entry is the entry of a saga's step and Back, and whether there is one.
func (w *words) entry(saga, step int, back bool) (api.Entry, bool) {
	for _, e := range w.entries {
		if e.Saga == saga && e.Step == step && e.Back == back {
			return e, true
		}
	}
	return api.Entry{}, false
}

// its says whether a call is its.
func (w *words) its(c api.Call) bool {
	in := func(n, least, most int) bool { return n >= least && n <= most }
	return !c.Answer && c.Part == w.number && in(c.Saga, 0, 11) && in(c.Step, 0, 5) && in(c.Kind, 1, 3) && in(c.Try, 1, 9)
}

// good says whether what it answers to a call is Good, and adds the entry of that.
func (w *words) good(c api.Call, refuse bool) bool {
	if e, ok := w.entry(c.Saga, c.Step, c.Back); ok {
		return e.Good
	}
	if c.Back {
		if !refuse {
			w.entries = append(w.entries, api.Entry{Saga: c.Saga, Step: c.Step, Back: true, Good: true})
		}
		return !refuse
	}
	undone, was := w.entry(c.Saga, c.Step, true)
	undoneWell := was && undone.Good
	good := true
	if undoneWell || refuse {
		good = false
	}
	if !(!good && refuse && !undoneWell && c.Kind == 3) {
		w.entries = append(w.entries, api.Entry{Saga: c.Saga, Step: c.Step, Good: good})
	}
	return good
}

func (w *words) take(c api.Call, refuse bool) (api.Call, bool) {
	if !w.its(c) {
		return api.Call{}, false
	}
	c.Good = w.good(c, refuse)
	c.Answer, c.Epoch = true, w.epoch
	c.Tag = tagOf(w.keys, c)
	return c, true
}

func (w *words) rotate() bool {
	if w.epoch == 400 {
		return false
	}
	w.epoch++
	return true
}

// both is a participant, and what it is by the words.
func both(t *testing.T, k api.Keys, n int) (*Part, *words) {
	t.Helper()
	p := New(k, n)
	if p == nil {
		t.Fatalf("no participant %d of %d", n, len(k.Parts))
	}
	w := &words{number: n, keys: k}
	check(t, p, w, "at first")
	return p, w
}

// check asks a participant twice for all that it tells: asking changes nothing.
func check(t *testing.T, p *Part, w *words, when string) {
	t.Helper()
	for range 2 {
		if got := p.Epoch(); got != w.epoch {
			t.Fatalf("%s: epoch %d, want %d", when, got, w.epoch)
		}
		if got := p.Entries(); !slices.Equal(got, w.entries) {
			t.Fatalf("%s: entries %+v, want %+v", when, got, w.entries)
		}
	}
}

// hold hands a call to a participant, and holds it against the words.
func hold(t *testing.T, p *Part, w *words, c api.Call, refuse bool) (api.Call, bool) {
	t.Helper()
	got, ok := p.Take(c, refuse)
	want, wantOK := w.take(c, refuse)
	if got != want || ok != wantOK {
		t.Fatalf("%+v, refuse %v: %+v, %v, want %+v, %v", c, refuse, got, ok, want, wantOK)
	}
	check(t, p, w, fmt.Sprintf("%+v, refuse %v", c, refuse))
	return got, ok
}

// ordinary is a call to the participant 1, with nothing 0 that needn't be.
func ordinary() api.Call {
	return api.Call{Saga: 7, Step: 4, Try: 6, Back: true, Part: 1, Kind: api.Comp}
}

// do is a call of a saga's step to the participant 1, undo that of its compensation.
func do(saga, step, kind, try int) api.Call {
	return api.Call{Saga: saga, Step: step, Try: try, Part: 1, Kind: kind}
}

func undo(saga, step, kind, try int) api.Call {
	c := do(saga, step, kind, try)
	c.Back = true
	return c
}

// theirs are calls that are none of the participant n of all of 4, most by one thing alone, and some that are.
func theirs(n int) []api.Call {
	first := ordinary()
	first.Part = n
	out := []api.Call{{}, first, {Part: n, Kind: 1, Try: 1}, {Part: n, Kind: 3, Try: 9, Saga: 11, Step: 5}, {Part: n, Kind: 2, Try: 1, Answer: true}}
	for _, x := range []struct {
		least, last int
		put         func(c *api.Call, n int)
	}{
		{0, 11, func(c *api.Call, n int) { c.Saga = n }},
		{0, 5, func(c *api.Call, n int) { c.Step = n }},
		{1, 3, func(c *api.Call, n int) { c.Kind = n }},
		{1, 9, func(c *api.Call, n int) { c.Try = n }},
		{0, 3, func(c *api.Call, n int) { c.Part = n }},
		{n, n, func(c *api.Call, n int) { c.Part = n }},
	} {
		for _, number := range edges(x.least, x.last) {
			c := first
			x.put(&c, number)
			out = append(out, c)
		}
	}
	for _, c := range slices.Clone(out) {
		for _, back := range []bool{false, true} {
			for _, answer := range []bool{false, true} {
				c.Back, c.Answer = back, answer
				out = append(out, c)
			}
		}
	}
	return out
}

// P13.1: the chapter's example.
func TestExample(t *testing.T) {
	p, w := both(t, keysOf(2, 1, 1), 1)
	for _, refuse := range []bool{false, true} {
		if c, ok := hold(t, p, w, do(0, 0, api.Comp, 1), refuse); !ok || !c.Good {
			t.Errorf("refuse %v: %+v, %v", refuse, c, ok)
		}
	}
}

// P13.1: a participant of each number that keys have; none of others.
func TestNew(t *testing.T) {
	for parts := 1; parts <= 4; parts++ {
		k := keysOf(parts, 3, 2)
		for _, n := range append(edges(0, parts-1), 2, 3, 4, 5) {
			p := New(k, n)
			if is := n >= 0 && n < parts; (p != nil) != is {
				t.Errorf("the participant %d of %d: there is one: %v", n, parts, !is)
			}
			if p != nil {
				both(t, k, n)
			}
		}
	}
}

// P13.1: no participant of keys that may not be, of whatever number.
func TestNewOfOtherKeys(t *testing.T) {
	there, not := 0, 0
	for parts := range 7 {
		for wits := range 7 {
			for _, need := range append(edges(1, wits), 2, 3, 4, 5) {
				may := parts >= 1 && parts <= 4 && wits >= 1 && wits <= 4 && need >= 1 && need <= wits
				for n := -1; n <= 6; n++ {
					p := New(keysOf(parts, wits, need), n)
					if is := may && n >= 0 && n < parts; (p != nil) != is {
						t.Errorf("%d participants, %d witnesses, Need %d: the participant %d is there: %v", parts, wits, need, n, !is)
					}
					if p != nil {
						there++
					} else {
						not++
					}
				}
			}
		}
	}
	if there < 100 || not < 1000 {
		t.Errorf("%d participants and %d others are too few", there, not)
	}
}

// P13.1: which participants there are, by heart; lists of secrets may be nil or empty.
func TestNewByHeart(t *testing.T) {
	one, two, four := secrets(1, 1), secrets(1, 2), secrets(1, 4)
	for i, x := range []struct {
		k    api.Keys
		n    int
		want bool
	}{
		{api.Keys{Parts: one, Wits: one, Need: 1}, 0, true},
		{api.Keys{Parts: four, Wits: four, Need: 4}, 3, true},
		{api.Keys{Parts: two, Wits: four, Need: 1}, 1, true},
		{api.Keys{Parts: make([]api.Hash, 4), Wits: make([]api.Hash, 4), Need: 2}, 2, true},
		{api.Keys{}, 0, false},
		{api.Keys{Parts: one, Wits: one, Need: 1}, 1, false},
		{api.Keys{Parts: one, Wits: one, Need: 1}, -1, false},
		{api.Keys{Parts: four, Wits: four, Need: 4}, 4, false},
		{api.Keys{Parts: four[:1], Wits: four, Need: 4}, 1, false},
		{api.Keys{Parts: four, Wits: four, Need: 5}, 0, false},
		{api.Keys{Parts: four, Wits: four}, 0, false},
		{api.Keys{Parts: four, Need: 1}, 0, false},
		{api.Keys{Parts: four, Wits: []api.Hash{}, Need: 1}, 0, false},
		{api.Keys{Wits: four, Need: 1}, 0, false},
		{api.Keys{Parts: []api.Hash{}, Wits: four, Need: 1}, 0, false},
		{api.Keys{Parts: secrets(1, 5), Wits: four, Need: 1}, 0, false},
		{api.Keys{Parts: one, Wits: secrets(1, 5), Need: 1}, 0, false},
		{api.Keys{Parts: four, Wits: four, Need: 1}, math.MaxInt, false},
		{api.Keys{Parts: four, Wits: four, Need: 1}, math.MinInt, false},
		{api.Keys{Parts: four, Wits: four, Need: 1}, 1 << 32, false},
	} {
		if got := New(x.k, x.n) != nil; got != x.want {
			t.Errorf("%d: %v", i, got)
		}
	}
}

// P13.1: calls that are its and calls that aren't, of each thing about its ends, refused and not, at a participant that has nothing yet and at one that has been asked all of them.
func TestTakeOfEveryCall(t *testing.T) {
	for n := range 4 {
		its, others := 0, 0
		all, w := both(t, keysOf(4, 2, 1), n)
		for _, c := range theirs(n) {
			for _, refuse := range []bool{false, true} {
				alone, by := both(t, keysOf(4, 2, 1), n)
				hold(t, alone, by, c, refuse)
				if _, ok := hold(t, all, w, c, refuse); ok {
					its++
				} else {
					others++
				}
			}
		}
		if its < 50 || others < 500 {
			t.Errorf("%d calls and %d others are too few", its, others)
		}
	}
}

// P13.1: which calls are its, by heart: nothing comes of others, and nothing stays.
func TestTakeOfOthersByHeart(t *testing.T) {
	for i, x := range []struct {
		c    api.Call
		want bool
	}{
		{api.Call{Part: 1, Kind: 1, Try: 1}, true},
		{api.Call{Part: 1, Kind: 3, Try: 9, Saga: 11, Step: 5, Back: true}, true},
		{api.Call{Part: 1, Kind: 2, Try: 1, Good: true, Epoch: -5, Tag: api.Hash{9}}, true},
		{api.Call{}, false},
		{api.Call{Part: 0, Kind: 1, Try: 1}, false},
		{api.Call{Part: 2, Kind: 1, Try: 1}, false},
		{api.Call{Part: 1<<32 + 1, Kind: 1, Try: 1}, false},
		{api.Call{Part: 1, Kind: 0, Try: 1}, false},
		{api.Call{Part: 1, Kind: 4, Try: 1}, false},
		{api.Call{Part: 1, Kind: 1, Try: 0}, false},
		{api.Call{Part: 1, Kind: 1, Try: 10}, false},
		{api.Call{Part: 1, Kind: 1, Try: 1, Saga: -1}, false},
		{api.Call{Part: 1, Kind: 1, Try: 1, Saga: 12}, false},
		{api.Call{Part: 1, Kind: 1, Try: 1, Step: -1}, false},
		{api.Call{Part: 1, Kind: 1, Try: 1, Step: 6}, false},
		{api.Call{Part: 1, Kind: 1, Try: 1, Answer: true}, false},
		{api.Call{Part: 1, Kind: 1, Try: 1, Answer: true, Good: true}, false},
	} {
		for _, refuse := range []bool{false, true} {
			p := New(keysOf(3, 1, 1), 1)
			got, ok := p.Take(x.c, refuse)
			if ok != x.want || got.Answer != x.want {
				t.Errorf("%d: %+v, %v", i, got, ok)
			}
			if !x.want && (got != api.Call{} || len(p.Entries()) != 0) {
				t.Errorf("%d: %+v, and %+v stays", i, got, p.Entries())
			}
		}
	}
}

// ask is a call, whether it is refused, whether it is answered Good, and how many entries there are then.
type ask struct {
	c            api.Call
	refuse, good bool
	entries      int
}

// P13.1, P13.3: what is answered, one call behind the other, by heart.
func TestTakeByHeart(t *testing.T) {
	const no, yes = true, false // whether it is refused
	for name, list := range map[string][]ask{
		"applied once, whatever is asked again": {
			{do(0, 0, 1, 1), yes, true, 1}, {do(0, 0, 1, 1), no, true, 1}, {do(0, 0, 1, 2), no, true, 1}, {do(0, 0, 3, 9), no, true, 1}, {do(0, 0, 2, 1), yes, true, 1},
		},
		"a step that can be compensated, refused: so for ever": {
			{do(0, 0, 1, 1), no, false, 1}, {do(0, 0, 1, 1), yes, false, 1}, {do(0, 0, 1, 2), yes, false, 1}, {do(0, 0, 3, 2), yes, false, 1}, {do(0, 0, 3, 2), no, false, 1},
		},
		"one that decides, likewise": {
			{do(0, 0, 2, 1), no, false, 1}, {do(0, 0, 2, 2), yes, false, 1}, {do(0, 0, 3, 3), yes, false, 1},
		},
		"one that is retried, till it goes well": {
			{do(0, 0, 3, 1), no, false, 0}, {do(0, 0, 3, 1), no, false, 0}, {do(0, 0, 3, 2), no, false, 0}, {do(0, 0, 3, 2), yes, true, 1}, {do(0, 0, 3, 2), no, true, 1},
		},
		"one that was retried, and is asked as another kind": {
			{do(0, 0, 3, 1), no, false, 0}, {do(0, 0, 1, 2), no, false, 1}, {do(0, 0, 3, 3), yes, false, 1},
		},
		"a compensation, till it goes well": {
			{do(0, 0, 1, 1), yes, true, 1}, {undo(0, 0, 1, 1), no, false, 1}, {undo(0, 0, 1, 2), no, false, 1}, {undo(0, 0, 1, 3), yes, true, 2}, {undo(0, 0, 1, 4), no, true, 2}, {do(0, 0, 1, 2), no, true, 2},
		},
		"a compensation with nothing ahead": {
			{undo(0, 0, 1, 1), yes, true, 1}, {do(0, 0, 1, 1), yes, false, 2}, {do(0, 0, 1, 1), yes, false, 2}, {undo(0, 0, 1, 1), no, true, 2},
		},
		"likewise, and the step is refused as well": {
			{undo(0, 0, 1, 1), yes, true, 1}, {do(0, 0, 1, 1), no, false, 2}, {do(0, 0, 1, 2), yes, false, 2},
		},
		"likewise, of one that is retried: it isn't any more": {
			{undo(0, 0, 3, 1), yes, true, 1}, {do(0, 0, 3, 1), no, false, 2}, {do(0, 0, 3, 2), yes, false, 2},
		},
		"likewise, not refused": {
			{undo(0, 0, 3, 1), yes, true, 1}, {do(0, 0, 3, 1), yes, false, 2}, {do(0, 0, 3, 2), yes, false, 2},
		},
		"one that was retried, and is compensated then": {
			{do(0, 0, 3, 1), no, false, 0}, {undo(0, 0, 3, 1), yes, true, 1}, {do(0, 0, 3, 2), yes, false, 2},
		},
		"a compensation that is refused undoes nothing": {
			{undo(0, 0, 1, 1), no, false, 0}, {do(0, 0, 1, 1), yes, true, 1}, {undo(0, 0, 1, 2), yes, true, 2}, {do(0, 0, 1, 2), yes, true, 2},
		},
		"a compensation of what was refused": {
			{do(0, 0, 1, 1), no, false, 1}, {undo(0, 0, 1, 1), no, false, 1}, {undo(0, 0, 1, 2), yes, true, 2}, {do(0, 0, 1, 2), yes, false, 2},
		},
		"a compensation of any kind": {
			{undo(0, 0, 1, 1), yes, true, 1}, {undo(0, 1, 2, 1), yes, true, 2}, {undo(0, 2, 3, 1), yes, true, 3}, {undo(0, 3, 3, 1), no, false, 3}, {undo(0, 4, 2, 1), no, false, 3},
		},
		"steps and sagas are apart": {
			{undo(1, 0, 1, 1), yes, true, 1}, {do(0, 0, 1, 1), yes, true, 2}, {do(1, 1, 1, 1), yes, true, 3}, {do(0, 1, 1, 1), no, false, 4}, {do(1, 0, 1, 1), yes, false, 5}, {do(2, 0, 1, 1), yes, true, 6}, {do(0, 2, 1, 1), yes, true, 7},
		},
	} {
		p, w := both(t, keysOf(2, 2, 1), 1)
		for i, x := range list {
			c, ok := hold(t, p, w, x.c, x.refuse)
			if !ok || c.Good != x.good || len(p.Entries()) != x.entries {
				t.Errorf("%s: %d: Good %v, %d entries", name, i, c.Good, len(p.Entries()))
			}
		}
	}
}

// P13.1: the entries by heart, in the order in which they came, whatever was asked again behind them.
func TestEntriesByHeart(t *testing.T) {
	p, w := both(t, keysOf(2, 1, 1), 1)
	for _, x := range []ask{
		{do(9, 5, 1, 1), false, true, 1}, {undo(3, 2, 1, 1), false, true, 2}, {do(0, 0, 3, 1), true, false, 2}, {do(3, 2, 1, 1), false, false, 3},
		{undo(9, 5, 1, 1), true, false, 3}, {do(0, 1, 2, 1), true, false, 4}, {undo(9, 5, 1, 2), false, true, 5}, {do(0, 0, 3, 2), false, true, 6}, {do(9, 5, 1, 2), true, true, 6},
	} {
		hold(t, p, w, x.c, x.refuse)
		if n := len(p.Entries()); n != x.entries {
			t.Errorf("%+v: %d entries", x.c, n)
		}
	}
	want := []api.Entry{{Saga: 9, Step: 5, Good: true}, {Saga: 3, Step: 2, Back: true, Good: true}, {Saga: 3, Step: 2}, {Step: 1}, {Saga: 9, Step: 5, Back: true, Good: true}, {Good: true}}
	if got := p.Entries(); !slices.Equal(got, want) {
		t.Errorf("%+v", got)
	}
}

// P13.1, P13.3: every order of up to four calls of one step, of each Kind, Back and not, refused and not, held against the words.
func TestEveryOrder(t *testing.T) {
	type one struct {
		c      api.Call
		refuse bool
	}
	var ways []one
	for kind := 1; kind <= 3; kind++ {
		for _, refuse := range []bool{false, true} {
			ways = append(ways, one{do(5, 2, kind, kind), refuse}, one{undo(5, 2, kind, 9), refuse})
		}
	}
	const deep = 4
	k := keysOf(2, 1, 1)
	for n := range int(math.Pow(float64(len(ways)), deep)) {
		p, w := New(k, 1), &words{number: 1, keys: k}
		isGood := map[bool]bool{}
		for range deep {
			x := ways[n%len(ways)]
			n /= len(ways)
			c, _ := hold(t, p, w, x.c, x.refuse)
			if isGood[c.Back] && !c.Good {
				t.Fatalf("%+v was answered Good, and isn't any more", x.c)
			}
			if c.Good {
				isGood[c.Back] = true
			}
		}
	}
}

// byLot is a call to the participant 1 by lot: most are its, of few sagas and steps, so that they come again.
func byLot(random *rand.Rand, sagas, steps int) api.Call {
	c := api.Call{Saga: random.Intn(sagas), Step: random.Intn(steps), Try: 1 + random.Intn(9), Back: random.Intn(3) == 0, Part: 1, Kind: 1 + random.Intn(3)}
	c.Good, c.Epoch = random.Intn(2) == 0, random.Intn(3)
	random.Read(c.Tag[:1])
	switch random.Intn(30) {
	case 0:
		c.Answer = true
	case 1:
		c.Part = random.Intn(4)
	case 2:
		c.Kind = random.Intn(6)
	case 3:
		c.Try = random.Intn(12)
	case 4:
		c.Saga += 12 * (random.Intn(3) - 1)
	case 5:
		c.Step += 6 * (random.Intn(3) - 1)
	}
	return c
}

// P13.1, P13.3: participants go their way by calls by lot, with rotations, as the words say: each deed has at most one entry, which stays as it came; what was answered Good is so again; what was undone ahead is never done.
func TestAnyCalls(t *testing.T) {
	for seed := range 60 {
		t.Run("", func(t *testing.T) {
			t.Parallel()
			random := rand.New(rand.NewSource(int64(seed)))
			p, w := both(t, keysOf(4, 4, 2), 1)
			sagas, steps, refusing := 1+random.Intn(12), 1+random.Intn(6), 1+random.Intn(5)
			good := map[api.Entry]bool{} // deeds that were answered Good
			undoneAhead := map[api.Entry]bool{}
			for range 300 {
				if random.Intn(20) == 0 && p.Rotate() != w.rotate() {
					t.Fatal("a rotation")
				}
				was := p.Entries()
				c, ok := hold(t, p, w, byLot(random, sagas, steps), random.Intn(refusing) == 0)
				now := p.Entries()
				if !slices.Equal(now[:len(was)], was) || len(now) > len(was)+1 || !ok && len(now) != len(was) {
					t.Fatalf("%+v became %+v", was, now)
				}
				deed, undone := api.Entry{Saga: c.Saga, Step: c.Step, Back: c.Back}, api.Entry{Saga: c.Saga, Step: c.Step, Back: true}
				if ok && (good[deed] && !c.Good || c.Good && !c.Back && undoneAhead[deed]) {
					t.Fatalf("%+v behind %+v", c, was)
				}
				if ok && c.Good {
					good[deed] = true
					undoneAhead[api.Entry{Saga: c.Saga, Step: c.Step}] = good[undone] && !good[api.Entry{Saga: c.Saga, Step: c.Step}]
				}
			}
			seen := map[api.Entry]bool{}
			for _, e := range p.Entries() {
				e.Good = false
				if seen[e] {
					t.Fatalf("two entries of %+v", e)
				}
				seen[e] = true
			}
		})
	}
}

// P13.1: as many entries as there can be, each deed by itself, in an order by lot, and all of them asked again.
func TestEveryDeed(t *testing.T) {
	var calls []api.Call
	for saga := range 12 {
		for step := range 6 {
			calls = append(calls, do(saga, step, 1+step%3, 1+saga%9), undo(saga, step, 1+saga%3, 1+step))
		}
	}
	random := rand.New(rand.NewSource(13))
	random.Shuffle(len(calls), func(i, j int) { calls[i], calls[j] = calls[j], calls[i] })
	p, w := both(t, keysOf(2, 1, 1), 1)
	for _, refuse := range []bool{false, true, false} {
		for _, c := range calls {
			hold(t, p, w, c, refuse)
		}
		l := p.Entries()
		if len(l) != 144 {
			t.Errorf("%d entries", len(l))
		}
		for i, c := range calls {
			if e := l[i]; e.Saga != c.Saga || e.Step != c.Step || e.Back != c.Back {
				t.Errorf("entry %d: %+v, want that of %+v", i, e, c)
			}
		}
	}
}

// P13.3: calls of a saga, and of a step, in turns with those of others, are answered as they are alone.
func TestSagasAreApart(t *testing.T) {
	for seed := range 40 {
		random := rand.New(rand.NewSource(int64(seed)))
		together, w := both(t, keysOf(2, 1, 1), 1)
		type place struct{ saga, step int }
		alone, entries := map[place]*Part{}, map[place][]api.Entry{}
		for range 120 {
			c := do(random.Intn(2)*11, random.Intn(2)*5, 1+random.Intn(3), 1+random.Intn(9))
			c.Back = random.Intn(2) == 0
			at := place{c.Saga, c.Step}
			if alone[at] == nil {
				alone[at] = New(keysOf(2, 1, 1), 1)
			}
			refuse := random.Intn(2) == 0
			got, _ := hold(t, together, w, c, refuse)
			if want, _ := alone[at].Take(c, refuse); got != want {
				t.Fatalf("%+v: %+v, alone %+v", c, got, want)
			}
		}
		for _, e := range together.Entries() {
			at := place{e.Saga, e.Step}
			entries[at] = append(entries[at], e)
		}
		for at, p := range alone {
			if got := p.Entries(); !slices.Equal(got, entries[at]) {
				t.Errorf("%+v: %+v, alone %+v", at, entries[at], got)
			}
		}
	}
}

// Rule 6: participants don't hang on each other, of one keys and of others, of one number and of others, though they are asked in turns.
func TestPartsAreApart(t *testing.T) {
	random := rand.New(rand.NewSource(3))
	var parts []*Part
	var by []*words
	for i := range 8 {
		p, w := both(t, keysOf(2+i%3, 1+i%4, 1), i%2)
		parts, by = append(parts, p), append(by, w)
	}
	for range 200 {
		c := byLot(random, 2, 2)
		for i, p := range parts {
			if c.Part = i % 2; random.Intn(3) != 0 {
				hold(t, p, by[i], c, random.Intn(2) == 0)
			}
			if random.Intn(30) == 0 {
				p.Rotate()
				by[i].rotate()
			}
		}
		for i, p := range parts {
			check(t, p, by[i], "the others were asked")
		}
	}
}

// P13.1: a nil participant takes nothing, has no epoch and no entries, and nothing changes that.
func TestNilPart(t *testing.T) {
	for i, p := range []*Part{nil, New(api.Keys{}, 0), New(keysOf(2, 1, 1), 2)} {
		for n := range 4 {
			for _, c := range theirs(n) {
				for _, refuse := range []bool{false, true} {
					if got, ok := p.Take(c, refuse); ok || got != (api.Call{}) {
						t.Fatalf("%d: %+v: %+v, %v", i, c, got, ok)
					}
				}
			}
			if p.Rotate() || p.Epoch() != 0 || len(p.Entries()) != 0 {
				t.Fatalf("%d: epoch %d, %+v", i, p.Epoch(), p.Entries())
			}
		}
	}
}

// Rule 4: keys that are handed in are neither changed nor kept, the room behind their lists included.
func TestNewKeepsNothing(t *testing.T) {
	for n := range 3 {
		k, plain := keysOf(3, 2, 1), keysOf(3, 2, 1)
		k.Parts, k.Wits = append(k.Parts, api.Hash{7}, api.Hash{8})[:3], append(k.Wits, api.Hash{9})[:2]
		was := fmt.Sprint(k, k.Parts[:cap(k.Parts)], k.Wits[:cap(k.Wits)])
		p, w := New(k, n), &words{number: n, keys: plain}
		// No answer tells of the witnesses: that they aren't kept is asked of what is inside.
		if &p.keys.Parts[0] == &k.Parts[0] || &p.keys.Wits[0] == &k.Wits[0] {
			t.Error("the lists that were handed in are kept")
		}
		c := ordinary()
		c.Part = n
		hold(t, p, w, c, false)
		p.Rotate()
		w.rotate()
		hold(t, p, w, c, true)
		if now := fmt.Sprint(k, k.Parts[:cap(k.Parts)], k.Wits[:cap(k.Wits)]); now != was {
			t.Errorf("the keys became %s", now)
		}
		for i := range k.Parts {
			k.Parts[i] = api.Hash{}
		}
		clear(k.Wits)
		hold(t, p, w, c, true)
		c.Step--
		hold(t, p, w, c, false)
	}
}

// Rule 4: entries are the caller's own, their spare room too.
func TestEntriesAreNew(t *testing.T) {
	p, w := both(t, keysOf(2, 1, 1), 1)
	for n := range 40 {
		first, second := p.Entries(), p.Entries()
		first = first[:cap(first)]
		for i := range first {
			first[i] = api.Entry{Saga: -5, Step: -5, Back: true, Good: true}
		}
		_ = append(p.Entries(), api.Entry{Saga: -6})
		if !slices.Equal(second, w.entries) {
			t.Fatalf("%d entries: two answers share memory", n)
		}
		check(t, p, w, "entries that were written over")
		kept := slices.Clone(second)
		hold(t, p, w, do(n%12, n/12, api.Comp, 1), n%3 == 0)
		if !slices.Equal(second, kept) {
			t.Fatalf("%d entries: an answer changed with its participant", n)
		}
	}
}
