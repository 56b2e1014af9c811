package part

import (
	"encoding/hex"
	"fmt"
	"math"
	"testing"

	"inspeximus/api"
	"inspeximus/keys"
)

// full is a hash of one byte, again and again.
func full(b byte) api.Hash {
	var h api.Hash
	for i := range h {
		h[i] = b
	}
	return h
}

// known is keys whose tags are told by heart below.
func known() api.Keys {
	return api.Keys{Parts: []api.Hash{full(0x11), full(0x22)}, Wits: []api.Hash{full(0x33)}, Need: 1}
}

// answers are answers to calls of each saga, step, way, kind and try, Good and not, by participants of each number, in a few epochs.
func answers(t *testing.T, k api.Keys) []api.Call {
	t.Helper()
	var out []api.Call
	for n := range k.Parts {
		for epoch := range 3 {
			p := New(k, n)
			for range epoch {
				p.Rotate()
			}
			for i := range 12 * 6 {
				for kind := 1; kind <= 3; kind++ {
					c := api.Call{Saga: i % 12, Step: i / 12, Try: 1 + (i+kind)%9, Back: kind == 2, Part: n, Kind: kind}
					a, ok := p.Take(c, i%5 < 2)
					if !ok {
						t.Fatalf("%+v isn't taken", c)
					}
					out = append(out, a)
				}
			}
		}
	}
	return out
}

// P13.1: what an answer says, thing by thing: the call's, and by whom and of when it is; what the call said of an answer doesn't count.
func TestAnswer(t *testing.T) {
	k := keysOf(3, 2, 1)
	for _, refuse := range []bool{false, true} {
		p := New(k, 2)
		p.Rotate()
		c := api.Call{Saga: 8, Step: 3, Try: 5, Back: true, Part: 2, Kind: api.Pivot, Good: refuse, Epoch: 77, Tag: full(9)}
		was := c
		a, ok := p.Take(c, refuse)
		want := api.Call{Saga: 8, Step: 3, Try: 5, Back: true, Part: 2, Kind: api.Pivot, Answer: true, Good: !refuse, Epoch: 1}
		want.Tag = keyBy(keyBy(k.Parts[2], 1, 1), 2, 8, 3, 1, map[bool]int{true: 1}[!refuse])
		if !ok || a != want || c != was {
			t.Errorf("%+v, want %+v", a, want)
		}
		if byKeys := keys.Receipt(k, api.Rec{Kind: api.Receipt, Saga: 8, Step: 3, Back: true, Good: !refuse, Part: 2, Epoch: 1}); a.Tag != byKeys {
			t.Errorf("tag %x, by layer 10 %x", a.Tag, byKeys)
		}
	}
}

// P13.1: answers' tags, by heart.
func TestAnswerKnown(t *testing.T) {
	for i, x := range []struct {
		c      api.Call
		refuse bool
		epoch  int
		want   string
	}{
		{api.Call{Try: 1, Kind: 1}, true, 0, "96bfde07612b421b981ea5cb5a86f51f50f8229df2158d5d1b91f125888b5964"},
		{api.Call{Saga: 3, Step: 4, Try: 1, Back: true, Part: 1, Kind: 1}, true, 7, "29422d3ca0535354f130199f2ffb8ca57fe342104e5c86e76d9505a98bc9777c"},
		{api.Call{Saga: 11, Step: 5, Try: 9, Part: 1, Kind: 3}, false, 400, "779554d54f476834e504b851640f130662dfef063b7aeba4dfd200835da57237"},
		{api.Call{Saga: 11, Step: 5, Try: 2, Back: true, Kind: 2}, false, 128, "c6768a31f3ebdabba0181607ac91492b1370f40235291e88832d6b423a669921"},
	} {
		p := New(known(), x.c.Part)
		for range x.epoch {
			p.Rotate()
		}
		for range 2 {
			a, ok := p.Take(x.c, x.refuse)
			if got := hex.EncodeToString(a.Tag[:]); !ok || got != x.want || a.Good == x.refuse || a.Epoch != x.epoch {
				t.Errorf("%d: %+v, tag %s", i, a, got)
			}
		}
	}
}

// P13.1: an answer is of the epoch of now, of a call that was answered before as well, and of its own try and kind.
func TestAnswersOfAnotherEpoch(t *testing.T) {
	p, w := both(t, keysOf(2, 1, 1), 1)
	seen := map[api.Hash]bool{}
	for n := range 12 {
		first, _ := hold(t, p, w, do(2, 3, 1, 1+n%9), n != 0)
		other, _ := hold(t, p, w, do(2, 4, 1+n%2, 1), n == 0)
		again, _ := hold(t, p, w, do(2, 3, 3, 9), false)
		if !first.Good || !again.Good || other.Good || first.Epoch != n || other.Epoch != n || again.Epoch != n {
			t.Errorf("epoch %d: %+v, %+v, %+v", n, first, again, other)
		}
		if first.Tag != again.Tag || seen[first.Tag] || seen[other.Tag] {
			t.Errorf("epoch %d: the tag %x, once more %x, or those of epochs ahead", n, first.Tag, again.Tag)
		}
		seen[first.Tag], seen[other.Tag] = true, true
		if got, want := p.Rotate(), w.rotate(); got != want {
			t.Errorf("epoch %d: Rotate is %v", n, got)
		}
		check(t, p, w, "a rotation")
	}
}

// P13.1: an epoch comes behind each, up to 400, behind which there is none; the participant answers by that one then.
func TestRotateToTheLast(t *testing.T) {
	p, w := both(t, keysOf(1, 1, 1), 0)
	hold(t, p, w, api.Call{Try: 1, Kind: 1}, false)
	for n := range 400 {
		if !p.Rotate() || !w.rotate() {
			t.Fatalf("no epoch behind %d", n)
		}
		check(t, p, w, "a rotation")
	}
	if p.Epoch() != 400 {
		t.Errorf("epoch %d", p.Epoch())
	}
	for range 3 {
		if p.Rotate() {
			t.Error("one epoch more")
		}
		check(t, p, w, "no rotation")
		a, _ := hold(t, p, w, api.Call{Try: 1, Kind: 1}, true)
		b, _ := hold(t, p, w, api.Call{Try: 1, Kind: 1, Step: 5}, false)
		if !keys.Holds(keysOf(1, 1, 1), Receipt(a, 1)) || !keys.Holds(keysOf(1, 1, 1), Receipt(b, 400)) {
			t.Error("an answer of the last epoch doesn't hold")
		}
	}
}

// seqs are numbers about those that a receipt may have, and great ones.
func seqs() []int { return append(edges(1, 400), 0, 2, 5, 127, 128) }

// P13.2: the receipt that an answer says, of any Seq, thing by thing.
func TestReceipt(t *testing.T) {
	for _, back := range []bool{false, true} {
		for _, good := range []bool{false, true} {
			for _, seq := range seqs() {
				c := api.Call{Saga: 1, Step: 2, Try: 3, Back: back, Part: 4, Kind: 5, Answer: true, Good: good, Epoch: 6, Tag: full(7)}
				was := c
				want := fmt.Sprint(api.Rec{Kind: 3, Saga: 1, Seq: seq, Step: 2, Try: 3, Back: back, Good: good, Part: 4, Epoch: 6, Tag: full(7)})
				if got := fmt.Sprint(Receipt(c, seq)); got != want || c != was {
					t.Errorf("Seq %d: %s, want %s", seq, got, want)
				}
			}
		}
	}
}

// P13.2: a receipt says what the answer says, whatever that is: nobody asks whether it may be.
func TestReceiptOfAnyAnswer(t *testing.T) {
	for _, n := range []int{math.MinInt, -1, 0, 1, 400, 401, math.MaxInt} {
		for _, c := range []api.Call{
			{Answer: true}, {Answer: true, Saga: n}, {Answer: true, Step: n}, {Answer: true, Try: n}, {Answer: true, Part: n}, {Answer: true, Epoch: n}, {Answer: true, Kind: n},
			{Answer: true, Saga: n, Step: n, Try: n, Back: true, Part: n, Kind: n, Good: true, Epoch: n, Tag: full(byte(n))},
		} {
			want := fmt.Sprint(api.Rec{Kind: 3, Saga: c.Saga, Seq: n, Step: c.Step, Try: c.Try, Back: c.Back, Good: c.Good, Part: c.Part, Epoch: c.Epoch, Tag: c.Tag})
			if got := fmt.Sprint(Receipt(c, n)); got != want {
				t.Errorf("%+v: %s, want %s", c, got, want)
			}
		}
	}
}

// P13.2: a call that is no Answer says no receipt, whatever it has.
func TestReceiptOfNoAnswer(t *testing.T) {
	zero := fmt.Sprint(api.Rec{})
	for _, c := range []api.Call{{}, {Good: true}, do(1, 2, 3, 4), undo(1, 2, 3, 4), {Saga: 1, Step: 2, Try: 3, Back: true, Part: 1, Kind: 3, Good: true, Epoch: 6, Tag: full(7)}} {
		for _, seq := range seqs() {
			if got := fmt.Sprint(Receipt(c, seq)); got != zero {
				t.Errorf("%+v, Seq %d: %s", c, seq, got)
			}
		}
	}
}

// P13.3: an answer's receipt holds, wherever in its saga it stands.
func TestAnswersHold(t *testing.T) {
	k := keysOf(4, 3, 2)
	good := 0
	for i, a := range answers(t, k) {
		for _, seq := range []int{1, 2 + i%398, 400} {
			if !keys.Holds(k, Receipt(a, seq)) {
				t.Fatalf("%+v doesn't hold", a)
			}
		}
		if keys.Holds(k, Receipt(a, 0)) || keys.Holds(k, Receipt(a, 401)) {
			t.Fatalf("%+v holds where no receipt stands", a)
		}
		if a.Good {
			good++
		}
	}
	if all := 4 * 3 * 216; good < all/4 || good > all*3/4 {
		t.Errorf("%d of %d are Good: too few, or too many", good, all)
	}
}

// P13.3: it doesn't, if one thing that its tag tells of is turned; it does of another try, or another kind of its step.
func TestAnswersThatWereTurned(t *testing.T) {
	k := keysOf(4, 1, 1)
	for i, a := range answers(t, k) {
		if i%7 != 0 {
			continue
		}
		for name, turn := range map[string]func(c *api.Call){
			"saga":        func(c *api.Call) { c.Saga = (c.Saga + 1 + i%11) % 12 },
			"step":        func(c *api.Call) { c.Step = (c.Step + 1 + i%5) % 6 },
			"way":         func(c *api.Call) { c.Back = !c.Back },
			"answer":      func(c *api.Call) { c.Good = !c.Good },
			"participant": func(c *api.Call) { c.Part = (c.Part + 1 + i%3) % 4 },
			"epoch":       func(c *api.Call) { c.Epoch = (c.Epoch + 1 + i%400) % 401 },
			"tag":         func(c *api.Call) { c.Tag[i%32] ^= 1 << (i % 8) },
			"no tag":      func(c *api.Call) { c.Tag = api.Hash{} },
			"no answer":   func(c *api.Call) { c.Answer = false },
			"wrong try":   func(c *api.Call) { c.Try += 9 },
		} {
			c := a
			if turn(&c); keys.Holds(k, Receipt(c, 3)) {
				t.Errorf("%+v holds, though another %s was said", c, name)
			}
		}
		c := a
		c.Try, c.Kind = 1+a.Try%9, 1+a.Kind%3
		if !keys.Holds(k, Receipt(c, 3)) {
			t.Errorf("%+v doesn't hold", c)
		}
	}
}

// P13.3: an answer holds by the keys alone that the participant was made of.
func TestAnswersHoldByTheirKeys(t *testing.T) {
	k := keysOf(2, 1, 1)
	a, _ := New(k, 1).Take(do(1, 1, 1, 1), false)
	x := Receipt(a, 2)
	for i, other := range []api.Keys{{}, keysOf(1, 1, 1), keysOf(2, 0, 0), keysOf(2, 1, 2), {Parts: secrets(9, 2), Wits: k.Wits, Need: 1}, {Parts: []api.Hash{k.Parts[1], k.Parts[0]}, Wits: k.Wits, Need: 1}} {
		if keys.Holds(other, x) {
			t.Errorf("%d: it holds by other keys", i)
		}
	}
	// Witnesses are nothing to a receipt.
	if !keys.Holds(k, x) || !keys.Holds(keysOf(4, 4, 3), x) {
		t.Error("it doesn't hold by its keys")
	}
}
