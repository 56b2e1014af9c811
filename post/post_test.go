package post

import (
	"fmt"
	"math"
	"slices"
	"testing"

	"inspeximus/api"
)

// words is a post by the words of the chapter: a plain list of calls.
type words struct{ list []api.Call }

func (w *words) send(c api.Call) bool {
	if len(w.list) == 24 {
		return false
	}
	w.list = append(w.list, c)
	return true
}

func (w *words) next() (api.Call, bool) {
	if len(w.list) == 0 {
		return api.Call{}, false
	}
	c := w.list[0]
	w.list = slices.Clone(w.list[1:])
	return c, true
}

func (w *words) late() bool {
	if len(w.list) < 2 {
		return false
	}
	w.list = append(slices.Clone(w.list[1:]), w.list[0])
	return true
}

func (w *words) twice() bool {
	if len(w.list) == 0 || len(w.list) == 24 {
		return false
	}
	w.list = append(w.list, w.list[0])
	return true
}

// held is a post, and what it is by the words: what is done to it is done to both, and held against each other.
type held struct {
	t    *testing.T
	post *Post
	by   words
}

// begin is a post without calls, that is held.
func begin(t *testing.T) *held {
	t.Helper()
	h := &held{t: t, post: New()}
	if h.post == nil {
		t.Fatal("no post")
	}
	h.check("at first")
	return h
}

// check asks the post twice for all that it tells without turning anything.
func (h *held) check(when string) {
	h.t.Helper()
	for range 2 {
		if got := h.post.Len(); got != len(h.by.list) {
			h.t.Fatalf("%s: %d calls, want %d", when, got, len(h.by.list))
		}
		if got := h.post.List(); !slices.Equal(got, h.by.list) {
			h.t.Fatalf("%s: %+v, want %+v", when, got, h.by.list)
		}
	}
}

// said holds one answer against that by the words, and then all that the post tells.
func (h *held) said(what string, got, want bool) bool {
	h.t.Helper()
	if got != want {
		h.t.Fatalf("%s with %d calls then: %v, want %v", what, len(h.by.list), got, want)
	}
	h.check("behind " + what)
	return got
}

func (h *held) send(c api.Call) bool {
	h.t.Helper()
	return h.said(fmt.Sprintf("Send %+v", c), h.post.Send(c), h.by.send(c))
}

func (h *held) late() bool {
	h.t.Helper()
	return h.said("Late", h.post.Late(), h.by.late())
}

func (h *held) twice() bool {
	h.t.Helper()
	return h.said("Twice", h.post.Twice(), h.by.twice())
}

func (h *held) next() (api.Call, bool) {
	h.t.Helper()
	got, ok := h.post.Next()
	want, wantOK := h.by.next()
	if got != want {
		h.t.Fatalf("Next: %+v, want %+v", got, want)
	}
	h.said("Next", ok, wantOK)
	return got, ok
}

// empty takes out all that is left, and once more.
func (h *held) empty() {
	h.t.Helper()
	for range len(h.by.list) {
		if _, ok := h.next(); !ok {
			h.t.Fatal("Next: false, though there is one")
		}
	}
	for range 3 {
		if c, ok := h.next(); ok || c != (api.Call{}) {
			h.t.Fatalf("Next of an empty post: %+v, %v", c, ok)
		}
	}
}

// call is the n-th of calls that all differ; it is that of one step, and its answer, in turn, and none is zero.
func call(n int) api.Call {
	return api.Call{
		Saga: n, Step: n % 6, Try: n%9 + 1, Back: n%3 == 1, Part: n % 4, Kind: n%3 + 1,
		Answer: n%2 == 1, Good: n%4 == 1, Epoch: n % 401, Tag: api.Hash{byte(n), 31: byte(n >> 8)},
	}
}

// calls are the first n of them.
func calls(n int) []api.Call {
	out := make([]api.Call, n)
	for i := range out {
		out[i] = call(i)
	}
	return out
}

// with is a post that is held, to which the first n calls were sent, behind as many others which are out again: so it isn't always in one state inside.
func with(t *testing.T, n, ahead int) *held {
	t.Helper()
	h := begin(t)
	for i := range ahead {
		h.send(call(1000 + i))
		h.next()
	}
	for _, c := range calls(n) {
		h.send(c)
	}
	return h
}

// single are a zero call, and calls of which one field by itself is set, to what is ordinary and to what no call has.
func single() []api.Call {
	out := []api.Call{{}, {Back: true}, {Answer: true}, {Good: true}}
	for _, n := range []int{1, 2, 11, 12, 400, -1, 1 << 31, 1 << 32, -1 << 40, math.MaxInt, math.MinInt} {
		out = append(out, api.Call{Saga: n}, api.Call{Step: n}, api.Call{Try: n}, api.Call{Part: n}, api.Call{Kind: n}, api.Call{Epoch: n})
	}
	for i := range 32 {
		var first, last api.Call
		first.Tag[i], last.Tag[i] = 1, 255
		out = append(out, first, last)
	}
	return out
}

// P14.1, P14.2: the chapter's example.
func TestExample(t *testing.T) {
	a, b := call(1), call(2)
	h := begin(t)
	if !h.send(a) || !h.send(b) || !h.late() {
		t.Error("it doesn't go")
	}
	if got := h.post.List(); !slices.Equal(got, []api.Call{b, a}) {
		t.Errorf("%+v", got)
	}
	h.empty()
}

// P14.1: a new post has no calls, and each is one of its own.
func TestNew(t *testing.T) {
	for range 3 {
		h := begin(t)
		if h.post.Len() != 0 || len(h.post.List()) != 0 {
			t.Error("it has calls")
		}
		h.empty()
	}
	if New() == New() {
		t.Error("two are one")
	}
}

// P14.1: the call is the last one, as long as there aren't 24; the one that isn't taken turns nothing, however often it is sent.
func TestSend(t *testing.T) {
	for _, ahead := range []int{0, 1, 11, 23, 24, 25, 100} {
		h := begin(t)
		for i := range ahead {
			h.send(call(1000 + i))
			h.next()
		}
		for i, c := range calls(24) {
			if !h.send(c) || h.post.Len() != i+1 || h.post.List()[i] != c {
				t.Fatalf("behind %d others, call %d: %+v", ahead, i, h.post.List())
			}
		}
		for i := range 30 {
			if h.send(call(100+i)) || h.post.Len() != 24 || !slices.Equal(h.post.List(), calls(24)) {
				t.Fatalf("behind %d others, one more than 24: %+v", ahead, h.post.List())
			}
		}
		h.empty()
	}
}

// P14.1: where one was taken out, there is room for one, and no more.
func TestSendBehindNext(t *testing.T) {
	for out := 1; out <= 24; out++ {
		h := with(t, 24, 0)
		for i := range out {
			if c, ok := h.next(); !ok || c != call(i) {
				t.Fatalf("call %d: %+v, %v", i, c, ok)
			}
		}
		for i := range out {
			if !h.send(call(24 + i)) {
				t.Fatalf("%d were taken out, and %d aren't taken", out, i+1)
			}
		}
		if h.send(call(99)) || !slices.Equal(h.post.List(), append(calls(24)[out:], calls(24 + out)[24:]...)) {
			t.Fatalf("%d were taken out: %+v", out, h.post.List())
		}
		h.empty()
	}
}

// P14.1: the first one is out, and in it no more; nothing comes of a post that never had any, nor of one that was emptied, which takes calls again.
func TestNext(t *testing.T) {
	for n := range 25 {
		h := with(t, n, n/2)
		for i := range n {
			if c, ok := h.next(); !ok || c != call(i) || h.post.Len() != n-i-1 || slices.Contains(h.post.List(), c) {
				t.Fatalf("call %d of %d: %+v, %v, left %+v", i, n, c, ok, h.post.List())
			}
		}
		h.empty()
		h.send(call(77))
		if c, ok := h.next(); !ok || c != call(77) {
			t.Fatalf("of one that was emptied: %+v, %v", c, ok)
		}
		h.empty()
	}
}

// P14.2: the first one is the last one; as often as there are calls, and they stand as they stood; none and one turn nothing.
func TestLate(t *testing.T) {
	for n := range 25 {
		for _, ahead := range []int{0, 5, 24} {
			h := with(t, n, ahead)
			for i := 1; i <= 2*n+1; i++ {
				if got := h.late(); got != (n >= 2) {
					t.Fatalf("of %d: %v", n, got)
				}
				want := calls(n)
				if n >= 2 {
					want = append(want[i%n:], want[:i%n]...)
				}
				if got := h.post.List(); !slices.Equal(got, want) {
					t.Fatalf("of %d, %d times: %+v, want %+v", n, i, got, want)
				}
				if i == n && n > 0 && !slices.Equal(h.post.List(), calls(n)) {
					t.Fatalf("of %d, so often: they don't stand as they stood", n)
				}
			}
			h.empty()
		}
	}
}

// P14.2: the first one is the first one and the last one; none, and a full post, turn nothing.
func TestTwice(t *testing.T) {
	for n := range 25 {
		for _, ahead := range []int{0, 7, 24} {
			h := with(t, n, ahead)
			for i := n; i <= 26; i++ {
				if got, want := h.twice(), n > 0 && i < 24; got != want {
					t.Fatalf("of %d: %v", i, got)
				}
			}
			want := calls(n)
			for n > 0 && len(want) < 24 {
				want = append(want, call(0))
			}
			if got := h.post.List(); !slices.Equal(got, want) {
				t.Fatalf("of %d: %+v", n, got)
			}
			h.empty()
		}
	}
}

// P14.2: one that is there twice is late once: the other one stands where it stood.
func TestTwiceAndLate(t *testing.T) {
	h := with(t, 3, 0)
	h.twice()
	h.late()
	if got := h.post.List(); !slices.Equal(got, []api.Call{call(1), call(2), call(0), call(0)}) {
		t.Errorf("%+v", got)
	}
	h.late()
	h.twice()
	if got := h.post.List(); !slices.Equal(got, []api.Call{call(2), call(0), call(0), call(1), call(2)}) {
		t.Errorf("%+v", got)
	}
	h.empty()
}

// P14.1, P14.2: one that is there twice by Twice and no other one is late, and stands as it stood.
func TestLateOfOneTwice(t *testing.T) {
	h := with(t, 1, 0)
	if h.late() || !h.twice() || !h.late() || !slices.Equal(h.post.List(), []api.Call{call(0), call(0)}) {
		t.Errorf("%+v", h.post.List())
	}
	h.empty()
}

// P14.1, P14.2: a nil post: nothing, false, none, 0.
func TestNil(t *testing.T) {
	var p *Post
	for _, c := range single() {
		if p.Send(c) {
			t.Errorf("it takes %+v", c)
		}
		if got, ok := p.Next(); ok || got != (api.Call{}) {
			t.Errorf("Next: %+v, %v", got, ok)
		}
		if p.Late() || p.Twice() || p.Len() != 0 || len(p.List()) != 0 {
			t.Error("it has calls")
		}
	}
}
