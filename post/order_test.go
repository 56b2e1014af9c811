package post

import (
	"math/rand"
	"runtime"
	"slices"
	"sync"
	"testing"

	"inspeximus/api"
)

// P14.1, P14.3: a call comes out whole as it was sent, each field of it by itself, and a zero one, too, with true.
func TestWhole(t *testing.T) {
	for i, c := range single() {
		h := begin(t)
		h.send(c)
		if got := h.post.List(); len(got) != 1 || got[0] != c {
			t.Errorf("%d: the list is %+v, want %+v", i, got, c)
		}
		h.twice()
		h.late()
		for range 2 {
			if got, ok := h.next(); !ok || got != c {
				t.Errorf("%d: %+v, %v, want %+v", i, got, ok, c)
			}
		}
		h.empty()
	}
}

// P14.1, P14.2, P14.3: two same calls, sent one behind the other, are both there.
func TestSameCalls(t *testing.T) {
	for _, c := range []api.Call{{}, call(1), call(2)} {
		h := begin(t)
		for n := 1; n <= 24; n++ {
			if !h.send(c) || h.post.Len() != n {
				t.Fatalf("%d of %+v: Len %d", n, c, h.post.Len())
			}
		}
		h.late()
		for n := range 24 {
			if got, ok := h.next(); !ok || got != c {
				t.Fatalf("%d of %+v: %+v, %v", n, c, got, ok)
			}
		}
		h.empty()
	}
}

// P14.3: what was sent comes out in its order, however Send and Next take turns, if nothing is late or twice.
func TestOrder(t *testing.T) {
	for seed := range int64(40) {
		random := rand.New(rand.NewSource(seed))
		p := New()
		var sent, came []api.Call
		for i := range 600 {
			if random.Intn(40) < 20+int(seed%5) {
				if c := call(i); p.Send(c) {
					sent = append(sent, c)
				}
			} else if c, ok := p.Next(); ok {
				came = append(came, c)
			}
		}
		for c, ok := p.Next(); ok; c, ok = p.Next() {
			came = append(came, c)
		}
		if len(sent) < 100 || !slices.Equal(came, sent) {
			t.Errorf("seed %d: %d were sent, %d came, or not in their order", seed, len(sent), len(came))
		}
	}
}

// P14.3: nothing comes that wasn't sent: what comes is as often there as it was sent, and once more for each Twice.
func TestNothingElseComes(t *testing.T) {
	for seed := range int64(40) {
		random := rand.New(rand.NewSource(seed))
		p := New()
		left := map[api.Call]int{}
		take := func() bool {
			c, ok := p.Next()
			if ok {
				left[c]--
			}
			if ok && left[c] < 0 {
				t.Fatalf("seed %d: %+v comes, and wasn't sent so often", seed, c)
			}
			return ok
		}
		for i := range 600 {
			switch random.Intn(5) {
			case 0, 1:
				if c := call(i % 50); p.Send(c) {
					left[c]++
				}
			case 2:
				take()
			case 3:
				p.Late()
			case 4:
				if list := p.List(); p.Twice() {
					left[list[0]]++
				}
			}
		}
		for take() {
		}
		for c, n := range left {
			if n != 0 {
				t.Errorf("seed %d: %d of %+v never came", seed, n, c)
			}
		}
	}
}

// drive does so many things by lot to a post that is held: the higher the lean, the fuller the post.
func drive(h *held, random *rand.Rand, times, lean int) {
	h.t.Helper()
	all := single()
	for range times {
		switch n := random.Intn(12); {
		case n < lean && random.Intn(4) > 0:
			h.send(call(random.Intn(1000)))
		case n < lean:
			h.send(all[random.Intn(len(all))])
		case n < 8:
			h.next()
		case n < 10:
			h.late()
		default:
			h.twice()
		}
	}
}

// P14.1, P14.2, P14.3: long rows of Send, Next, Late and Twice, held against a plain list all along, and till the post is empty.
func TestByLot(t *testing.T) {
	for seed := range int64(60) {
		random := rand.New(rand.NewSource(seed))
		h := begin(t)
		full, none := 0, 0
		for _, lean := range []int{4, 1, 7, 3, 1, 6, 2, 1, 5, 1} {
			for range 90 {
				drive(h, random, 1, lean)
				switch len(h.by.list) {
				case 0:
					none++
				case 24:
					full++
				}
			}
		}
		if full < 20 || none < 20 {
			t.Errorf("seed %d: full %d times, empty %d times: that is too few", seed, full, none)
		}
		h.empty()
	}
}

// doAll does things to a post by a number's digits, each below 5; the last one is none.
func doAll(h *held, n int) {
	h.t.Helper()
	for i := 0; n > 0; i++ {
		switch n % 5 {
		case 1:
			h.send(call(100 + i))
		case 2:
			h.next()
		case 3:
			h.late()
		case 4:
			h.twice()
		}
		n /= 5
	}
}

// P14.1, P14.2: every order of up to four things that are done, from each of some fillings.
func TestEveryOrder(t *testing.T) {
	for _, n := range []int{0, 1, 2, 3, 22, 23, 24} {
		for order := range 5 * 5 * 5 * 5 {
			h := with(t, n, 0)
			doAll(h, order)
		}
	}
}

// P14.2, rule 4: what List gives is the caller's own, its spare room as well.
func TestListIsTheCallers(t *testing.T) {
	for n := range 25 {
		h := with(t, n, 3)
		one, two := h.post.List(), h.post.List()
		whole := one[:cap(one)]
		for i := range whole {
			whole[i] = call(500 + i)
		}
		one = append(one, call(600))
		clear(one)
		h.check("behind writing into a list")
		if !slices.Equal(two, calls(n)) {
			t.Errorf("%d calls: the other list is %+v by now", n, two)
		}
		h.late()
		h.twice()
		h.empty()
		if !slices.Equal(two, calls(n)) {
			t.Errorf("%d calls: the other list is %+v, once the post is empty", n, two)
		}
	}
}

// P14.2: asking List or Len, however often, turns nothing.
func TestAskingTurnsNothing(t *testing.T) {
	for n := range 25 {
		h := with(t, n, 2)
		for i := range 60 {
			if i%2 == 0 {
				h.post.List()
			} else {
				h.post.Len()
			}
			if i%7 == 0 {
				h.check("behind asking")
			}
		}
		for i := range n {
			h.post.List()
			if c, ok := h.next(); !ok || c != call(i) {
				t.Fatalf("call %d of %d: %+v, %v", i, n, c, ok)
			}
		}
	}
}

// P14.1, rule 6: two posts beside each other: neither turns the other.
func TestTwoPosts(t *testing.T) {
	random := rand.New(rand.NewSource(5))
	a, b := begin(t), begin(t)
	for range 100 {
		drive(a, random, random.Intn(8), 4)
		b.check("behind what was done to the other one")
		drive(b, random, random.Intn(8), 5)
		a.check("behind what was done to the other one")
	}
	a.empty()
	b.check("behind the other one's being emptied")
	b.empty()
}

// Rule 6: posts that are driven at one time, each by one caller, stand as if each were alone.
func TestPostsAtOneTime(t *testing.T) {
	var all sync.WaitGroup
	got := make([][]api.Call, 8)
	for i := range got {
		all.Go(func() {
			p := New()
			for n := range 400 {
				p.Send(call(n))
				p.Late()
				if n%3 == i%3 {
					p.Next()
				}
				p.Twice()
			}
			got[i] = p.List()
		})
	}
	all.Wait()
	for i := range got {
		if len(got[i]) == 0 || !slices.Equal(got[i], got[i%3]) {
			t.Errorf("post %d: %+v, want %+v", i, got[i], got[i%3])
		}
	}
}

// P14.1, rule 1: no call waits, and nothing goes on behind it.
func TestNothingGoesOn(t *testing.T) {
	before := runtime.NumGoroutine()
	posts := make([]*Post, 500)
	for i := range posts {
		posts[i] = New()
		for n := range 30 {
			posts[i].Send(call(n))
		}
		posts[i].Late()
		posts[i].Twice()
		posts[i].List()
	}
	if now := runtime.NumGoroutine(); now > before {
		t.Errorf("%d go on, of %d ahead", now, before)
	}
	runtime.KeepAlive(posts)
}
