package book

import (
	"fmt"
	"math"
	"slices"
	"testing"

	"inspeximus/api"
	"inspeximus/rec"
	"inspeximus/saga"
)

// story is a journal of two sagas, told in turn, with Rotates: all of it goes with the limit 2.
func story() []api.Rec {
	return []api.Rec{
		rotate(2, 1),
		begin(0, steps(1, 1, 2, 2, 0, 3)),
		intent(0, 1, 0, 1),
		gone(1, steps(3, 1)),
		intent(1, 1, 0, 1),
		good(0, 2, 0, 1, 1, 0),
		lapse(1, 2, 0, 1),
		intent(0, 3, 1, 1),
		rotate(2, 2),
		refuses(0, 4, 1, 1, 2, 2),
		back(intent(0, 5, 0, 1)),
		intent(1, 3, 0, 2),
		lapse(1, 4, 0, 2),
		back(good(0, 6, 0, 1, 1, 0)),
		closed(0, 7, api.Compensated),
		back(intent(1, 5, 0, 1)),
		back(lapse(1, 6, 0, 1)),
		back(intent(1, 7, 0, 2)),
		back(refuses(1, 8, 0, 2, 3, 0)),
		closed(1, 9, api.Stuck),
	}
}

// full is MaxSagas sagas that begin, of these plans.
func full() []api.Rec {
	var out []api.Rec
	for n, l := range plans() {
		out = append(out, begin(n, l))
	}
	return out
}

// someBooks are books that came about with the limit 2: empty, of one saga, of two in each state of the story, of MaxSagas.
func someBooks(t *testing.T) []api.Book {
	t.Helper()
	out := []api.Book{{}, behind(t, api.Book{}, 2, rotate(0, 1), rotate(1, 1), rotate(1, 2), rotate(3, 1))}
	var b api.Book
	for _, x := range story() {
		b = behind(t, b, 2, x)
		out = append(out, b)
	}
	twelve := behind(t, api.Book{}, 2, append(full(), rotate(1, 1), rotate(2, 1))...)
	out = append(out, twelve)
	for n := range twelve.Sagas {
		twelve = behind(t, twelve, 2, coming(twelve, n, 2)[0])
	}
	out = append(out, twelve)
	for n := range twelve.Sagas {
		if n%3 > 0 {
			twelve = behind(t, twelve, 2, coming(twelve, n, 2)[n%3])
		}
	}
	return append(out, twelve)
}

// goers are all records that go into a book next: the Begin of each plan, each Rotate, each saga's.
func goers(b api.Book, limit int) []api.Rec {
	var out []api.Rec
	if n := len(b.Sagas); n < 12 {
		for _, l := range plans() {
			out = append(out, begin(n, l), gone(n, l))
		}
	}
	for part, epoch := range b.Epochs {
		if epoch < 400 {
			out = append(out, rotate(part, epoch+1))
		}
	}
	for n := range b.Sagas {
		out = append(out, coming(b, n, limit)...)
	}
	return out
}

// limits are those about the ends of what a limit may be, and great ones, and those that come into it if they are cut.
func limits() []int {
	return []int{0, 1, 2, 3, 5, 8, 9, 10, 11, -1, -2, -9, 1 << 8, 1<<8 + 1, 1<<16 + 2, 1<<32 + 1, 1<<32 + 9, math.MaxInt, math.MinInt, math.MinInt + 1}
}

// kinds are those from one below the least to one above the greatest, and great ones.
func kinds() []int {
	return []int{-1, 0, 1, 2, 3, 4, 5, 6, 7, 8, -6, 1 << 8, 1<<8 + 1, 1<<8 + 6, 1<<32 + 2, 1<<32 + 6, math.MaxInt, math.MinInt, math.MinInt + 1}
}

// P12.1: the chapter's example.
func TestExample(t *testing.T) {
	b, ok := Go(api.Book{}, rotate(1, 1), 1)
	if !ok || b.Epochs != [4]int{0, 1, 0, 0} || len(b.Sagas) != 0 {
		t.Errorf("%+v, %v", b, ok)
	}
	if c, ok := Go(b, rotate(1, 1), 1); ok || !isSame(b, c) {
		t.Errorf("again: %+v, %v", c, ok)
	}
}

// P12.1: the story, by heart: the epochs and both sagas behind each record.
func TestStoryByHeart(t *testing.T) {
	one, two := steps(1, 1, 2, 2, 0, 3), steps(3, 1)
	a := func(s api.Saga) api.Saga { s.Steps = one; return s }
	b := func(s api.Saga) api.Saga { s.Steps = two; return s }
	first, second := [4]int{0, 0, 1, 0}, [4]int{0, 0, 2, 0}
	done := a(api.Saga{Phase: 1, At: 1, Done: 1, Seq: 5})
	undoing := a(api.Saga{Phase: 1, At: 1, Tries: 1, Wait: true, Back: true, Done: 1, Seq: 6})
	over := a(api.Saga{Phase: 3, At: 1, Done: 1, Undone: 1, Seq: 8})
	want := []api.Book{
		{Epochs: first},
		{Epochs: first, Sagas: []api.Saga{a(api.Saga{Seq: 1})}},
		{Epochs: first, Sagas: []api.Saga{a(api.Saga{Tries: 1, Wait: true, Seq: 2})}},
		{Epochs: first, Sagas: []api.Saga{a(api.Saga{Tries: 1, Wait: true, Seq: 2}), b(api.Saga{Seq: 1})}},
		{Epochs: first, Sagas: []api.Saga{a(api.Saga{Tries: 1, Wait: true, Seq: 2}), b(api.Saga{Tries: 1, Wait: true, Seq: 2})}},
		{Epochs: first, Sagas: []api.Saga{a(api.Saga{At: 1, Done: 1, Seq: 3}), b(api.Saga{Tries: 1, Wait: true, Seq: 2})}},
		{Epochs: first, Sagas: []api.Saga{a(api.Saga{At: 1, Done: 1, Seq: 3}), b(api.Saga{Tries: 1, Some: 1, Seq: 3})}},
		{Epochs: first, Sagas: []api.Saga{a(api.Saga{At: 1, Tries: 1, Wait: true, Done: 1, Seq: 4}), b(api.Saga{Tries: 1, Some: 1, Seq: 3})}},
		{Epochs: second, Sagas: []api.Saga{a(api.Saga{At: 1, Tries: 1, Wait: true, Done: 1, Seq: 4}), b(api.Saga{Tries: 1, Some: 1, Seq: 3})}},
		{Epochs: second, Sagas: []api.Saga{done, b(api.Saga{Tries: 1, Some: 1, Seq: 3})}},
		{Epochs: second, Sagas: []api.Saga{undoing, b(api.Saga{Tries: 1, Some: 1, Seq: 3})}},
		{Epochs: second, Sagas: []api.Saga{undoing, b(api.Saga{Tries: 2, Wait: true, Some: 1, Seq: 4})}},
		{Epochs: second, Sagas: []api.Saga{undoing, b(api.Saga{Phase: 1, Some: 1, Seq: 5})}},
		{Epochs: second, Sagas: []api.Saga{a(api.Saga{Phase: 1, At: 1, Done: 1, Undone: 1, Seq: 7}), b(api.Saga{Phase: 1, Some: 1, Seq: 5})}},
		{Epochs: second, Sagas: []api.Saga{over, b(api.Saga{Phase: 1, Some: 1, Seq: 5})}},
		{Epochs: second, Sagas: []api.Saga{over, b(api.Saga{Phase: 1, Tries: 1, Wait: true, Back: true, Some: 1, Seq: 6})}},
		{Epochs: second, Sagas: []api.Saga{over, b(api.Saga{Phase: 1, Tries: 1, Some: 1, Seq: 7})}},
		{Epochs: second, Sagas: []api.Saga{over, b(api.Saga{Phase: 1, Tries: 2, Wait: true, Back: true, Some: 1, Seq: 8})}},
		{Epochs: second, Sagas: []api.Saga{over, b(api.Saga{Phase: 1, Tries: 2, Some: 1, Seq: 9})}},
		{Epochs: second, Sagas: []api.Saga{over, b(api.Saga{Phase: 4, Tries: 2, Some: 1, Seq: 10})}},
	}
	var got api.Book
	for i, x := range story() {
		if got = behind(t, got, 2, x); !isSame(got, want[i]) {
			t.Fatalf("behind record %d: %+v, want %+v", i, got, want[i])
		}
	}
	if l := Report(got); !slices.Equal(l, []api.Line{{Phase: api.Compensated}, {Phase: api.Stuck}}) || Clean(l) || !Clean(l[:1]) {
		t.Errorf("%+v", l)
	}
}

// P12.1: what doesn't go, by heart: the book is as it is.
func TestGoesNot(t *testing.T) {
	l := story()
	empty := api.Book{}
	out := behind(t, empty, 2, l[:9]...)      // both sagas are forward, a call of saga 0 is out, participant 2 has the epoch 2
	undoing := behind(t, empty, 2, l[:11]...) // a compensation of saga 0 is out
	over := behind(t, empty, 2, l...)
	twelve := behind(t, empty, 2, full()...)
	for i, x := range []struct {
		b api.Book
		x api.Rec
	}{
		{empty, api.Rec{}}, {empty, api.Rec{Kind: 7}}, {empty, begin(1, steps(0, 1))}, {empty, begin(-1, steps(0, 1))}, {empty, begin(0, nil)}, {empty, begin(0, steps(0, 2, 0, 1))},
		{empty, gone(0, steps(0, 2, 0, 2))}, {empty, begin(0, steps(4, 1))}, {empty, begin(0, steps(0, 4))}, {empty, begin(0, steps(0, 1, 0, 1, 0, 1, 0, 1, 0, 1, 0, 1, 0, 1))},
		{empty, intent(0, 1, 0, 1)}, {empty, good(0, 2, 0, 1, 0, 0)}, {empty, lapse(0, 2, 0, 1)}, {empty, closed(0, 1, 2)}, {empty, rotate(0, 0)}, {empty, rotate(0, 2)}, {empty, rotate(4, 1)}, {empty, rotate(-1, 1)},
		{out, begin(1, steps(0, 1))}, {out, begin(0, steps(0, 1))}, {out, begin(3, steps(0, 1))}, {out, begin(2, steps(0, 3, 0, 2))}, {out, rotate(2, 2)}, {out, rotate(2, 4)}, {out, rotate(2, 1)}, {out, rotate(1, 2)},
		{out, good(0, 4, 1, 1, 2, 1)}, {out, good(0, 4, 1, 1, 2, 3)}, {out, good(0, 4, 1, 1, 2, 0)}, {out, good(0, 4, 1, 1, 1, 0)}, {out, good(0, 4, 1, 1, 1, 2)}, {out, good(0, 4, 1, 1, 0, 0)}, {out, good(0, 4, 1, 1, 3, 0)},
		{out, good(0, 4, 0, 1, 1, 0)}, {out, good(0, 4, 2, 1, 0, 0)}, {out, good(0, 4, 5, 1, 0, 0)}, {out, good(0, 3, 1, 1, 2, 2)}, {out, good(0, 5, 1, 1, 2, 2)}, {out, good(0, 4, 1, 2, 2, 2)}, {out, back(good(0, 4, 1, 1, 2, 2))},
		{out, good(1, 4, 1, 1, 2, 2)}, {out, good(1, 3, 0, 1, 3, 0)}, {out, good(2, 4, 1, 1, 2, 2)}, {out, refuses(0, 4, 1, 1, 2, 1)}, {out, refuses(0, 4, 1, 1, 3, 2)},
		{out, lapse(0, 3, 1, 1)}, {out, lapse(0, 4, 0, 1)}, {out, lapse(0, 4, 1, 2)}, {out, back(lapse(0, 4, 1, 1))}, {out, lapse(2, 4, 1, 1)}, {out, lapse(11, 4, 1, 1)},
		{out, intent(0, 4, 1, 2)}, {out, intent(1, 3, 0, 1)}, {out, intent(1, 4, 0, 2)}, {out, intent(1, 2, 0, 2)}, {out, back(intent(1, 3, 0, 2))}, {out, intent(1, 3, 1, 2)}, {out, intent(2, 3, 0, 2)}, {out, closed(1, 3, 4)}, {out, closed(0, 4, 4)},
		{undoing, back(good(0, 6, 0, 1, 2, 2))}, {undoing, back(good(0, 6, 0, 1, 1, 1))}, {undoing, back(good(0, 6, 0, 1, 0, 0))}, {undoing, good(0, 6, 0, 1, 1, 0)}, {undoing, back(good(0, 6, 1, 1, 2, 2))}, {undoing, back(refuses(0, 6, 0, 1, 1, 2))},
		{over, closed(0, 8, 3)}, {over, closed(1, 10, 4)}, {over, intent(0, 8, 0, 1)}, {over, back(intent(1, 10, 0, 1))}, {over, begin(0, steps(0, 1))},
		{twelve, begin(12, steps(0, 1))}, {twelve, begin(11, steps(0, 1))}, {twelve, begin(13, steps(0, 1))}, {twelve, begin(0, steps(0, 1))}, {twelve, gone(12, steps(0, 1))},
	} {
		b, ok := Go(x.b, x.x, 2)
		if ok || !isSame(b, x.b) {
			t.Errorf("%d, %+v: %+v, %v", i, x.x, b, ok)
		}
		hold(t, x.b, x.x, 2)
	}
}

// P12.1: records of each Kind, and of none, with what records of the kinds have, at each book.
func TestGoOfEachKind(t *testing.T) {
	for _, b := range someBooks(t) {
		for _, kind := range kinds() {
			goes := 0
			for _, x := range append(goers(b, 2), api.Rec{}) {
				was := x.Kind
				x.Kind = kind
				if hold(t, b, x, 2) {
					goes++
				} else if was == kind && kind != 0 {
					t.Errorf("%+v doesn't go", x)
				}
			}
			if goes > 0 && (kind < 1 || kind > 6) {
				t.Errorf("%d of kind %d go", goes, kind)
			}
			hold(t, b, api.Rec{Kind: kind, Saga: len(b.Sagas), Seq: 1, Try: 1, Epoch: 1, Steps: steps(0, 1)}, 2)
		}
	}
}

// fields are a record's numbers.
func fields(x *api.Rec) []*int {
	return []*int{&x.Kind, &x.Saga, &x.Seq, &x.Step, &x.Try, &x.End, &x.Part, &x.Epoch}
}

// wrongs are a record with one thing turned in each.
func wrongs(x api.Rec) []api.Rec {
	var out []api.Rec
	for i := range fields(&x) {
		for _, by := range []int{1, -1, 2, -2, 11, 1 << 8, 1 << 32, math.MinInt, -*fields(&x)[i]} {
			y := x
			*fields(&y)[i] += by
			out = append(out, y)
		}
	}
	for _, turn := range []func(x *api.Rec){
		func(x *api.Rec) { x.Back = !x.Back }, func(x *api.Rec) { x.Good = !x.Good }, func(x *api.Rec) { x.Gone = !x.Gone },
		func(x *api.Rec) { x.Tag = api.Hash{31: 1} }, func(x *api.Rec) { x.Com = api.Hash{31: 1} }, func(x *api.Rec) { x.Salt = api.Hash{31: 1} },
		func(x *api.Rec) { x.Data = []byte("d") }, func(x *api.Rec) { x.Data = make([]byte, 60) }, func(x *api.Rec) { x.Data = make([]byte, 61) },
		func(x *api.Rec) { x.Steps = steps(0, 1) }, func(x *api.Rec) { x.Steps = nil }, func(x *api.Rec) { x.Steps = steps(0, 2, 0, 1) }, func(x *api.Rec) { x.Steps = steps(4, 1) },
	} {
		y := x
		turn(&y)
		out = append(out, y)
	}
	return out
}

// P12.1: each record that goes, with each thing turned by itself, at each book.
func TestGoOfWrongs(t *testing.T) {
	goes, not := 0, 0
	for _, b := range someBooks(t) {
		for _, x := range goers(b, 2) {
			if !hold(t, b, x, 2) {
				t.Errorf("%+v doesn't go into %+v", x, b)
			}
			for _, y := range wrongs(x) {
				if hold(t, b, y, 2) {
					goes++
				} else {
					not++
				}
			}
		}
	}
	if goes < 500 || not < 10000 {
		t.Errorf("%d that go and %d that don't are too few", goes, not)
	}
}

// P12.1: records that would go, but aren't right by layer 4: they have what their kind hasn't, or what it has is out of its range.
func TestGoOfRecordsThatAreNotRight(t *testing.T) {
	list := story()
	var b api.Book
	counts := map[int]int{}
	for _, x := range list {
		for _, y := range wrongs(x) {
			if rec.Right(y) {
				continue
			}
			if c, ok := Go(b, y, 2); ok || !isSame(b, c) {
				t.Errorf("%+v: %v", y, ok)
			}
			counts[x.Kind]++
		}
		b = behind(t, b, 2, x)
	}
	for kind := 1; kind <= 6; kind++ {
		if counts[kind] < 50 {
			t.Errorf("%d that aren't right, of kind %d", counts[kind], kind)
		}
	}
	at := behind(t, api.Book{}, 2, list[:9]...)
	for i, turn := range []func(x *api.Rec){
		func(x *api.Rec) { x.End = 2 }, func(x *api.Rec) { x.Gone = true }, func(x *api.Rec) { x.Com = api.Hash{1} }, func(x *api.Rec) { x.Salt = api.Hash{1} },
		func(x *api.Rec) { x.Data = []byte{0} }, func(x *api.Rec) { x.Steps = steps(1, 1) },
	} {
		x := list[9]
		turn(&x)
		if c, ok := Go(at, x, 2); ok || !isSame(at, c) {
			t.Errorf("%d: a Receipt that isn't right", i)
		}
	}
}

// P12.1: Begins of each number at books of each number of sagas, with a payload and redacted; of a payload of none to one byte too many.
func TestGoOfBegins(t *testing.T) {
	var b api.Book
	for n := range 13 {
		for _, number := range []int{n - 2, n - 1, n, n + 1, n + 2, -1, 0, 11, 12, 13, 1<<8 + n, 1<<32 + n, math.MaxInt, math.MinInt, math.MinInt + n} {
			for _, x := range []api.Rec{begin(number, steps(1, 1)), gone(number, steps(1, 1)), rec.Redact(begin(number, steps(1, 1)))} {
				want := number == n && n < 12
				if hold(t, b, x, 1) != want {
					t.Errorf("of %d sagas, saga %d goes is %v", n, number, !want)
				}
			}
		}
		for size := range 70 {
			x := begin(n, steps(1, 1))
			x.Data = make([]byte, size)
			if want := size <= 60 && n < 12; hold(t, b, x, 1) != want {
				t.Errorf("of %d sagas, %d bytes go is %v", n, size, !want)
			}
		}
		if n < 12 {
			b = behind(t, b, 1, begin(n, plans()[n]))
			if len(b.Sagas) != n+1 || !saga.Same(b.Sagas[n], api.Saga{Steps: plans()[n], Seq: 1}) || b.Epochs != [4]int{} {
				t.Fatalf("%+v", b)
			}
		}
	}
}

// everySteps is every list of steps of these kinds, of each number up to a most.
func everySteps(most int) [][]api.Step {
	lists := [][]api.Step{nil}
	for at := 0; len(lists[at]) < most; at++ {
		for kind := range 5 {
			lists = append(lists, append(slices.Clone(lists[at]), api.Step{Part: len(lists) % 4, Kind: kind}))
		}
	}
	return lists
}

// P12.1: Begins of steps that may be and may not be: of each order, of parts and numbers about the ends.
func TestGoOfBeginsSteps(t *testing.T) {
	one := behind(t, api.Book{}, 1, begin(0, steps(1, 1)))
	lists := everySteps(4)
	for _, part := range []int{-1, 0, 3, 4, 1 << 8, math.MinInt} {
		lists = append(lists, steps(part, 1), steps(0, 1, part, 3))
	}
	for count := range 9 {
		lists = append(lists, slices.Repeat(steps(2, 1), count), slices.Repeat(steps(2, 3), count), slices.Concat(slices.Repeat(steps(2, 1), count), steps(1, 2, 0, 3)))
	}
	goes := 0
	for _, l := range lists {
		for n, b := range []api.Book{{}, one} {
			want := saga.May(l)
			if hold(t, b, begin(n, l), 1) != want || hold(t, b, gone(n, l), 1) != want {
				t.Errorf("%v goes is %v", l, !want)
			}
			if want {
				goes++
			}
		}
	}
	if goes < 40 {
		t.Errorf("%d that go are too few", goes)
	}
}

// P12.1: sagas' records of sagas that are there and of others, at books of each number of sagas.
func TestGoOfSagasThatAreNotThere(t *testing.T) {
	var b api.Book
	for n := range 13 {
		for of := -1; of <= 13; of++ {
			if x := intent(of, 1, 0, 1); hold(t, b, x, 1) != (of >= 0 && of < n) {
				t.Errorf("of %d sagas: %+v", n, x)
			}
			for _, x := range []api.Rec{good(of, 2, 0, 1, 1, 0), lapse(of, 2, 0, 1), closed(of, 1, 2), closed(of, 1, 3), closed(of, 1, 4), good(of, 1, 0, 1, 1, 0)} {
				if hold(t, b, x, 1) {
					t.Errorf("of %d sagas, it goes: %+v", n, x)
				}
			}
		}
		if n < 12 {
			b = behind(t, b, 1, begin(n, steps(1, 1)))
		}
	}
	// With each saga's call out, just the sagas that are there are answered.
	for n := range 12 {
		b = behind(t, b, 1, intent(n, 1, 0, 1))
	}
	for of := -1; of <= 13; of++ {
		for _, x := range []api.Rec{good(of, 2, 0, 1, 1, 0), refuses(of, 2, 0, 1, 1, 0), lapse(of, 2, 0, 1)} {
			if hold(t, b, x, 1) != (of >= 0 && of < 12) {
				t.Errorf("%+v", x)
			}
		}
	}
}

// P12.1: Receipts of each Part and of Epochs about the participant's, forward and of a compensation, Good and not; the participants' epochs differ.
func TestGoOfReceipts(t *testing.T) {
	rotates := []api.Rec{rotate(0, 1), rotate(1, 1), rotate(1, 2), rotate(1, 3), rotate(3, 1), rotate(3, 2), rotate(3, 3), rotate(3, 4), rotate(3, 5)}
	epochs := [4]int{1, 3, 0, 5}
	for first := range 4 {
		other := (first + 1) % 4
		l := steps(first, 1, other, 1, first, 3)
		forward := behind(t, api.Book{}, 3, slices.Concat(rotates, []api.Rec{begin(0, l), intent(0, 1, 0, 1)})...)
		second := behind(t, forward, 3, good(0, 2, 0, 1, first, epochs[first]), intent(0, 3, 1, 1))
		undoing := behind(t, second, 3, refuses(0, 4, 1, 1, other, epochs[other]), back(intent(0, 5, 0, 1)))
		for _, at := range []struct {
			b    api.Book
			x    api.Rec
			part int
		}{{forward, good(0, 2, 0, 1, 0, 0), first}, {second, good(0, 4, 1, 1, 0, 0), other}, {undoing, back(good(0, 6, 0, 1, 0, 0)), first}} {
			for part := -1; part <= 4; part++ {
				for epoch := -1; epoch <= 7; epoch++ {
					for _, isGood := range []bool{true, false} {
						x := at.x
						x.Part, x.Epoch, x.Good = part, epoch, isGood
						want := part == at.part && epoch == epochs[at.part]
						if hold(t, at.b, x, 3) != want {
							t.Errorf("%v, %+v goes is %v", l, x, !want)
						}
					}
				}
			}
		}
	}
}

// P12.1: a call that is out while its participant's key is rotated is answered by the new epoch, not by the old one.
func TestRotatedWhileOut(t *testing.T) {
	for part := range 4 {
		b := behind(t, api.Book{}, 1, begin(0, steps(part, 2)), intent(0, 1, 0, 1))
		for epoch := range 400 {
			if epoch > 0 {
				b = behind(t, b, 1, rotate(part, epoch))
			}
			for _, by := range []int{-1, 0, 1} {
				if hold(t, b, good(0, 2, 0, 1, part, epoch+by), 1) != (by == 0) {
					t.Errorf("participant %d of the epoch %d, answered by %d", part, epoch, epoch+by)
				}
			}
		}
	}
}

// P12.1: Rotates of each Part, of its Epoch one less, the same, one more, two more, from 0 to the greatest; the others' epochs stay.
func TestGoOfRotates(t *testing.T) {
	for part := range 4 {
		b := behind(t, api.Book{}, 1, begin(0, steps(part, 2)), rotate((part+1)%4, 1), rotate((part+2)%4, 1), rotate((part+2)%4, 2))
		for epoch := range 401 {
			for _, by := range []int{-1, 0, 1, 2, 3, 1 << 8, 1<<8 + 1, 1<<32 + 1, math.MinInt + 1} {
				want := by == 1 && epoch < 400
				if hold(t, b, rotate(part, epoch+by), 1) != want {
					t.Errorf("participant %d, epoch %d, Rotate of %d goes is %v", part, epoch, epoch+by, !want)
				}
			}
			if epoch < 400 {
				b = behind(t, b, 1, rotate(part, epoch+1))
			}
		}
		want := [4]int{}
		want[part], want[(part+1)%4], want[(part+2)%4] = 400, 1, 2
		if b.Epochs != want || len(b.Sagas) != 1 || b.Sagas[0].Seq != 1 {
			t.Errorf("%+v", b)
		}
		for _, no := range []int{-1, 4, 5, 1 << 8, 1<<32 + part, math.MaxInt, math.MinInt, math.MinInt + part} {
			if hold(t, b, rotate(no, 1), 1) || hold(t, api.Book{}, rotate(no, 1), 1) {
				t.Errorf("participant %d", no)
			}
		}
	}
}

// P12.1: with a limit that is none nothing goes, not even a Begin or a Rotate; with one that is the records go as layer 11 says.
func TestGoOfEachLimit(t *testing.T) {
	for _, b := range someBooks(t) {
		for _, limit := range limits() {
			for _, x := range goers(b, 2) {
				isLimit := limit >= 1 && limit <= 9
				goes := hold(t, b, x, limit)
				if goes && !isLimit {
					t.Errorf("limit %d: %+v goes", limit, x)
				}
				if !goes && isLimit && (x.Kind == api.Begin || x.Kind == api.Rotate || x.Kind == api.Receipt) {
					t.Errorf("limit %d: %+v doesn't go", limit, x)
				}
			}
		}
	}
}

// P12.1: how often a call is tried hangs on the limit.
func TestLimitOfTries(t *testing.T) {
	for limit := 1; limit <= 9; limit++ {
		b := behind(t, api.Book{}, limit, begin(0, steps(0, 3)))
		for try := 1; try <= limit; try++ {
			b = behind(t, b, limit, intent(0, 2*try-1, 0, try), lapse(0, 2*try, 0, try))
		}
		seq := 2*limit + 1
		if hold(t, b, intent(0, seq, 0, limit+1), limit) || !hold(t, b, closed(0, seq, api.Stuck), limit) {
			t.Errorf("limit %d", limit)
		}
		if limit < 9 && (!hold(t, b, intent(0, seq, 0, limit+1), limit+1) || hold(t, b, closed(0, seq, api.Stuck), limit+1)) {
			t.Errorf("limit %d, and one more", limit)
		}
	}
}

// holdOf holds Of of records against the words: how many go, and the book behind those.
func holdOf(t *testing.T, l []api.Rec, limit int) int {
	t.Helper()
	var want api.Book
	n := 0
	for n < len(l) {
		next, ok := wordsGo(want, l[n], limit)
		if !ok {
			break
		}
		want, n = next, n+1
	}
	if got, count := Of(l, limit); count != n || !isSame(got, want) {
		t.Errorf("limit %d: %d go, want %d: %+v, want %+v", limit, count, n, got, want)
	}
	return n
}

// P12.1: Of of records that all go, of each beginning of them, and of none.
func TestOfRecordsThatGo(t *testing.T) {
	l := story()
	for n := range len(l) + 1 {
		if holdOf(t, l[:n], 2) != n {
			t.Errorf("of %d not all go", n)
		}
	}
	for i, none := range [][]api.Rec{nil, {}, l[:0]} {
		if b, n := Of(none, 2); n != 0 || !isSame(b, api.Book{}) || len(b.Sagas) != 0 {
			t.Errorf("none, %d: %+v, %d", i, b, n)
		}
	}
	all := journals(5, 80)
	for _, key := range keysOf(all) {
		if holdOf(t, all[key], limitOf(key)) != len(all[key]) {
			t.Errorf("%d: not all go", key)
		}
	}
}

// P12.1: Of of records of which one doesn't go, at each place: those behind it don't count, though they might go.
func TestOfStops(t *testing.T) {
	l := story()
	for at := range len(l) + 1 {
		for _, bad := range []api.Rec{{}, {Kind: 7}, rotate(2, 3), rotate(0, 2), begin(5, steps(0, 1)), intent(3, 1, 0, 1), closed(0, 1, 2), l[max(0, at-1)]} {
			if at == 0 && rec.Same(bad, l[0]) {
				continue
			}
			wrong := slices.Concat(l[:at], []api.Rec{bad}, l[at:])
			if _, ok := wordsGo(behind(t, api.Book{}, 2, l[:at]...), bad, 2); ok {
				continue
			}
			if n := holdOf(t, wrong, 2); n != at {
				t.Errorf("%d go, want %d", n, at)
			}
		}
	}
	if n := holdOf(t, []api.Rec{rotate(0, 1), {}, rotate(0, 2)}, 1); n != 1 {
		t.Errorf("%d go", n)
	}
	for at := range l {
		holdOf(t, slices.Delete(slices.Clone(l), at, at+1), 2)
	}
}

// P12.1: Of with each limit: with one that is none no record goes.
func TestOfEachLimit(t *testing.T) {
	for _, limit := range limits() {
		n := holdOf(t, story(), limit)
		if (limit < 1 || limit > 9) != (n == 0) || (limit == 2) != (n == len(story())) {
			t.Errorf("limit %d: %d go", limit, n)
		}
	}
}

// P12.1: records by lot, each of those that go, those with a thing turned, and those of a while ago, held against the words.
func TestGoByLot(t *testing.T) {
	all := journals(6, 40)
	for _, key := range keysOf(all) {
		var b api.Book
		l := all[key][:min(80, len(all[key]))]
		for i, x := range l {
			list := wrongs(x)
			hold(t, b, list[(i*7+key)%len(list)], limitOf(key))
			hold(t, b, list[(i*31+key)%len(list)], limitOf(key))
			hold(t, b, l[(i*13+key)%len(l)], limitOf(key))
			if !hold(t, b, x, limitOf(key)) {
				t.Fatalf("%+v doesn't go", x)
			}
			b, _ = wordsGo(b, x, limitOf(key))
		}
		if t.Failed() {
			return
		}
	}
}

// ownSaga is a saga as its own records make it, by layer 11 alone.
func ownSaga(t *testing.T, l []api.Rec, limit int) api.Saga {
	t.Helper()
	s := saga.New(l[0].Steps)
	for _, x := range l[1:] {
		next, ok := saga.Go(s, x, limit)
		if !ok {
			t.Fatalf("%+v doesn't go: %+v", x, s)
		}
		s = next
	}
	return s
}

// P12.3: each saga of a book, between whose records others' stand, is as its own records make it.
func TestSagasByTheirOwnRecords(t *testing.T) {
	all := journals(7, 120)
	sagas := 0
	for _, key := range keysOf(all) {
		l, limit := all[key], limitOf(key)
		b, n := Of(l, limit)
		if n != len(l) {
			t.Fatalf("%d of %d go", n, len(l))
		}
		for i, s := range b.Sagas {
			if own := ownSaga(t, Only(l, i), limit); !saga.Same(s, own) {
				t.Errorf("saga %d: %+v, by its own records %+v", i, s, own)
			}
			sagas++
		}
	}
	b, _ := Of(story(), 2)
	for i, s := range b.Sagas {
		if !saga.Same(s, ownSaga(t, Only(story(), i), 2)) {
			t.Errorf("the story's saga %d", i)
		}
	}
	if sagas < 300 {
		t.Errorf("%d sagas are too few", sagas)
	}
}

// P12.3: a saga's records moved past others' make the same book.
func TestSagasInAnotherOrder(t *testing.T) {
	all := journals(8, 60)
	moved := 0
	for _, key := range keysOf(all) {
		l, limit := all[key], limitOf(key)
		b, _ := Of(l, limit)
		// A receipt's epoch is told by the Rotates ahead of it.
		if b.Epochs != [4]int{} {
			continue
		}
		moved++
		var other []api.Rec
		for i := range b.Sagas {
			other = append(other, Only(l, i)...)
		}
		if c, n := Of(other, limit); n != len(l) || !Same(b, c) {
			t.Errorf("%d: %+v, %+v", key, b, c)
		}
	}
	if moved < 15 {
		t.Errorf("%d journals are too few", moved)
	}
}

// P12.3: records that are redacted, all of them or some, go as those that aren't, into the same book; so do those that don't go.
func TestRedactedGoAlike(t *testing.T) {
	all := journals(9, 60)
	for _, key := range keysOf(all) {
		l, limit := all[key], limitOf(key)
		b, _ := Of(l, limit)
		for some := range 3 {
			x := slices.Clone(l)
			for i := range x {
				if some == 0 || i%3 == some {
					x[i] = rec.Redact(x[i])
				}
			}
			if c, n := Of(x, limit); n != len(l) || !Same(b, c) || !isSame(b, c) {
				t.Errorf("%d: %d of %d go redacted", key, n, len(l))
			}
		}
	}
	for _, b := range someBooks(t) {
		for _, x := range slices.Concat(goers(b, 2), story(), full(), []api.Rec{begin(12, steps(0, 1)), begin(0, steps(0, 2, 0, 1))}) {
			got, ok := Go(b, x, 2)
			like, okLike := Go(b, rec.Redact(x), 2)
			if ok != okLike || !isSame(got, like) {
				t.Errorf("%+v: %v, redacted %v", x, ok, okLike)
			}
		}
	}
}

// P12.3: where a report is clean no saga has anything missing.
func TestCleanHasNothingMissing(t *testing.T) {
	clean := 0
	all := journals(10, 160)
	for _, key := range keysOf(all) {
		var b api.Book
		for _, x := range all[key] {
			b, _ = Go(b, x, limitOf(key))
			l := Report(b)
			if !Clean(l) {
				continue
			}
			for i, line := range l {
				if line.Missing != 0 || saga.Missing(b.Sagas[i]) != 0 {
					t.Errorf("saga %d: %+v", i, line)
				}
			}
			if len(l) > 0 {
				clean++
			}
		}
	}
	if clean < 30 {
		t.Errorf("%d clean reports are too few", clean)
	}
}

// Rule 4: the book that is handed in to Go, and the room behind its sagas, stand as they did, also where several records go from one book; and answers share nothing.
func TestGoKeepsNothing(t *testing.T) {
	for i, b := range someBooks(t) {
		b = ownBook(b)
		b.Sagas = append(make([]api.Saga, 0, len(b.Sagas)+4), b.Sagas...)
		room := b.Sagas[:cap(b.Sagas)]
		was := fmt.Sprint(b, room)
		var answers []api.Book
		var texts []string
		for _, x := range append(goers(b, 2), api.Rec{}, rotate(0, 9), begin(13, steps(0, 1)), intent(0, 9, 0, 1)) {
			list := roomy([]api.Rec{x})
			wasRec := printed(list)
			got, _ := Go(b, list[0], 2)
			if fmt.Sprint(b, room) != was || printed(list) != wasRec {
				t.Fatalf("%d, %+v: what was handed in was changed", i, x)
			}
			answers, texts = append(answers, got), append(texts, fmt.Sprint(got))
			spoilRecs(list)
		}
		for j, got := range answers {
			if fmt.Sprint(got) != texts[j] {
				t.Fatalf("%d, %d: a record was kept, or two answers share memory", i, j)
			}
			spoilBook(got)
			if fmt.Sprint(b, room) != was {
				t.Fatalf("%d, %d: an answer shares memory with what was handed in", i, j)
			}
		}
	}
}

// Rule 4: an answer of Go stands as it did, whatever is done to the book that was handed in.
func TestGoKeepsNoBook(t *testing.T) {
	for i, b := range someBooks(t) {
		for _, x := range append(goers(b, 2), api.Rec{}) {
			in := b
			in.Sagas = append(make([]api.Saga, 0, len(b.Sagas)+4), b.Sagas...)
			got, _ := Go(in, x, 2)
			want := fmt.Sprint(got)
			spoilBook(in)
			if fmt.Sprint(got) != want {
				t.Errorf("%d, %+v: the book was kept", i, x)
			}
		}
	}
}

// Rule 4: two journals that go on from one book don't touch each other.
func TestTwoFromOneBook(t *testing.T) {
	b := behind(t, api.Book{}, 2, begin(0, steps(1, 1)), begin(1, steps(2, 2)), begin(2, steps(3, 3)))
	was := fmt.Sprint(b)
	one := behind(t, b, 2, begin(3, steps(0, 1)), intent(3, 1, 0, 1), intent(0, 1, 0, 1), rotate(1, 1))
	wasOne := fmt.Sprint(one)
	two := behind(t, b, 2, begin(3, steps(1, 3, 1, 3)), intent(1, 1, 0, 1), lapse(1, 2, 0, 1), rotate(2, 1))
	if fmt.Sprint(b) != was || fmt.Sprint(one) != wasOne {
		t.Error("what was handed in was changed")
	}
	if one.Sagas[3].Steps[0].Kind != 1 || !one.Sagas[3].Wait || two.Sagas[3].Wait || len(two.Sagas[3].Steps) != 2 || one.Sagas[1].Wait || two.Sagas[0].Wait || one.Epochs == two.Epochs {
		t.Errorf("%+v, %+v", one, two)
	}
}

// Rule 4: records that are handed in to Of are neither changed nor kept, and two answers share nothing.
func TestOfKeepsNothing(t *testing.T) {
	all := journals(11, 24)
	for _, key := range keysOf(all) {
		l := roomy(all[key])
		was := printed(l)
		a, _ := Of(l, limitOf(key))
		b, _ := Of(l, limitOf(key))
		if printed(l) != was {
			t.Fatal("records were changed")
		}
		want := fmt.Sprint(a)
		spoilBook(b)
		spoilRecs(l)
		if fmt.Sprint(a) != want {
			t.Fatal("records were kept, or two answers share memory")
		}
	}
}

// Rule 6: what is answered hangs on nothing else: asked again, and of copies, it is the same.
func TestAskedAgain(t *testing.T) {
	for _, b := range someBooks(t) {
		like := ownBook(b)
		like.Sagas = append(make([]api.Saga, 0, 30), like.Sagas...)
		for _, x := range append(goers(b, 2), api.Rec{}, rotate(0, 5)) {
			one, ok := Go(b, x, 2)
			two, okTwo := Go(like, x, 2)
			three, okThree := Go(b, x, 2)
			if ok != okTwo || ok != okThree || !isSame(one, two) || !isSame(one, three) {
				t.Errorf("%+v: %v, %v, %v", x, ok, okTwo, okThree)
			}
		}
	}
}

// Rule 1: of books that didn't come about nothing is promised, but that calls end, and don't panic.
func TestAnyBooks(t *testing.T) {
	list := slices.Concat(story(), full(), []api.Rec{begin(12, steps(0, 1)), good(0, 2, 5, 1, 0, 0), back(good(1, 2, 5, 9, 3, 400))})
	for n := range 4000 {
		number := func(i int) int { return []int{0, 1, 2, 3, 5, 9, -1, 63, math.MaxInt, math.MinInt}[(n*7+i*(n/10+1))%10] }
		b := api.Book{Epochs: [4]int{number(1), number(2), number(3), number(4)}}
		for i := range n % 15 {
			s := api.Saga{Phase: number(i), At: number(i + 1), Tries: number(i + 2), Wait: i%2 == 0, Back: i%3 == 0, Done: number(i + 3), Undone: number(i + 4), Some: number(i + 5), Seq: number(i + 6)}
			for j := range i % 8 {
				s.Steps = append(s.Steps, api.Step{Part: number(i + j), Kind: number(i + j + 1)})
			}
			b.Sagas = append(b.Sagas, s)
		}
		for _, x := range append(list, list[n%len(list)]) {
			got, _ := Go(b, x, 1+n%9)
			Same(b, got)
			Lines(Report(b), Report(got))
			Clean(Report(got))
		}
	}
}
