package saga

import (
	"fmt"
	"math"
	"math/rand"
	"slices"
	"testing"

	"inspeximus/api"
)

// kinds is steps of these kinds, of a participant each.
func kinds(list ...int) []api.Step {
	out := make([]api.Step, len(list))
	for i, kind := range list {
		out[i] = api.Step{Part: i % 4, Kind: kind}
	}
	return out
}

// everyList is every list of these kinds, of each number of steps up to a most.
func everyList(most int, of ...int) [][]api.Step {
	lists := [][]api.Step{nil}
	for at := 0; at < len(lists) && len(lists[at]) < most; at++ {
		for _, kind := range of {
			lists = append(lists, append(slices.Clone(lists[at]), api.Step{Part: len(lists) % 4, Kind: kind}))
		}
	}
	return lists
}

// orders is every list of steps that may be, up to a most, by the words of the chapter: Comps, a Pivot or none, Retrys.
func orders(most int) [][]api.Step {
	var out [][]api.Step
	for n := 1; n <= most; n++ {
		for comps := 0; comps <= n; comps++ {
			for pivots := 0; pivots <= min(1, n-comps); pivots++ {
				list := slices.Concat(slices.Repeat([]int{1}, comps), slices.Repeat([]int{2}, pivots), slices.Repeat([]int{3}, n-comps-pivots))
				out = append(out, kinds(list...))
			}
		}
	}
	return out
}

// edges are numbers about the ends of a range, great ones, and those that come into it if they are cut.
func edges(first, last int) []int {
	out := []int{first - 1, first, first + 1, last - 1, last, last + 1, last + 2, -first, -last, math.MaxInt32, math.MinInt32, math.MaxInt, math.MaxInt - 1, math.MinInt, math.MinInt + 1}
	for _, shift := range []int{8, 16, 31, 32, 62} {
		out = append(out, 1<<shift, last+1<<shift, first+1<<shift)
	}
	return out
}

// wordsMay says whether steps may be, by the words of the chapter: what comes first is taken away, then what comes next, and nothing may be left.
func wordsMay(l []api.Step) bool {
	if len(l) < 1 || len(l) > 6 {
		return false
	}
	for _, step := range l {
		if step.Part < 0 || step.Part > 3 {
			return false
		}
	}
	for len(l) > 0 && l[0].Kind == 1 {
		l = l[1:]
	}
	if len(l) > 0 && l[0].Kind == 2 {
		l = l[1:]
	}
	for len(l) > 0 && l[0].Kind == 3 {
		l = l[1:]
	}
	return len(l) == 0
}

// wordsNew is a saga that begins, by the words of the chapter.
func wordsNew(l []api.Step) api.Saga {
	if !wordsMay(l) {
		return api.Saga{}
	}
	return api.Saga{Steps: slices.Clone(l), Seq: 1}
}

// isSame says whether two sagas are, told by all that they are printed as.
func isSame(a, b api.Saga) bool { return fmt.Sprint(a) == fmt.Sprint(b) }

// holdMay holds May and New of steps against the words of the chapter, and says whether they may be.
func holdMay(t *testing.T, l []api.Step) bool {
	t.Helper()
	want := wordsMay(l)
	if May(l) != want {
		t.Errorf("May of %v: %v", l, !want)
	}
	if got := New(l); !isSame(got, wordsNew(l)) || !want && got.Steps != nil {
		t.Errorf("New of %v: %+v", l, got)
	}
	return want
}

// P11.1: steps of each number from none to seven, of each order of the kinds.
func TestMayOfEachOrder(t *testing.T) {
	counts := [8]int{}
	lists := everyList(7, api.Comp, api.Pivot, api.Retry)
	for _, l := range lists {
		if holdMay(t, l) {
			counts[len(l)]++
		}
	}
	// Of n steps: n + 1 orders without a Pivot, n with one.
	if counts != [8]int{0, 3, 5, 7, 9, 11, 13, 0} || len(lists) != 3280 {
		t.Errorf("of %d lists may be: %v", len(lists), counts)
	}
}

// P11.1: the same, with steps among them that are of no kind.
func TestMayOfNoKind(t *testing.T) {
	for _, l := range everyList(4, 0, api.Comp, api.Pivot, api.Retry, 4) {
		holdMay(t, l)
	}
}

// P11.1: which steps may be, by heart.
func TestMayByHeart(t *testing.T) {
	for _, x := range []struct {
		l    []api.Step
		want bool
	}{
		{kinds(1), true}, {kinds(2), true}, {kinds(3), true}, {kinds(1, 1, 2, 3), true}, {kinds(1, 3), true}, {kinds(2, 3, 3), true},
		{kinds(1, 1, 1, 1, 1, 2), true}, {kinds(2, 3, 3, 3, 3, 3), true}, {kinds(1, 1, 2, 3, 3, 3), true}, {kinds(3, 3, 3, 3, 3, 3), true},
		{nil, false}, {kinds(1, 1, 1, 1, 1, 1, 1), false}, {kinds(3, 3, 3, 3, 3, 3, 3), false}, {kinds(1, 1, 1, 2, 3, 3, 3), false},
		{kinds(2, 2), false}, {kinds(1, 2, 2, 3), false}, {kinds(2, 3, 2), false}, {kinds(2, 1), false}, {kinds(3, 1), false}, {kinds(1, 2, 1), false}, {kinds(1, 3, 1), false}, {kinds(3, 2), false}, {kinds(1, 3, 2), false},
		{kinds(0), false}, {kinds(4), false}, {kinds(-1), false}, {kinds(1, 0), false}, {kinds(3, 4), false},
		{[]api.Step{{Part: 0, Kind: 1}}, true}, {[]api.Step{{Part: 3, Kind: 1}}, true}, {[]api.Step{{Part: 4, Kind: 1}}, false}, {[]api.Step{{Part: -1, Kind: 1}}, false},
		{[]api.Step{{Part: 2, Kind: 1}, {Part: 2, Kind: 3}}, true}, {[]api.Step{{Part: 0, Kind: 1}, {Part: 4, Kind: 3}}, false},
		{slices.Repeat(kinds(1), 1000), false}, {slices.Repeat(kinds(1), 257), false},
	} {
		if May(x.l) != x.want || (New(x.l).Seq == 1) != x.want {
			t.Errorf("%v", x.l)
		}
	}
}

// P11.1: at each place of steps that may be, each Part and each Kind about the ends of what these may be, and great ones.
func TestMayOfPartsAndKinds(t *testing.T) {
	counts := map[bool]int{}
	for _, l := range orders(6) {
		for at := range l {
			for _, part := range append(edges(0, 3), 1, 2) {
				x := slices.Clone(l)
				x[at].Part = part
				counts[holdMay(t, x)]++
			}
			for _, kind := range append(edges(1, 3), 2) {
				x := slices.Clone(l)
				x[at].Kind = kind
				counts[holdMay(t, x)]++
			}
		}
	}
	if counts[true] < 1000 || counts[false] < 5000 {
		t.Errorf("%v are too few", counts)
	}
}

// P11.1: no steps, nil or an empty list, with right steps in the room behind it or not.
func TestMayOfEmptyLists(t *testing.T) {
	for i, none := range [][]api.Step{nil, {}, make([]api.Step, 0, 4), kinds(1, 2, 3)[:0]} {
		if holdMay(t, none) {
			t.Errorf("%d may be", i)
		}
	}
}

// P11.1: what a saga that begins has, field by field.
func TestNew(t *testing.T) {
	l := []api.Step{{Part: 3, Kind: api.Comp}, {Part: 0, Kind: api.Pivot}, {Part: 2, Kind: api.Retry}}
	s := New(l)
	if !slices.Equal(s.Steps, l) || s.Phase != api.Forward || s.Seq != 1 || s.At != 0 || s.Tries != 0 || s.Wait || s.Back || s.Done != 0 || s.Undone != 0 || s.Some != 0 {
		t.Errorf("%+v", s)
	}
	if z := New(l[1:2]); len(z.Steps) != 1 || z.Steps[0] != l[1] {
		t.Errorf("%+v", z)
	}
	if z := New(append(l, l[1])); z.Steps != nil || !isSame(z, api.Saga{}) {
		t.Errorf("%+v", z)
	}
}

// P11.1: what is missing and whether it is over, of every saga that may come about, held against the words of the chapter.
func TestMissingAndOver(t *testing.T) {
	missing, over := map[int]int{}, map[int]int{}
	for _, l := range orders(6) {
		for _, limit := range []int{1, 2} {
			for _, s := range reached(l, limit) {
				want := 0
				for i := range l {
					if s.Phase != 2 && s.Done>>i&1 == 1 && s.Undone>>i&1 == 0 {
						want += 1 << i
					}
				}
				if got := Missing(s); got != want {
					t.Fatalf("%+v: missing %d, want %d", s, got, want)
				}
				isOver := s.Phase == 2 || s.Phase == 3 || s.Phase == 4
				if Over(s) != isOver {
					t.Fatalf("%+v: over is %v", s, !isOver)
				}
				missing[want]++
				over[s.Phase]++
			}
		}
	}
	// Steps go well from the first one on, and are undone from the last one on: what is missing are the first ones, none to six.
	if len(missing) != 7 || len(over) != 5 {
		t.Errorf("missing %v, phases %v", missing, over)
	}
}

// P11.1: what is missing, by heart.
func TestMissingByHeart(t *testing.T) {
	for _, x := range []struct {
		phase, done, undone, some, want int
	}{
		{api.Forward, 0, 0, 0, 0}, {api.Forward, 0b11, 0, 0b100, 0b11}, {api.Backward, 0b111, 0b100, 0, 0b11}, {api.Backward, 0b11, 0b110, 0b100, 0b01},
		{api.Compensated, 0b11, 0b11, 0, 0}, {api.Stuck, 0b111, 0b110, 0, 0b001}, {api.Stuck, 0b111111, 0, 0, 0b111111}, {api.Committed, 0b111, 0, 0, 0}, {api.Backward, 0, 0b10, 0b10, 0},
	} {
		s := api.Saga{Steps: kinds(1, 1, 1, 1, 1, 1), Phase: x.phase, At: 3, Done: x.done, Undone: x.undone, Some: x.some, Seq: 9}
		if got := Missing(s); got != x.want {
			t.Errorf("%+v: %b", x, got)
		}
	}
}

// turns are what makes another saga of one, one thing each.
func turns() []func(s *api.Saga) {
	out := []func(s *api.Saga){
		func(s *api.Saga) { s.Wait = !s.Wait },
		func(s *api.Saga) { s.Back = !s.Back },
		func(s *api.Saga) { s.Steps = s.Steps[:len(s.Steps)-1] },
		func(s *api.Saga) { s.Steps = s.Steps[1:] },
		func(s *api.Saga) { s.Steps = nil },
		func(s *api.Saga) { s.Steps = append(slices.Clone(s.Steps), api.Step{}) },
		func(s *api.Saga) { s.Steps = slices.Clone(s.Steps); slices.Reverse(s.Steps) },
	}
	for _, by := range []int{1, -1, 1 << 8, 1 << 32, math.MinInt} {
		for _, field := range []func(s *api.Saga) *int{
			func(s *api.Saga) *int { return &s.Phase }, func(s *api.Saga) *int { return &s.At }, func(s *api.Saga) *int { return &s.Tries },
			func(s *api.Saga) *int { return &s.Done }, func(s *api.Saga) *int { return &s.Undone }, func(s *api.Saga) *int { return &s.Some }, func(s *api.Saga) *int { return &s.Seq },
		} {
			out = append(out, func(s *api.Saga) { *field(s) += by })
		}
		for at := range 4 {
			out = append(out, func(s *api.Saga) { s.Steps = slices.Clone(s.Steps); s.Steps[at].Part += by })
			out = append(out, func(s *api.Saga) { s.Steps = slices.Clone(s.Steps); s.Steps[at].Kind += by })
		}
	}
	return out
}

// P11.1: a saga isn't the same any more by any one thing that differs.
func TestSameTellsApart(t *testing.T) {
	for i, s := range []api.Saga{
		New(kinds(1, 1, 2, 3)),
		{Steps: kinds(1, 1, 2, 3), Phase: 1, At: 2, Tries: 3, Wait: true, Back: true, Done: 3, Undone: 2, Some: 4, Seq: 17},
		{Steps: kinds(3, 3, 1, 3), Phase: 4, At: -1, Tries: 9, Wait: false, Back: true, Done: 63, Undone: 63, Some: 63, Seq: 400},
	} {
		like := s
		like.Steps = append(make([]api.Step, 0, 20), s.Steps...)
		if !Same(s, s) || !Same(s, like) || !Same(like, s) {
			t.Errorf("%d isn't the same as itself", i)
		}
		for j, turn := range turns() {
			other := s
			turn(&other)
			if Same(s, other) || Same(other, s) || !Same(other, other) {
				t.Errorf("%d, turned by %d: %+v", i, j, other)
			}
		}
	}
}

// P11.1: nil and empty steps are the same, with room behind them or not; a zero step isn't none.
func TestSameOfEmptyLists(t *testing.T) {
	lists := [][]api.Step{nil, {}, make([]api.Step, 0, 5), kinds(1, 2)[:0]}
	for i, a := range lists {
		for j, b := range lists {
			if !Same(api.Saga{Steps: a, Seq: 1}, api.Saga{Steps: b, Seq: 1}) || Same(api.Saga{Steps: a}, api.Saga{Steps: b, Seq: 1}) {
				t.Errorf("%d and %d", i, j)
			}
		}
		if one := (api.Saga{Steps: make([]api.Step, 1)}); Same(api.Saga{Steps: a}, one) || Same(one, api.Saga{Steps: a}) {
			t.Errorf("%d is a zero step", i)
		}
	}
}

// P11.1: of sagas that come about, two are the same just if they are printed the same.
func TestSameOfSagasThatComeAbout(t *testing.T) {
	var all []api.Saga
	for _, l := range orders(3) {
		all = append(all, reached(l, 2)...)
	}
	random := rand.New(rand.NewSource(11))
	for i, a := range all {
		near := all[max(0, i-3):min(len(all), i+4)]
		for _, b := range append(slices.Clone(near), all[random.Intn(len(all))]) {
			if Same(a, b) != isSame(a, b) {
				t.Fatalf("%+v and %+v", a, b)
			}
		}
	}
}

// withRoom is a copy of steps with marked room behind it, and a check that steps and room are as they were.
func withRoom(t *testing.T, l []api.Step) ([]api.Step, func()) {
	t.Helper()
	whole := slices.Concat(l, slices.Repeat([]api.Step{{Part: 77, Kind: 88}}, 9))
	kept := slices.Clone(whole)
	return whole[:len(l)], func() {
		t.Helper()
		if !slices.Equal(whole, kept) {
			t.Errorf("%v, or the room behind it, was changed", kept)
		}
	}
}

// spoil writes over steps and all their spare room.
func spoil(l []api.Step) {
	l = l[:cap(l)]
	for i := range l {
		l[i] = api.Step{Part: -5, Kind: -5}
	}
}

// Rule 4: steps that are handed in are neither changed nor kept, their spare room included; sagas that begin share nothing.
func TestNewKeepsNothing(t *testing.T) {
	for _, l := range append(orders(6), kinds(2, 1), kinds(1, 1, 1, 1, 1, 1, 1)) {
		in, check := withRoom(t, l)
		May(in)
		a, b := New(in), New(in)
		check()
		spoil(in)
		if !isSame(a, wordsNew(l)) {
			t.Errorf("%v: what was handed in was kept: %+v", l, a)
		}
		spoil(a.Steps)
		if !isSame(b, wordsNew(l)) {
			t.Errorf("%v: two answers share memory", l)
		}
	}
}
