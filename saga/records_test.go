package saga

import (
	"bytes"
	"fmt"
	"math"
	"math/rand"
	"slices"
	"testing"

	"inspeximus/api"
)

// standing is a saga by the words of the chapter: what is in Done, Undone and Some stands there step by step.
type standing struct {
	api.Saga
	done, undone, some [6]bool
}

// standingOf is how a saga stands.
func standingOf(s api.Saga) standing {
	x := standing{Saga: s}
	for i := range 6 {
		x.done[i], x.undone[i], x.some[i] = s.Done>>i&1 == 1, s.Undone>>i&1 == 1, s.Some>>i&1 == 1
	}
	return x
}

// saga is the saga that stands so.
func (x standing) saga() api.Saga {
	s := x.Saga
	s.Done, s.Undone, s.Some = 0, 0, 0
	for i := range 6 {
		if x.done[i] {
			s.Done += 1 << i
		}
		if x.undone[i] {
			s.Undone += 1 << i
		}
		if x.some[i] {
			s.Some += 1 << i
		}
	}
	return s
}

// target is the target, by the words; -1, if there is none.
func (x standing) target() int {
	target := -1
	for i, step := range x.Steps {
		if step.Kind == 1 && (x.done[i] || x.some[i]) && !x.undone[i] {
			target = i
		}
	}
	return target
}

// wordsDue is what is due, by the words of the chapter.
func wordsDue(s api.Saga, limit int) (api.Rec, bool) {
	switch {
	case limit < 1 || limit > 9, s.Wait, s.Phase == 2, s.Phase == 3, s.Phase == 4:
		return api.Rec{}, false
	case s.Phase == 0 && s.At >= len(s.Steps):
		return api.Rec{Kind: 5, End: 2}, true
	case s.Phase == 0 && s.Tries < limit:
		return api.Rec{Kind: 2, Step: s.At, Try: s.Tries + 1}, true
	case s.Phase == 1 && standingOf(s).target() == -1:
		return api.Rec{Kind: 5, End: 3}, true
	case s.Phase == 1 && s.Tries < limit:
		return api.Rec{Kind: 2, Step: standingOf(s).target(), Try: s.Tries + 1, Back: true}, true
	}
	return api.Rec{Kind: 5, End: 4}, true
}

// told is what is looked at of a record that is held against what is due.
type told struct {
	kind, step, try, end int
	back                 bool
}

func looked(x api.Rec) told { return told{x.Kind, x.Step, x.Try, x.End, x.Back} }

// isBare says whether a record has nothing beside that.
func isBare(x api.Rec) bool {
	return x.Saga == 0 && x.Seq == 0 && !x.Good && x.Part == 0 && x.Epoch == 0 && x.Tag == api.Hash{} &&
		len(x.Steps) == 0 && len(x.Data) == 0 && x.Salt == api.Hash{} && !x.Gone && x.Com == api.Hash{}
}

// wordsGo is the saga behind a record, by the words of the chapter.
func wordsGo(s api.Saga, x api.Rec, limit int) (api.Saga, bool) {
	if limit < 1 || limit > 9 || x.Seq != s.Seq {
		return s, false
	}
	y := standingOf(s)
	y.Seq++
	if x.Kind == 2 || x.Kind == 5 {
		due, ok := wordsDue(s, limit)
		if !ok || looked(due) != looked(x) {
			return s, false
		}
		if x.Kind == 2 {
			y.Wait, y.Tries, y.Back = true, x.Try, x.Back
		} else {
			y.Phase = x.End
		}
		return y.saga(), true
	}
	step := y.At
	if s.Back {
		step = y.target()
	}
	if x.Kind != 3 && x.Kind != 4 || !s.Wait || x.Step != step || x.Try != s.Tries || x.Back != s.Back {
		return s, false
	}
	y.Wait, y.Back = false, false
	switch kind := s.Steps[step].Kind; {
	case x.Kind == 3 && !x.Back && x.Good:
		y.done[step], y.some[step] = true, false
		y.At, y.Tries = y.At+1, 0
	case x.Kind == 3 && !x.Back && kind != 3:
		y.some[step] = false
		y.Phase, y.Tries = 1, 0
	case x.Kind == 3 && x.Back && x.Good:
		y.undone[step] = true
		y.Tries = 0
	case x.Kind == 4 && !x.Back:
		y.some[step] = true
		if kind == 1 && s.Tries == limit {
			y.Phase, y.Tries = 1, 0
		}
	}
	return y.saga(), true
}

// coming are the records that go next, by the words: what is due, or each answer to the call that is out.
func coming(s api.Saga, limit int) []api.Rec {
	if x, ok := wordsDue(s, limit); ok {
		x.Seq = s.Seq
		return []api.Rec{x}
	}
	if !s.Wait {
		return nil
	}
	x := api.Rec{Seq: s.Seq, Step: s.At, Try: s.Tries, Back: s.Back}
	if s.Back {
		x.Step = standingOf(s).target()
	}
	good, bad, lapse := x, x, x
	good.Kind, bad.Kind, lapse.Kind = api.Receipt, api.Receipt, api.Lapse
	good.Good = true
	return []api.Rec{good, bad, lapse}
}

// reached is every saga that comes about of these steps with that limit, by the words; of those that differ in nothing but Seq the one with the least.
func reached(l []api.Step, limit int) []api.Saga {
	list := []api.Saga{wordsNew(l)}
	seen := map[string]bool{}
	for at := 0; at < len(list); at++ {
		for _, x := range coming(list[at], limit) {
			s, _ := wordsGo(list[at], x, limit)
			plain := s
			plain.Seq = 0
			if key := fmt.Sprint(plain); !seen[key] {
				seen[key] = true
				list = append(list, s)
			}
		}
	}
	return list
}

// holdDue holds what is due against the words of the chapter.
func holdDue(t *testing.T, s api.Saga, limit int) {
	t.Helper()
	got, ok := Due(s, limit)
	want, wantOK := wordsDue(s, limit)
	if ok != wantOK || looked(got) != looked(want) || !isBare(got) {
		t.Errorf("limit %d, %+v: due is %+v, %v, want %+v, %v", limit, s, got, ok, want, wantOK)
	}
}

// holdGo holds the saga behind a record against the words of the chapter, and says whether the record goes.
func holdGo(t *testing.T, s api.Saga, x api.Rec, limit int) bool {
	t.Helper()
	got, ok := Go(s, x, limit)
	want, wantOK := wordsGo(s, x, limit)
	if ok != wantOK || !Same(got, want) || !slices.Equal(got.Steps, want.Steps) {
		t.Errorf("limit %d, %+v, record %+v: %+v, %v, want %+v, %v", limit, s, x, got, ok, want, wantOK)
	}
	return ok
}

// limits are those that are told apart: the ends of what a limit may be, and others; and wrong ones.
func limits() []int {
	return []int{0, 1, 2, 3, 4, 5, 8, 9, 10, 11, -1, -9, 1 << 8, 1<<8 + 1, 1<<32 + 1, math.MaxInt, math.MinInt, math.MinInt + 1}
}

// P11.2: what is due of every saga that comes about, at its own limit and at each other one: Tries are below, at and above that.
func TestDueByWords(t *testing.T) {
	counts := map[string]int{}
	for _, l := range orders(6) {
		for _, limit := range []int{1, 2, 4, 9} {
			if limit > 2 && len(l) > 4 {
				continue
			}
			for _, s := range reached(l, limit) {
				for _, other := range limits() {
					holdDue(t, s, other)
				}
				x, ok := wordsDue(s, limit)
				counts[fmt.Sprint(ok, x.Kind, x.Back, x.End)]++
			}
		}
		if t.Failed() {
			return
		}
	}
	if len(counts) != 6 {
		t.Errorf("not all that may be due comes about: %v", counts)
	}
}

// P11.2: what is due, by heart.
func TestDueByHeart(t *testing.T) {
	none := api.Rec{}
	for i, x := range []struct {
		s     api.Saga
		limit int
		want  api.Rec
	}{
		{api.Saga{Steps: kinds(1, 2, 3), Seq: 1}, 9, api.Rec{Kind: api.Intent, Step: 0, Try: 1}},
		{api.Saga{Steps: kinds(1, 2, 3), Seq: 1}, 1, api.Rec{Kind: api.Intent, Step: 0, Try: 1}},
		{api.Saga{Steps: kinds(1, 2, 3), Seq: 1}, 0, none},
		{api.Saga{Steps: kinds(1, 2, 3), Seq: 1}, 10, none},
		{api.Saga{Steps: kinds(1, 2, 3), Seq: 1}, -1, none},
		{api.Saga{Steps: kinds(1, 2, 3), Seq: 1}, math.MaxInt, none},
		{api.Saga{Steps: kinds(1, 2, 3), At: 1, Tries: 1, Done: 1, Some: 2, Seq: 5}, 2, api.Rec{Kind: api.Intent, Step: 1, Try: 2}},
		{api.Saga{Steps: kinds(1, 2, 3), At: 1, Tries: 2, Done: 1, Some: 2, Seq: 7}, 2, api.Rec{Kind: api.Closed, End: api.Stuck}},
		{api.Saga{Steps: kinds(1, 2, 3), At: 1, Tries: 2, Done: 1, Some: 2, Seq: 7}, 1, api.Rec{Kind: api.Closed, End: api.Stuck}},
		{api.Saga{Steps: kinds(1, 2, 3), At: 1, Tries: 2, Done: 1, Wait: true, Seq: 6}, 2, none},
		{api.Saga{Steps: kinds(1, 2, 3), At: 2, Tries: 8, Done: 3, Seq: 30}, 9, api.Rec{Kind: api.Intent, Step: 2, Try: 9}},
		{api.Saga{Steps: kinds(1, 2, 3), At: 2, Tries: 9, Done: 3, Seq: 32}, 9, api.Rec{Kind: api.Closed, End: api.Stuck}},
		{api.Saga{Steps: kinds(1, 2, 3), At: 3, Done: 7, Seq: 7}, 2, api.Rec{Kind: api.Closed, End: api.Committed}},
		{api.Saga{Steps: kinds(1, 2, 3), Phase: api.Backward, At: 1, Done: 1, Seq: 5}, 2, api.Rec{Kind: api.Intent, Step: 0, Try: 1, Back: true}},
		{api.Saga{Steps: kinds(1, 2, 3), Phase: api.Backward, At: 1, Done: 1, Tries: 2, Seq: 9}, 2, api.Rec{Kind: api.Closed, End: api.Stuck}},
		{api.Saga{Steps: kinds(1, 2, 3), Phase: api.Backward, At: 1, Done: 1, Tries: 1, Wait: true, Back: true, Seq: 6}, 2, none},
		{api.Saga{Steps: kinds(1, 2, 3), Phase: api.Backward, At: 1, Done: 1, Undone: 1, Seq: 7}, 2, api.Rec{Kind: api.Closed, End: api.Compensated}},
		{api.Saga{Steps: kinds(1, 1, 1), Phase: api.Backward, At: 2, Done: 3, Some: 4, Seq: 9}, 2, api.Rec{Kind: api.Intent, Step: 2, Try: 1, Back: true}},
		{api.Saga{Steps: kinds(1, 1, 1), Phase: api.Backward, At: 2, Done: 3, Some: 4, Undone: 4, Seq: 11}, 2, api.Rec{Kind: api.Intent, Step: 1, Try: 1, Back: true}},
		{api.Saga{Steps: kinds(1, 1, 1), Phase: api.Backward, At: 2, Done: 3, Some: 4, Undone: 7, Seq: 15}, 2, api.Rec{Kind: api.Closed, End: api.Compensated}},
		{api.Saga{Steps: kinds(2), Phase: api.Backward, Seq: 3}, 1, api.Rec{Kind: api.Closed, End: api.Compensated}},
		{api.Saga{Steps: kinds(1), Phase: api.Committed, At: 1, Done: 1, Seq: 4}, 3, none},
		{api.Saga{Steps: kinds(1), Phase: api.Compensated, Seq: 4}, 3, none},
		{api.Saga{Steps: kinds(3), Phase: api.Stuck, Tries: 3, Some: 1, Seq: 8}, 3, none},
	} {
		got, ok := Due(x.s, x.limit)
		if looked(got) != looked(x.want) || !isBare(got) || ok != (x.want.Kind != 0) {
			t.Errorf("%d: %+v, %v", i, got, ok)
		}
	}
}

// wrongs are a record with one thing wrong each: its Kind, Seq, Step, Try, Back or End.
func wrongs(x api.Rec) []api.Rec {
	var out []api.Rec
	for _, field := range []func(x *api.Rec) *int{
		func(x *api.Rec) *int { return &x.Kind }, func(x *api.Rec) *int { return &x.Seq }, func(x *api.Rec) *int { return &x.Step },
		func(x *api.Rec) *int { return &x.Try }, func(x *api.Rec) *int { return &x.End },
	} {
		for _, by := range []int{1, -1, 2, 1 << 32, -*field(&x)} {
			y := x
			*field(&y) += by
			out = append(out, y)
		}
	}
	x.Back = !x.Back
	return append(out, x)
}

// others are a record with other things in what isn't looked at: Good doesn't hang on these.
func others(x api.Rec) []api.Rec {
	l := []api.Rec{x, x, x, x, x, x, x}
	l[0].Saga = 7
	l[1].Part = 3
	l[2].Epoch = 401
	l[3].Tag = api.Hash{9}
	l[4].Steps, l[4].Data = kinds(3, 1), []byte("pay")
	l[5].Salt, l[5].Com, l[5].Gone = api.Hash{1}, api.Hash{2}, true
	l[6].Saga, l[6].Part, l[6].Epoch, l[6].Tag = -1, -1, -1, api.Hash{7}
	return l
}

// kindred are records of each kind, and of none, that speak of the step and the try where a saga is, or of those about these.
func kindred(s api.Saga) []api.Rec {
	var out []api.Rec
	for kind := -1; kind <= 8; kind++ {
		x := api.Rec{Kind: kind, Seq: s.Seq, Step: s.At, Try: s.Tries, Back: s.Back}
		out = append(out, x)
		x.Try++
		out = append(out, x)
		x.Back = s.Phase == api.Backward
		out = append(out, x)
		for _, end := range []int{0, 2, 3, 4} {
			out = append(out, api.Rec{Kind: kind, Seq: s.Seq, End: end})
		}
	}
	return out
}

// tried are the records that are held against a saga: those that go, each with one thing wrong, or with other things in what isn't looked at, and some of each kind; all of them Good and not.
func tried(s api.Saga, limit int) []api.Rec {
	out := kindred(s)
	for _, x := range coming(s, limit) {
		out = append(append(append(out, x), wrongs(x)...), others(x)...)
	}
	for _, x := range slices.Clone(out) {
		x.Good = !x.Good
		out = append(out, x)
	}
	return out
}

// P11.2: each record at every saga that comes about, right, with each thing wrong by itself, and with other things in what isn't looked at.
func TestGoByWords(t *testing.T) {
	for _, limit := range []int{1, 2, 3, 9} {
		goes := 0
		for _, l := range orders(6) {
			if limit > 2 && len(l) > 3 {
				continue
			}
			for _, s := range reached(l, limit) {
				for _, x := range tried(s, limit) {
					if holdGo(t, s, x, limit) {
						goes++
					}
				}
				if t.Failed() {
					return
				}
			}
		}
		if goes < 500 {
			t.Errorf("limit %d: %d records that go are too few", limit, goes)
		}
	}
}

// P11.2: every record of small numbers, at every saga that comes about of a few steps.
func TestGoOfEachRecord(t *testing.T) {
	for _, l := range [][]api.Step{kinds(1), kinds(2), kinds(3), kinds(1, 1), kinds(1, 2), kinds(1, 3)} {
		for _, s := range reached(l, 2) {
			for n := range 8 * 3 * 4 * 5 * 2 * 2 * 6 {
				x := api.Rec{Kind: n % 8, Seq: s.Seq + n/8%3 - 1, Step: n/24%4 - 1, Try: n / 96 % 5, Back: n/480%2 == 1, Good: n/960%2 == 1, End: n / 1920}
				holdGo(t, s, x, 2)
			}
		}
		if t.Failed() {
			return
		}
	}
}

// P11.2: with a limit that is none nothing is due and nothing goes, of no saga; with one that is, what is due goes.
func TestGoOfEachLimit(t *testing.T) {
	for _, l := range orders(4) {
		for _, s := range reached(l, 2) {
			for _, limit := range limits() {
				for _, x := range coming(s, max(1, min(9, limit))) {
					isLimit := limit >= 1 && limit <= 9
					if holdGo(t, s, x, limit) != isLimit {
						t.Fatalf("limit %d, %+v: %+v goes is %v", limit, s, x, !isLimit)
					}
				}
			}
		}
	}
}

// gone is a saga behind records, each of which must go.
func gone(t *testing.T, s api.Saga, limit int, list ...api.Rec) api.Saga {
	t.Helper()
	for i, x := range list {
		x.Seq = s.Seq
		next, ok := Go(s, x, limit)
		if !ok {
			t.Fatalf("record %d, %+v, doesn't go: %+v", i, x, s)
		}
		s = next
	}
	return s
}

func intent(step, try int) api.Rec  { return api.Rec{Kind: api.Intent, Step: step, Try: try} }
func good(step, try int) api.Rec    { return api.Rec{Kind: api.Receipt, Step: step, Try: try, Good: true} }
func refuses(step, try int) api.Rec { return api.Rec{Kind: api.Receipt, Step: step, Try: try} }
func lapse(step, try int) api.Rec   { return api.Rec{Kind: api.Lapse, Step: step, Try: try} }
func ends(end int) api.Rec          { return api.Rec{Kind: api.Closed, End: end} }

// back is a record, of a compensation.
func back(x api.Rec) api.Rec {
	x.Back = true
	return x
}

// P11.2: the chapter's example.
func TestExample(t *testing.T) {
	s := gone(t, New(kinds(1)), 1, intent(0, 1), refuses(0, 1))
	if s.Phase != api.Backward {
		t.Errorf("%+v", s)
	}
	if x, ok := Due(s, 1); !ok || x.Kind != api.Closed || x.End != api.Compensated {
		t.Errorf("due is %+v", x)
	}
	if s = gone(t, s, 1, ends(api.Compensated)); s.Phase != api.Compensated || !Over(s) || Missing(s) != 0 {
		t.Errorf("%+v", s)
	}
}

// P11.2: sagas gone by heart: each kind of step answered well, refused, and not answered, below the limit of 2 and at it.
func TestGoByHeart(t *testing.T) {
	l := kinds(1, 1, 2, 3)
	up := []api.Rec{intent(0, 1), good(0, 1)}                                      // to the second Comp step
	pivot := slices.Concat(up, []api.Rec{intent(1, 1), good(1, 1)})                // to the Pivot
	retry := slices.Concat(pivot, []api.Rec{intent(2, 1), good(2, 1)})             // to the Retry step
	down := slices.Concat(pivot, []api.Rec{intent(2, 1), refuses(2, 1)})           // back from the Pivot
	unsure := slices.Concat(up, []api.Rec{intent(1, 1), lapse(1, 1)})              // a Comp step that may have gone well
	given := slices.Concat(unsure, []api.Rec{intent(1, 2), lapse(1, 2)})           // given up
	undone := slices.Concat(down, []api.Rec{back(intent(1, 1)), back(good(1, 1))}) // the second Comp step is undone
	for i, x := range []struct {
		ahead []api.Rec
		then  []api.Rec
		want  api.Saga
	}{
		{nil, []api.Rec{intent(0, 1)}, api.Saga{Tries: 1, Wait: true, Seq: 2}},
		{up, nil, api.Saga{At: 1, Done: 1, Seq: 3}},
		{up, []api.Rec{intent(1, 1), refuses(1, 1)}, api.Saga{Phase: 1, At: 1, Done: 1, Seq: 5}},
		{unsure, nil, api.Saga{At: 1, Tries: 1, Done: 1, Some: 2, Seq: 5}},
		{unsure, []api.Rec{intent(1, 2)}, api.Saga{At: 1, Tries: 2, Wait: true, Done: 1, Some: 2, Seq: 6}},
		{unsure, []api.Rec{intent(1, 2), good(1, 2)}, api.Saga{At: 2, Done: 3, Seq: 7}},
		{unsure, []api.Rec{intent(1, 2), refuses(1, 2)}, api.Saga{Phase: 1, At: 1, Done: 1, Seq: 7}},
		{given, nil, api.Saga{Phase: 1, At: 1, Done: 1, Some: 2, Seq: 7}},
		{given, []api.Rec{back(intent(1, 1))}, api.Saga{Phase: 1, At: 1, Tries: 1, Wait: true, Back: true, Done: 1, Some: 2, Seq: 8}},
		{given, []api.Rec{back(intent(1, 1)), back(good(1, 1))}, api.Saga{Phase: 1, At: 1, Done: 1, Some: 2, Undone: 2, Seq: 9}},
		{given, []api.Rec{back(intent(1, 1)), back(good(1, 1)), back(intent(0, 1)), back(good(0, 1)), ends(3)}, api.Saga{Phase: 3, At: 1, Done: 1, Some: 2, Undone: 3, Seq: 12}},
		{pivot, []api.Rec{intent(2, 1), good(2, 1)}, api.Saga{At: 3, Done: 7, Seq: 7}},
		{pivot, []api.Rec{intent(2, 1), lapse(2, 1)}, api.Saga{At: 2, Tries: 1, Done: 3, Some: 4, Seq: 7}},
		{pivot, []api.Rec{intent(2, 1), lapse(2, 1), intent(2, 2), refuses(2, 2)}, api.Saga{Phase: 1, At: 2, Done: 3, Seq: 9}},
		{pivot, []api.Rec{intent(2, 1), lapse(2, 1), intent(2, 2), lapse(2, 2)}, api.Saga{At: 2, Tries: 2, Done: 3, Some: 4, Seq: 9}},
		{pivot, []api.Rec{intent(2, 1), lapse(2, 1), intent(2, 2), lapse(2, 2), ends(4)}, api.Saga{Phase: 4, At: 2, Tries: 2, Done: 3, Some: 4, Seq: 10}},
		{retry, []api.Rec{intent(3, 1), good(3, 1)}, api.Saga{At: 4, Done: 15, Seq: 9}},
		{retry, []api.Rec{intent(3, 1), good(3, 1), ends(2)}, api.Saga{Phase: 2, At: 4, Done: 15, Seq: 10}},
		{retry, []api.Rec{intent(3, 1), refuses(3, 1)}, api.Saga{At: 3, Tries: 1, Done: 7, Seq: 9}},
		{retry, []api.Rec{intent(3, 1), lapse(3, 1)}, api.Saga{At: 3, Tries: 1, Done: 7, Some: 8, Seq: 9}},
		{retry, []api.Rec{intent(3, 1), lapse(3, 1), intent(3, 2), refuses(3, 2)}, api.Saga{At: 3, Tries: 2, Done: 7, Some: 8, Seq: 11}},
		{retry, []api.Rec{intent(3, 1), lapse(3, 1), intent(3, 2), good(3, 2)}, api.Saga{At: 4, Done: 15, Seq: 11}},
		{retry, []api.Rec{intent(3, 1), refuses(3, 1), intent(3, 2), lapse(3, 2), ends(4)}, api.Saga{Phase: 4, At: 3, Tries: 2, Done: 7, Some: 8, Seq: 12}},
		{down, nil, api.Saga{Phase: 1, At: 2, Done: 3, Seq: 7}},
		{down, []api.Rec{back(intent(1, 1)), back(refuses(1, 1))}, api.Saga{Phase: 1, At: 2, Tries: 1, Done: 3, Seq: 9}},
		{down, []api.Rec{back(intent(1, 1)), back(lapse(1, 1))}, api.Saga{Phase: 1, At: 2, Tries: 1, Done: 3, Seq: 9}},
		{down, []api.Rec{back(intent(1, 1)), back(lapse(1, 1)), back(intent(1, 2)), back(good(1, 2))}, api.Saga{Phase: 1, At: 2, Done: 3, Undone: 2, Seq: 11}},
		{down, []api.Rec{back(intent(1, 1)), back(lapse(1, 1)), back(intent(1, 2)), back(lapse(1, 2)), ends(4)}, api.Saga{Phase: 4, At: 2, Tries: 2, Done: 3, Seq: 12}},
		{undone, nil, api.Saga{Phase: 1, At: 2, Done: 3, Undone: 2, Seq: 9}},
		{undone, []api.Rec{back(intent(0, 1)), back(good(0, 1)), ends(3)}, api.Saga{Phase: 3, At: 2, Done: 3, Undone: 3, Seq: 12}},
	} {
		s := gone(t, New(l), 2, slices.Concat(x.ahead, x.then)...)
		if x.want.Steps = l; !isSame(s, x.want) {
			t.Errorf("%d: %+v", i, s)
		}
	}
}

// P11.2: what doesn't go, by heart: the saga is as it is.
func TestGoesNot(t *testing.T) {
	first := New(kinds(1, 2))
	out := gone(t, first, 2, intent(0, 1))
	over := gone(t, out, 2, refuses(0, 1), ends(api.Compensated))
	for i, x := range []struct {
		s api.Saga
		x api.Rec
	}{
		{first, api.Rec{Kind: api.Begin, Seq: 1, Steps: kinds(1)}}, {first, api.Rec{Kind: api.Begin}}, {first, api.Rec{Kind: api.Rotate, Seq: 1, Epoch: 1}}, {first, api.Rec{Seq: 1}},
		{first, api.Rec{Kind: api.Intent, Step: 0, Try: 1}}, {first, api.Rec{Kind: api.Intent, Seq: 2, Step: 0, Try: 1}},
		{first, api.Rec{Kind: api.Intent, Seq: 1, Step: 1, Try: 1}}, {first, api.Rec{Kind: api.Intent, Seq: 1, Try: 2}}, {first, api.Rec{Kind: api.Intent, Seq: 1}},
		{first, api.Rec{Kind: api.Intent, Seq: 1, Try: 1, Back: true}}, {first, api.Rec{Kind: api.Intent, Seq: 1, Try: 1, End: 2}},
		{first, api.Rec{Kind: api.Receipt, Seq: 1, Good: true}}, {first, api.Rec{Kind: api.Lapse, Seq: 1}}, {first, api.Rec{Kind: api.Closed, Seq: 1, End: 2}}, {first, api.Rec{Kind: api.Closed, Seq: 1}},
		{out, api.Rec{Kind: api.Intent, Seq: 2, Try: 1}}, {out, api.Rec{Kind: api.Intent, Seq: 2, Try: 2}}, {out, api.Rec{Kind: api.Closed, Seq: 2, End: 4}},
		{out, api.Rec{Kind: api.Receipt, Seq: 1, Try: 1}}, {out, api.Rec{Kind: api.Receipt, Seq: 3, Try: 1}}, {out, api.Rec{Kind: api.Receipt, Seq: 2, Step: 1, Try: 1}},
		{out, api.Rec{Kind: api.Receipt, Seq: 2, Try: 2}}, {out, api.Rec{Kind: api.Receipt, Seq: 2, Try: 1, Back: true}}, {out, api.Rec{Kind: api.Lapse, Seq: 2, Try: 1, Back: true}}, {out, api.Rec{Kind: api.Lapse, Seq: 2, Try: 0}},
		{over, api.Rec{Kind: api.Closed, Seq: 4, End: 3}}, {over, api.Rec{Kind: api.Intent, Seq: 4, Try: 1}}, {over, api.Rec{Kind: api.Receipt, Seq: 4}}, {over, api.Rec{Kind: api.Lapse, Seq: 4}},
	} {
		if s, ok := Go(x.s, x.x, 2); ok || !isSame(s, x.s) {
			t.Errorf("%d: %+v, %v", i, s, ok)
		}
	}
}

// P11.2: steps that are in Some, and not in Done, are compensated; a Pivot that is in Some isn't.
func TestSomeAreCompensated(t *testing.T) {
	for comps := 1; comps <= 6; comps++ {
		l := kinds(slices.Repeat([]int{1}, comps)...)
		s := New(l)
		for step := range comps - 1 {
			s = gone(t, s, 3, intent(step, 1), good(step, 1))
		}
		last := comps - 1
		s = gone(t, s, 3, intent(last, 1), lapse(last, 1), intent(last, 2), lapse(last, 2), intent(last, 3), lapse(last, 3))
		if s.Phase != api.Backward || s.Some != 1<<last || s.Done != 1<<last-1 {
			t.Errorf("%d steps: %+v", comps, s)
		}
		for step := last; step >= 0; step-- {
			s = gone(t, s, 3, back(intent(step, 1)), back(good(step, 1)))
		}
		if s = gone(t, s, 3, ends(api.Compensated)); s.Undone != 1<<comps-1 || Missing(s) != 0 {
			t.Errorf("%d steps: %+v", comps, s)
		}
	}
	s := gone(t, New(kinds(1, 2)), 2, intent(0, 1), good(0, 1), intent(1, 1), lapse(1, 1), intent(1, 2), refuses(1, 2))
	if x, _ := Due(s, 2); x.Step != 0 || !x.Back {
		t.Errorf("due is %+v", x)
	}
}

// holdEnd holds a saga that is over against what must follow.
func holdEnd(t *testing.T, s api.Saga) {
	t.Helper()
	all := 1<<len(s.Steps) - 1
	switch {
	case s.Phase == api.Committed && s.Done == all && s.Undone == 0 && Missing(s) == 0:
	case s.Phase == api.Compensated && Missing(s) == 0 && s.Done&^s.Undone == 0:
	case s.Phase == api.Stuck:
	default:
		t.Errorf("over: %+v", s)
	}
}

// most is how many records a saga may have till it is over, by the words.
func most(l []api.Step, limit int) int { return 2*(limit+1)*2*len(l) + 1 }

// walk goes a saga to its end, by answers that a call picks (0: Good, 1: not, 2: none), and holds what must follow on the way. It is how many records that took, and the saga.
func walk(t *testing.T, l []api.Step, limit int, pick func() int) (int, api.Saga) {
	t.Helper()
	s, n, decided := New(l), 0, false
	for ; !Over(s); n++ {
		if n > most(l, limit) {
			t.Fatalf("limit %d, %v: not over behind %d records: %+v", limit, l, n, s)
		}
		due, ok := Due(s, limit)
		if !ok {
			t.Fatalf("limit %d, nothing is due: %+v", limit, s)
		}
		s = gone(t, s, limit, due)
		if due.Kind == api.Closed {
			continue
		}
		if due.Back && (decided || l[due.Step].Kind != api.Comp) {
			t.Fatalf("limit %d, compensated, though it is decided, or can't be: %+v", limit, s)
		}
		how := pick()
		kind := []int{api.Receipt, api.Receipt, api.Lapse}[how]
		s = gone(t, s, limit, api.Rec{Kind: kind, Step: due.Step, Try: due.Try, Back: due.Back, Good: how == 0})
		decided = decided || how == 0 && l[due.Step].Kind == api.Pivot
		n++
	}
	holdEnd(t, s)
	return n, s
}

// P11.3: sagas gone to their end by answers by lot, of each order of steps, with each limit, by lots that are mostly good, even, and mostly bad.
func TestWalksByLot(t *testing.T) {
	random := rand.New(rand.NewSource(11))
	ended := map[int]int{}
	for _, l := range orders(6) {
		for limit := 1; limit <= 9; limit++ {
			for round := range 60 {
				wells := []int{0, 10, 50, 90}[round%4]
				n, s := walk(t, l, limit, func() int {
					if random.Intn(100) < wells {
						return 0
					}
					return 1 + random.Intn(2)
				})
				if s.Seq != n+1 {
					t.Fatalf("%d records, Seq %d", n, s.Seq)
				}
				ended[s.Phase]++
			}
		}
	}
	if ended[api.Committed] < 1000 || ended[api.Compensated] < 1000 || ended[api.Stuck] < 1000 {
		t.Errorf("%v ends are too few", ended)
	}
}

// P11.3: sagas gone to their end by all answers that there are, one after the other.
func TestWalksByAllAnswers(t *testing.T) {
	for _, l := range orders(3) {
		for limit := 1; limit <= 2; limit++ {
			if len(l)*limit > 4 {
				continue
			}
			walks := 0
			for answers := []int{}; answers != nil; answers = following(answers) {
				at := 0
				walk(t, l, limit, func() int {
					if at == len(answers) {
						answers = append(answers, 0)
					}
					at++
					return answers[at-1]
				})
				answers = answers[:at]
				walks++
			}
			if walks < 3 {
				t.Errorf("%v: %d walks", l, walks)
			}
		}
	}
}

// following is the answers that come next behind these: the last one that can be is turned, and those behind it are left out; nil behind all.
func following(answers []int) []int {
	for i := len(answers) - 1; i >= 0; i-- {
		if answers[i] < 2 {
			return append(answers[:i:i], answers[i]+1)
		}
	}
	return nil
}

// longest is how many records a saga has ahead of it till it is over, at most; it holds every end on the way.
func longest(t *testing.T, s api.Saga, limit int, known map[string]int) int {
	plain := s
	plain.Seq = 0
	key := fmt.Sprint(plain)
	if n, ok := known[key]; ok {
		return n
	}
	if s.Seq > most(s.Steps, limit)+1 {
		t.Fatalf("limit %d, too many records: %+v", limit, s)
	}
	if Over(s) {
		holdEnd(t, s)
		return 0
	}
	n := 0
	for _, x := range coming(s, limit) {
		n = max(n, 1+longest(t, gone(t, s, limit, x), limit, known))
	}
	known[key] = n
	return n
}

// P11.3: whatever answers come, no saga has more records than it may, of each order of steps, with each limit.
func TestLongestWalk(t *testing.T) {
	for _, l := range orders(6) {
		for limit := 1; limit <= 9; limit++ {
			n := longest(t, New(l), limit, map[string]int{})
			if n > most(l, limit) || n < 2*len(l)+1 {
				t.Errorf("limit %d, %v: %d records", limit, l, n)
			}
		}
	}
}

// P11.3: a step that is refused or not answered is tried as often as the limit says, and no oftener.
func TestTriesToTheLimit(t *testing.T) {
	for limit := 1; limit <= 9; limit++ {
		for _, x := range []struct {
			kind, answer, records, phase int
		}{
			{api.Comp, 1, 3, api.Compensated}, {api.Comp, 2, 4*limit + 1, api.Stuck},
			{api.Pivot, 1, 3, api.Compensated}, {api.Pivot, 2, 2*limit + 1, api.Stuck},
			{api.Retry, 1, 2*limit + 1, api.Stuck}, {api.Retry, 2, 2*limit + 1, api.Stuck},
		} {
			n, s := walk(t, kinds(x.kind), limit, func() int { return x.answer })
			if n != x.records || s.Phase != x.phase {
				t.Errorf("limit %d, %+v: %d records, %+v", limit, x, n, s)
			}
		}
	}
}

// Rule 4: a saga's steps and a record's lists are left as they are, the room behind them included, and the record's aren't kept.
func TestGoLeavesWhatIsHandedIn(t *testing.T) {
	for _, l := range orders(4) {
		for _, s := range reached(l, 2) {
			var check func()
			s.Steps, check = withRoom(t, s.Steps)
			Due(s, 2)
			Missing(s)
			Over(s)
			Same(s, s)
			for _, x := range append(coming(s, 2), api.Rec{Kind: api.Begin}, api.Rec{Kind: api.Intent, Seq: s.Seq}) {
				steps, checkSteps := withRoom(t, kinds(3, 2, 1))
				data := bytes.Repeat([]byte{5}, 20)
				x.Steps, x.Data = steps, data[:10]
				was := s
				got, _ := Go(s, x, 2)
				checkSteps()
				if !bytes.Equal(data, bytes.Repeat([]byte{5}, 20)) || !isSame(s, was) {
					t.Errorf("%+v: what was handed in was changed", s)
				}
				spoil(steps)
				if !slices.Equal(got.Steps, l) {
					t.Errorf("%+v: the record's steps were kept", got)
				}
			}
			check()
		}
	}
}

// Rule 6: what is answered hangs on nothing else: asked again, and of a copy, it is the same.
func TestAskedAgain(t *testing.T) {
	for _, l := range orders(4) {
		for _, s := range reached(l, 2) {
			like := s
			like.Steps = append(make([]api.Step, 0, 30), s.Steps...)
			for _, x := range coming(s, 2) {
				a, okA := Go(s, x, 2)
				b, okB := Go(s, x, 2)
				c, okC := Go(like, x, 2)
				if !okA || !okB || !okC || !isSame(a, b) || !isSame(a, c) {
					t.Fatalf("%+v: %+v, %+v, %+v", x, a, b, c)
				}
			}
		}
	}
}

// Rule 1: of sagas that didn't come about nothing is promised, but that calls end, and don't panic.
func TestAnySagas(t *testing.T) {
	random := rand.New(rand.NewSource(12))
	numbers := edges(0, 6)
	pick := func() int {
		if random.Intn(4) > 0 {
			return random.Intn(9) - 1
		}
		return numbers[random.Intn(len(numbers))]
	}
	for range 20000 {
		s := api.Saga{Phase: pick(), At: pick(), Tries: pick(), Wait: random.Intn(2) == 0, Back: random.Intn(2) == 0, Done: pick(), Undone: pick(), Some: pick(), Seq: pick()}
		for range random.Intn(9) {
			s.Steps = append(s.Steps, api.Step{Part: pick(), Kind: pick()})
		}
		limit := 1 + random.Intn(9)
		due, _ := Due(s, limit)
		due.Seq = s.Seq
		for _, x := range append(kindred(s), due) {
			s, _ := Go(s, x, limit)
			Missing(s)
			Over(s)
			Same(s, s)
		}
	}
}
