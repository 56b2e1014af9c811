package book

import (
	"fmt"
	"math"
	"math/rand"
	"slices"
	"testing"

	"inspeximus/api"
	"inspeximus/rec"
	"inspeximus/saga"
)

// steps is steps of these participants and kinds, in turn.
func steps(list ...int) []api.Step {
	var out []api.Step
	for i := 0; i < len(list); i += 2 {
		out = append(out, api.Step{Part: list[i], Kind: list[i+1]})
	}
	return out
}

// begin is a Begin with a payload.
func begin(n int, l []api.Step) api.Rec {
	return api.Rec{Kind: api.Begin, Saga: n, Steps: l, Data: []byte("pay"), Salt: api.Hash{7, byte(n)}}
}

// gone is a Begin redacted, of any commitment.
func gone(n int, l []api.Step) api.Rec {
	return api.Rec{Kind: api.Begin, Saga: n, Steps: l, Gone: true, Com: api.Hash{9, byte(n)}}
}

func intent(n, seq, step, try int) api.Rec {
	return api.Rec{Kind: api.Intent, Saga: n, Seq: seq, Step: step, Try: try}
}

func lapse(n, seq, step, try int) api.Rec {
	return api.Rec{Kind: api.Lapse, Saga: n, Seq: seq, Step: step, Try: try}
}

func good(n, seq, step, try, part, epoch int) api.Rec {
	return api.Rec{Kind: api.Receipt, Saga: n, Seq: seq, Step: step, Try: try, Good: true, Part: part, Epoch: epoch, Tag: api.Hash{5}}
}

func refuses(n, seq, step, try, part, epoch int) api.Rec {
	return api.Rec{Kind: api.Receipt, Saga: n, Seq: seq, Step: step, Try: try, Part: part, Epoch: epoch, Tag: api.Hash{6}}
}

func closed(n, seq, end int) api.Rec {
	return api.Rec{Kind: api.Closed, Saga: n, Seq: seq, End: end}
}

func rotate(part, epoch int) api.Rec { return api.Rec{Kind: api.Rotate, Part: part, Epoch: epoch} }

// back is a record, of a compensation.
func back(x api.Rec) api.Rec {
	x.Back = true
	return x
}

// isSame says whether two books are, told by all that they are printed as.
func isSame(a, b api.Book) bool { return fmt.Sprint(a) == fmt.Sprint(b) }

// behind is the book behind records, each of which must go.
func behind(t *testing.T, b api.Book, limit int, list ...api.Rec) api.Book {
	t.Helper()
	for i, x := range list {
		next, ok := Go(b, x, limit)
		if !ok {
			t.Fatalf("record %d, %+v, doesn't go: %+v", i, x, b)
		}
		b = next
	}
	return b
}

// wordsGo is the book behind a record, by the words of the chapter.
func wordsGo(b api.Book, x api.Rec, limit int) (api.Book, bool) {
	if limit < 1 || limit > 9 || !rec.Right(x) {
		return b, false
	}
	out := api.Book{Epochs: b.Epochs}
	out.Sagas = append(out.Sagas, b.Sagas...)
	switch x.Kind {
	case 1:
		if x.Saga != len(b.Sagas) || len(b.Sagas) >= 12 || !saga.May(x.Steps) {
			return b, false
		}
		out.Sagas = append(out.Sagas, saga.New(x.Steps))
	case 2, 3, 4, 5:
		if x.Saga >= len(b.Sagas) {
			return b, false
		}
		s, ok := saga.Go(b.Sagas[x.Saga], x, limit)
		if !ok || x.Kind == 3 && (s.Steps[x.Step].Part != x.Part || b.Epochs[x.Part] != x.Epoch) {
			return b, false
		}
		out.Sagas[x.Saga] = s
	case 6:
		if out.Epochs[x.Part]++; out.Epochs[x.Part] != x.Epoch {
			return b, false
		}
	}
	return out, true
}

// hold holds the book behind a record against the words of the chapter, and says whether the record goes.
func hold(t *testing.T, b api.Book, x api.Rec, limit int) bool {
	t.Helper()
	was := fmt.Sprint(b, x)
	got, ok := Go(b, x, limit)
	want, wantOK := wordsGo(b, x, limit)
	if ok != wantOK || !isSame(got, want) {
		t.Errorf("limit %d, %+v, record %+v: %+v, %v, want %+v, %v", limit, b, x, got, ok, want, wantOK)
	}
	if fmt.Sprint(b, x) != was {
		t.Errorf("limit %d, record %+v: what was handed in was changed", limit, x)
	}
	return ok
}

// coming are a saga's records that go next: what is due, or each answer to the call that is out; none, if it is over.
func coming(b api.Book, n, limit int) []api.Rec {
	s := b.Sagas[n]
	if x, ok := saga.Due(s, limit); ok {
		x.Saga, x.Seq = n, s.Seq
		return []api.Rec{x}
	}
	if !s.Wait {
		return nil
	}
	// The call that is out is the one that was due ahead of it.
	s.Wait, s.Tries = false, s.Tries-1
	x, _ := saga.Due(s, limit)
	x.Saga, x.Seq = n, s.Seq
	part := s.Steps[x.Step].Part
	no, late := x, x
	no.Kind, no.Part, no.Epoch, no.Tag = api.Receipt, part, b.Epochs[part], api.Hash{3}
	late.Kind = api.Lapse
	yes := no
	yes.Good = true
	return []api.Rec{yes, no, late}
}

// plans are steps that may be a saga's, of several lengths and orders; the participants of a saga's steps differ.
func plans() [][]api.Step {
	return [][]api.Step{
		steps(1, 1), steps(2, 2), steps(3, 3), steps(1, 1, 2, 2), steps(0, 1, 3, 1), steps(2, 3, 0, 3), steps(3, 1, 1, 2, 2, 3),
		steps(0, 1, 1, 1, 2, 1), steps(3, 1, 0, 1, 2, 2, 1, 3), steps(0, 1, 1, 1, 2, 1, 3, 2, 0, 3, 1, 3), steps(2, 1, 2, 1, 2, 1), steps(1, 2, 0, 3, 3, 3),
	}
}

// lot is a journal by lot, of so many records at most, of so many sagas, all of which go. Of a hundred answers so many are Good.
type lot struct {
	random             *rand.Rand
	limit, sagas, well int
	rotates            int
}

// next is a record by lot that goes, and whether there is one.
func (l lot) next(b api.Book) (api.Rec, bool) {
	if l.random.Intn(100) < l.rotates {
		part := l.random.Intn(4)
		if b.Epochs[part] < 400 {
			return rotate(part, b.Epochs[part]+1), true
		}
	}
	if n := len(b.Sagas); n < l.sagas && (n == 0 || l.random.Intn(6) == 0) {
		all := plans()
		x := begin(n, all[l.random.Intn(len(all))])
		if l.random.Intn(3) == 0 {
			x = rec.Redact(x)
		}
		return x, true
	}
	for _, n := range l.random.Perm(len(b.Sagas)) {
		if list := coming(b, n, l.limit); len(list) == 3 && l.random.Intn(100) >= l.well {
			return list[1+l.random.Intn(2)], true
		} else if len(list) > 0 {
			return list[0], true
		}
	}
	if n := len(b.Sagas); n < l.sagas {
		return begin(n, plans()[n%12]), true
	}
	return api.Rec{}, false
}

// journal is a journal by that lot.
func (l lot) journal(most int) []api.Rec {
	var out []api.Rec
	var b api.Book
	for range most {
		x, ok := l.next(b)
		if !ok {
			break
		}
		b, _ = wordsGo(b, x, l.limit)
		out = append(out, x)
	}
	return out
}

// journals are journals by lot, each with its limit: short and long ones, of one saga to twelve, whose answers are mostly good, even, and mostly bad.
func journals(seed, count int) map[int][]api.Rec {
	out := map[int][]api.Rec{}
	for i := range count {
		l := lot{rand.New(rand.NewSource(int64(seed*1000 + i))), 1 + i%9, 1 + i*5%12, []int{95, 70, 40, 0}[i/9%4], []int{10, 0, 30}[i%3]}
		out[i*10+l.limit] = l.journal([]int{300, 60, 10, 2000}[i%4])
	}
	return out
}

// limitOf is the limit of a journal of that key.
func limitOf(key int) int { return key % 10 }

// keysOf are the journals' keys in order.
func keysOf(m map[int][]api.Rec) []int {
	var out []int
	for key := range m {
		out = append(out, key)
	}
	slices.Sort(out)
	return out
}

// P12.2: what a report says of sagas of each phase, that came about by records.
func TestReportByHeart(t *testing.T) {
	two := steps(1, 1, 2, 1)
	for i, x := range []struct {
		list []api.Rec
		want []api.Line
	}{
		{nil, nil},
		{[]api.Rec{rotate(0, 1)}, nil},
		{[]api.Rec{begin(0, two)}, []api.Line{{Phase: 0}}},
		{[]api.Rec{begin(0, two), intent(0, 1, 0, 1), good(0, 2, 0, 1, 1, 0)}, []api.Line{{Phase: 0, Missing: 1}}},
		{[]api.Rec{begin(0, two), intent(0, 1, 0, 1), good(0, 2, 0, 1, 1, 0), intent(0, 3, 1, 1), good(0, 4, 1, 1, 2, 0)}, []api.Line{{Phase: 0, Missing: 3}}},
		{[]api.Rec{begin(0, two), intent(0, 1, 0, 1), good(0, 2, 0, 1, 1, 0), intent(0, 3, 1, 1), good(0, 4, 1, 1, 2, 0), closed(0, 5, 2)}, []api.Line{{Phase: 2}}},
		{[]api.Rec{begin(0, two), intent(0, 1, 0, 1), good(0, 2, 0, 1, 1, 0), intent(0, 3, 1, 1), refuses(0, 4, 1, 1, 2, 0)}, []api.Line{{Phase: 1, Missing: 1}}},
		{[]api.Rec{begin(0, two), intent(0, 1, 0, 1), good(0, 2, 0, 1, 1, 0), intent(0, 3, 1, 1), refuses(0, 4, 1, 1, 2, 0), back(intent(0, 5, 0, 1)), back(good(0, 6, 0, 1, 1, 0))}, []api.Line{{Phase: 1}}},
		{[]api.Rec{begin(0, two), intent(0, 1, 0, 1), good(0, 2, 0, 1, 1, 0), intent(0, 3, 1, 1), refuses(0, 4, 1, 1, 2, 0), back(intent(0, 5, 0, 1)), back(good(0, 6, 0, 1, 1, 0)), closed(0, 7, 3)}, []api.Line{{Phase: 3}}},
		{[]api.Rec{begin(0, two), intent(0, 1, 0, 1), good(0, 2, 0, 1, 1, 0), intent(0, 3, 1, 1), refuses(0, 4, 1, 1, 2, 0), back(intent(0, 5, 0, 1)), back(lapse(0, 6, 0, 1)), closed(0, 7, 4)}, []api.Line{{Phase: 4, Missing: 1}}},
		{[]api.Rec{begin(0, two), gone(1, steps(0, 3)), intent(1, 1, 0, 1), begin(2, two), intent(2, 1, 0, 1), good(2, 2, 0, 1, 1, 0), lapse(1, 2, 0, 1), closed(1, 3, 4)}, []api.Line{{Phase: 0}, {Phase: 4}, {Phase: 0, Missing: 1}}},
	} {
		if got := Report(behind(t, api.Book{}, 1, x.list...)); !slices.Equal(got, x.want) {
			t.Errorf("%d: %v, want %v", i, got, x.want)
		}
	}
}

// P12.2: a report has a line for each saga, in order: its phase, and the steps in Done that aren't in Undone, none of one that is Committed.
func TestReportByWords(t *testing.T) {
	phases := map[int]int{}
	all := journals(1, 120)
	for _, key := range keysOf(all) {
		var b api.Book
		for _, x := range all[key] {
			b, _ = wordsGo(b, x, limitOf(key))
			got := Report(b)
			if len(got) != len(b.Sagas) {
				t.Fatalf("%d lines of %d sagas", len(got), len(b.Sagas))
			}
			for i, s := range b.Sagas {
				want := api.Line{Phase: s.Phase}
				for step := range s.Steps {
					if s.Phase != 2 && s.Done>>step&1 == 1 && s.Undone>>step&1 == 0 {
						want.Missing += 1 << step
					}
				}
				if got[i] != want {
					t.Fatalf("%+v: %+v, want %+v", s, got[i], want)
				}
				phases[s.Phase]++
			}
		}
	}
	for phase := range 5 {
		if phases[phase] < 100 {
			t.Errorf("phase %d comes about %d times", phase, phases[phase])
		}
	}
}

// P12.2: Clean of lines of each phase, at each place among others, and of none; what is missing isn't looked at.
func TestClean(t *testing.T) {
	if !Clean(nil) || !Clean([]api.Line{}) || !Clean([]api.Line{{Phase: 1}}[:0]) {
		t.Error("no lines aren't clean")
	}
	if !Clean([]api.Line{{Phase: 2, Missing: 5}, {Phase: 3, Missing: -1}}) || Clean([]api.Line{{Phase: 0}}) || Clean([]api.Line{{Phase: 3}, {Phase: 4}}) {
		t.Error("by heart")
	}
	for _, phase := range []int{-3, -2, -1, 0, 1, 2, 3, 4, 5, 6, 7, 1<<8 + 2, 1<<32 + 3, math.MaxInt, math.MinInt, math.MinInt + 2} {
		isClean := phase == 2 || phase == 3
		for length := 1; length <= 12; length++ {
			for at := range length {
				l := make([]api.Line, length)
				for i := range l {
					l[i].Phase = 2 + i%2
				}
				l[at].Phase = phase
				if Clean(l) != isClean {
					t.Errorf("phase %d at %d of %d: %v", phase, at, length, !isClean)
				}
			}
		}
	}
}

// ownBook is a book whose lists are its own, sagas' steps included.
func ownBook(b api.Book) api.Book {
	b.Sagas = slices.Clone(b.Sagas)
	for i := range b.Sagas {
		b.Sagas[i].Steps = slices.Clone(b.Sagas[i].Steps)
	}
	return b
}

// turned are books that differ from one in one place each.
func turned(b api.Book) []api.Book {
	var out []api.Book
	turn := func(f func(b *api.Book)) {
		x := ownBook(b)
		f(&x)
		out = append(out, x)
	}
	for part := range 4 {
		for _, by := range []int{1, -1, 1 << 8, 1 << 32, math.MinInt} {
			turn(func(b *api.Book) { b.Epochs[part] += by })
		}
	}
	for at := range b.Sagas {
		for _, by := range []int{1, -1, 1 << 32} {
			turn(func(b *api.Book) { b.Sagas[at].Phase += by })
			turn(func(b *api.Book) { b.Sagas[at].At += by })
			turn(func(b *api.Book) { b.Sagas[at].Tries += by })
			turn(func(b *api.Book) { b.Sagas[at].Done += by })
			turn(func(b *api.Book) { b.Sagas[at].Undone += by })
			turn(func(b *api.Book) { b.Sagas[at].Some += by })
			turn(func(b *api.Book) { b.Sagas[at].Seq += by })
			turn(func(b *api.Book) { b.Sagas[at].Steps[0].Part += by })
			turn(func(b *api.Book) { b.Sagas[at].Steps[0].Kind += by })
		}
		turn(func(b *api.Book) { b.Sagas[at].Wait = !b.Sagas[at].Wait })
		turn(func(b *api.Book) { b.Sagas[at].Back = !b.Sagas[at].Back })
		turn(func(b *api.Book) { b.Sagas[at].Steps = append(b.Sagas[at].Steps, api.Step{}) })
		turn(func(b *api.Book) { b.Sagas[at].Steps = nil })
		turn(func(b *api.Book) { b.Sagas = slices.Delete(b.Sagas, at, at+1) })
		turn(func(b *api.Book) { b.Sagas = slices.Insert(b.Sagas, at, api.Saga{}) })
	}
	turn(func(b *api.Book) { b.Sagas = append(b.Sagas, api.Saga{}) })
	turn(func(b *api.Book) { b.Sagas = append(b.Sagas, saga.New(steps(0, 1))) })
	return out
}

// P12.2: a book isn't the same any more by any one place that differs.
func TestSameTellsApart(t *testing.T) {
	for i, b := range someBooks(t) {
		like := ownBook(b)
		like.Sagas = append(make([]api.Saga, 0, 30), like.Sagas...)
		if !Same(b, b) || !Same(b, like) || !Same(like, b) {
			t.Errorf("%d isn't the same as itself", i)
		}
		for j, other := range turned(b) {
			if Same(b, other) || Same(other, b) || !Same(other, ownBook(other)) {
				t.Errorf("%d, turned by %d: %+v", i, j, other)
			}
		}
	}
	if b := (api.Book{Epochs: [4]int{1, 2, 3, 4}}); Same(b, api.Book{Epochs: [4]int{2, 1, 3, 4}}) || Same(b, api.Book{}) {
		t.Error("epochs")
	}
	one, two := saga.New(steps(0, 1)), saga.New(steps(1, 1))
	if Same(api.Book{Sagas: []api.Saga{one, two}}, api.Book{Sagas: []api.Saga{two, one}}) {
		t.Error("sagas in another order")
	}
}

// P12.2: of books that come about, two are the same just if they are printed the same.
func TestSameOfBooksThatComeAbout(t *testing.T) {
	var all []api.Book
	some := journals(2, 30)
	for _, key := range keysOf(some) {
		var b api.Book
		for _, x := range some[key][:min(40, len(some[key]))] {
			b, _ = wordsGo(b, x, limitOf(key))
			all = append(all, b)
		}
	}
	random := rand.New(rand.NewSource(12))
	for i, a := range all {
		near := all[max(0, i-2):min(len(all), i+3)]
		for _, b := range append(slices.Clone(near), all[random.Intn(len(all))], ownBook(a)) {
			if Same(a, b) != isSame(a, b) {
				t.Fatalf("%+v and %+v", a, b)
			}
		}
	}
}

// P12.2: no sagas and no lines, nil or an empty list, are the same; a zero one isn't none.
func TestEmptyLists(t *testing.T) {
	lists := [][]api.Saga{nil, {}, make([]api.Saga, 0, 4), make([]api.Saga, 3)[:0]}
	for i, a := range lists {
		for j, b := range lists {
			if !Same(api.Book{Sagas: a}, api.Book{Sagas: b}) || Same(api.Book{Sagas: a}, api.Book{Epochs: [4]int{0, 0, 0, 1}, Sagas: b}) {
				t.Errorf("sagas: %d and %d", i, j)
			}
		}
		if one := (api.Book{Sagas: make([]api.Saga, 1)}); Same(api.Book{Sagas: a}, one) || Same(one, api.Book{Sagas: a}) || len(Report(api.Book{Sagas: a})) != 0 {
			t.Errorf("sagas: %d", i)
		}
		if b, ok := Go(api.Book{Sagas: a}, begin(0, steps(0, 1)), 1); !ok || len(b.Sagas) != 1 {
			t.Errorf("sagas: behind %d", i)
		}
	}
	reports := [][]api.Line{nil, {}, make([]api.Line, 0, 4), make([]api.Line, 3)[:0]}
	for i, a := range reports {
		for j, b := range reports {
			if !Lines(a, b) {
				t.Errorf("lines: %d and %d", i, j)
			}
		}
		if one := make([]api.Line, 1); Lines(a, one) || Lines(one, a) {
			t.Errorf("lines: %d", i)
		}
	}
}

// P12.2: lines that are the same, and that differ in one place each, and in how many.
func TestLines(t *testing.T) {
	for length := range 13 {
		l := make([]api.Line, length)
		for i := range l {
			l[i] = api.Line{Phase: i % 5, Missing: i * 3}
		}
		if !Lines(l, l) || !Lines(l, slices.Clone(l)) || !Lines(slices.Clone(l), l) {
			t.Errorf("%d lines aren't the same as themselves", length)
		}
		var others [][]api.Line
		for at := range l {
			for _, by := range []int{1, -1, 1 << 8, 1 << 32, math.MinInt} {
				phase, missing := slices.Clone(l), slices.Clone(l)
				phase[at].Phase += by
				missing[at].Missing += by
				others = append(others, phase, missing)
			}
			others = append(others, l[:at], l[at+1:], slices.Delete(slices.Clone(l), at, at+1), slices.Insert(slices.Clone(l), at, api.Line{Phase: 9}))
		}
		others = append(others, append(slices.Clone(l), api.Line{}), slices.Concat(l, []api.Line{{Phase: 2}, {Phase: 3}}))
		if length > 1 {
			reversed := slices.Clone(l)
			slices.Reverse(reversed)
			others = append(others, reversed)
		}
		for i, other := range others {
			if Lines(l, other) || Lines(other, l) {
				t.Errorf("%d lines: %d is the same: %v", length, i, other)
			}
		}
	}
}

// wordsOnly is a saga's records, by the words of the chapter.
func wordsOnly(l []api.Rec, n int) []api.Rec {
	out := []api.Rec{}
	for _, x := range l {
		if x.Kind >= 1 && x.Kind <= 5 && x.Saga == n {
			out = append(out, x)
		}
	}
	return out
}

// areSame says whether two lists of records are, told by all that they are printed as.
func areSame(a, b []api.Rec) bool { return fmt.Sprint(a) == fmt.Sprint(b) }

// P12.2: Only, by heart: Rotates are of no saga, though their Saga is 0.
func TestOnlyByHeart(t *testing.T) {
	l := []api.Rec{
		begin(0, steps(1, 1)), rotate(1, 1), gone(1, steps(2, 2)), intent(0, 1, 0, 1), rotate(0, 1), intent(1, 1, 0, 1),
		good(0, 2, 0, 1, 1, 1), lapse(1, 2, 0, 1), closed(0, 3, 2), rotate(0, 2), closed(1, 3, 4),
	}
	if got := Only(l, 0); !areSame(got, []api.Rec{l[0], l[3], l[6], l[8]}) {
		t.Errorf("%+v", got)
	}
	if got := Only(l, 1); !areSame(got, []api.Rec{l[2], l[5], l[7], l[10]}) {
		t.Errorf("%+v", got)
	}
	for _, n := range []int{2, 11, 12, -1, 1 << 8, 1 << 32, 1<<32 + 1, math.MaxInt, math.MinInt} {
		if got := Only(l, n); len(got) != 0 {
			t.Errorf("of saga %d: %+v", n, got)
		}
	}
	if len(Only(nil, 0)) != 0 || len(Only([]api.Rec{}, 0)) != 0 || len(Only(l[:0], 0)) != 0 || len(Only(l[1:2], 0)) != 0 {
		t.Error("of none")
	}
}

// P12.2: Only of each kind of record: whether one is a saga's hangs on its Kind and its Saga, not on whether it is right or goes.
func TestOnlyOfEachKind(t *testing.T) {
	for _, n := range []int{-1, 0, 1, 5, 11, 12, math.MaxInt, math.MinInt} {
		for _, kind := range []int{-1, 0, 1, 2, 3, 4, 5, 6, 7, 8, 1<<8 + 1, 1<<32 + 2, math.MaxInt, math.MinInt, math.MinInt + 3} {
			for _, asked := range []int{n, 0, 1, n ^ 1, n ^ 1<<8, n ^ 1<<32} {
				l := []api.Rec{{Kind: kind, Saga: n}, begin(n, nil), {Kind: kind, Saga: n, Try: 99, Data: []byte("x")}}
				if got := Only(l, asked); !areSame(got, wordsOnly(l, asked)) {
					t.Errorf("kind %d of saga %d, asked of %d: %+v", kind, n, asked, got)
				}
			}
		}
	}
}

// P12.2: Only of each saga of journals by lot, and of sagas that aren't there: together they are all records but the Rotates.
func TestOnlyOfJournals(t *testing.T) {
	all := journals(3, 60)
	for _, key := range keysOf(all) {
		l := all[key]
		left := len(l)
		for n := -1; n <= 13; n++ {
			got := Only(l, n)
			if !areSame(got, wordsOnly(l, n)) {
				t.Fatalf("of saga %d: %+v", n, got)
			}
			left -= len(got)
		}
		for _, x := range l {
			if x.Kind == api.Rotate {
				left--
			}
		}
		if left != 0 {
			t.Fatalf("%d records are left", left)
		}
	}
}

// spoilSteps writes over steps and all their spare room.
func spoilSteps(l []api.Step) {
	l = l[:cap(l)]
	for i := range l {
		l[i] = api.Step{Part: -5, Kind: -5}
	}
}

// spoilRec writes over a record's lists and all their spare room.
func spoilRec(x api.Rec) {
	spoilSteps(x.Steps)
	data := x.Data[:cap(x.Data)]
	for i := range data {
		data[i] = 0xee
	}
}

// spoilRecs writes over records, their lists, and all their spare room.
func spoilRecs(l []api.Rec) {
	l = l[:cap(l)]
	for i, x := range l {
		spoilRec(x)
		l[i] = api.Rec{Kind: -5}
	}
}

// spoilBook writes over a book's sagas and all their spare room. Sagas' steps aren't anybody's to change.
func spoilBook(b api.Book) {
	l := b.Sagas[:cap(b.Sagas)]
	for i := range l {
		l[i] = api.Saga{Phase: -5, Done: -5, Seq: -5}
	}
}

// roomy is a copy of records with marked room behind the list and behind each one's lists.
func roomy(l []api.Rec) []api.Rec {
	out := make([]api.Rec, 0, len(l)+5)
	for _, x := range l {
		x.Steps = append(make([]api.Step, 0, len(x.Steps)+5), x.Steps...)
		x.Data = append(make([]byte, 0, len(x.Data)+5), x.Data...)
		out = append(out, x)
	}
	room := out[len(out):cap(out)]
	for i := range room {
		room[i].Kind = 77
	}
	return out
}

// printed is what records are, the room behind them, and that behind their lists, included.
func printed(l []api.Rec) string {
	text := ""
	for _, x := range l[:cap(l)] {
		x.Steps, x.Data = x.Steps[:cap(x.Steps)], x.Data[:cap(x.Data)]
		text += fmt.Sprint(x)
	}
	return text
}

// Rule 4: records that are handed in to Only are neither changed nor kept, and two answers share nothing.
func TestOnlyKeepsNothing(t *testing.T) {
	all := journals(4, 24)
	for _, key := range keysOf(all) {
		l := roomy(all[key])
		was := printed(l)
		for n := range 12 {
			a, b := Only(l, n), Only(l, n)
			want := fmt.Sprint(b)
			spoilRecs(a)
			if fmt.Sprint(b) != want || printed(l) != was {
				t.Fatalf("saga %d: an answer shares memory", n)
			}
		}
		one, want := Only(l, 0), fmt.Sprint(Only(l, 0))
		spoilRecs(l)
		if fmt.Sprint(one) != want {
			t.Fatal("records were kept")
		}
	}
}

// Rule 4: books and lines that are handed in to the other calls aren't changed, nor kept.
func TestOthersKeepNothing(t *testing.T) {
	for i, b := range someBooks(t) {
		b = ownBook(b)
		b.Sagas = append(make([]api.Saga, 0, len(b.Sagas)+4), b.Sagas...)
		room := b.Sagas[:cap(b.Sagas)]
		was := fmt.Sprint(b, room)
		one, two := Report(b), Report(b)
		want := fmt.Sprint(two)
		Same(b, b)
		Lines(one, two)
		Clean(two)
		if fmt.Sprint(b, room) != was || fmt.Sprint(two) != want {
			t.Errorf("%d: what was handed in was changed", i)
		}
		one = one[:cap(one)]
		for j := range one {
			one[j] = api.Line{Phase: -5}
		}
		if fmt.Sprint(b, room) != was || fmt.Sprint(two) != want {
			t.Errorf("%d: a report shares memory", i)
		}
		spoilBook(b)
		if fmt.Sprint(two) != want {
			t.Errorf("%d: a report keeps its book", i)
		}
	}
}
