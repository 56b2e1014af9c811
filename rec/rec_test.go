package rec

import (
	"bytes"
	"crypto/sha256"
	"encoding/binary"
	"encoding/hex"
	"math"
	"math/rand"
	"reflect"
	"slices"
	"strings"
	"testing"

	"inspeximus/api"
	"inspeximus/wire"
)

// span is the range of a number, its ends in it.
type span struct{ least, most int }

// words is what the chapter says of a kind: its numbers' ranges, its flags and hashes, in the order of its bytes. A Begin's steps and payload are told apart from these.
var words = [...]struct {
	order  string
	ranges map[string]span
}{
	api.Begin:   {"Saga", map[string]span{"Saga": {0, 11}}},
	api.Intent:  {"Saga Seq Step Try Back", map[string]span{"Saga": {0, 11}, "Seq": {1, 400}, "Step": {0, 5}, "Try": {1, 9}}},
	api.Receipt: {"Saga Seq Step Try Back Good Part Epoch Tag", map[string]span{"Saga": {0, 11}, "Seq": {1, 400}, "Step": {0, 5}, "Try": {1, 9}, "Part": {0, 3}, "Epoch": {0, 400}}},
	api.Lapse:   {"Saga Seq Step Try Back", map[string]span{"Saga": {0, 11}, "Seq": {1, 400}, "Step": {0, 5}, "Try": {1, 9}}},
	api.Closed:  {"Saga Seq End", map[string]span{"Saga": {0, 11}, "Seq": {1, 400}, "End": {2, 4}}},
	api.Rotate:  {"Part Epoch", map[string]span{"Part": {0, 3}, "Epoch": {1, 400}}},
}

// fields are the names of a record's fields, but Kind.
func fields() []string {
	var out []string
	for i := range reflect.TypeFor[api.Rec]().NumField() {
		if name := reflect.TypeFor[api.Rec]().Field(i).Name; name != "Kind" {
			out = append(out, name)
		}
	}
	return out
}

// field is one of x's, by name.
func field(x *api.Rec, name string) reflect.Value { return reflect.ValueOf(x).Elem().FieldByName(name) }

// isEmpty says whether a field is 0, false or empty.
func isEmpty(f reflect.Value) bool {
	if f.Kind() == reflect.Slice {
		return f.Len() == 0
	}
	return f.IsZero()
}

// wordsRight says whether a record is right, by the words of the chapter.
func wordsRight(x api.Rec) bool {
	if x.Kind < 1 || x.Kind > 6 {
		return false
	}
	has := strings.Fields(words[x.Kind].order)
	if x.Kind == api.Begin {
		has = append(has, "Steps")
		if x.Gone {
			has = append(has, "Gone", "Com")
		} else {
			has = append(has, "Data", "Salt")
		}
		if len(x.Steps) < 1 || len(x.Steps) > 6 || len(x.Data) > 60 {
			return false
		}
		for _, s := range x.Steps {
			if s.Part < 0 || s.Part > 3 || s.Kind < 1 || s.Kind > 3 {
				return false
			}
		}
	}
	for _, name := range fields() {
		f := field(&x, name)
		if !slices.Contains(has, name) && !isEmpty(f) {
			return false
		}
		if s, ok := words[x.Kind].ranges[name]; ok && (f.Int() < int64(s.least) || f.Int() > int64(s.most)) {
			return false
		}
	}
	return true
}

// wordsCom is a Begin's commitment, by the words of the chapters.
func wordsCom(x api.Rec) api.Hash {
	if x.Gone {
		return x.Com
	}
	text := append([]byte{4, 0, 0, 0, 32}, x.Salt[:]...)
	text = binary.BigEndian.AppendUint32(text, uint32(len(x.Data)))
	return sha256.Sum256(append(text, x.Data...))
}

// wordsNum is the bytes of a number below 128 * 128.
func wordsNum(n int) []byte {
	if n < 128 {
		return []byte{byte(n)}
	}
	return []byte{byte(128 + n/128), byte(n % 128)}
}

func wordsFlag(ok bool) byte {
	if ok {
		return 1
	}
	return 0
}

// wordsBytes is a right record's bytes, open or sealed, by the words of the chapter.
func wordsBytes(x api.Rec, open bool) []byte {
	out := []byte{byte(x.Kind)}
	for name := range strings.FieldsSeq(words[x.Kind].order) {
		switch v := field(&x, name).Interface().(type) {
		case int:
			out = append(out, wordsNum(v)...)
		case bool:
			out = append(out, wordsFlag(v))
		case api.Hash:
			out = append(out, v[:]...)
		}
	}
	if x.Kind != api.Begin {
		return out
	}
	out = append(out, byte(len(x.Steps)))
	for _, s := range x.Steps {
		out = append(out, byte(s.Part), byte(s.Kind))
	}
	com := wordsCom(x)
	switch {
	case !open:
		out = append(out, com[:]...)
	case x.Gone:
		out = append(append(out, 1), com[:]...)
	default:
		out = append(append(append(out, 0), x.Salt[:]...), byte(len(x.Data)))
		out = append(out, x.Data...)
	}
	return out
}

// wordsGet is the record of open bytes, or why there is none, by the words of the chapter. Numbers, flags and hashes are taken by layer 3, which has tests of its own.
func wordsGet(b []byte) (api.Rec, api.Errno) {
	r := wire.Read(b)
	x := api.Rec{Kind: r.Num()}
	if r.Bad() == api.OK && (x.Kind < 1 || x.Kind > 6) {
		return api.Rec{}, api.ErrForm
	}
	if r.Bad() == api.OK {
		for name := range strings.FieldsSeq(words[x.Kind].order) {
			switch f := field(&x, name); f.Interface().(type) {
			case int:
				f.SetInt(int64(r.Num()))
			case bool:
				f.SetBool(r.Flag())
			case api.Hash:
				f.Set(reflect.ValueOf(r.Hash()))
			}
		}
	}
	if x.Kind == api.Begin {
		n := r.Num()
		if n > 6 {
			return api.Rec{}, api.ErrForm
		}
		for range n {
			part := r.Num()
			x.Steps = append(x.Steps, api.Step{Part: part, Kind: r.Num()})
		}
		if x.Gone = r.Flag(); x.Gone {
			x.Com = r.Hash()
		} else {
			x.Salt = r.Hash()
			x.Data = r.Bytes(60)
		}
	}
	switch {
	case r.Bad() != api.OK:
		return api.Rec{}, r.Bad()
	case !wordsRight(x) || r.Left() > 0:
		return api.Rec{}, api.ErrForm
	}
	return x, api.OK
}

// sample is n bytes that differ, so that one out of place shows.
func sample(n int) []byte {
	out := make([]byte, n)
	rand.New(rand.NewSource(int64(n))).Read(out)
	return out
}

// withByte is a hash of zeros but for one byte.
func withByte(at int, b byte) api.Hash {
	var h api.Hash
	h[at] = b
	return h
}

// ordinary is a right record of each kind, of Begin an open and a redacted one, with nothing 0 that needn't be.
func ordinary() []api.Rec {
	tag, salt := api.Hash(sample(32)), api.Hash(sample(33)[1:])
	steps := []api.Step{{Part: 1, Kind: api.Comp}, {Part: 3, Kind: api.Pivot}, {Part: 2, Kind: api.Retry}}
	return []api.Rec{
		{Kind: api.Begin, Saga: 5, Steps: steps, Data: []byte("payload"), Salt: salt},
		{Kind: api.Begin, Saga: 5, Steps: slices.Clone(steps), Gone: true, Com: tag},
		{Kind: api.Intent, Saga: 1, Seq: 300, Step: 2, Try: 3, Back: true},
		{Kind: api.Receipt, Saga: 7, Seq: 4, Step: 5, Try: 6, Back: true, Good: true, Part: 1, Epoch: 200, Tag: tag},
		{Kind: api.Lapse, Saga: 2, Seq: 128, Step: 3, Try: 8, Back: true},
		{Kind: api.Closed, Saga: 10, Seq: 9, End: api.Compensated},
		{Kind: api.Rotate, Part: 2, Epoch: 127},
	}
}

// steps is n steps, all different from their neighbours.
func steps(n int) []api.Step {
	out := make([]api.Step, n)
	for i := range out {
		out[i] = api.Step{Part: i % 4, Kind: 1 + i%3}
	}
	return out
}

// atEnds is a right record of each kind whose numbers are all at one end of their ranges, and whose flags, hashes and lists are empty or as full as they may be.
func atEnds(full bool) []api.Rec {
	var out []api.Rec
	for _, x := range ordinary() {
		for name := range strings.FieldsSeq(words[x.Kind].order) {
			s, f := words[x.Kind].ranges[name], field(&x, name)
			switch {
			case f.Kind() == reflect.Int && full:
				f.SetInt(int64(s.most))
			case f.Kind() == reflect.Int:
				f.SetInt(int64(s.least))
			case full && f.Kind() == reflect.Bool:
				f.SetBool(true)
			case full:
				f.Set(reflect.ValueOf(api.Hash(bytes.Repeat([]byte{0xff}, 32))))
			default:
				f.SetZero()
			}
		}
		if x.Kind == api.Begin && full {
			x.Steps = slices.Repeat([]api.Step{{Part: 3, Kind: 3}}, 6)
		} else if x.Kind == api.Begin {
			x.Steps = []api.Step{{Part: 0, Kind: 1}}
			x.Com, x.Salt = api.Hash{}, api.Hash{}
		}
		if x.Kind == api.Begin && !x.Gone {
			x.Data = bytes.Repeat([]byte{0xff}, 60*int(wordsFlag(full)))
		}
		out = append(out, x)
	}
	return out
}

// begins is right Begins with all numbers of steps and of payload's bytes.
func begins() []api.Rec {
	var out []api.Rec
	for n := 1; n <= 6; n++ {
		out = append(out, api.Rec{Kind: api.Begin, Steps: steps(n), Gone: true, Com: api.Hash{byte(n)}})
		for size := range 61 {
			out = append(out, api.Rec{Kind: api.Begin, Saga: n, Steps: steps(n), Data: sample(size), Salt: api.Hash(sample(32 + size)[:32])})
		}
	}
	return out
}

// edges are numbers about the ends of a range, and those that come into it if they are cut.
func edges(s span) []int {
	out := []int{s.least - 1, s.least, s.least + 1, s.most - 1, s.most, s.most + 1, 0, 1, -1, -s.most, s.most * 2, 128, 256, 400, 401, math.MaxInt32, math.MinInt32, math.MaxInt, math.MinInt}
	for _, shift := range []int{7, 8, 16, 31, 32, 35, 62} {
		out = append(out, s.least+1<<shift, s.most+1<<shift, s.least-1<<shift)
	}
	return out
}

// atEdges is records of each kind in which one field has another value: each number that is an edge, each flag, and each hash in which one byte is set.
func atEdges() []api.Rec {
	var out []api.Rec
	for _, base := range slices.Concat(ordinary(), atEnds(false), atEnds(true)) {
		for _, name := range fields() {
			put := func(v any) {
				x := base
				field(&x, name).Set(reflect.ValueOf(v))
				out = append(out, x)
			}
			switch field(&base, name).Interface().(type) {
			case int:
				for _, n := range edges(words[base.Kind].ranges[name]) {
					put(n)
				}
			case bool:
				put(false)
				put(true)
			case api.Hash:
				put(api.Hash{})
				for i := range 32 {
					put(withByte(i, 1))
				}
			}
		}
	}
	return out
}

// listEdges is Begins, and others, with lists that aren't as they must be, and some that are.
func listEdges() []api.Rec {
	var out []api.Rec
	for _, x := range ordinary() {
		for n := range 10 {
			x.Steps = steps(n)
			out = append(out, x)
		}
		x.Steps = make([]api.Step, 7)
		out = append(out, x)
		for at := range 6 {
			for _, n := range edges(span{0, 3}) {
				x.Steps = steps(6)
				x.Steps[at].Part = n
				out = append(out, x)
				x.Steps = steps(6)
				x.Steps[at].Kind = n
				out = append(out, x)
			}
		}
	}
	for _, x := range ordinary() {
		for _, n := range []int{0, 1, 59, 60, 61, 62, 120, 128, 188, 256, 257, 316, 1000} {
			x.Data = sample(n)
			out = append(out, x)
		}
	}
	return out
}

// byLot is a record whose fields are each empty, or right for some kind, or near to that.
func byLot(random *rand.Rand) api.Rec {
	x := api.Rec{Kind: random.Intn(8)}
	if random.Intn(8) > 0 {
		x = ordinary()[random.Intn(7)]
	}
	for range random.Intn(4) {
		name := fields()[random.Intn(len(fields()))]
		switch f := field(&x, name); f.Interface().(type) {
		case int:
			f.SetInt(int64(random.Intn(15) - 1))
		case bool:
			f.SetBool(random.Intn(2) == 0)
		case api.Hash:
			f.Set(reflect.ValueOf(withByte(random.Intn(32), byte(random.Intn(3)))))
		case []api.Step:
			x.Steps = nil
			for range random.Intn(8) {
				x.Steps = append(x.Steps, api.Step{Part: random.Intn(41) / 10, Kind: 1 + random.Intn(31)/10})
			}
		case []byte:
			x.Data = sample(random.Intn(64))
		}
	}
	return x
}

// all is right records and others, of every sort.
func all() []api.Rec {
	out := slices.Concat(ordinary(), atEnds(false), atEnds(true), begins(), atEdges(), listEdges())
	for _, kind := range []int{-1, 0, 7, 8, 255, 256, 257, 262, 1 << 32, 1<<32 + 1, -6, math.MaxInt, math.MinInt} {
		for _, x := range append(ordinary(), api.Rec{}) {
			x.Kind = kind
			out = append(out, x)
		}
	}
	random := rand.New(rand.NewSource(4))
	for range 5000 {
		out = append(out, byLot(random))
	}
	return out
}

// rights is the right ones of all.
func rights() []api.Rec {
	return slices.DeleteFunc(all(), func(x api.Rec) bool { return !wordsRight(x) })
}

// same says whether two records are, with nil lists and empty ones one.
func same(a, b api.Rec) bool {
	for _, x := range []*api.Rec{&a, &b} {
		x.Steps = append([]api.Step{}, x.Steps...)
		x.Data = append([]byte{}, x.Data...)
	}
	return reflect.DeepEqual(a, b)
}

// checkReads holds what is read of b against the record, or the error, that is wanted: by Get, and by a reader that stands behind it then or is bad.
func checkReads(t *testing.T, b []byte, want api.Rec, e api.Errno) {
	t.Helper()
	if x, got := Get(b); got != e || !same(x, want) {
		t.Errorf("Get(%x): %+v, error %d; want %+v, error %d", b, x, got, want, e)
	}
	r := wire.Read(b)
	x := Read(r)
	if r.Done() != e || r.Left() > 0 && e != api.ErrForm {
		t.Errorf("Read(%x): the reader's Done is %d, %d left; want %d", b, r.Done(), r.Left(), e)
	}
	if r.Bad() == api.OK && !wordsRight(x) || r.Bad() != api.OK && !same(x, api.Rec{}) {
		t.Errorf("Read(%x): %+v, bad by %d", b, x, r.Bad())
	}
}

// unhex is bytes by their digits, with white space among them.
func unhex(t *testing.T, digits string) []byte {
	t.Helper()
	out, err := hex.DecodeString(strings.Join(strings.Fields(digits), ""))
	if err != nil {
		t.Fatal(err)
	}
	return out
}

// P4.1: records of each kind are right, at both ends of each range too.
func TestRightOrdinary(t *testing.T) {
	for _, x := range slices.Concat(ordinary(), atEnds(false), atEnds(true), begins()) {
		if !Right(x) {
			t.Errorf("%+v isn't right", x)
		}
	}
}

// P4.1: each field at the ends of its range and beyond, each that the kind hasn't, lists too short and too long, unknown kinds; held against the words of the chapter.
func TestRightByWords(t *testing.T) {
	counts := map[bool]int{}
	for _, x := range all() {
		want := wordsRight(x)
		counts[want]++
		if Right(x) != want {
			t.Errorf("%+v: right is %v", x, !want)
		}
	}
	if counts[true] < 1000 || counts[false] < 1000 {
		t.Errorf("%d right records and %d others are too few", counts[true], counts[false])
	}
}

// P4.1: ranges, by heart.
func TestRightByHeart(t *testing.T) {
	one := []api.Step{{Kind: 1}}
	for _, x := range []struct {
		x    api.Rec
		want bool
	}{
		{api.Rec{Kind: 1, Steps: one}, true},
		{api.Rec{Kind: 1, Steps: one, Saga: 11}, true},
		{api.Rec{Kind: 1, Steps: one, Saga: 12}, false},
		{api.Rec{Kind: 1, Steps: one, Saga: -1}, false},
		{api.Rec{Kind: 1, Steps: one, Seq: 1}, false},
		{api.Rec{Kind: 1}, false},
		{api.Rec{Kind: 1, Steps: []api.Step{}}, false},
		{api.Rec{Kind: 1, Steps: steps(6)}, true},
		{api.Rec{Kind: 1, Steps: steps(7)}, false},
		{api.Rec{Kind: 1, Steps: []api.Step{{Kind: 0}}}, false},
		{api.Rec{Kind: 1, Steps: []api.Step{{Kind: 3, Part: 3}}}, true},
		{api.Rec{Kind: 1, Steps: []api.Step{{Kind: 4}}}, false},
		{api.Rec{Kind: 1, Steps: []api.Step{{Kind: 1, Part: 4}}}, false},
		{api.Rec{Kind: 1, Steps: []api.Step{{Kind: 1, Part: -1}}}, false},
		{api.Rec{Kind: 1, Steps: one, Data: make([]byte, 60)}, true},
		{api.Rec{Kind: 1, Steps: one, Data: make([]byte, 61)}, false},
		{api.Rec{Kind: 1, Steps: one, Gone: true}, true},
		{api.Rec{Kind: 1, Steps: one, Gone: true, Com: api.Hash{1}}, true},
		{api.Rec{Kind: 1, Steps: one, Gone: true, Data: []byte{0}}, false},
		{api.Rec{Kind: 1, Steps: one, Gone: true, Data: []byte{}}, true},
		{api.Rec{Kind: 1, Steps: one, Gone: true, Salt: api.Hash{31: 1}}, false},
		{api.Rec{Kind: 1, Steps: one, Com: api.Hash{31: 1}}, false},
		{api.Rec{Kind: 2, Seq: 1, Try: 1}, true},
		{api.Rec{Kind: 2, Seq: 1, Try: 1, Steps: []api.Step{}, Data: []byte{}}, true},
		{api.Rec{Kind: 2, Seq: 0, Try: 1}, false},
		{api.Rec{Kind: 2, Seq: 400, Try: 9, Step: 5, Saga: 11, Back: true}, true},
		{api.Rec{Kind: 2, Seq: 401, Try: 1}, false},
		{api.Rec{Kind: 2, Seq: 1, Try: 0}, false},
		{api.Rec{Kind: 2, Seq: 1, Try: 10}, false},
		{api.Rec{Kind: 2, Seq: 1, Try: 1, Step: 6}, false},
		{api.Rec{Kind: 2, Seq: 1, Try: 1, Good: true}, false},
		{api.Rec{Kind: 2, Seq: 1, Try: 1, Gone: true}, false},
		{api.Rec{Kind: 3, Seq: 1, Try: 1}, true},
		{api.Rec{Kind: 3, Seq: 1, Try: 1, Part: 3, Epoch: 400, Good: true}, true},
		{api.Rec{Kind: 3, Seq: 1, Try: 1, Part: 4}, false},
		{api.Rec{Kind: 3, Seq: 1, Try: 1, Epoch: 401}, false},
		{api.Rec{Kind: 3, Seq: 1, Try: 1, Epoch: -1}, false},
		{api.Rec{Kind: 3, Seq: 1, Try: 1, End: 2}, false},
		{api.Rec{Kind: 3, Seq: 1, Try: 0}, false},
		{api.Rec{Kind: 3, Seq: 0, Try: 1}, false},
		{api.Rec{Kind: 4, Seq: 1, Try: 9}, true},
		{api.Rec{Kind: 4, Seq: 1, Try: 9, Part: 1}, false},
		{api.Rec{Kind: 4, Seq: 1, Try: 9, Tag: api.Hash{1}}, false},
		{api.Rec{Kind: 5, Seq: 1, End: 1}, false},
		{api.Rec{Kind: 5, Seq: 1, End: 2}, true},
		{api.Rec{Kind: 5, Seq: 1, End: 4}, true},
		{api.Rec{Kind: 5, Seq: 1, End: 5}, false},
		{api.Rec{Kind: 5, Seq: 0, End: 2}, false},
		{api.Rec{Kind: 5, Seq: 1, End: 2, Back: true}, false},
		{api.Rec{Kind: 6, Epoch: 0}, false},
		{api.Rec{Kind: 6, Epoch: 1}, true},
		{api.Rec{Kind: 6, Epoch: 400, Part: 3}, true},
		{api.Rec{Kind: 6, Epoch: 401}, false},
		{api.Rec{Kind: 6, Epoch: 1, Saga: 1}, false},
		{api.Rec{Kind: 6, Epoch: 1, Steps: one}, false},
		{api.Rec{}, false},
		{api.Rec{Kind: 7, Epoch: 1}, false},
		{api.Rec{Kind: -1, Epoch: 1}, false},
	} {
		if Right(x.x) != x.want {
			t.Errorf("%+v: right is %v", x.x, !x.want)
		}
	}
}

// P4.1: a commitment, byte by byte; that of a redacted record is its Com.
func TestComKnown(t *testing.T) {
	one := []api.Step{{Kind: 1}}
	salt := api.Hash(bytes.Repeat([]byte{7}, 32))
	for i, x := range []struct {
		x    api.Rec
		text string
	}{
		{api.Rec{Kind: 1, Steps: one}, "\x04\x00\x00\x00\x20" + strings.Repeat("\x00", 32) + "\x00\x00\x00\x00"},
		{api.Rec{Kind: 1, Steps: one, Data: []byte("abc"), Salt: salt}, "\x04\x00\x00\x00\x20" + strings.Repeat("\x07", 32) + "\x00\x00\x00\x03abc"},
		{api.Rec{Kind: 1, Steps: steps(6), Saga: 11, Data: make([]byte, 60), Salt: salt}, "\x04\x00\x00\x00\x20" + strings.Repeat("\x07", 32) + "\x00\x00\x00\x3c" + strings.Repeat("\x00", 60)},
	} {
		if got := Com(x.x); got != sha256.Sum256([]byte(x.text)) {
			t.Errorf("%d: %x", i, got)
		}
	}
	gone := api.Rec{Kind: 1, Steps: one, Gone: true, Com: salt}
	if Com(gone) != salt {
		t.Errorf("redacted: %x", Com(gone))
	}
}

// P4.1: commitments of right Begins, zeros of all others.
func TestComByWords(t *testing.T) {
	for _, x := range all() {
		var want api.Hash
		if x.Kind == api.Begin && wordsRight(x) {
			want = wordsCom(x)
		}
		if got := Com(x); got != want {
			t.Errorf("%+v: %x, want %x", x, got, want)
		}
	}
}

// P4.1: a commitment tells each byte of salt and payload, and where they are cut.
func TestComTellsApart(t *testing.T) {
	seen := map[api.Hash]int{}
	x := api.Rec{Kind: api.Begin, Steps: steps(1)}
	for i := range 60 {
		x.Salt, x.Data = api.Hash{}, make([]byte, i+1)
		seen[Com(x)]++
		x.Data = make([]byte, 60)
		x.Data[i] = 1
		seen[Com(x)]++
		x.Salt = withByte(i%32, byte(1+i/32))
		x.Data = nil
		seen[Com(x)]++
	}
	if len(seen) != 180 {
		t.Errorf("%d commitments of 180 payloads", len(seen))
	}
}

// P4.1: what a redacted record is, of each kind; one that isn't right is itself.
func TestRedact(t *testing.T) {
	for _, x := range all() {
		want := x
		if x.Kind == api.Begin && wordsRight(x) {
			want = api.Rec{Kind: api.Begin, Saga: x.Saga, Steps: x.Steps, Gone: true, Com: wordsCom(x)}
		}
		got := Redact(x)
		if !same(got, want) {
			t.Errorf("%+v: %+v, want %+v", x, got, want)
		}
		if Right(got) != wordsRight(x) || Com(got) != Com(x) || !same(Redact(got), got) {
			t.Errorf("%+v: redacted, it isn't right, or has another commitment, or is another one when it is redacted again", x)
		}
	}
}

// P4.1: the same all through; a difference in any field shows, of records that aren't right too.
func TestSame(t *testing.T) {
	for _, a := range slices.Concat(ordinary(), []api.Rec{{}, {Kind: 9, Steps: steps(8), Data: sample(70)}}) {
		b := a
		b.Steps, b.Data = slices.Clone(a.Steps), slices.Clone(a.Data)
		if !Same(a, b) || !Same(b, a) || !Same(a, a) {
			t.Errorf("%+v isn't itself", a)
		}
		for _, name := range append(fields(), "Kind") {
			for _, c := range others(b, name) {
				if Same(a, c) || Same(c, a) {
					t.Errorf("%+v: %s doesn't tell", a, name)
				}
			}
		}
	}
}

// others is x with other values in a field: numbers above, below, and above by a power of two; each bit of a hash; lists longer, shorter, in another order, and with another thing at each place.
func others(x api.Rec, name string) []api.Rec {
	var out []api.Rec
	put := func(v any) {
		c := x
		field(&c, name).Set(reflect.ValueOf(v))
		out = append(out, c)
	}
	switch v := field(&x, name).Interface().(type) {
	case int:
		for _, n := range []int{v + 1, v - 1, v + 1<<8, v + 1<<32, v ^ math.MinInt} {
			put(n)
		}
	case bool:
		put(!v)
	case api.Hash:
		for i := range 256 {
			h := v
			h[i/8] ^= 1 << (i % 8)
			put(h)
		}
	case []api.Step:
		put(append(slices.Clone(v), api.Step{}))
		for i := range v {
			put(v[:i])
			for _, s := range []api.Step{{Part: v[i].Part + 1, Kind: v[i].Kind}, {Part: v[i].Part, Kind: v[i].Kind - 1}, {Part: v[i].Kind + 9, Kind: v[i].Part}} {
				c := slices.Clone(v)
				c[i] = s
				put(c)
			}
		}
		if len(v) > 1 {
			put(append(slices.Clone(v[1:]), v[0]))
		}
	case []byte:
		put(append(slices.Clone(v), 0))
		for i := range v {
			put(v[:i])
			c := slices.Clone(v)
			c[i] ^= 0x10
			put(c)
		}
	}
	return out
}

// P4.1: nil and empty lists are the same, with room behind them or not; an empty one isn't one of zeros.
func TestSameOfEmptyLists(t *testing.T) {
	lists := []api.Rec{{}, {Steps: []api.Step{}}, {Data: []byte{}}, {Steps: []api.Step{}, Data: []byte{}}, {Steps: make([]api.Step, 0, 9), Data: sample(9)[:0]}}
	for i, a := range lists {
		for j, b := range lists {
			if !Same(a, b) {
				t.Errorf("%d and %d differ", i, j)
			}
		}
		if Same(a, api.Rec{Data: []byte{0}}) || Same(api.Rec{Steps: []api.Step{{}}}, a) {
			t.Errorf("%d is one of zeros", i)
		}
	}
}

// P4.2: bytes of each kind, by heart.
func TestBytesKnown(t *testing.T) {
	tag, salt := api.Hash(bytes.Repeat([]byte{0xab}, 32)), api.Hash(bytes.Repeat([]byte{0xcd}, 32))
	tags, salts := strings.Repeat("ab", 32), strings.Repeat("cd", 32)
	begin := api.Rec{Kind: api.Begin, Saga: 11, Steps: []api.Step{{Part: 3, Kind: 1}, {Part: 0, Kind: 2}, {Part: 1, Kind: 3}}, Data: []byte("pay"), Salt: salt}
	com := sha256.Sum256(slices.Concat([]byte{4, 0, 0, 0, 32}, salt[:], []byte{0, 0, 0, 3}, []byte("pay")))
	coms := hex.EncodeToString(com[:])
	bare := api.Rec{Kind: api.Begin, Steps: []api.Step{{Part: 2, Kind: 1}}, Gone: true, Com: tag}
	for _, x := range []struct {
		x            api.Rec
		sealed, open string
	}{
		{begin, "01 0b 03 0301 0002 0103" + coms, "01 0b 03 0301 0002 0103 00" + salts + "03 706179"},
		{Redact(begin), "01 0b 03 0301 0002 0103" + coms, "01 0b 03 0301 0002 0103 01" + coms},
		{bare, "01 00 01 0201" + tags, "01 00 01 0201 01" + tags},
		{api.Rec{Kind: api.Intent, Saga: 1, Seq: 2, Step: 3, Try: 4}, "02 01 02 03 04 00", ""},
		{api.Rec{Kind: api.Intent, Saga: 11, Seq: 400, Step: 5, Try: 9, Back: true}, "02 0b 8310 05 09 01", ""},
		{api.Rec{Kind: api.Receipt, Saga: 1, Seq: 127, Step: 3, Try: 4, Good: true, Part: 2, Epoch: 128, Tag: tag}, "03 01 7f 03 04 00 01 02 8100" + tags, ""},
		{api.Rec{Kind: api.Receipt, Seq: 128, Try: 1, Back: true, Epoch: 0}, "03 00 8100 00 01 01 00 00 00" + strings.Repeat("00", 32), ""},
		{api.Rec{Kind: api.Lapse, Saga: 1, Seq: 2, Step: 3, Try: 4, Back: true}, "04 01 02 03 04 01", ""},
		{api.Rec{Kind: api.Closed, Saga: 7, Seq: 129, End: api.Committed}, "05 07 8101 02", ""},
		{api.Rec{Kind: api.Rotate, Part: 1, Epoch: 2}, "06 01 02", ""},
		{api.Rec{Kind: api.Rotate, Part: 3, Epoch: 400}, "06 03 8310", ""},
	} {
		if x.open == "" {
			x.open = x.sealed
		}
		if got := Sealed(x.x); !bytes.Equal(got, unhex(t, x.sealed)) {
			t.Errorf("%+v: sealed %x", x.x, got)
		}
		if got := Open(x.x); !bytes.Equal(got, unhex(t, x.open)) {
			t.Errorf("%+v: open %x", x.x, got)
		}
		checkReads(t, unhex(t, x.open), x.x, api.OK)
	}
}

// P4.2: right records' bytes, held against the words of the chapter; none of others.
func TestBytesByWords(t *testing.T) {
	for _, x := range all() {
		var sealed, open []byte
		if wordsRight(x) {
			sealed, open = wordsBytes(x, false), wordsBytes(x, true)
		}
		if got := Sealed(x); !bytes.Equal(got, sealed) {
			t.Errorf("%+v: sealed %x, want %x", x, got, sealed)
		}
		if got := Open(x); !bytes.Equal(got, open) {
			t.Errorf("%+v: open %x, want %x", x, got, open)
		}
	}
}

// P4.3: a record is read again from its open bytes.
func TestReadAgain(t *testing.T) {
	for _, x := range rights() {
		checkReads(t, Open(x), x, api.OK)
	}
}

// P4.3: records stand one behind the other: what is behind one is left, and read next.
func TestReadOneBehindTheOther(t *testing.T) {
	list := slices.Concat(ordinary(), atEnds(false), atEnds(true), begins())
	var b []byte
	for _, x := range list {
		b = append(b, Open(x)...)
	}
	r, left := wire.Read(append(b, 0x99)), len(b)+1
	for i, x := range list {
		left -= len(Open(x))
		if got := Read(r); !Same(got, x) || r.Bad() != api.OK || r.Left() != left {
			t.Fatalf("%d: %+v, bad by %d, %d left; want %+v, %d left", i, got, r.Bad(), r.Left(), x, left)
		}
	}
	if r.Left() != 1 || !same(Read(r), api.Rec{}) || r.Bad() != api.ErrShort {
		t.Errorf("at the end: bad by %d", r.Bad())
	}
}

// P4.2: bytes that are cut short anywhere, or that have one more.
func TestReadCutAndLonger(t *testing.T) {
	for _, x := range slices.Concat(ordinary(), atEnds(false), atEnds(true), begins()) {
		b := Open(x)
		for n := range b {
			checkReads(t, b[:n], api.Rec{}, api.ErrShort)
		}
		for _, more := range []byte{0, 1, 0x80, 0xff} {
			checkReads(t, append(slices.Clone(b), more), api.Rec{}, api.ErrForm)
			r := wire.Read(append(slices.Clone(b), more))
			if got := Read(r); !same(got, x) || r.Bad() != api.OK || r.Left() != 1 {
				t.Errorf("%x, and %x behind it: %+v, bad by %d, %d left", b, more, got, r.Bad(), r.Left())
			}
		}
	}
}

// P4.2: what is wrong, and by which error: the first thing that isn't there, a kind and too many steps as soon as they are read, the rest at the end.
func TestReadWrong(t *testing.T) {
	hash := strings.Repeat("ee", 32)
	part := strings.Repeat("ee", 31)
	for _, x := range []struct {
		b string
		e api.Errno
	}{
		{"", api.ErrShort},
		{"00", api.ErrForm}, {"07", api.ErrForm}, {"7f", api.ErrForm}, {"8101", api.ErrForm}, {"8206", api.ErrForm}, {"87ffffff7f", api.ErrForm},
		{"80", api.ErrForm}, {"8001", api.ErrForm}, {"81", api.ErrShort}, {"8880808000", api.ErrForm}, {"9080808001", api.ErrForm},
		{"07 80", api.ErrForm}, {"00 00 00", api.ErrForm},
		{"01", api.ErrShort}, {"01 0c", api.ErrShort}, {"01 80", api.ErrForm}, {"01 81", api.ErrShort},
		{"01 00 07", api.ErrForm}, {"01 0c 07", api.ErrForm}, {"01 00 8106", api.ErrForm}, {"01 00 87ffffff7f", api.ErrForm},
		{"01 00 81", api.ErrShort}, {"01 00 80", api.ErrForm},
		{"01 00 00", api.ErrShort}, {"01 00 00 00", api.ErrShort}, {"01 00 00 02", api.ErrForm},
		{"01 00 00 00" + hash + "00", api.ErrForm}, {"01 00 00 00" + hash + "3d", api.ErrLong}, {"01 00 00 01" + hash, api.ErrForm}, {"01 00 00 01" + part, api.ErrShort},
		{"01 00 06 00", api.ErrShort}, {"01 00 01 04", api.ErrShort}, {"01 00 01 04 04", api.ErrShort}, {"01 00 01 04 80", api.ErrForm},
		{"01 00 01 00 01 02", api.ErrForm}, {"01 00 01 00 01 80", api.ErrForm},
		{"01 00 01 00 01 00" + part, api.ErrShort}, {"01 00 01 00 01 01" + part, api.ErrShort},
		{"01 00 01 00 01 00" + hash + "00", api.OK}, {"01 00 01 00 01 01" + hash, api.OK},
		{"01 0b 01 03 03 00" + hash + "00", api.OK}, {"01 0c 01 00 01 00" + hash + "00", api.ErrForm}, {"01 8100 01 00 01 01" + hash, api.ErrForm},
		{"01 00 01 04 01 00" + hash + "00", api.ErrForm}, {"01 00 01 00 00 00" + hash + "00", api.ErrForm}, {"01 00 01 00 04 01" + hash, api.ErrForm},
		{"01 00 01 00 01 00" + hash + "3c" + strings.Repeat("01", 60), api.OK}, {"01 00 01 00 01 00" + hash + "3c" + strings.Repeat("01", 59), api.ErrShort},
		{"01 00 01 00 01 00" + hash + "3d" + strings.Repeat("01", 61), api.ErrLong}, {"01 00 01 00 01 00" + hash + "3d", api.ErrLong},
		{"01 00 01 00 01 00" + hash + "87ffffff7f", api.ErrLong}, {"01 00 01 00 01 00" + hash + "80", api.ErrForm}, {"01 00 01 00 01 00" + hash + "81", api.ErrShort},
		{"01 0c 01 09 09 00" + hash + "3d", api.ErrLong}, {"01 0c 01 09 09 00" + hash + "02 01", api.ErrShort}, {"01 0c 01 09 09 02" + hash, api.ErrForm},
		{"01 00 01 00 01 00" + hash + "00 00", api.ErrForm}, {"01 00 01 00 01 01" + hash + "00", api.ErrForm},
		{"02 00 01 00 01 00", api.OK}, {"02 00 01 00 01 01", api.OK}, {"02 00 01 00 01 02", api.ErrForm}, {"02 00 01 00 01 81", api.ErrForm},
		{"02 0c 01 00 01 00", api.ErrForm}, {"02 0c 01 00 01", api.ErrShort}, {"02 00 00 00 01 00", api.ErrForm}, {"02 00 8310 00 01 00", api.OK}, {"02 00 8311 00 01 00", api.ErrForm},
		{"02 00 01 05 01 00", api.OK}, {"02 00 01 06 01 00", api.ErrForm}, {"02 00 01 00 00 00", api.ErrForm}, {"02 00 01 00 09 00", api.OK}, {"02 00 01 00 0a 00", api.ErrForm},
		{"02 00 8001 00 01 00", api.ErrForm}, {"02 7f 7f 7f 7f", api.ErrShort}, {"02 7f 7f 7f 81", api.ErrShort}, {"02 8880808000", api.ErrForm},
		{"03 00 01 00 01 00 00 00 00" + hash, api.OK}, {"03 00 01 00 01 01 01 03 8310" + hash, api.OK},
		{"03 00 01 00 01 00 00 04 00" + hash, api.ErrForm}, {"03 00 01 00 01 00 00 00 8311" + hash, api.ErrForm}, {"03 00 01 00 01 00 02 00 00" + hash, api.ErrForm},
		{"03 0c 00 06 00 00 00 04 8311" + part, api.ErrShort}, {"03 0c 00 06 00 00 00 04 8311" + hash, api.ErrForm}, {"03 00 01 00 01 00 00 00 00" + hash + "00", api.ErrForm},
		{"04 00 01 00 01 00", api.OK}, {"04 00 01 00 01 01", api.OK}, {"04 0c 01 00 01 00", api.ErrForm}, {"04 00 01 00 01 00 00", api.ErrForm},
		{"05 00 01 01", api.ErrForm}, {"05 00 01 02", api.OK}, {"05 0b 8310 04", api.OK}, {"05 00 01 05", api.ErrForm}, {"05 00 00 02", api.ErrForm}, {"05 0c 00", api.ErrShort}, {"05 0c 01 02", api.ErrForm},
		{"06 00 00", api.ErrForm}, {"06 00 01", api.OK}, {"06 03 8310", api.OK}, {"06 03 8311", api.ErrForm}, {"06 04 01", api.ErrForm}, {"06 04", api.ErrShort}, {"06 04 80", api.ErrForm}, {"06 00 01 00", api.ErrForm},
	} {
		b := unhex(t, x.b)
		if _, e := Get(b); e != x.e {
			t.Errorf("%s: error %d, want %d", x.b, e, x.e)
		}
		want, e := wordsGet(b)
		checkReads(t, b, want, e)
	}
}

// P4.2: a payload's number of bytes tells by itself that it is too long.
func TestReadDataLimit(t *testing.T) {
	head := append([]byte{1, 0, 1, 0, 1, 0}, make([]byte, 32)...)
	for n := range 200 {
		b := slices.Concat(head, wordsNum(n), sample(n))
		want, e := api.Rec{Kind: api.Begin, Steps: []api.Step{{Kind: 1}}, Data: sample(n)}, api.OK
		if n > 60 {
			want, e = api.Rec{}, api.ErrLong
			checkReads(t, b[:len(b)-n], want, e)
		}
		checkReads(t, b, want, e)
	}
}

// P4.2 and P4.3: bytes by lot, and those of right records with some changed, held against the words of the chapter: what is read is put as the same.
func TestReadByLot(t *testing.T) {
	random := rand.New(rand.NewSource(6))
	list, read := rights(), 0
	for range 50000 {
		b := Open(list[random.Intn(len(list))])
		for range 1 + random.Intn(3) {
			at := random.Intn(len(b))
			switch random.Intn(6) {
			case 0:
				b = b[:max(at, 1)]
			case 1:
				b = slices.Insert(b, at, byte(random.Intn(256)))
			case 2:
				b[at] ^= 0x80
			default:
				b[at] = byte(random.Intn(14))
			}
		}
		want, e := wordsGet(b)
		checkReads(t, b, want, e)
		if e == api.OK {
			read++
			if !bytes.Equal(Open(want), b) {
				t.Errorf("%x is put as %x", b, Open(want))
			}
		}
	}
	if read < 2500 {
		t.Errorf("only %d of them are read", read)
	}
	for range 50000 {
		b := make([]byte, random.Intn(12))
		for i := range b {
			b[i] = byte(random.Intn(8))
		}
		want, e := wordsGet(b)
		checkReads(t, b, want, e)
	}
}

// P4.2: a reader that was bad stays so by its error; a nil one is none. Nothing is read.
func TestReadOfBadReaders(t *testing.T) {
	for e := api.ErrArg; e <= api.ErrNone; e++ {
		for _, b := range append([][]byte{nil, {0}, {7}}, Open(ordinary()[0]), Open(ordinary()[6])) {
			r := wire.Read(b)
			r.Fail(e)
			for range 2 {
				if x := Read(r); !same(x, api.Rec{}) || r.Bad() != e || r.Done() != e || r.Left() != 0 {
					t.Errorf("bad by %d: %+v, bad by %d", e, x, r.Bad())
				}
			}
		}
	}
	var none *wire.Reader
	if x := Read(none); !same(x, api.Rec{}) || none.Bad() != api.ErrArg {
		t.Errorf("nil: %+v", x)
	}
}

// P4.2: a reader that turns bad by one record reads no other one.
func TestReadBehindWrong(t *testing.T) {
	r := wire.Read([]byte{6, 0, 1, 6, 4, 1, 6, 0, 2})
	for i, want := range []api.Rec{{Kind: api.Rotate, Epoch: 1}, {}, {}} {
		if x := Read(r); !same(x, want) {
			t.Errorf("%d: %+v", i, x)
		}
	}
	if r.Bad() != api.ErrForm || r.Left() != 0 {
		t.Errorf("bad by %d, %d left", r.Bad(), r.Left())
	}
}

// P4.2: no bytes, nil or empty.
func TestGetOfNothing(t *testing.T) {
	for _, b := range [][]byte{nil, {}, sample(9)[:0]} {
		checkReads(t, b, api.Rec{}, api.ErrShort)
	}
}

// P4.3: what is redacted has the same sealed bytes, and no payload in its open ones.
func TestRedactedBytes(t *testing.T) {
	for _, x := range rights() {
		y := Redact(x)
		if !bytes.Equal(Sealed(x), Sealed(y)) {
			t.Errorf("%+v: redacted, it is sealed otherwise", x)
		}
		checkReads(t, Open(y), y, api.OK)
		if x.Kind != api.Begin {
			continue
		}
		if open := Open(y); len(open) != 1+1+1+2*len(x.Steps)+1+32 || len(x.Data) > 3 && bytes.Contains(open, x.Data) || x.Salt != (api.Hash{}) && bytes.Contains(open, x.Salt[:]) {
			t.Errorf("%+v: redacted, its open bytes are %x", x, open)
		}
	}
}

// P4.3: open bytes of a redacted record hang on the payload by its commitment alone.
func TestRedactedBytesHangOnCom(t *testing.T) {
	for _, x := range begins() {
		bare := api.Rec{Kind: api.Begin, Saga: x.Saga, Steps: x.Steps, Gone: true, Com: Com(x)}
		if !Same(Redact(x), bare) || !bytes.Equal(Open(Redact(x)), Open(bare)) || !bytes.Equal(Sealed(x), Sealed(bare)) {
			t.Errorf("%+v isn't told by its commitment", x)
		}
	}
}

// P4.3: two right records have the same sealed bytes just if they are the same, redacted, and the same open ones just if they are the same.
func TestSealedTellsApart(t *testing.T) {
	list := rights()
	for _, x := range slices.Concat(ordinary(), atEnds(false), atEnds(true)) {
		list = append(list, Redact(x))
		for _, name := range fields() {
			list = append(list, others(x, name)...)
		}
	}
	sealed, open, redacted := map[string]api.Rec{}, map[string]api.Rec{}, map[string]string{}
	for _, x := range list {
		if !Right(x) {
			continue
		}
		text, full, y := string(Sealed(x)), string(Open(x)), Redact(x)
		if other, twice := sealed[text]; twice && !same(other, y) {
			t.Errorf("%+v and %+v have the same sealed bytes", other, y)
		}
		if other, twice := open[full]; twice && !same(other, x) {
			t.Errorf("%+v and %+v have the same open bytes", other, x)
		}
		name := string(wordsBytes(y, true))
		if other, twice := redacted[name]; twice && other != text {
			t.Errorf("%+v has two sealed bytes: %x and %x", y, other, text)
		}
		sealed[text], open[full], redacted[name] = y, x, text
	}
	if len(sealed) < 1000 || len(sealed) != len(redacted) {
		t.Errorf("%d sealed bytes of %d records", len(sealed), len(redacted))
	}
}

// guarded is x with marked room behind its lists, and a check that lists and room are as they were.
func guarded(t *testing.T, x api.Rec) (api.Rec, func()) {
	t.Helper()
	list := append(slices.Clone(x.Steps), slices.Repeat([]api.Step{{Part: 77, Kind: 88}}, 8)...)
	data := append(slices.Clone(x.Data), bytes.Repeat([]byte{0xa5}, 80)...)
	x.Steps, x.Data = list[:len(x.Steps)], data[:len(x.Data)]
	keptList, keptData := slices.Clone(list), slices.Clone(data)
	return x, func() {
		t.Helper()
		if !slices.Equal(list, keptList) || !bytes.Equal(data, keptData) {
			t.Errorf("%+v was changed, or the room behind its lists", x)
		}
	}
}

// spoil overwrites an answer's list, and all its spare room, which nobody else may see.
func spoil[T any](list []T, with T) {
	list = list[:cap(list)]
	for i := range list {
		list[i] = with
	}
}

// spoilRec spoils the lists of a record.
func spoilRec(x api.Rec) {
	spoil(x.Steps, api.Step{Part: -5, Kind: -6})
	spoil(x.Data, 0x5a)
}

// someOfAll is records of every sort, few enough to go through often.
func someOfAll() []api.Rec {
	random := rand.New(rand.NewSource(8))
	out := slices.Concat(ordinary(), atEnds(false), atEnds(true), begins(), listEdges())
	for range 500 {
		out = append(out, byLot(random))
	}
	return out
}

// Rule 4: what is handed in, its spare room included, is left as it is, and answers are new memory.
func TestWhatIsHandedInStays(t *testing.T) {
	for _, plain := range someOfAll() {
		x, stays := guarded(t, plain)
		Right(x)
		Com(x)
		Same(x, x)
		Same(x, plain)
		spoilRec(Redact(x))
		spoil(Sealed(x), 0x5a)
		spoil(Open(x), 0x5a)
		stays()
		if !same(x, plain) {
			t.Errorf("%+v was changed", plain)
		}
	}
}

// Rule 4: two answers to the same share nothing, and what is done to one doesn't turn the next.
func TestAnswersAreNew(t *testing.T) {
	for _, x := range someOfAll() {
		sealed, open, bare := Sealed(x), Open(x), Redact(x)
		keptSealed, keptOpen := slices.Clone(sealed), slices.Clone(open)
		spoil(Sealed(x), 0x5a)
		spoil(Open(x), 0x5a)
		spoilRec(Redact(x))
		if !bytes.Equal(sealed, keptSealed) || !bytes.Equal(open, keptOpen) || !same(bare, Redact(x)) {
			t.Errorf("%+v: two answers share memory", x)
		}
		again := Redact(x)
		spoilRec(x)
		if !same(again, bare) {
			t.Errorf("redacted, %+v shares memory with what was handed in", again)
		}
	}
}

// Rule 4: bytes that are read, and what stands behind them, stay; a record that was read hangs on them no more.
func TestReadLeavesItsBytes(t *testing.T) {
	for _, x := range someOfAll() {
		if !Right(x) {
			continue
		}
		open := Open(x)
		whole := append(slices.Clone(open), bytes.Repeat([]byte{0xa5}, 80)...)
		kept := slices.Clone(whole)
		r := wire.Read(whole[:len(open)])
		one, other := Read(r), Read(wire.Read(whole[:len(open)]))
		got, e := Get(whole[:len(open)])
		spoilRec(one)
		if !bytes.Equal(whole, kept) {
			t.Errorf("%x was changed, or the room behind it", open)
		}
		spoil(whole, 0x5a)
		if e != api.OK || !same(got, x) || !same(other, x) {
			t.Errorf("%+v: what was read hangs on its bytes, or on another answer", x)
		}
	}
}

// Rule 6: what is answered is the same each time, whatever was asked ahead of it.
func TestNothingIsKept(t *testing.T) {
	list := someOfAll()
	tell := func(x api.Rec) string {
		com, open := Com(x), Open(x)
		Get(open[:len(open)/2])
		return string(slices.Concat(com[:], open, Sealed(x)))
	}
	var told []string
	for _, x := range list {
		told = append(told, tell(x))
	}
	for i, x := range slices.Backward(list) {
		if tell(x) != told[i] {
			t.Errorf("%+v: the answers differ from the first time", x)
		}
	}
}

// Rule 6: calls at the same time don't hang on each other.
func TestCallsAtTheSameTime(t *testing.T) {
	for _, x := range ordinary() {
		t.Run("", func(t *testing.T) {
			t.Parallel()
			for range 200 {
				if y, e := Get(Open(x)); e != api.OK || !same(y, x) || !bytes.Equal(Sealed(Redact(x)), wordsBytes(x, false)) {
					t.Fatalf("%+v", x)
				}
			}
		})
	}
}
