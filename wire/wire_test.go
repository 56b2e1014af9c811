package wire

import (
	"bytes"
	"fmt"
	"math"
	"math/big"
	"math/rand"
	"slices"
	"testing"

	"inspeximus/api"
)

// sample is n bytes that differ, so that one out of place shows.
func sample(n int) []byte {
	out := make([]byte, n)
	rand.New(rand.NewSource(int64(n))).Read(out)
	return out
}

// withRoom is a copy of b with marked room behind it, and a check that b and the room are as they were.
func withRoom(t *testing.T, b []byte) ([]byte, func()) {
	t.Helper()
	whole := slices.Concat(b, bytes.Repeat([]byte{0xa5}, 40))
	kept := slices.Clone(whole)
	return whole[:len(b)], func() {
		t.Helper()
		if !bytes.Equal(whole, kept) {
			t.Errorf("%d bytes that were handed in, or the room behind them, were changed", len(b))
		}
	}
}

// spoil overwrites an answer and all its spare room, which nobody else may see.
func spoil(b []byte) {
	b = b[:cap(b)]
	for i := range b {
		b[i] ^= 0xff
	}
}

// numbers are those about each edge of their forms, and by lot.
func numbers() []int {
	out := []int{0, MaxNum}
	for shift := 1; shift < 31; shift++ {
		out = append(out, 1<<shift-1, 1<<shift, 1<<shift+1, MaxNum-1<<shift, MaxNum>>shift)
	}
	random := rand.New(rand.NewSource(1))
	for range 2000 {
		out = append(out, int(random.Int31())>>random.Intn(31))
	}
	return out
}

// wordsNum is a number's bytes by the words of the chapter: the digits by 128, the highest first, each but the last one marked.
func wordsNum(n int) []byte {
	var out []byte
	for digits := big.NewInt(int64(n)); len(out) == 0 || digits.Sign() > 0; digits.Rsh(digits, 7) {
		digit := byte(new(big.Int).And(digits, big.NewInt(127)).Int64())
		if len(out) > 0 {
			digit += 128
		}
		out = append(out, digit)
	}
	slices.Reverse(out)
	return out
}

// wordsRead is the number that b begins with, how many bytes it has, or why it isn't there, by the words of the chapter.
func wordsRead(b []byte) (int, int, api.Errno) {
	last := slices.IndexFunc(b, func(c byte) bool { return c < 128 })
	switch {
	case len(b) > 0 && b[0] == 128:
		return 0, 0, api.ErrForm
	case last > 4 || last < 0 && len(b) > 5:
		return 0, 0, api.ErrForm
	case last < 0:
		return 0, 0, api.ErrShort
	}
	n := 0.0
	for _, c := range b[:last+1] {
		n = 128*n + math.Mod(float64(c), 128)
	}
	if n > 2147483647 {
		return 0, 0, api.ErrForm
	}
	return int(n), last + 1, api.OK
}

// checkBad holds a reader against what a bad one is: it has its error, and reads nothing, whatever is asked for.
func checkBad(t *testing.T, r *Reader, want api.Errno) {
	t.Helper()
	for range 2 {
		if r.Bad() != want || r.Done() != want || r.Left() != 0 {
			t.Errorf("bad by %d, done %d, %d left; want it bad by %d", r.Bad(), r.Done(), r.Left(), want)
		}
		if n, ok, b, h := r.Num(), r.Flag(), r.Bytes(math.MaxInt), r.Hash(); n != 0 || ok || len(b) != 0 || h != (api.Hash{}) {
			t.Errorf("one that is bad by %d reads %d, %v, %x, %x", want, n, ok, b, h)
		}
		r.Fail(want + 1)
		r.Fail(api.OK)
	}
}

// checkGood holds a reader against what one that isn't bad is, with so many bytes left.
func checkGood(t *testing.T, r *Reader, left int) {
	t.Helper()
	done := api.ErrForm
	if left == 0 {
		done = api.OK
	}
	for range 2 {
		if r.Bad() != api.OK || r.Left() != left || r.Done() != done {
			t.Errorf("bad by %d, %d left, done %d; want %d left, done %d", r.Bad(), r.Left(), r.Done(), left, done)
		}
	}
}

// P3.1: numbers' bytes, by heart.
func TestNumKnown(t *testing.T) {
	for n, want := range map[int]string{
		0:             "00",
		1:             "01",
		127:           "7f",
		128:           "8100",
		129:           "8101",
		255:           "817f",
		256:           "8200",
		300:           "822c",
		16383:         "ff7f",
		16384:         "818000",
		1<<21 - 1:     "ffff7f",
		1 << 21:       "81808000",
		1<<28 - 1:     "ffffff7f",
		1 << 28:       "8180808000",
		MaxNum - 1:    "87ffffff7e",
		MaxNum:        "87ffffff7f",
		MaxNum + 1:    "",
		MaxNum + 2:    "",
		1 << 32:       "",
		1<<32 + 1:     "",
		1 << 35:       "",
		math.MaxInt:   "",
		-1:            "",
		-127:          "",
		-128:          "",
		-MaxNum:       "",
		math.MinInt32: "",
		math.MinInt:   "",
	} {
		if got := fmt.Sprintf("%x", Num(n)); got != want {
			t.Errorf("Num(%d): %s, want %s", n, got, want)
		}
	}
	if MaxNum != 2147483647 {
		t.Errorf("MaxNum is %d", MaxNum)
	}
}

// P3.1: numbers' bytes, held against the words of the chapter.
func TestNumByWords(t *testing.T) {
	check := func(n int) {
		t.Helper()
		if got := Num(n); !bytes.Equal(got, wordsNum(n)) {
			t.Errorf("Num(%d): %x, want %x", n, got, wordsNum(n))
		}
		if got := Num(-1 - n); len(got) != 0 {
			t.Errorf("Num(%d): %x", -1-n, got)
		}
		if got := Num(MaxNum + 1 + n); len(got) != 0 {
			t.Errorf("Num(%d): %x", MaxNum+1+n, got)
		}
	}
	for n := range 40000 {
		check(n)
	}
	for _, n := range numbers() {
		check(n)
	}
}

// P3.1: a flag is one byte, a hash its 32.
func TestFlagAndHash(t *testing.T) {
	if !bytes.Equal(Flag(false), []byte{0}) || !bytes.Equal(Flag(true), []byte{1}) {
		t.Errorf("flags: %x, %x", Flag(false), Flag(true))
	}
	for _, h := range []api.Hash{{}, {1}, {31: 1}, api.Hash(sample(32)), api.Hash(bytes.Repeat([]byte{0xff}, 32))} {
		kept := h
		got := Hash(h)
		if !bytes.Equal(got, kept[:]) {
			t.Errorf("Hash(%x): %x", kept, got)
		}
	}
}

// lengths are how many bytes there may be, about the edges of the numbers that tell it.
var lengths = []int{0, 1, 2, 31, 32, 33, 60, 126, 127, 128, 129, 300, 16382, 16383, 16384, 16385, 1<<21 - 1, 1 << 21}

// P3.1: bytes are their number and these.
func TestBytes(t *testing.T) {
	for _, n := range lengths {
		b, stays := withRoom(t, sample(n))
		if got := Bytes(b); !bytes.Equal(got, slices.Concat(wordsNum(n), sample(n))) {
			t.Errorf("%d bytes: %d, that begin %x", n, len(got), got[:min(len(got), 8)])
		}
		stays()
	}
	if got := Bytes(nil); !bytes.Equal(got, []byte{0}) || !bytes.Equal(Bytes([]byte{}), got) {
		t.Errorf("no bytes: %x", got)
	}
	if got := Bytes([]byte("abc")); string(got) != "\x03abc" {
		t.Errorf("abc: %q", got)
	}
}

// P3.1: All is one behind the other, empty ones among them.
func TestAll(t *testing.T) {
	for i, x := range []struct {
		list [][]byte
		want string
	}{
		{nil, ""},
		{[][]byte{}, ""},
		{[][]byte{nil}, ""},
		{[][]byte{{}, nil, {}}, ""},
		{[][]byte{[]byte("ab")}, "ab"},
		{[][]byte{[]byte("ab"), []byte("c")}, "abc"},
		{[][]byte{[]byte("c"), []byte("ab")}, "cab"},
		{[][]byte{nil, []byte("ab"), {}, []byte("c"), nil, []byte("def"), nil}, "abcdef"},
		{[][]byte{{0}, {0, 0}, {0x80}}, "\x00\x00\x00\x80"},
	} {
		if got := All(x.list...); string(got) != x.want {
			t.Errorf("%d: %q, want %q", i, got, x.want)
		}
	}
	whole := sample(1000)
	for size := 1; size <= 1001; size++ {
		if got := All(slices.Collect(slices.Chunk(whole, size))...); !bytes.Equal(got, whole) {
			t.Errorf("1000 bytes in pieces of %d", size)
		}
	}
}

// Rule 4: the pieces, the list of them and what stands behind each are left as they are; pieces may share memory.
func TestAllLeavesItsPieces(t *testing.T) {
	whole := sample(100)
	list := [][]byte{whole[10:20], whole[:50], whole[40:40], whole[30:], []byte("behind")}
	lens := []int{10, 50, 0, 70, 6}
	want := slices.Concat(list[:4]...)
	got := All(list[:4]...)
	if !bytes.Equal(got, want) {
		t.Errorf("pieces of one memory: %x, want %x", got, want)
	}
	if !bytes.Equal(whole, sample(100)) || string(list[4]) != "behind" {
		t.Error("a piece, or what is behind it, was changed")
	}
	for i, n := range lens {
		if len(list[i]) != n {
			t.Errorf("piece %d was cut", i)
		}
	}
	spoil(got)
	if !bytes.Equal(whole, sample(100)) {
		t.Error("the answer is a piece's memory")
	}
}

// Rule 4: what is put is new memory, its spare room too, each time anew.
func TestWhatIsPutIsNew(t *testing.T) {
	one, _ := withRoom(t, sample(40))
	h := api.Hash(sample(32))
	for name, put := range map[string]func() []byte{
		"Num":             func() []byte { return Num(5) },
		"Num of five":     func() []byte { return Num(MaxNum) },
		"Flag false":      func() []byte { return Flag(false) },
		"Flag true":       func() []byte { return Flag(true) },
		"Bytes":           func() []byte { return Bytes(one) },
		"Bytes of none":   func() []byte { return Bytes(one[:0]) },
		"Hash":            func() []byte { return Hash(h) },
		"All of one":      func() []byte { return All(one) },
		"All, one filled": func() []byte { return All(nil, one, []byte{}) },
		"All of two":      func() []byte { return All(one[:10], one[10:]) },
	} {
		first, second := put(), put()
		kept := slices.Clone(first)
		spoil(first)
		if !bytes.Equal(second, kept) || !bytes.Equal(put(), kept) {
			t.Errorf("%s: two answers share memory", name)
		}
	}
	if !bytes.Equal(one, sample(40)) || h != api.Hash(sample(32)) {
		t.Error("an answer is the memory of what was handed in")
	}
}

// P3.2: numbers that aren't there, and why: in the order in which they are gone through, byte by byte.
func TestReadNumWrong(t *testing.T) {
	for _, x := range []struct {
		b    string
		want api.Errno
	}{
		{"", api.ErrShort},
		{"\x81", api.ErrShort},
		{"\xff", api.ErrShort},
		{"\x81\x80", api.ErrShort},
		{"\x81\x80\x80", api.ErrShort},
		{"\x87\xff\xff\xff", api.ErrShort},
		{"\x88\x80\x80\x80", api.ErrShort},
		{"\x81\x80\x80\x80\x80", api.ErrShort},
		{"\xff\xff\xff\xff\xff", api.ErrShort},
		{"\x80", api.ErrForm},
		{"\x80\x00", api.ErrForm},
		{"\x80\x01", api.ErrForm},
		{"\x80\x80", api.ErrForm},
		{"\x80\x81\x00", api.ErrForm},
		{"\x80\x80\x80\x80\x80\x80\x80", api.ErrForm},
		{"\x88\x80\x80\x80\x00", api.ErrForm},
		{"\x88\x80\x80\x80\x00\x00", api.ErrForm},
		{"\x8f\xff\xff\xff\x7f", api.ErrForm},
		{"\x90\x80\x80\x80\x00", api.ErrForm},
		{"\x90\x80\x80\x80\x01", api.ErrForm},
		{"\xff\xff\xff\xff\x7f", api.ErrForm},
		{"\x81\x80\x80\x80\x80\x00", api.ErrForm},
		{"\x81\x80\x80\x80\x80\x80", api.ErrForm},
		{"\xff\xff\xff\xff\xff\xff", api.ErrForm},
		{"\x81\x80\x80\x80\x80\x80\x80\x80\x80\x80\x00", api.ErrForm},
	} {
		r := Read([]byte(x.b))
		if n := r.Num(); n != 0 {
			t.Errorf("%x: %d", x.b, n)
		}
		checkBad(t, r, x.want)
		r = Read([]byte(x.b))
		if b := r.Bytes(math.MaxInt); len(b) != 0 {
			t.Errorf("bytes of %x: %x", x.b, b)
		}
		checkBad(t, r, x.want)
	}
}

// P3.2: a number whose bytes are cut off anywhere is short.
func TestReadNumCutOff(t *testing.T) {
	for _, n := range numbers() {
		b := Num(n)
		for i := range b {
			r := Read(b[:i])
			if got := r.Num(); got != 0 {
				t.Errorf("%x: %d", b[:i], got)
			}
			checkBad(t, r, api.ErrShort)
		}
	}
}

// P3.2: numbers of any bytes, held against the words of the chapter: all of up to three, and longer ones whose bytes lie about the edges.
func TestReadNumByWords(t *testing.T) {
	check := func(b []byte) {
		t.Helper()
		want, size, err := wordsRead(b)
		left := len(b) - size
		if err != api.OK {
			left = 0
		}
		r := Read(b)
		if n := r.Num(); n != want || r.Bad() != err || r.Left() != left {
			t.Fatalf("%x: %d, bad by %d, %d left; want %d, %d, %d", b, n, r.Bad(), r.Left(), want, err, left)
		}
	}
	check(nil)
	for i := range 256 {
		check([]byte{byte(i)})
		for j := range 256 {
			check([]byte{byte(i), byte(j)})
			for k := range 8 {
				check([]byte{byte(i), byte(j), byte(k*73 + 55)})
			}
		}
	}
	edges := []byte{0, 1, 0x7f, 0x80, 0x81, 0x87, 0x88, 0xff}
	for last := [][]byte{nil}; len(last[0]) < 6; {
		var next [][]byte
		for _, b := range last {
			for _, c := range edges {
				next = append(next, append(slices.Clone(b), c))
				check(next[len(next)-1])
			}
		}
		last = next
	}
	for n := range 2000 {
		check(sample(n % 16))
	}
}

// P3.2: flags that are there, and others.
func TestReadFlag(t *testing.T) {
	for i := range 256 {
		for _, tail := range []int{0, 1, 40} {
			r := Read(append([]byte{byte(i)}, sample(tail)...))
			got := r.Flag()
			if got != (i == 1) {
				t.Errorf("the flag %d: %v", i, got)
			}
			if i > 1 {
				checkBad(t, r, api.ErrForm)
			} else {
				checkGood(t, r, tail)
			}
		}
	}
	r := Read(nil)
	if r.Flag() {
		t.Error("a flag of no bytes")
	}
	checkBad(t, r, api.ErrShort)
}

// P3.2: a hash needs its 32 bytes; any 32 are one.
func TestReadHash(t *testing.T) {
	for n := range 100 {
		b := sample(n)
		r := Read(b)
		got := r.Hash()
		if n < 32 {
			if got != (api.Hash{}) {
				t.Errorf("a hash of %d bytes: %x", n, got)
			}
			checkBad(t, r, api.ErrShort)
			continue
		}
		if !bytes.Equal(got[:], b[:32]) {
			t.Errorf("a hash of %x: %x", b, got)
		}
		checkGood(t, r, n-32)
	}
}

// P3.2: bytes of a limit: at it, above it, of one below 0; too many are told when their number is there, ahead of that they end.
func TestReadBytesOfALimit(t *testing.T) {
	for _, x := range []struct {
		b    string
		most int
		want string
		err  api.Errno
		left int
	}{
		{"\x00", 0, "", api.OK, 0},
		{"\x00", 1, "", api.OK, 0},
		{"\x00ab", 0, "", api.OK, 2},
		{"\x03abc", 3, "abc", api.OK, 0},
		{"\x03abc", 4, "abc", api.OK, 0},
		{"\x03abcde", 3, "abc", api.OK, 2},
		{"\x03abc", math.MaxInt, "abc", api.OK, 0},
		{"\x03abc", 2, "", api.ErrLong, 0},
		{"\x03abc", 0, "", api.ErrLong, 0},
		{"\x03abc", -1, "", api.ErrLong, 0},
		{"\x00", -1, "", api.ErrLong, 0},
		{"\x00", math.MinInt, "", api.ErrLong, 0},
		{"\x01a", 0, "", api.ErrLong, 0},
		{"\x03", 2, "", api.ErrLong, 0},
		{"\x03ab", 2, "", api.ErrLong, 0},
		{"\x03ab", 3, "", api.ErrShort, 0},
		{"\x03", 3, "", api.ErrShort, 0},
		{"\x03", math.MaxInt, "", api.ErrShort, 0},
		{"\x01", 1, "", api.ErrShort, 0},
		{"\x87\xff\xff\xff\x7fabc", MaxNum, "", api.ErrShort, 0},
		{"\x87\xff\xff\xff\x7fabc", MaxNum - 1, "", api.ErrLong, 0},
		{"\x88\x80\x80\x80\x00abc", -1, "", api.ErrForm, 0},
		{"\x80\x03abc", -1, "", api.ErrForm, 0},
		{"\x81\x80\x80\x80\x80\x00abc", -1, "", api.ErrForm, 0},
		{"", -1, "", api.ErrShort, 0},
		{"\x81", -1, "", api.ErrShort, 0},
	} {
		r := Read([]byte(x.b))
		if got := r.Bytes(x.most); string(got) != x.want {
			t.Errorf("%x, at most %d: %x", x.b, x.most, got)
		}
		if x.err != api.OK {
			checkBad(t, r, x.err)
		} else {
			checkGood(t, r, x.left)
		}
	}
}

// P3.2: bytes of each length about the edges, at their limit, one above it, and with the last one cut off.
func TestReadBytesLengths(t *testing.T) {
	for _, n := range lengths {
		b := sample(n)
		whole := append(wordsNum(n), b...)
		r := Read(whole)
		if got := r.Bytes(n); !bytes.Equal(got, b) {
			t.Errorf("%d bytes: %d", n, len(got))
		}
		checkGood(t, r, 0)
		r = Read(whole)
		if got := r.Bytes(n - 1); len(got) != 0 {
			t.Errorf("%d bytes, above the limit: %d", n, len(got))
		}
		checkBad(t, r, api.ErrLong)
		r = Read(whole[:len(whole)-1])
		if got := r.Bytes(n); len(got) != 0 {
			t.Errorf("%d bytes, but one: %d", n, len(got))
		}
		checkBad(t, r, api.ErrShort)
	}
}

// P3.2: a reader reads on from where it stands; Done only tells.
func TestReadOneBehindTheOther(t *testing.T) {
	h := api.Hash(sample(32))
	r := Read(slices.Concat([]byte("\x82\x2c\x01\x00\x02ab\x00"), h[:], []byte("\x7f\x09")))
	checkGood(t, r, 42)
	if n := r.Num(); n != 300 {
		t.Error(n)
	}
	checkGood(t, r, 40)
	if !r.Flag() || r.Flag() {
		t.Error("flags")
	}
	checkGood(t, r, 38)
	if b := r.Bytes(2); string(b) != "ab" {
		t.Errorf("%q", b)
	}
	checkGood(t, r, 35)
	if b := r.Bytes(0); len(b) != 0 {
		t.Errorf("%q", b)
	}
	checkGood(t, r, 34)
	if got := r.Hash(); got != h {
		t.Errorf("%x", got)
	}
	checkGood(t, r, 2)
	if n := r.Num(); n != 127 {
		t.Error(n)
	}
	checkGood(t, r, 1)
	if r.Flag() {
		t.Error("the flag 9")
	}
	checkBad(t, r, api.ErrForm)
}

// P3.2: a reader of nothing isn't bad; it is, once something is asked for.
func TestReadNothing(t *testing.T) {
	for _, b := range [][]byte{nil, {}} {
		for i, ask := range []func(r *Reader){func(r *Reader) { r.Num() }, func(r *Reader) { r.Flag() }, func(r *Reader) { r.Bytes(9) }, func(r *Reader) { r.Bytes(-9) }, func(r *Reader) { r.Hash() }} {
			r := Read(b)
			if r == nil {
				t.Fatal("no reader")
			}
			checkGood(t, r, 0)
			ask(r)
			if r.Bad() != api.ErrShort {
				t.Errorf("%d: bad by %d", i, r.Bad())
			}
			checkBad(t, r, api.ErrShort)
		}
	}
}

// P3.2: Fail makes a reader bad by any error, by the first one alone; OK does nothing.
func TestFail(t *testing.T) {
	for _, e := range []api.Errno{api.ErrArg, api.ErrForm, api.ErrShort, api.ErrLong, api.ErrTag, api.ErrNone, 99, -1} {
		for _, b := range [][]byte{nil, {1}, {1, 1}, sample(80)} {
			r := Read(b)
			r.Fail(api.OK)
			checkGood(t, r, len(b))
			r.Fail(e)
			checkBad(t, r, e)
			r.Fail(e - 1)
			r.Fail(api.ErrShort)
			checkBad(t, r, e)
		}
		r := Read([]byte{7, 1, 1, 2})
		r.Num()
		r.Fail(api.OK)
		checkGood(t, r, 3)
		r.Fail(e)
		checkBad(t, r, e)
	}
}

// P3.2: a reader that is bad by what it read stays so by that error.
func TestBadStaysByItsFirstError(t *testing.T) {
	for _, x := range []struct {
		b    string
		ask  func(r *Reader)
		want api.Errno
	}{
		{"\x80\x01\x01", func(r *Reader) { r.Num() }, api.ErrForm},
		{"\x81", func(r *Reader) { r.Num() }, api.ErrShort},
		{"\x02\x01\x01", func(r *Reader) { r.Flag() }, api.ErrForm},
		{"\x02ab\x01", func(r *Reader) { r.Bytes(1) }, api.ErrLong},
		{"\x02a", func(r *Reader) { r.Bytes(9) }, api.ErrShort},
		{"\x00\x01\x02", func(r *Reader) { r.Hash() }, api.ErrShort},
	} {
		r := Read([]byte(x.b))
		x.ask(r)
		for _, e := range []api.Errno{api.OK, api.ErrArg, api.ErrForm, api.ErrShort, api.ErrLong, api.ErrFull} {
			r.Fail(e)
			checkBad(t, r, x.want)
		}
	}
}

// P3.2: a nil reader is bad by ErrArg, and stays so.
func TestNilReader(t *testing.T) {
	var r *Reader
	checkBad(t, r, api.ErrArg)
	for _, e := range []api.Errno{api.OK, api.ErrForm, api.ErrArg, 99} {
		r.Fail(e)
		checkBad(t, r, api.ErrArg)
	}
}

// Rule 4: a reader neither changes nor keeps what it is handed.
func TestReadKeepsNothing(t *testing.T) {
	h := api.Hash(sample(32))
	whole := slices.Concat([]byte("\x05\x01\x03abc"), h[:], []byte("\x07"))
	b, stays := withRoom(t, whole)
	read := func(r *Reader, spoilt func()) {
		t.Helper()
		spoilt()
		n, ok := r.Num(), r.Flag()
		spoilt()
		text, hash := r.Bytes(3), r.Hash()
		if n != 5 || !ok || string(text) != "abc" || hash != h {
			t.Errorf("%d, %v, %q, %x", n, ok, text, hash)
		}
		checkGood(t, r, 1)
		if r.Bytes(0); r.Bad() != api.ErrLong {
			t.Errorf("bad by %d", r.Bad())
		}
	}
	read(Read(b), func() {})
	stays()
	r := Read(b)
	read(r, func() { spoil(b) })
}

// Rule 4: bytes that are read are new memory, their spare room too: nothing that is done to them reaches the reader, what it was handed, or other answers.
func TestWhatIsReadIsNew(t *testing.T) {
	b, stays := withRoom(t, []byte("\x03abc\x00\x03def\x02gh"))
	r := Read(b)
	first := r.Bytes(3)
	kept := slices.Clone(first)
	spoil(first)
	spoil(r.Bytes(3))
	second := r.Bytes(3)
	if string(kept) != "abc" || string(second) != "def" {
		t.Errorf("%q, %q", kept, second)
	}
	spoil(second)
	if third := r.Bytes(3); string(third) != "gh" {
		t.Errorf("%q", third)
	}
	checkGood(t, r, 0)
	stays()
}

// Rule 6: two readers of the same bytes don't hang on each other, nor do calls at the same time.
func TestReadersAreApart(t *testing.T) {
	b := []byte("\x01\x02\x03")
	one, two := Read(b), Read(b)
	one.Num()
	one.Fail(api.ErrTag)
	checkGood(t, two, 3)
	if n := two.Num(); n != 1 {
		t.Error(n)
	}
	for n := range 50 {
		t.Run("", func(t *testing.T) {
			t.Parallel()
			for range 50 {
				if r := Read(All(Num(n), Bytes(b))); r.Num() != n || !bytes.Equal(r.Bytes(3), b) || r.Done() != api.OK {
					t.Fatal(n)
				}
			}
		})
	}
}

// P3.3: a number that is put is read again, with what stands behind it left.
func TestNumIsReadAgain(t *testing.T) {
	tails := [][]byte{nil, {0}, {0x80}, {0xff, 0xff}, sample(9)}
	check := func(n int) {
		t.Helper()
		for _, tail := range tails {
			r := Read(All(Num(n), tail))
			if got := r.Num(); got != n || r.Bad() != api.OK || r.Left() != len(tail) {
				t.Fatalf("%d: %d, bad by %d, %d left of %d", n, got, r.Bad(), r.Left(), len(tail))
			}
			if !bytes.Equal(r.rest, tail) {
				t.Fatalf("%d: %x is left of %x", n, r.rest, tail)
			}
		}
	}
	for n := range 40000 {
		check(n)
	}
	for _, n := range numbers() {
		check(n)
	}
}

// P3.3: each number has just one form: whatever is read as a number is put as the same bytes.
func TestNumHasOneForm(t *testing.T) {
	check := func(b []byte) bool {
		t.Helper()
		r := Read(b)
		n := r.Num()
		if r.Bad() != api.OK {
			return false
		}
		if got := Num(n); !bytes.Equal(got, b[:len(b)-r.Left()]) {
			t.Fatalf("%x is read as %d, which is %x", b, n, got)
		}
		return true
	}
	read := 0
	for i := range 1 << 16 {
		if check([]byte{byte(i >> 8), byte(i)}) {
			read++
		}
	}
	if want := 128*256 + 127*128; read != want {
		t.Errorf("%d of two bytes are read, want %d", read, want)
	}
	random := rand.New(rand.NewSource(7))
	for range 300000 {
		b := make([]byte, 1+random.Intn(7))
		random.Read(b)
		for i := range len(b) - 1 {
			b[i] |= byte(random.Intn(4)) / 3 << 7
		}
		b[0] &= 0x87
		check(b)
	}
}

// P3.3: flags, bytes and hashes that are put are read again, with what stands behind them left.
func TestOthersAreReadAgain(t *testing.T) {
	for _, tail := range [][]byte{nil, {0}, {1}, {0xff}, sample(50)} {
		for _, ok := range []bool{false, true} {
			r := Read(All(Flag(ok), tail))
			if got := r.Flag(); got != ok || !bytes.Equal(r.rest, tail) {
				t.Errorf("a flag %v: %v, %x left", ok, got, r.rest)
			}
			checkGood(t, r, len(tail))
		}
		for _, h := range []api.Hash{{}, {1}, {31: 1}, api.Hash(sample(32))} {
			r := Read(All(Hash(h), tail))
			if got := r.Hash(); got != h || !bytes.Equal(r.rest, tail) {
				t.Errorf("a hash %x: %x, %x left", h, got, r.rest)
			}
			checkGood(t, r, len(tail))
		}
		for _, n := range lengths {
			for _, most := range []int{n, n + 1, MaxNum, math.MaxInt} {
				r := Read(All(Bytes(sample(n)), tail))
				if got := r.Bytes(most); !bytes.Equal(got, sample(n)) || !bytes.Equal(r.rest, tail) {
					t.Errorf("%d bytes, at most %d: %d, %x left", n, most, len(got), r.rest)
				}
				checkGood(t, r, len(tail))
			}
		}
	}
}

// thing is one of what may be put, and a check that it is read again.
type thing struct {
	put  []byte
	read func(r *Reader) bool
}

// someThing is one by lot.
func someThing(random *rand.Rand) thing {
	switch random.Intn(4) {
	case 0:
		n := int(random.Int31()) >> random.Intn(32)
		return thing{Num(n), func(r *Reader) bool { return r.Num() == n }}
	case 1:
		ok := random.Intn(2) == 1
		return thing{Flag(ok), func(r *Reader) bool { return r.Flag() == ok }}
	case 2:
		b := sample(random.Intn(200))
		return thing{Bytes(b), func(r *Reader) bool { return bytes.Equal(r.Bytes(200), b) }}
	}
	var h api.Hash
	random.Read(h[:])
	return thing{Hash(h), func(r *Reader) bool { return r.Hash() == h }}
}

// P3.3: lists of all sorts are read again, one by one; cut off anywhere, all that is whole, and then it is short.
func TestListsAreReadAgain(t *testing.T) {
	random := rand.New(rand.NewSource(11))
	for range 300 {
		var things []thing
		var pieces [][]byte
		for range random.Intn(12) {
			x := someThing(random)
			things = append(things, x)
			pieces = append(pieces, x.put)
		}
		whole := All(pieces...)
		r := Read(whole)
		left := len(whole)
		for i, x := range things {
			left -= len(x.put)
			if !x.read(r) {
				t.Fatalf("%d of %x isn't read again", i, whole)
			}
			checkGood(t, r, left)
		}
		checkCutOff(t, things, whole[:random.Intn(len(whole)+1)])
	}
}

// checkCutOff reads things from the beginning of what was put of them.
func checkCutOff(t *testing.T, things []thing, b []byte) {
	t.Helper()
	r := Read(b)
	left := len(b)
	for i, x := range things {
		read := x.read(r)
		left -= len(x.put)
		if left < 0 {
			checkBad(t, r, api.ErrShort)
			return
		}
		if !read || r.Left() != left {
			t.Fatalf("%d, ahead of the cut, isn't read again from %x", i, b)
		}
	}
}
