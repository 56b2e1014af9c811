package log

import (
	"bytes"
	"crypto/sha256"
	"encoding/binary"
	"fmt"
	"math"
	"math/rand"
	"slices"
	"strings"
	"testing"

	"inspeximus/api"
	"inspeximus/disk"
)

// text is n bytes that differ from those of other seeds, so that one out of place shows.
func text(seed, n int) []byte {
	out := make([]byte, n)
	rand.New(rand.NewSource(int64(seed))).Read(out)
	return out
}

// withRoom is a copy of b with marked room behind it, and a check that b and the room are as they were.
func withRoom(t *testing.T, b []byte) ([]byte, func()) {
	t.Helper()
	whole := slices.Concat(b, bytes.Repeat([]byte{0xa5}, 100))
	kept := slices.Clone(whole)
	return whole[:len(b)], func() {
		t.Helper()
		if !bytes.Equal(whole, kept) {
			t.Errorf("%d bytes that were handed in, or the room behind them, were changed", len(b))
		}
	}
}

// spoil writes over bytes and all their spare room.
func spoil(b []byte) {
	b = b[:cap(b)]
	for i := range b {
		b[i] ^= 0xff
	}
}

// chainOf is the chain behind entries, by the words and the library's SHA-256.
func chainOf(list ...string) api.Hash {
	var chain api.Hash
	for _, entry := range list {
		b := append([]byte{5, 0, 0, 0, 32}, chain[:]...)
		b = binary.BigEndian.AppendUint32(b, uint32(len(entry)))
		chain = sha256.Sum256(append(b, entry...))
	}
	return chain
}

// number is a number's bytes, of the numbers that a length or a little more may be.
func number(n int) string {
	switch {
	case n < 128:
		return string([]byte{byte(n)})
	case n < 128*128:
		return string([]byte{byte(0x80 | n>>7), byte(n & 0x7f)})
	}
	panic("a number of three bytes")
}

// onDisk is the bytes of entries, by the words, whether they may be entries or not.
func onDisk(list ...string) string {
	var out strings.Builder
	for i, entry := range list {
		chain := chainOf(list[:i+1]...)
		out.WriteString(number(len(entry)) + entry + string(chain[:8]))
	}
	return out.String()
}

// standing is the entries that stand in b, by the words: of each number of bytes that one may have it is asked whether such a one stands there.
func standing(b string) []string {
	var list []string
	for at := 0; ; at = len(onDisk(list...)) {
		rest, n := b[at:], 1
		for ; n <= 2000; n++ {
			head := number(n)
			if !strings.HasPrefix(rest, head) || len(rest) < len(head)+n+8 {
				continue
			}
			chain := chainOf(append(slices.Clone(list), rest[len(head):len(head)+n])...)
			if rest[len(head)+n:len(head)+n+8] == string(chain[:8]) {
				list = append(list, rest[len(head):len(head)+n])
				break
			}
		}
		if n > 2000 {
			return list
		}
	}
}

// words is a log and its disk by the words of the chapter: texts, which nobody shares.
type words struct {
	room  int
	list  []string
	lasts int // how many bytes of the disk last
}

func (w *words) bytes() string { return onDisk(w.list...) }

func (w *words) put(b []byte) api.Errno {
	switch {
	case len(b) == 0:
		return api.ErrArg
	case len(b) > 2000:
		return api.ErrLong
	}
	list := append(slices.Clone(w.list), string(b))
	if len(onDisk(list...)) > w.room {
		return api.ErrFull
	}
	w.list = list
	return api.OK
}

func (w *words) append(b []byte) api.Errno {
	e := w.put(b)
	if e == api.OK {
		w.lasts = len(w.bytes())
	}
	return e
}

// crash is one behind which the log is opened.
func (w *words) crash(keep int) {
	b := w.bytes()
	b = b[:w.lasts+min(max(keep, 0), len(b)-w.lasts)]
	w.list = standing(b)
	w.lasts = len(w.bytes())
}

// same says whether entries are those of a list.
func same(got [][]byte, want []string) bool {
	return slices.EqualFunc(got, want, func(b []byte, s string) bool { return string(b) == s })
}

// check asks a log and its disk twice for all that they tell: asking changes nothing.
func check(t *testing.T, l *Log, d *disk.Disk, w words, when string) {
	t.Helper()
	for range 2 {
		if got, want := l.Count(), len(w.list); got != want {
			t.Fatalf("%s: %d entries, want %d", when, got, want)
		}
		if got, want := l.Chain(), chainOf(w.list...); got != want {
			t.Fatalf("%s: the chain is %x, want %x", when, got, want)
		}
		if got, want := string(d.Bytes()), w.bytes(); got != want {
			t.Fatalf("%s: the disk has %q, want %q", when, got, want)
		}
		if got := d.Lasts(); got != w.lasts {
			t.Fatalf("%s: %d bytes last, want %d", when, got, w.lasts)
		}
		if got, want := d.Room(), w.room-len(w.bytes()); got != want {
			t.Fatalf("%s: room for %d more, want %d", when, got, want)
		}
		if l.Size(1) != 10 || l.Size(0) != 0 {
			t.Fatalf("%s: an entry of one byte has %d, one of none %d", when, l.Size(1), l.Size(0))
		}
	}
}

// open is a disk's log, which must have these entries, on the disk too, where they last.
func open(t *testing.T, d *disk.Disk, want []string, when string) (*Log, words) {
	t.Helper()
	room := d.Room() + len(d.Bytes())
	l, list, e := Open(d)
	if l == nil || e != api.OK {
		t.Fatalf("%s: it isn't opened: %d", when, e)
	}
	if !same(list, want) {
		t.Fatalf("%s: the entries %q, want %q", when, list, want)
	}
	w := words{room, slices.Clone(want), len(onDisk(want...))}
	check(t, l, d, w, when+", opened")
	return l, w
}

// fresh is a log of a new disk.
func fresh(t *testing.T, room int) (*Log, *disk.Disk, words) {
	t.Helper()
	d := disk.New(room)
	l, w := open(t, d, nil, "a new disk")
	return l, d, w
}

// diskOf is a disk with bytes, of which the first so many last.
func diskOf(t *testing.T, room int, b string, lasts int) *disk.Disk {
	t.Helper()
	d := disk.New(room)
	if e := d.Write([]byte(b[:lasts])); e != api.OK {
		t.Fatalf("a write of %d bytes: %d", lasts, e)
	}
	d.Sync()
	if e := d.Write([]byte(b[lasts:])); e != api.OK {
		t.Fatalf("a write of %d bytes: %d", len(b)-lasts, e)
	}
	return d
}

// opens are bytes of which these entries are opened, however many of the bytes last, however much room there is; and the log goes on behind them.
func opens(t *testing.T, b string, want []string, when string) {
	t.Helper()
	for _, lasts := range []int{0, 1, len(b) / 2, len(b) - 1, len(b)} {
		if lasts < 0 || lasts > len(b) {
			continue
		}
		for _, more := range []int{0, 50} {
			when := fmt.Sprintf("%s, %d of %d bytes last, room for %d more", when, lasts, len(b), more)
			d := diskOf(t, max(len(b), 1)+more, b, lasts)
			l, w := open(t, d, want, when)
			d.Crash(0)
			check(t, l, d, w, when+", and a crash")
			if got, want := l.Put([]byte("on")), w.put([]byte("on")); got != want {
				t.Fatalf("%s: a put: %d, want %d", when, got, want)
			}
			check(t, l, d, w, when+", and a put")
			if got, want := l.Append([]byte("!")), w.append([]byte("!")); got != want {
				t.Fatalf("%s: an append: %d, want %d", when, got, want)
			}
			check(t, l, d, w, when+", and an append")
			open(t, d, w.list, when+", again")
		}
	}
}

// P9.2: the chapter's example: an entry of one byte has 10 bytes, by Size and on a disk.
func TestExample(t *testing.T) {
	l, d, _ := fresh(t, 10)
	if l.Size(1) != 10 {
		t.Errorf("Size(1) is %d", l.Size(1))
	}
	if e := l.Put([]byte("a")); e != api.OK || len(d.Bytes()) != 10 || d.Room() != 0 {
		t.Errorf("a put: %d, %d bytes, room for %d", e, len(d.Bytes()), d.Room())
	}
}

// P9.2: bytes of two entries, written out by hand: the number, the entry, the first eight bytes of the chain.
func TestBytesKnown(t *testing.T) {
	l, d, _ := fresh(t, 100)
	one := sha256.Sum256([]byte("\x05\x00\x00\x00\x20" + strings.Repeat("\x00", 32) + "\x00\x00\x00\x03abc"))
	two := sha256.Sum256([]byte("\x05\x00\x00\x00\x20" + string(one[:]) + "\x00\x00\x00\x01d"))
	if e := l.Put([]byte("abc")); e != api.OK || l.Chain() != one || string(d.Bytes()) != "\x03abc"+string(one[:8]) {
		t.Errorf("one: %d, %x, %x", e, l.Chain(), d.Bytes())
	}
	if e := l.Append([]byte("d")); e != api.OK || l.Chain() != two || string(d.Bytes()) != "\x03abc"+string(one[:8])+"\x01d"+string(two[:8]) {
		t.Errorf("two: %d, %x, %x", e, l.Chain(), d.Bytes())
	}
}

// The limits and the errors' numbers, as the chapter says them.
func TestNumbers(t *testing.T) {
	if MaxEntry != 2000 || MarkSize != 8 {
		t.Errorf("MaxEntry %d, MarkSize %d", MaxEntry, MarkSize)
	}
	l, _, _ := fresh(t, 9)
	for i, x := range []struct{ got, want api.Errno }{
		{l.Put(nil), 1}, {l.Append(nil), 1},
		{l.Put(make([]byte, 2001)), 4}, {l.Append(make([]byte, 2001)), 4},
		{l.Put([]byte("a")), 5}, {l.Append([]byte("a")), 5},
	} {
		if x.got != x.want {
			t.Errorf("%d: %d, want %d", i, x.got, x.want)
		}
	}
}

// P9.1: a disk without bytes is opened, and has no entries, however much room it has.
func TestOpenOfNothing(t *testing.T) {
	for _, room := range []int{1, 9, 10, 100, 65536} {
		fresh(t, room)
	}
}

// P9.1, P9.2: no disk, and no log: nothing is there, nothing is taken, and nothing panics.
func TestNilDiskAndNilLog(t *testing.T) {
	for i, d := range []*disk.Disk{nil, disk.New(0), disk.New(65537)} {
		l, list, e := Open(d)
		if l != nil || len(list) != 0 || e != api.ErrArg {
			t.Errorf("%d: %v, %q, %d", i, l, list, e)
		}
	}
	var l *Log
	asked := func() {
		t.Helper()
		if l.Count() != 0 || l.Chain() != (api.Hash{}) {
			t.Errorf("%d entries, the chain %x", l.Count(), l.Chain())
		}
	}
	asked()
	for _, b := range [][]byte{nil, {}, []byte("a"), text(1, 2000), text(1, 2001), text(1, 70000)} {
		if e := l.Put(b); e != api.ErrArg {
			t.Errorf("a put of %d bytes: %d", len(b), e)
		}
		if e := l.Append(b); e != api.ErrArg {
			t.Errorf("an append of %d bytes: %d", len(b), e)
		}
		asked()
	}
	holdSizes(t, l)
}

// holdSizes holds Size of all numbers that an entry has bytes, of those about them, and of great ones.
func holdSizes(t *testing.T, l *Log) {
	t.Helper()
	for n := -300; n <= 70000; n++ {
		want := 0
		switch {
		case n >= 1 && n <= 127:
			want = n + 9
		case n >= 128 && n <= 2000:
			want = n + 10
		}
		if got := l.Size(n); got != want {
			t.Errorf("Size(%d) is %d, want %d", n, got, want)
		}
	}
	for _, n := range []int{math.MinInt, math.MinInt + 1, math.MinInt32, -65536, 1 << 20, math.MaxInt32 - 1, math.MaxInt32, math.MaxInt32 + 1, math.MaxInt32 + 2, 1 << 32, 1<<32 + 1, math.MaxInt - 8, math.MaxInt} {
		if got := l.Size(n); got != 0 {
			t.Errorf("Size(%d) is %d", n, got)
		}
	}
}

// P9.2: how many bytes an entry has on a disk hangs on how many it has, not on what the log holds.
func TestSize(t *testing.T) {
	l, _, _ := fresh(t, 3000)
	holdSizes(t, l)
	l.Put(text(1, 2000))
	holdSizes(t, l)
}

// lengths are of entries that may be, among them those at the edges.
var lengths = []int{1, 2, 9, 10, 11, 63, 64, 126, 127, 128, 129, 255, 256, 1000, 1999, 2000}

// P9.2: Size tells what an entry has on a disk indeed: with just so much room it is taken, with one byte less it isn't.
func TestRoom(t *testing.T) {
	for _, n := range lengths {
		for _, ahead := range []string{"", "ahead"} {
			for _, call := range []string{"put", "append"} {
				when := fmt.Sprintf("%s of %d bytes behind %q", call, n, ahead)
				before := 0
				if ahead != "" {
					before = len(onDisk(ahead))
				}
				for _, less := range []int{0, 1} {
					need := (*Log)(nil).Size(n)
					if before+need-less < 1 {
						continue
					}
					l, d, w := fresh(t, before+need-less)
					if ahead != "" {
						l.Put([]byte(ahead))
						w.put([]byte(ahead))
					}
					b := text(n, n)
					var got, want api.Errno
					if call == "put" {
						got, want = l.Put(b), w.put(b)
					} else {
						got, want = l.Append(b), w.append(b)
					}
					if got != want || (got == api.OK) != (less == 0) {
						t.Errorf("%s, %d less: %d, want %d", when, less, got, want)
					}
					check(t, l, d, w, when)
					if less == 0 && d.Room() != 0 {
						t.Errorf("%s: room for %d is left", when, d.Room())
					}
				}
			}
		}
	}
}

// P9.2: entries that may be come behind all others; Put leaves them as they are, Append makes them last, with those that were put ahead.
func TestPutAndAppend(t *testing.T) {
	l, d, w := fresh(t, 65536)
	for i, n := range append(slices.Clone(lengths), lengths...) {
		b := text(i, n)
		when := fmt.Sprintf("entry %d, of %d bytes", i, n)
		if i%3 == 2 {
			if e := l.Append(b); e != api.OK {
				t.Fatalf("%s: an append: %d", when, e)
			}
			w.append(b)
			if d.Lasts() != len(d.Bytes()) {
				t.Errorf("%s: %d bytes last of %d", when, d.Lasts(), len(d.Bytes()))
			}
		} else {
			lasted := d.Lasts()
			if e := l.Put(b); e != api.OK {
				t.Fatalf("%s: a put: %d", when, e)
			}
			w.put(b)
			if d.Lasts() != lasted {
				t.Errorf("%s: a put makes %d bytes last", when, d.Lasts())
			}
		}
		check(t, l, d, w, when)
	}
	open(t, d, w.list, "all of them")
}

// P9.2: an entry may hold any bytes, those among them that look like other entries; and one that was there already.
func TestAnyEntry(t *testing.T) {
	l, d, w := fresh(t, 65536)
	list := []string{"\x00", "\x00\x00", "\x80", "\xff\xff", "abc", "abc", onDisk("abc"), onDisk("abc", "abc"), onDisk("abc"), "\x01", strings.Repeat("\x00", 2000), strings.Repeat("\x80", 128)}
	for c := range 256 {
		list = append(list, string([]byte{byte(c)}))
	}
	for _, entry := range list {
		if e := l.Put([]byte(entry)); e != api.OK {
			t.Fatalf("%q: %d", entry, e)
		}
		w.put([]byte(entry))
		check(t, l, d, w, fmt.Sprintf("%.20q", entry))
	}
	open(t, d, list, "all of them")
}

// refused is a call that may not be, and what it must be told.
type refused struct {
	b    []byte
	want api.Errno
}

// P9.2: what is refused leaves all as it is, nothing is synced by it; and which error is told first.
func TestRefused(t *testing.T) {
	never := []refused{{nil, api.ErrArg}, {[]byte{}, api.ErrArg}, {text(1, 9)[:0], api.ErrArg}, {text(1, 2001), api.ErrLong}, {text(1, 2002), api.ErrLong}, {text(1, 16384), api.ErrLong}, {text(1, 70000), api.ErrLong}}
	full := []refused{{text(1, 1), api.ErrFull}, {text(1, 127), api.ErrFull}, {text(1, 128), api.ErrFull}, {text(1, 2000), api.ErrFull}}
	for _, x := range []struct {
		room  int
		list  []string
		calls []refused
	}{
		{65536, nil, never},
		{65536, []string{"ahead", "of it"}, never},
		{1, nil, append(slices.Clone(never), full...)},
		{9, nil, append(slices.Clone(never), full...)},
		{14, []string{"ahead"}, append(slices.Clone(never), full...)},
		{14 + 9, []string{"ahead"}, append(slices.Clone(never), full...)},
		{len(onDisk("ahead", "of it")), []string{"ahead", "of it"}, append(slices.Clone(never), full...)},
	} {
		l, d, w := fresh(t, x.room)
		for _, entry := range x.list {
			if got, want := l.Put([]byte(entry)), w.put([]byte(entry)); got != api.OK || want != api.OK {
				t.Fatalf("room for %d: a put ahead: %d and %d", x.room, got, want)
			}
		}
		for _, c := range x.calls {
			when := fmt.Sprintf("room for %d, %d bytes", x.room, len(c.b))
			if e := l.Put(c.b); e != c.want {
				t.Errorf("%s: a put: %d, want %d", when, e, c.want)
			}
			check(t, l, d, w, when)
			if e := l.Append(c.b); e != c.want {
				t.Errorf("%s: an append: %d, want %d", when, e, c.want)
			}
			check(t, l, d, w, when)
		}
	}
}

// P9.2: behind an entry that there is no room for a shorter one is taken, and its chain is as if the other had never been.
func TestGoesOnBehindRefused(t *testing.T) {
	l, d, w := fresh(t, 40)
	for i, n := range []int{5, 60, 17, 16, 2001, 0, 8, 1, 6, 1} {
		b := text(i, n)
		var got, want api.Errno
		if i%2 == 0 {
			got, want = l.Put(b), w.put(b)
		} else {
			got, want = l.Append(b), w.append(b)
		}
		if got != want {
			t.Errorf("call %d, %d bytes: %d, want %d", i, n, got, want)
		}
		check(t, l, d, w, fmt.Sprintf("call %d", i))
	}
	open(t, d, w.list, "all of it")
}

// P9.1, P9.4: a log that is opened is opened again as the same, whether its bytes lasted or not, from its disk or from another one with its bytes.
func TestOpenedAgain(t *testing.T) {
	for _, list := range [][]string{nil, {"a"}, {"a", "b"}, {"abc", string(text(1, 127)), string(text(2, 128)), string(text(3, 2000)), "a"}} {
		b := onDisk(list...)
		when := fmt.Sprintf("%d entries", len(list))
		opens(t, b, list, when)
		l, d, w := fresh(t, 5000)
		for _, entry := range list {
			l.Put([]byte(entry))
			w.put([]byte(entry))
		}
		if d.Lasts() != 0 {
			t.Errorf("%s: %d bytes last", when, d.Lasts())
		}
		second, w2 := open(t, d, list, when+", that don't last yet")
		if got, want := second.Append([]byte("more")), w2.append([]byte("more")); got != want {
			t.Errorf("%s: an append: %d", when, got)
		}
		check(t, second, d, w2, when+", and one more")
		third, w3 := open(t, d, w2.list, when+", a third time")
		check(t, third, d, w3, when+", a third time")
	}
}

// P9.1: a log that nothing is cut off of lasts all the same once it is opened.
func TestOpenMakesLast(t *testing.T) {
	l, d, w := fresh(t, 100)
	for _, entry := range []string{"abc", "d", "ef"} {
		l.Put([]byte(entry))
		w.put([]byte(entry))
	}
	check(t, l, d, w, "put")
	l, w = open(t, d, w.list, "that don't last yet")
	d.Crash(0)
	check(t, l, d, w, "behind a crash")
	open(t, d, []string{"abc", "d", "ef"}, "behind a crash")
}

// P9.1: disks that hold no log: nothing is opened of them, and nothing is left.
func TestNoLog(t *testing.T) {
	for i, b := range []string{
		"\x00", "\x80", "\xff", "a", "abc", "\x01", "\x01a", "\x03ab",
		strings.Repeat("\x00", 50), strings.Repeat("\x80", 50), strings.Repeat("\xff", 50), strings.Repeat("\x01", 50),
		string(text(1, 9)), string(text(2, 10)), string(text(3, 500)), string(text(4, 5000)),
		"\x01a" + strings.Repeat("\x00", 8), "\x8f\x50" + strings.Repeat("a", 3000),
		" " + onDisk("abc"), "\x00" + onDisk("abc"), onDisk("abc")[1:],
		onDisk("abc", "d")[len(onDisk("abc")):], // an entry whose chain begins elsewhere
	} {
		opens(t, b, nil, fmt.Sprintf("no log %d", i))
	}
}

// P9.1: of each beginning of a log's bytes the whole entries are opened, and nothing else is left.
func TestTorn(t *testing.T) {
	list := []string{"abc", "d", string(text(1, 127)), string(text(2, 128)), "ef"}
	b := onDisk(list...)
	for n := range len(b) + 1 {
		whole := 0
		for whole < len(list) && len(onDisk(list[:whole+1]...)) <= n {
			whole++
		}
		if got := standing(b[:n]); !slices.Equal(got, list[:whole]) {
			t.Fatalf("the words have %d entries in %d bytes, want %d", len(got), n, whole)
		}
		open(t, diskOf(t, 400, b[:n], n/2), list[:whole], fmt.Sprintf("torn at %d", n))
	}
	for _, n := range []int{1, 4, 5, 11, 12, 13, 21, 22, 23, len(b) - 1} {
		opens(t, b[:n], standing(b[:n]), fmt.Sprintf("torn at %d", n))
	}
}

// P9.1: an entry with one byte changed, in its number, in itself, or in its mark, isn't there, and none behind it.
func TestOneByteChanged(t *testing.T) {
	list := []string{"abc", string(text(1, 128)), "d", "ef"}
	b := onDisk(list...)
	for i := range len(b) {
		ahead := 0
		for i >= len(onDisk(list[:ahead+1]...)) {
			ahead++
		}
		for _, by := range []byte{1, 2, 0x10, 0x7f, 0x80, 0xff} {
			c := []byte(b)
			c[i] ^= by
			open(t, diskOf(t, 400, string(c), i), list[:ahead], fmt.Sprintf("byte %d changed by %x", i, by))
		}
	}
	for _, i := range []int{0, 1, 3, 4, 11, 12, 13, 14, len(b) - 1} {
		c := []byte(b)
		c[i]++
		opens(t, string(c), standing(string(c)), fmt.Sprintf("byte %d is one more", i))
	}
}

// P9.1: of a mark each byte must be right, alone too.
func TestMarks(t *testing.T) {
	for _, n := range []int{1, 127, 128, 2000} {
		entry := string(text(n, n))
		b := onDisk(entry)
		open(t, diskOf(t, 3000, b, 0), []string{entry}, "a right mark")
		for i := range 8 {
			for bit := range 8 {
				c := []byte(b)
				c[len(c)-1-i] ^= 1 << bit
				open(t, diskOf(t, 3000, string(c), 0), nil, fmt.Sprintf("%d bytes, byte %d from the end, bit %d", n, i, bit))
			}
		}
	}
}

// entryBy is the bytes of an entry behind others by a number's bytes that may not be its own.
func entryBy(num, entry string, ahead ...string) string {
	chain := chainOf(append(slices.Clone(ahead), entry)...)
	return num + entry + string(chain[:8])
}

// P9.1: an entry whose number isn't of its one form isn't there, though all else is right.
func TestOtherForms(t *testing.T) {
	for i, x := range []struct{ num, entry string }{
		{"\x80\x03", "abc"}, {"\x80\x80\x03", "abc"}, {"\x80\x80\x80\x80\x03", "abc"}, {"\x80\x80\x80\x80\x80\x03", "abc"},
		{"\x80\x00", ""}, {"\x80\x7f", string(text(1, 127))}, {"\x80\x81\x00", string(text(1, 128))}, {"\x80\x8f\x50", string(text(1, 2000))},
		{"\x81\x00", "a"}, {"\x02", "a"}, {"\x00", "a"}, {"\x03\x00", "abc"}, {"\x83", "abc"}, {"", "abc"}, {"\x00\x03", "abc"}, {"\x03\x03", "abc"},
		{"\x7f", string(text(1, 126))}, {"\x81\x01", string(text(1, 128))},
		{"\x87\xff\xff\xff\x7f", "abc"}, {"\x88\x80\x80\x80\x03", "abc"}, {"\x90\x80\x80\x80\x03", "abc"}, {"\xff\xff\xff\xff\x7f", "abc"}, {"\x81\x80\x80\x80\x80\x03", "abc"},
		{"\x82\x80\x80\x80\x80\x80\x80\x80\x80\x03", "abc"}, {"\x00\x00\x00\x03", "abc"}, {"\x03\x00\x00\x00", "abc"},
	} {
		when := fmt.Sprintf("number %x of %d bytes (%d)", x.num, len(x.entry), i)
		if got := standing(entryBy(x.num, x.entry)); len(got) != 0 {
			t.Fatalf("%s: the words have %q", when, got)
		}
		opens(t, entryBy(x.num, x.entry), nil, when)
		opens(t, onDisk("ahead")+entryBy(x.num, x.entry, "ahead"), []string{"ahead"}, when+", behind one")
		opens(t, onDisk("ahead")+entryBy(x.num, x.entry, "ahead")+onDisk("ahead", x.entry, "behind")[len(onDisk("ahead", x.entry)):], []string{"ahead"}, when+", between two")
	}
}

// P9.1: entries of no bytes and of too many aren't there, though their marks are right, nor is what stands behind them.
func TestNoEntries(t *testing.T) {
	for _, n := range []int{0, 2001, 2002, 2047, 2048, 4000, 16383} {
		entry := string(text(n, n))
		when := fmt.Sprintf("an entry of %d bytes", n)
		opens(t, onDisk(entry), nil, when)
		opens(t, onDisk("ahead", entry), []string{"ahead"}, when+" behind one")
		opens(t, onDisk("ahead", entry, "behind"), []string{"ahead"}, when+" between two")
		opens(t, onDisk("ahead")+onDisk(entry, "behind")[len(onDisk(entry)):], []string{"ahead"}, when+" that isn't there")
	}
	// Marks that an entry of no bytes would have, if it left the chain as it is.
	zero := string(make([]byte, 8))
	opens(t, "\x00"+zero+onDisk("abc"), nil, "an entry of no bytes with a mark of zeros")
	opens(t, onDisk("abc")+"\x00"+onDisk("abc")[4:], []string{"abc"}, "an entry of no bytes with the mark ahead")
	opens(t, onDisk("abc")+"\x00", []string{"abc"}, "a number 0")
}

// P9.1: the greatest entry, and one as great as the disk lets it be, are there.
func TestGreatEntries(t *testing.T) {
	one := string(text(1, 2000))
	opens(t, onDisk(one), []string{one}, "2,000 bytes")
	opens(t, onDisk(one, one), []string{one, one}, "2,000 bytes twice")
	var list []string
	for i := range 32 {
		list = append(list, string(text(i, 2000)))
	}
	list = append(list, string(text(33, 65536-32*2010-10)))
	d := diskOf(t, 65536, onDisk(list...), 0)
	l, w := open(t, d, list, "a full disk")
	if d.Room() != 0 || l.Put([]byte("a")) != api.ErrFull {
		t.Errorf("room for %d", d.Room())
	}
	check(t, l, d, w, "a full disk")
}

// P9.1: as many entries as a disk can hold.
func TestManyEntries(t *testing.T) {
	d := disk.New(65536)
	l, _, e := Open(d)
	if e != api.OK {
		t.Fatal(e)
	}
	for i := range 6553 {
		if e := l.Put([]byte{byte(i)}); e != api.OK {
			t.Fatalf("entry %d: %d", i, e)
		}
	}
	if e := l.Append([]byte("a")); e != api.ErrFull || l.Count() != 6553 || d.Room() != 6 {
		t.Errorf("one more: %d, %d entries, room for %d", e, l.Count(), d.Room())
	}
	again, list, e := Open(d)
	if e != api.OK || len(list) != 6553 || again.Count() != 6553 || again.Chain() != l.Chain() || d.Lasts() != 65530 {
		t.Errorf("opened again: %d, %d entries", e, len(list))
	}
	for i, entry := range list {
		if len(entry) != 1 || entry[0] != byte(i) {
			t.Fatalf("entry %d is %q", i, entry)
		}
	}
}

// P9.1: bytes behind the last entry are cut off, those that look like one among them.
func TestBytesBehind(t *testing.T) {
	list := []string{"abc", "d"}
	b := onDisk(list...)
	for i, more := range []string{"\x00", "\x01", "\x80", "\xff", "x", "\x01x", strings.Repeat("\x00", 40), string(text(1, 40)), b, onDisk("abc"), b[len(onDisk("abc")):], onDisk("x"), "\x80" + entryBy("\x01", "x", list...), entryBy("\x01", "x", "d", "abc"), entryBy("\x01", "x", "abc")} {
		if got := standing(b + more); !slices.Equal(got, list) {
			t.Fatalf("%d: the words have %q", i, got)
		}
		opens(t, b+more, list, fmt.Sprintf("bytes behind %d", i))
	}
	opens(t, b+entryBy("\x01", "x", list...), []string{"abc", "d", "x"}, "one that stands there")
}

// P9.1: entries that change places, or of which one is left out or stands twice, are there as far as the chain goes.
func TestOrder(t *testing.T) {
	a, b, c := onDisk("a"), onDisk("a", "b")[10:], onDisk("a", "b", "c")[20:]
	for _, x := range []struct {
		bytes string
		want  []string
	}{
		{a + b + c, []string{"a", "b", "c"}}, {a + c + b, []string{"a"}}, {a + c, []string{"a"}}, {a + a + b, []string{"a"}},
		{a + b + b + c, []string{"a", "b"}}, {b + c, nil}, {b + a + c, nil}, {c, nil}, {a + b + a, []string{"a", "b"}},
	} {
		opens(t, x.bytes, x.want, fmt.Sprintf("%q", x.bytes))
	}
}

// P9.3: behind a crash there are the entries that were synced, and a beginning of those that were written since, whole ones; and the log goes on behind them, as if the others had never been.
func TestCrash(t *testing.T) {
	all := []string{"abc", "d", "efg", string(text(1, 20)), string(text(2, 130)), "h"}
	for synced := range len(all) + 1 {
		lasts, since := len(onDisk(all[:synced]...)), len(onDisk(all...))-len(onDisk(all[:synced]...))
		for keep := -2; keep <= since+2; keep++ {
			when := fmt.Sprintf("%d of %d synced, a crash that keeps %d", synced, len(all), keep)
			l, d, w := fresh(t, 500)
			for i, entry := range all {
				if i == synced-1 {
					l.Append([]byte(entry))
					w.append([]byte(entry))
				} else {
					l.Put([]byte(entry))
					w.put([]byte(entry))
				}
			}
			check(t, l, d, w, when)
			d.Crash(keep)
			w.crash(keep)
			if n := len(w.list); n < synced || !slices.Equal(w.list, all[:n]) {
				t.Fatalf("%s: the words have %q", when, w.list)
			}
			if n := len(w.list); len(onDisk(all[:n]...)) > lasts+max(keep, 0) || n < len(all) && len(onDisk(all[:n+1]...)) <= lasts+keep {
				t.Fatalf("%s: the words have %d entries", when, n)
			}
			l, w2 := open(t, d, w.list, when)
			l.Put([]byte("on"))
			w2.put([]byte("on"))
			check(t, l, d, w2, when+", and a put")
			l.Append([]byte("and on"))
			w2.append([]byte("and on"))
			check(t, l, d, w2, when+", and an append")
			d.Crash(0)
			open(t, d, w2.list, when+", and another crash")
		}
	}
}

// P9.3: great numbers keep all, or nothing.
func TestCrashEdges(t *testing.T) {
	for _, keep := range []int{math.MinInt, math.MinInt32, -1, 0, 1, math.MaxInt32, math.MaxInt} {
		l, d, w := fresh(t, 100)
		l.Append([]byte("abc"))
		l.Put([]byte("d"))
		l.Put([]byte("e"))
		d.Crash(keep)
		want := []string{"abc"}
		if keep > 1 {
			want = []string{"abc", "d", "e"}
		}
		l, w = open(t, d, want, fmt.Sprintf("a crash that keeps %d", keep))
		check(t, l, d, w, "behind it")
	}
}

// P9.4: two logs with the same entries have the same bytes, whatever was refused, lost or opened on the way.
func TestSameBytes(t *testing.T) {
	list := []string{"abc", "d", string(text(1, 128)), "d"}
	plain, d1, w := fresh(t, 400)
	for _, entry := range list {
		plain.Put([]byte(entry))
		w.put([]byte(entry))
	}
	check(t, plain, d1, w, "plain")
	l, d2, _ := fresh(t, 500)
	for i, entry := range list {
		l.Put(nil)
		l.Append(text(i, 2001))
		l.Append([]byte(entry))
		l.Put([]byte("lost"))
		d2.Crash(i * 3)
		var e api.Errno
		if l, _, e = Open(d2); e != api.OK || l.Count() != i+1 {
			t.Fatalf("entry %d: %d, %d entries", i, e, l.Count())
		}
	}
	if !bytes.Equal(d1.Bytes(), d2.Bytes()) || plain.Chain() != l.Chain() || plain.Count() != l.Count() {
		t.Errorf("%q and %q", d1.Bytes(), d2.Bytes())
	}
}

// P9.4: entries that differ, in their order or by how they are cut, have other chains.
func TestChainsTellApart(t *testing.T) {
	seen := map[api.Hash]string{}
	for _, list := range [][]string{nil, {"a"}, {"b"}, {"a", "b"}, {"b", "a"}, {"ab"}, {"a", "a"}, {"aa"}, {"\x00"}, {"\x00\x00"}, {"a", "b", "c"}, {"a", "bc"}, {"ab", "c"}, {"abc"}} {
		l, _, _ := fresh(t, 100)
		for _, entry := range list {
			l.Put([]byte(entry))
		}
		name := fmt.Sprintf("%q", list)
		if other, twice := seen[l.Chain()]; twice {
			t.Errorf("%s and %s have one chain", name, other)
		}
		seen[l.Chain()] = name
	}
}

// Rule 4: an entry that is handed in is neither changed nor kept, its spare room included, whether it is taken or not.
func TestPutKeepsNothing(t *testing.T) {
	for _, n := range []int{0, 1, 7, 8, 9, 32, 60, 127, 128, 300, 2000, 2001} {
		when := fmt.Sprintf("%d bytes", n)
		l, d, w := fresh(t, 500)
		l.Put([]byte("ahead"))
		w.put([]byte("ahead"))
		b, stays := withRoom(t, text(2, n))
		if got, want := l.Put(b), w.put(b); got != want {
			t.Errorf("%s: a put: %d, want %d", when, got, want)
		}
		if got, want := l.Append(b), w.append(b); got != want {
			t.Errorf("%s: an append: %d, want %d", when, got, want)
		}
		stays()
		l.Put([]byte("more"))
		w.put([]byte("more"))
		stays()
		spoil(b)
		check(t, l, d, w, when)
		open(t, d, w.list, when)
	}
}

// Rule 4: entries that are answered are new memory: no two of one answer share any, their spare room neither, and nor do two answers, or the disk.
func TestEntriesAreNew(t *testing.T) {
	var want []string
	for i, n := range []int{1, 2, 3, 7, 8, 9, 31, 32, 33, 127, 128, 129, 2000, 5, 5, 5} {
		want = append(want, string(text(i, n)))
	}
	for _, spoilt := range []int{0, 1, 8, 12, len(want) - 1} {
		d := diskOf(t, 4000, onDisk(want...), 0)
		l, first, _ := Open(d)
		_, second, _ := Open(d)
		w := words{4000, want, len(onDisk(want...))}
		spoil(first[spoilt])
		for i := range first {
			if i != spoilt && string(first[i]) != want[i] {
				t.Errorf("entries %d and %d share memory", i, spoilt)
			}
		}
		if !same(second, want) {
			t.Errorf("two answers share memory at %d", spoilt)
		}
		check(t, l, d, w, "an entry that was written over")
		for i := range second {
			_ = append(second[i], "over what is behind"...)
		}
		clear(first[:cap(first)])
		if !same(second, want) {
			t.Error("entries lie behind one another")
		}
		check(t, l, d, w, "entries that were appended to")
		l.Put([]byte("more"))
		d.Cut(0)
		d.Write(bytes.Repeat([]byte{'.'}, 4000))
		if !same(second, want) {
			t.Error("an answer changed with its disk")
		}
	}
}

// The chapter's way: entries are handed on with where they end, and whoever takes them may leave.
func TestEntriesAreHandedOn(t *testing.T) {
	list := []string{"abc", "d", string(text(1, 128))}
	b := []byte(onDisk(list...) + "rest")
	for most := range len(list) + 2 {
		taken := 0
		for entry, behind := range entries(b) {
			want := end{place: len(onDisk(list[:taken+1]...)), count: taken + 1, chain: chainOf(list[:taken+1]...)}
			if string(entry) != list[taken] || behind != want {
				t.Errorf("entry %d: %q, %v", taken, entry, behind)
			}
			if taken++; taken >= most {
				break
			}
		}
		if want := min(max(most, 1), len(list)); taken != want {
			t.Errorf("%d taken, want %d", taken, want)
		}
	}
}

// P9.1 to P9.4: logs go their way by any calls in any order, with crashes and bytes that are torn, as the words say.
func TestAnyCalls(t *testing.T) {
	for seed := range 150 {
		t.Run("", func(t *testing.T) {
			t.Parallel()
			chance := rand.New(rand.NewSource(int64(seed)))
			room := 1 + chance.Intn(500)
			l, d, w := fresh(t, room)
			for i := range 120 {
				when := fmt.Sprintf("log %d, room for %d, call %d", seed, room, i)
				b := text(chance.Int(), chance.Intn(40))
				if chance.Intn(12) == 0 {
					b = text(chance.Int(), 100+chance.Intn(2000))
				}
				switch chance.Intn(6) {
				case 0, 1, 2:
					if got, want := l.Put(b), w.put(b); got != want {
						t.Fatalf("%s: a put of %d bytes: %d, want %d", when, len(b), got, want)
					}
				case 3:
					if got, want := l.Append(b), w.append(b); got != want {
						t.Fatalf("%s: an append of %d bytes: %d, want %d", when, len(b), got, want)
					}
				case 4:
					keep := chance.Intn(120) - 10
					d.Crash(keep)
					w.crash(keep)
					l, w = open(t, d, w.list, when)
				case 5:
					d.Write(b[:min(len(b), d.Room())]) // what another one left behind
					l, w = open(t, d, standing(string(d.Bytes())), when)
				}
				check(t, l, d, w, when)
			}
		})
	}
}

// P9.1, W6: of any bytes a log is opened as the words say, and opened again as the same.
func TestAnyBytes(t *testing.T) {
	list := []string{"abc", "d", string(text(1, 128)), "efg"}
	b := []byte(onDisk(list...))
	chance := rand.New(rand.NewSource(9))
	for i := range 3000 {
		c := slices.Clone(b)
		for range 1 + chance.Intn(3) {
			at := chance.Intn(len(c) + 1)
			switch chance.Intn(3) {
			case 0:
				c = slices.Insert(c, at, byte(chance.Intn(256)))
			case 1:
				c = slices.Delete(c, at, min(at+1+chance.Intn(3), len(c)))
			case 2:
				c = append(c[:at:at], onDisk(list[chance.Intn(len(list))])...)
			}
		}
		if len(c) == 0 {
			continue
		}
		d := diskOf(t, 1000, string(c), chance.Intn(len(c)+1))
		want := standing(string(c))
		open(t, d, want, fmt.Sprintf("bytes %d", i))
		open(t, d, want, fmt.Sprintf("bytes %d, again", i))
	}
}

// Rule 6: logs don't hang on each other, though they are made and written to in turn.
func TestLogsAreApart(t *testing.T) {
	logs, disks, by := make([]*Log, 5), make([]*disk.Disk, 5), make([]words, 5)
	for i := range logs {
		logs[i], disks[i], by[i] = fresh(t, 300+i)
	}
	for turn := range 25 {
		for i, l := range logs {
			b := text(100*i+turn, turn%(i+3))
			if got, want := l.Put(b), by[i].put(b); got != want {
				t.Fatalf("log %d, turn %d: %d, want %d", i, turn, got, want)
			}
			if turn%6 == i {
				disks[i].Crash(i * 7)
				by[i].crash(i * 7)
				logs[i], by[i] = open(t, disks[i], by[i].list, fmt.Sprintf("log %d, turn %d", i, turn))
			}
		}
		for i, l := range logs {
			check(t, l, disks[i], by[i], fmt.Sprintf("log %d, turn %d", i, turn))
		}
	}
}
