package disk

import (
	"bytes"
	"fmt"
	"math"
	"math/rand"
	"slices"
	"testing"

	"inspeximus/api"
)

// text is n bytes that differ from those of other seeds, so that one out of place shows.
func text(seed, n int) []byte {
	out := make([]byte, n)
	rand.New(rand.NewSource(int64(seed))).Read(out)
	return out
}

// withRoom is a copy of b with marked room behind it, and a check that b and the room are as they were.
func withRoom(t *testing.T, b []byte) ([]byte, func()) {
	t.Helper()
	whole := slices.Concat(b, bytes.Repeat([]byte{0xa5}, 100))
	kept := slices.Clone(whole)
	return whole[:len(b)], func() {
		t.Helper()
		if !bytes.Equal(whole, kept) {
			t.Errorf("%d bytes that were handed in, or the room behind them, were changed", len(b))
		}
	}
}

// spoil writes over bytes and all their spare room.
func spoil(b []byte) {
	b = b[:cap(b)]
	for i := range b {
		b[i] ^= 0xff
	}
}

// words is a disk by the words of the chapter: two texts, each a value that nobody shares.
type words struct {
	room        int
	last, since string
}

func (w *words) write(b []byte) api.Errno {
	if len(w.last)+len(w.since)+len(b) > w.room {
		return api.ErrFull
	}
	w.since += string(b)
	return api.OK
}

func (w *words) sync() { w.last, w.since = w.last+w.since, "" }

// crash goes on byte by byte, so that no number can be too great or too small for it.
func (w *words) crash(keep int) {
	for ; keep >= 1 && w.since != ""; keep-- {
		w.last, w.since = w.last+w.since[:1], w.since[1:]
	}
	w.since = ""
}

func (w *words) cut(n int) api.Errno {
	all := w.last + w.since
	if n < 0 || n > len(all) {
		return api.ErrArg
	}
	w.last, w.since = all[:n], ""
	return api.OK
}

// check asks a disk twice for all that it tells: asking changes nothing.
func check(t *testing.T, d *Disk, w words, when string) {
	t.Helper()
	for range 2 {
		if got, want := d.Bytes(), w.last+w.since; string(got) != want {
			t.Fatalf("%s: the bytes are %q, want %q", when, got, want)
		}
		if got, want := d.Lasts(), len(w.last); got != want {
			t.Fatalf("%s: %d last, want %d", when, got, want)
		}
		if got, want := d.Room(), w.room-len(w.last)-len(w.since); got != want {
			t.Fatalf("%s: room for %d more, want %d", when, got, want)
		}
	}
}

// stand is a disk with some bytes that last, and some that don't yet, and what it is by the words.
func stand(t *testing.T, room int, last, since string) (*Disk, words) {
	t.Helper()
	d := New(room)
	if e := d.Write([]byte(last)); e != api.OK {
		t.Fatalf("Write(%q): %d", last, e)
	}
	d.Sync()
	if e := d.Write([]byte(since)); e != api.OK {
		t.Fatalf("Write(%q): %d", since, e)
	}
	w := words{room, last, since}
	check(t, d, w, "at first")
	return d, w
}

// P8.1, P8.2: the chapter's example.
func TestExample(t *testing.T) {
	d := New(4)
	if e := d.Write([]byte("abc")); e != api.OK {
		t.Errorf("abc: %d", e)
	}
	check(t, d, words{4, "", "abc"}, "abc")
	if e := d.Write([]byte("de")); e != api.ErrFull {
		t.Errorf("de: %d", e)
	}
	check(t, d, words{4, "", "abc"}, "de")
	d.Crash(1)
	check(t, d, words{4, "a", ""}, "the crash")
}

// The errors' numbers, as the chapter says them.
func TestErrors(t *testing.T) {
	d := New(1)
	if e := d.Cut(1); e != 1 {
		t.Errorf("a cut that may not be: %d", e)
	}
	if e := d.Write([]byte("ab")); e != 5 {
		t.Errorf("a write without room: %d", e)
	}
	if e := d.Write([]byte("a")); e != 0 {
		t.Errorf("a write: %d", e)
	}
	if e := d.Cut(1); e != 0 {
		t.Errorf("a cut: %d", e)
	}
}

// P8.1: rooms that a disk may have, all of which it has.
func TestNew(t *testing.T) {
	for _, room := range []int{1, 2, 3, 60, 255, 256, 257, 3000, 65534, 65535, 65536} {
		d := New(room)
		if d == nil {
			t.Errorf("New(%d) is nil", room)
			continue
		}
		w := words{room: room}
		check(t, d, w, "new")
		b := text(room, room)
		if e := d.Write(append(slices.Clone(b), 0)); e != api.ErrFull {
			t.Errorf("room for %d: one more: %d", room, e)
		}
		check(t, d, w, "one more")
		if e := d.Write(b); e != api.OK {
			t.Errorf("room for %d: just so many: %d", room, e)
		}
		w.since = string(b)
		check(t, d, w, "full")
		if e := d.Write([]byte{0}); e != api.ErrFull {
			t.Errorf("room for %d: one byte behind all: %d", room, e)
		}
		check(t, d, w, "one behind all")
	}
}

// P8.1: rooms that no disk has.
func TestNewOfOtherRooms(t *testing.T) {
	for _, room := range []int{0, -1, -2, -65536, math.MinInt, math.MinInt32, 65537, 65538, 131072, 1 << 20, math.MaxInt32, math.MaxInt - 1, math.MaxInt} {
		if New(room) != nil {
			t.Errorf("New(%d) is a disk", room)
		}
	}
}

// P8.1: a write of nothing is OK, wherever, on a full disk too, and does nothing: bytes that don't last don't by it.
func TestWriteOfNothing(t *testing.T) {
	for _, nothing := range [][]byte{nil, {}, []byte("abc")[:0], []byte("abc")[3:]} {
		for _, s := range [][2]string{{"", ""}, {"a", ""}, {"", "a"}, {"ab", "c"}, {"abcde", ""}, {"", "abcde"}, {"abc", "de"}} {
			d, w := stand(t, 5, s[0], s[1])
			if e := d.Write(nothing); e != api.OK {
				t.Errorf("%q: a write of nothing: %d", s, e)
			}
			check(t, d, w, "nothing")
		}
	}
}

// P8.1: bytes come behind all others, as long as there is room for all of one write; one that was refused leaves nothing, and what still has room may come behind it.
func TestWrite(t *testing.T) {
	for room := 1; room <= 12; room++ {
		for first := range room + 3 {
			for second := range room + 3 {
				d, w := New(room), words{room: room}
				for i, n := range []int{first, second, 1, first, 2} {
					b := text(10*i+1, n)
					if got, want := d.Write(b), w.write(b); got != want {
						t.Fatalf("room for %d: write %d, of %d bytes: %d, want %d", room, i, n, got, want)
					}
					check(t, d, w, fmt.Sprintf("room for %d, write %d of %d bytes", room, i, n))
				}
			}
		}
	}
}

// P8.1: a byte is as good as any other one.
func TestWriteOfAllBytes(t *testing.T) {
	d, w := New(300), words{room: 300}
	for c := range 256 {
		d.Write([]byte{byte(c)})
		w.write([]byte{byte(c)})
		check(t, d, w, "a byte")
	}
	d.Sync()
	w.sync()
	check(t, d, w, "all bytes")
}

// P8.2: all bytes last behind a sync, which may be of nothing, or be done again.
func TestSync(t *testing.T) {
	for _, s := range [][2]string{{"", ""}, {"a", ""}, {"", "a"}, {"ab", "cd"}, {"abcd", "efgh"}, {"", "abcdefgh"}} {
		d, w := stand(t, 8, s[0], s[1])
		for i := range 3 {
			d.Sync()
			w.sync()
			check(t, d, w, fmt.Sprintf("%q: sync %d", s, i))
		}
		for _, keep := range []int{0, 1, -1} {
			d.Crash(keep)
			check(t, d, w, fmt.Sprintf("%q: a crash behind a sync", s))
		}
	}
}

// edges are numbers about those that a disk has, and those of which there are no more.
func edges(about ...int) []int {
	out := []int{math.MinInt, math.MinInt + 1, math.MinInt32, -65537, -65536, -2, -1, 0, 1, 2, 65536, 65537, math.MaxInt32, math.MaxInt - 1, math.MaxInt}
	for _, n := range about {
		out = append(out, n-1, n, n+1)
	}
	return out
}

// P8.2, P8.3: a crash keeps what lasted, and the first bytes of what was written since, as many as it says.
func TestCrash(t *testing.T) {
	all := "abcdefghijkl"
	for lasts := range 7 {
		for since := range 6 {
			last, behind := all[:lasts], all[lasts:lasts+since]
			for _, keep := range edges(since, lasts, lasts+since) {
				when := fmt.Sprintf("%q and %q, a crash that keeps %d", last, behind, keep)
				d, w := stand(t, 12, last, behind)
				d.Crash(keep)
				w.crash(keep)
				check(t, d, w, when)
				left := string(d.Bytes())
				if d.Lasts() != len(left) || left[:lasts] != last || left != all[:len(left)] || len(left) > lasts+since {
					t.Errorf("%s: %q are left, of which %d last", when, left, d.Lasts())
				}
				d.Crash(keep)
				check(t, d, w, when+", and another one")
				d.Write([]byte("XYZ"))
				w.write([]byte("XYZ"))
				check(t, d, w, when+", and a write")
				d.Crash(1)
				w.crash(1)
				check(t, d, w, when+", a write, and a crash that keeps 1")
			}
		}
	}
}

// P8.3: crashes one behind another, with writes between: what lasts once lasts for ever.
func TestCrashesOneBehindAnother(t *testing.T) {
	d, want := New(100), ""
	for i := range 12 {
		b := text(i, 5)
		if e := d.Write(b); e != api.OK {
			t.Fatalf("write %d: %d", i, e)
		}
		keep := i%7 - 1
		d.Crash(keep)
		want += string(b[:min(max(keep, 0), 5)])
		check(t, d, words{100, want, ""}, fmt.Sprintf("crash %d", i))
		d.Crash(0)
		check(t, d, words{100, want, ""}, fmt.Sprintf("crash %d, and another one", i))
	}
}

// P8.2: a cut leaves the first bytes, which last, wherever it is: in what lasts, at its end, in what was written since; none other than these, whatever crashes.
func TestCut(t *testing.T) {
	all := "abcdefghijkl"
	for lasts := range 7 {
		for since := range 6 {
			last, behind := all[:lasts], all[lasts:lasts+since]
			for _, n := range edges(since, lasts, lasts+since) {
				when := fmt.Sprintf("%q and %q, Cut(%d)", last, behind, n)
				d, w := stand(t, 12, last, behind)
				if got, want := d.Cut(n), w.cut(n); got != want {
					t.Errorf("%s: %d, want %d", when, got, want)
				}
				check(t, d, w, when)
				if n >= 0 && n <= lasts+since && (d.Lasts() != n || d.Room() != 12-n || string(d.Bytes()) != all[:n]) {
					t.Errorf("%s: %q are left, of which %d last", when, d.Bytes(), d.Lasts())
				}
				d.Write([]byte("XYZ"))
				w.write([]byte("XYZ"))
				check(t, d, w, when+", and a write")
				d.Crash(2)
				w.crash(2)
				check(t, d, w, when+", a write, and a crash that keeps 2")
				d.Crash(9)
				check(t, d, w, when+", and another crash")
			}
		}
	}
}

// P8.2: a cut makes room, and what was cut off doesn't come back by a write that is shorter.
func TestCutMakesRoom(t *testing.T) {
	d, w := stand(t, 8, "abcd", "efgh")
	for _, n := range []int{6, 4, 4, 1, 0, 0} {
		if e := d.Cut(n); e != api.OK {
			t.Fatalf("Cut(%d): %d", n, e)
		}
		w.cut(n)
		check(t, d, w, "a cut")
		if got := d.Cut(n + 1); got != api.ErrArg {
			t.Errorf("behind Cut(%d) Cut(%d): %d", n, n+1, got)
		}
		check(t, d, w, "a cut to more than there are")
		b := bytes.Repeat([]byte{'x'}, 8-n)
		if e := d.Write(append(b, 'y')); e != api.ErrFull {
			t.Errorf("behind Cut(%d) one byte too many: %d", n, e)
		}
		if e := d.Write(b); e != api.OK {
			t.Errorf("behind Cut(%d) as many as there is room for: %d", n, e)
		}
		w.write(b)
		check(t, d, w, "full again")
		d.Crash(0)
		w.crash(0)
		check(t, d, w, "a crash")
		d.Write([]byte("z"))
		w.write([]byte("z"))
		check(t, d, w, "a short write")
		d.Sync()
		w.sync()
	}
}

// P8.1, P8.2: a nil disk has nothing, takes nothing, and nothing changes that.
func TestNilDisk(t *testing.T) {
	for i, d := range []*Disk{nil, New(0), New(65537)} {
		asked := func() {
			t.Helper()
			if b := d.Bytes(); len(b) != 0 || d.Lasts() != 0 || d.Room() != 0 {
				t.Errorf("%d: bytes %q, %d last, room for %d", i, b, d.Lasts(), d.Room())
			}
		}
		asked()
		for _, b := range [][]byte{nil, {}, []byte("a"), text(1, 70000)} {
			if e := d.Write(b); e != api.ErrArg {
				t.Errorf("%d: a write of %d bytes: %d", i, len(b), e)
			}
			asked()
		}
		d.Sync()
		asked()
		for _, n := range edges() {
			d.Crash(n)
			asked()
			if e := d.Cut(n); e != api.ErrArg {
				t.Errorf("%d: Cut(%d): %d", i, n, e)
			}
			asked()
		}
	}
}

// Rule 4: what is written is neither changed nor kept, its spare room included, whether there is room for it or not.
func TestWriteKeepsNothing(t *testing.T) {
	for _, ahead := range []int{0, 1, 5, 31, 32, 33} {
		for _, n := range []int{0, 1, 7, 8, 9, 32, 64, 100, 101, 300} {
			when := fmt.Sprintf("%d bytes behind %d", n, ahead)
			d, w := stand(t, 100, string(text(1, ahead)), "")
			b, stays := withRoom(t, text(2, n))
			if got, want := d.Write(b), w.write(b); got != want {
				t.Errorf("%s: %d, want %d", when, got, want)
			}
			stays()
			d.Write([]byte("more"))
			w.write([]byte("more"))
			stays()
			d.Crash(n + 2)
			w.crash(n + 2)
			d.Write([]byte("other"))
			w.write([]byte("other"))
			d.Cut(ahead)
			w.cut(ahead)
			d.Write([]byte("and again"))
			w.write([]byte("and again"))
			stays()
			spoil(b)
			check(t, d, w, when)
		}
	}
}

// Rule 4: bytes that are written and written over change nothing that was handed in just before.
func TestWriteOfOneList(t *testing.T) {
	d, w := New(65536), words{room: 65536}
	b := make([]byte, 0, 64)
	for i := range 200 {
		b = append(b[:0], text(i, i%64)...)
		if got, want := d.Write(b), w.write(b); got != want {
			t.Fatalf("write %d: %d, want %d", i, got, want)
		}
		check(t, d, w, fmt.Sprintf("write %d", i))
	}
}

// Rule 4: bytes that are answered are new memory: a disk stays as it was whatever is done to them, and they stay whatever is done to the disk.
func TestBytesAreNew(t *testing.T) {
	for n := range 130 {
		d, w := stand(t, 200, string(text(3, n/2)), string(text(4, n-n/2)))
		first, second := d.Bytes(), d.Bytes()
		kept := slices.Clone(first)
		spoil(first)
		if !bytes.Equal(second, kept) {
			t.Errorf("%d bytes: two answers share memory", n)
		}
		check(t, d, w, "an answer that was written over")
		_ = append(second, "behind"...)
		d.Write([]byte("XYZ"))
		w.write([]byte("XYZ"))
		_ = append(second, "behind"...)
		check(t, d, w, "an answer that was appended to")
		d.Crash(0)
		w.crash(0)
		d.Write([]byte("uvw"))
		w.write([]byte("uvw"))
		d.Cut(0)
		d.Write(bytes.Repeat([]byte{'.'}, 200))
		if !bytes.Equal(second, kept) {
			t.Errorf("%d bytes: an answer changed with its disk", n)
		}
	}
}

// The chapter's way: nothing can be appended over what is behind an answer, for it ends there.
func TestBytesAreCut(t *testing.T) {
	for n := range 130 {
		d, _ := stand(t, 200, string(text(5, n/3)), string(text(6, n-n/3)))
		b := d.Bytes()
		if len(b) != n || cap(b) != n {
			t.Errorf("%d bytes: %d, with room for %d", n, len(b), cap(b))
		}
		one, other := append(b, '1'), append(b, '2')
		if one[n] != '1' || other[n] != '2' {
			t.Errorf("%d bytes: two that append write over each other", n)
		}
		for _, step := range []func(){func() { d.Crash(1) }, func() { d.Cut(d.Lasts() / 2) }} {
			step()
			if b := d.Bytes(); cap(b) != len(b) {
				t.Errorf("%d bytes, of which %d are left: with room for %d", n, len(b), cap(b))
			}
		}
	}
}

// P8.1 to P8.3: disks go their way by any calls in any order, as the words say, each one on its own.
func TestAnyCalls(t *testing.T) {
	for seed := range 300 {
		t.Run("", func(t *testing.T) {
			t.Parallel()
			chance := rand.New(rand.NewSource(int64(seed)))
			room := 1 + chance.Intn(60)
			d, w := New(room), words{room: room}
			for i := range 200 {
				when := fmt.Sprintf("disk %d, room for %d, call %d", seed, room, i)
				n := chance.Intn(room/2+4) - 2
				switch chance.Intn(6) {
				case 0, 1, 2:
					b := text(chance.Int(), max(n, 0))
					if got, want := d.Write(b), w.write(b); got != want {
						t.Fatalf("%s: a write: %d, want %d", when, got, want)
					}
				case 3:
					d.Sync()
					w.sync()
				case 4:
					lasted, all := w.last, w.last+w.since
					d.Crash(n)
					w.crash(n)
					if left := string(d.Bytes()); left[:len(lasted)] != lasted || left != all[:len(left)] {
						t.Fatalf("%s: a crash made %q of %q, of which %q lasted", when, left, all, lasted)
					}
				case 5:
					n := len(w.last) + len(w.since) - n
					if got, want := d.Cut(n), w.cut(n); got != want {
						t.Fatalf("%s: Cut(%d): %d, want %d", when, n, got, want)
					}
				}
				check(t, d, w, when)
			}
		})
	}
}

// Rule 6: disks don't hang on each other, though they are made and written to in turn.
func TestDisksAreApart(t *testing.T) {
	disks, by := make([]*Disk, 6), make([]words, 6)
	for i := range disks {
		disks[i], by[i] = New(20+i), words{room: 20 + i}
	}
	for turn := range 30 {
		for i, d := range disks {
			b := text(100*i+turn, turn%(i+2))
			if got, want := d.Write(b), by[i].write(b); got != want {
				t.Fatalf("disk %d, turn %d: %d, want %d", i, turn, got, want)
			}
			if turn%4 == i%4 {
				d.Crash(i)
				by[i].crash(i)
			}
			if turn%7 == i {
				d.Cut(i)
				by[i].cut(i)
			}
		}
		for i, d := range disks {
			check(t, d, by[i], fmt.Sprintf("disk %d, turn %d", i, turn))
		}
	}
}
