package pages_test

import (
	"math"
	"slices"
	"strings"
	"testing"

	"dowser/api"
	"dowser/crc"
	"dowser/disk"
	"dowser/pages"
)

// page: a sector that is a page, of parts of any values; tail is what stands
// where noughts should.
func page(kind, size byte, payload, tail string) string {
	rest := string([]byte{kind, size}) + payload + tail
	rest += strings.Repeat("\x00", api.Sector-4-len(rest))
	return crc.Four(crc.Of(rest)) + rest
}

func open(t *testing.T, d *disk.Disk, half, next int) *pages.Pages {
	t.Helper()
	p, e := pages.Open(d, half, next)
	if p == nil || e != api.OK {
		t.Fatalf("P7.1: Open(%d, %d): %v (%d)", half, next, p, e)
	}
	says(t, "P7.1", p, half, next, pages.Room(d)-next)
	return p
}

// says: what pages must say of themselves.
func says(t *testing.T, promise string, p *pages.Pages, half, next, free int) {
	t.Helper()
	if p.Half() != half || p.Next() != next || p.Free() != free {
		t.Fatalf("%s: half %d, %d in use, %d free, not %d, %d, %d", promise, p.Half(), p.Next(), p.Free(), half, next, free)
	}
}

// appends: pages that must be appended, each as the next one.
func appends(t *testing.T, p *pages.Pages, kind int, payloads ...string) {
	t.Helper()
	for _, s := range payloads {
		want := p.Next()
		if n, e := p.Append(kind, s); n != want || e != api.OK || p.Next() != want+1 {
			t.Fatalf("P7.1: Append: %d (%d), not %d; %d are in use", n, e, want, p.Next())
		}
	}
}

// notAppended: what an Append must be told; it changes nothing.
func notAppended(t *testing.T, d *disk.Disk, p *pages.Pages, kind int, payload string, want api.Errno) {
	t.Helper()
	next, free, writes, loose := p.Next(), p.Free(), d.Writes(), d.Loose()
	if n, e := p.Append(kind, payload); n != -1 || e != want {
		t.Errorf("P7.1: Append of kind %d, %d bytes: %d (%d), not -1 (%d)", kind, len(payload), n, e, want)
	}
	says(t, "P7.1", p, p.Half(), next, free)
	if d.Writes() != writes || !slices.Equal(d.Loose(), loose) {
		t.Errorf("P7.1: an Append that is refused wrote")
	}
}

// has: what a page must be.
func has(t *testing.T, promise string, p *pages.Pages, n, kind int, payload string) {
	t.Helper()
	if k, s, e := p.Read(n); k != kind || s != payload || e != api.OK {
		t.Fatalf("%s: half %d, page %d: kind %d, %q (%d), not %d, %q", promise, p.Half(), n, k, s, e, kind, payload)
	}
}

// notRead: what a Read must be told.
func notRead(t *testing.T, p *pages.Pages, n int, want api.Errno) {
	t.Helper()
	if k, s, e := p.Read(n); k != 0 || s != "" || e != want {
		t.Fatalf("P7.1: Read(%d): %d, %q (%d), not %d", n, k, s, e, want)
	}
}

func fine(t *testing.T, l ...api.Errno) {
	t.Helper()
	for i, e := range l {
		if e != api.OK {
			t.Fatalf("disk, call %d: %d", i, e)
		}
	}
}

// goDown brings a disk down.
func goDown(t *testing.T, d *disk.Disk) {
	t.Helper()
	d.Halt(0)
	if d.Flush() != api.ErrDown {
		t.Fatal("the disk isn't down")
	}
}

func TestRoom(t *testing.T) {
	for sectors, want := range map[int]int{
		math.MinInt: 0, 0: 0, 2: 0, 3: 0, 4: 1, 5: 1, 6: 2, 7: 2, 11: 4, 300: 149, 301: 149,
		65535: 32766, 65536: 32767, math.MaxInt: 32767,
	} {
		d := disk.New(sectors)
		if pages.Room(d) != want {
			t.Errorf("P7.1: of %d sectors a half has %d pages, not %d", sectors, pages.Room(d), want)
		}
		goDown(t, d)
		if pages.Room(d) != want {
			t.Errorf("P7.1: while it is down a half has %d pages, not %d", pages.Room(d), want)
		}
	}
}

// Which sectors the halves are, of disks of odd and of even numbers of
// sectors; the first two, and of an odd number the last one, are in neither.
func TestWhereTheHalvesAre(t *testing.T) {
	for sectors := 2; sectors < 24; sectors++ {
		d := disk.New(sectors)
		room := (sectors - 2) / 2
		for half := range 2 {
			p := open(t, d, half, 0)
			for n := range room {
				appends(t, p, 10*half+n, strings.Repeat("h", half)+strings.Repeat("n", n))
			}
			notAppended(t, d, p, 1, "", api.ErrFull)
		}
		for i := range sectors {
			want := strings.Repeat("\x00", api.Sector)
			if at := i - 2; at >= 0 && at < 2*room {
				half, n := at/room, at%room
				payload := strings.Repeat("h", half) + strings.Repeat("n", n)
				want = page(byte(10*half+n), byte(len(payload)), payload, "")
			}
			if s, e := d.Read(i); s != want || e != api.OK {
				t.Errorf("P7.1: of %d sectors %d is %x (%d), not %x", sectors, i, s, e, want)
			}
		}
	}
}

func TestExample(t *testing.T) {
	d := disk.New(11)
	open(t, d, 0, 4)
	open(t, d, 1, 4)
	if p, e := pages.Open(d, 0, 5); p != nil || e != api.ErrArg {
		t.Errorf("P7.1: %v (%d)", p, e)
	}
}

// The bytes of a page, written out.
func TestBytesOfAPage(t *testing.T) {
	d := disk.New(6)
	p := open(t, d, 0, 0)
	appends(t, p, 200, "pay\x00load")
	rest := "\xc8\x08pay\x00load" + strings.Repeat("\x00", 242)
	sum := crc.Of(rest)
	want := string([]byte{byte(sum >> 24), byte(sum >> 16), byte(sum >> 8), byte(sum)}) + rest
	if s, e := d.Read(2); s != want || e != api.OK {
		t.Errorf("P7.1: %x (%d), not %x", s, e, want)
	}
	if d.Writes() != 1 || !slices.Equal(d.Loose(), []int{2}) {
		t.Errorf("P7.1: an Append is one Write: %d, %v", d.Writes(), d.Loose())
	}
}

func TestOpenOfWhatMayNotBe(t *testing.T) {
	for _, sectors := range []int{2, 3, 4, 9, 10} {
		d := disk.New(sectors)
		room := pages.Room(d)
		for _, half := range []int{math.MinInt, -2, -1, 2, 3, 256, math.MaxInt} {
			for _, next := range []int{-1, 0, room, room + 1} {
				if p, e := pages.Open(d, half, next); p != nil || e != api.ErrArg {
					t.Errorf("P7.1: Open(%d, %d): %v (%d)", half, next, p, e)
				}
			}
		}
		for half := range 2 {
			for _, next := range []int{math.MinInt, -room - 1, -1, room + 1, 2 * (room + 1), math.MaxInt} {
				if p, e := pages.Open(d, half, next); p != nil || e != api.ErrArg {
					t.Errorf("P7.1: Open(%d, %d): %v (%d)", half, next, p, e)
				}
			}
			for next := range room + 1 {
				open(t, d, half, next)
			}
		}
		if d.Writes() != 0 {
			t.Errorf("P7.1: Open wrote")
		}
	}
}

func TestKinds(t *testing.T) {
	d := disk.New(2 + 2*300)
	p := open(t, d, 1, 0)
	for kind := range 256 {
		appends(t, p, kind, "k")
	}
	for kind := range 256 {
		has(t, "P7.1", p, kind, kind, "k")
	}
	for _, kind := range []int{math.MinInt, -256, -255, -1, 256, 257, 512, 1 << 32, math.MaxInt} {
		notAppended(t, d, p, kind, "k", api.ErrArg)
	}
}

func TestPayloads(t *testing.T) {
	texts := []string{"\x00", "\x00\x00\x00", "a\x00", "\xff\xfe", "\x00\x00a"}
	for n := range 241 {
		texts = append(texts, strings.Repeat("p", n), strings.Repeat("\x00", n))
	}
	d := disk.New(2 + 2*len(texts))
	p := open(t, d, 0, 0)
	appends(t, p, 0, texts...)
	for n, s := range texts {
		has(t, "P7.1", p, n, 0, s)
	}
	p.Cut(3)
	for _, n := range []int{241, 242, 250, 252, 255, 256, 257, 496, 100000} {
		notAppended(t, d, p, 0, strings.Repeat("x", n), api.ErrArg)
	}
	has(t, "P7.1", open(t, d, 0, 4), 3, 0, texts[3])
}

// The last page of a half, and the one that finds no room.
func TestNoRoom(t *testing.T) {
	for _, sectors := range []int{2, 3, 4, 5, 12, 13} {
		d := disk.New(sectors)
		room := pages.Room(d)
		for half := range 2 {
			p := open(t, d, half, 0)
			for n := range room {
				appends(t, p, half, strings.Repeat("x", 240-n))
				says(t, "P7.1", p, half, n+1, room-n-1)
			}
			notAppended(t, d, p, half, "y", api.ErrFull)
			notAppended(t, d, p, half, "", api.ErrFull)
			for n := range room {
				has(t, "P7.1", p, n, half, strings.Repeat("x", 240-n))
			}
			if room > 0 {
				p.Cut(room - 1)
				appends(t, p, 9, "last")
				notAppended(t, d, p, half, "y", api.ErrFull)
				has(t, "P7.1", p, room-1, 9, "last")
			}
		}
	}
}

func TestLastPageOfTheGreatestDisk(t *testing.T) {
	d := disk.New(65536)
	p, q := open(t, d, 0, 32766), open(t, d, 1, 32766)
	appends(t, p, 1, "end")
	appends(t, q, 2, "END")
	notAppended(t, d, p, 1, "", api.ErrFull)
	notAppended(t, d, q, 1, "", api.ErrFull)
	has(t, "P7.1", p, 32766, 1, "end")
	has(t, "P7.1", q, 32766, 2, "END")
	if !slices.Equal(d.Loose(), []int{32768, 65535}) {
		t.Errorf("P7.1: %v was written", d.Loose())
	}
}

func TestWhichErrorIsFirst(t *testing.T) {
	long := strings.Repeat("x", 241)
	d := disk.New(6)
	free, full := open(t, d, 0, 1), open(t, d, 1, 2) // never written: no page is one
	for range 2 {
		for _, p := range []*pages.Pages{free, full} {
			notAppended(t, d, p, 256, "", api.ErrArg)
			notAppended(t, d, p, -1, long, api.ErrArg)
			notAppended(t, d, p, 0, long, api.ErrArg)
			notRead(t, p, p.Next(), api.ErrArg)
			notRead(t, p, -1, api.ErrArg)
		}
		notAppended(t, d, full, 0, "", api.ErrFull)
		d.Halt(0) // to be down by the next write: what is refused ahead of it doesn't come to that
	}
	notRead(t, free, 0, api.ErrBad)
	goDown(t, d)
	for _, p := range []*pages.Pages{free, full} {
		notAppended(t, d, p, 256, "", api.ErrArg)
		notAppended(t, d, p, 0, long, api.ErrArg)
		notRead(t, p, p.Next(), api.ErrArg)
		notRead(t, p, -1, api.ErrArg)
		notRead(t, p, 0, api.ErrDown) // ahead of ErrBad
	}
	notAppended(t, d, full, 0, "", api.ErrFull)
	notAppended(t, d, free, 0, "", api.ErrDown)
}

func TestNotInUse(t *testing.T) {
	d := disk.New(12)
	p := open(t, d, 0, 0)
	appends(t, p, 1, "a", "b", "c")
	less := open(t, d, 0, 2) // the same half, of which less is in use
	for _, n := range []int{math.MinInt, -3, -2, -1, 3, 4, 5, 6, 255, 65536, math.MaxInt} {
		notRead(t, p, n, api.ErrArg)
		notRead(t, less, n, api.ErrArg)
		notRead(t, p.Other(), n, api.ErrArg)
	}
	notRead(t, less, 2, api.ErrArg)
	notRead(t, p.Other(), 0, api.ErrArg)
	has(t, "P7.1", less, 1, 1, "b")
	empty := open(t, disk.New(2), 1, 0)
	notRead(t, empty, 0, api.ErrArg)
}

func TestNeverWritten(t *testing.T) {
	d := disk.New(9)
	for half := range 2 {
		p := open(t, d, half, 3)
		for n := range 3 {
			notRead(t, p, n, api.ErrBad)
		}
		p.Cut(1)
		appends(t, p, 4, "now")
		has(t, "P7.1", p, 1, 4, "now")
		notRead(t, p, 0, api.ErrBad)
		notRead(t, open(t, d, half, 3), 2, api.ErrBad)
	}
}

func TestAnotherByteAnywhere(t *testing.T) {
	for _, payload := range []string{"", "fetch", strings.Repeat("full", 60)} {
		d := disk.New(4)
		p := open(t, d, 0, 0)
		appends(t, p, 7, payload)
		good, _ := d.Read(2)
		for i := range good {
			for x := 1; x < 256; x++ {
				b := []byte(good)
				b[i] ^= byte(x)
				fine(t, d.Write(2, string(b)))
				notRead(t, p, 0, api.ErrBad)
			}
		}
		fine(t, d.Write(2, good))
		has(t, "P7.1", p, 0, 7, payload)
	}
}

// Sectors whose sums are right; but not all that has a right sum is a page.
func TestSumsThatAreRight(t *testing.T) {
	d := disk.New(4)
	p := open(t, d, 1, 1)
	for size := range 256 {
		payload := strings.Repeat("s", min(size, 250))
		fine(t, d.Write(3, page(9, byte(size), payload, "")))
		if size <= 240 {
			has(t, "P7.1", p, 0, 9, payload)
		} else {
			notRead(t, p, 0, api.ErrBad)
		}
	}
	for _, x := range []struct {
		size          byte
		payload, tail string
	}{
		{0, "", "\x01"},
		{0, "", strings.Repeat("\x00", 249) + "\x01"},
		{3, "abc", "\x00\x80"},
		{2, "ab", "c"},
		{240, strings.Repeat("x", 240), "\x00\x00\x00\x00\x00\x00\x00\x00\x00\x02"},
		{240, strings.Repeat("x", 240), "y"},
		{241, "", ""},
		{255, strings.Repeat("\xff", 250), ""},
	} {
		fine(t, d.Write(3, page(9, x.size, x.payload, x.tail)))
		notRead(t, p, 0, api.ErrBad)
	}
	// A sum of the payload's bytes alone is another one.
	rest := "\x09\x02ab"
	fine(t, d.Write(3, crc.Four(crc.Of(rest))+rest))
	notRead(t, p, 0, api.ErrBad)
}

// What a crash leaves of a page that was written over another one.
func TestCutShortByACrash(t *testing.T) {
	for _, old := range []string{"", "old", strings.Repeat("old", 80)} {
		for _, payload := range []string{"", "new", strings.Repeat("n", 240)} {
			for c := range 257 {
				d := disk.New(4)
				p := open(t, d, 0, 0)
				appends(t, p, 1, old)
				fine(t, d.Flush())
				before, _ := d.Read(2)
				p.Cut(0)
				appends(t, p, 2, payload)
				after, _ := d.Read(2)
				d.Crash(c)
				switch s, _ := d.Read(2); s {
				case before:
					has(t, "P7.1", p, 0, 1, old)
				case after:
					has(t, "P7.1", p, 0, 2, payload)
				default:
					notRead(t, p, 0, api.ErrBad)
				}
			}
		}
	}
}

func TestCut(t *testing.T) {
	d := disk.New(14)
	p := open(t, d, 1, 0)
	appends(t, p, 3, "a", "b", "c", "d")
	writes := d.Writes()
	for _, next := range []int{math.MinInt, -4, -1, 5, 6, 7, math.MaxInt} {
		if p.Cut(next) {
			t.Errorf("P7.1: Cut(%d) of 4", next)
		}
		says(t, "P7.1", p, 1, 4, 2)
	}
	for _, next := range []int{4, 2, 2, 1, 0, 0} {
		if !p.Cut(next) {
			t.Errorf("P7.1: Cut(%d) is refused", next)
		}
		says(t, "P7.1", p, 1, next, 6-next)
		for n := range next {
			has(t, "P7.2", p, n, 3, "abcd"[n:n+1])
		}
		for n := next; n < 7; n++ {
			notRead(t, p, n, api.ErrArg)
		}
		if p.Cut(next + 1) {
			t.Errorf("P7.1: Cut brought a page back")
		}
	}
	if d.Writes() != writes {
		t.Errorf("P7.1: Cut wrote")
	}
	// What is cut off is there till it is written over.
	for n := range 4 {
		has(t, "P7.2", open(t, d, 1, 4), n, 3, "abcd"[n:n+1])
	}
}

func TestCutOffAndWrittenOver(t *testing.T) {
	d := disk.New(12)
	p := open(t, d, 0, 0)
	appends(t, p, 3, strings.Repeat("long", 60), "b", "c")
	fine(t, d.Flush())
	p.Cut(0)
	appends(t, p, 4, "x")
	has(t, "P7.2", p, 0, 4, "x")
	notRead(t, p, 1, api.ErrArg)
	all := open(t, d, 0, 3)
	has(t, "P7.2", all, 0, 4, "x")
	has(t, "P7.2", all, 1, 3, "b")
	appends(t, p, 5, "", "z")
	has(t, "P7.2", all, 1, 5, "")
	has(t, "P7.2", all, 2, 5, "z")
}

func TestOther(t *testing.T) {
	d := disk.New(13)
	for half := range 2 {
		p := open(t, d, half, 0)
		appends(t, p, half, "a", "b", "c", "d", "e")
		writes := d.Writes()
		q := p.Other()
		says(t, "P7.1", q, 1-half, 0, 5)
		says(t, "P7.1", p, half, 5, 0)
		r := q.Other() // not p: none of its pages is in use
		says(t, "P7.1", r, half, 0, 5)
		notRead(t, r, 0, api.ErrArg)
		if d.Writes() != writes {
			t.Errorf("P7.1: Other wrote")
		}
		// Each has a count of its own.
		appends(t, q, 9, "x", "y")
		q.Cut(1)
		another := p.Other()
		says(t, "P7.1", another, 1-half, 0, 5)
		says(t, "P7.1", q, 1-half, 1, 4)
		says(t, "P7.1", p, half, 5, 0)
		for n := range 5 {
			has(t, "P7.2", p, n, half, "abcde"[n:n+1])
		}
	}
	says(t, "P7.1", open(t, disk.New(2), 0, 0).Other(), 1, 0, 0)
	down := disk.New(8)
	p := open(t, down, 0, 2)
	goDown(t, down)
	says(t, "P7.1", p.Other(), 1, 0, 3)
}

// Whatever is done in one half, the other one's sectors stay as they were.
func TestOneHalfAndTheOther(t *testing.T) {
	for _, sectors := range []int{10, 11} {
		for half := range 2 {
			d := disk.New(sectors)
			q := open(t, d, 1-half, 0)
			appends(t, q, 5, "kept", "", strings.Repeat("k", 240))
			fine(t, d.Flush())
			p := open(t, d, half, 0)
			same := func() {
				t.Helper()
				says(t, "P7.2", q, 1-half, 3, 1)
				for n, s := range []string{"kept", "", strings.Repeat("k", 240)} {
					has(t, "P7.2", q, n, 5, s)
				}
			}
			for i := range 6 {
				p.Append(i, strings.Repeat("p", 40*i))
				same()
			}
			p.Cut(1)
			same()
			appends(t, p, 1, "over")
			d.Crash(100, 3)
			same()
			p.Other().Other().Append(7, "again")
			same()
			open(t, d, half, 4).Read(3)
			same()
		}
	}
}

func TestDown(t *testing.T) {
	d := disk.New(10)
	p := open(t, d, 0, 0)
	appends(t, p, 1, "a", "b")
	fine(t, d.Flush())
	goDown(t, d)
	notAppended(t, d, p, 1, "c", api.ErrDown)
	notRead(t, p, 0, api.ErrDown)
	says(t, "P7.1", open(t, d, 1, 3), 1, 3, 1)
	if !p.Cut(1) || p.Cut(2) {
		t.Errorf("P7.1: Cut while it is down")
	}
	says(t, "P7.1", p, 0, 1, 3)
	notRead(t, p, 1, api.ErrArg)
	d.Crash()
	has(t, "P7.2", p, 0, 1, "a")
	appends(t, p, 2, "c")
	has(t, "P7.2", p, 1, 2, "c")
}

// An Append that finds the disk down: the page isn't in use, and the next one
// comes where it would have.
func TestAppendThatBringsItDown(t *testing.T) {
	for n := range 5 {
		d := disk.New(14)
		p := open(t, d, 1, 0)
		d.Halt(n)
		for range n {
			appends(t, p, 1, "a")
		}
		notAppended(t, d, p, 1, "b", api.ErrDown)
		d.Crash(256, 256, 256, 256, 256)
		for i := range n {
			has(t, "P7.1", p, i, 1, "a")
		}
		appends(t, p, 2, "c")
		has(t, "P7.1", p, n, 2, "c")
	}
}

// What was flushed is read back behind any crash, whatever was appended, and
// not flushed, behind it.
func TestFlushedIsReadBack(t *testing.T) {
	for c := range 257 {
		d := disk.New(20)
		p := open(t, d, c%2, 0)
		appends(t, p, 1, "a", "", strings.Repeat("b", 240))
		fine(t, d.Flush())
		appends(t, p, 2, "loose", "more")
		d.Halt(0)
		notAppended(t, d, p, 1, "down", api.ErrDown)
		d.Crash(c, 256-c)
		for n, s := range []string{"a", "", strings.Repeat("b", 240)} {
			has(t, "P7.2", p, n, 1, s)
			has(t, "P7.2", open(t, d, c%2, 3), n, 1, s)
		}
	}
}

// note is what a page says.
type note struct {
	kind    int
	payload string
}

// plain is both halves, as lists: what stands there, and what would stand
// there behind a crash of which nothing stays.
type plain struct {
	now, was map[[2]int]note
	next     [2]int
}

func (m *plain) same(t *testing.T, step, room int, two [2]*pages.Pages) {
	t.Helper()
	for half, p := range two {
		says(t, "P7.1", p, half, m.next[half], room-m.next[half])
		for n := -1; n <= room; n++ {
			k, s, e := p.Read(n)
			want, is := m.now[[2]int{half, n}]
			wantE := api.OK
			if n < 0 || n >= m.next[half] {
				want, wantE = note{}, api.ErrArg
			} else if !is {
				wantE = api.ErrBad
			}
			if k != want.kind || s != want.payload || e != wantE {
				t.Fatalf("P7.1: step %d: half %d, page %d: %d, %q (%d), not %v (%d)", step, half, n, k, s, e, want, wantE)
			}
		}
	}
}

// flush: what stands there now stays.
func (m *plain) flush() {
	for at, x := range m.now {
		m.was[at] = x
	}
}

// crash: nothing stays of what wasn't flushed.
func (m *plain) crash() {
	m.now = map[[2]int]note{}
	for at, x := range m.was {
		m.now[at] = x
	}
}

// TestAnyCalls: many calls, picked by a fixed rule, on both halves of a disk,
// and on plain lists.
func TestAnyCalls(t *testing.T) {
	const room = 5
	d := disk.New(2 + 2*room + 1)
	two := [2]*pages.Pages{open(t, d, 0, 0), open(t, d, 1, 0)}
	m := &plain{now: map[[2]int]note{}, was: map[[2]int]note{}}
	x := uint64(7)
	pick := func(n int) int {
		x = x*6364136223846793005 + 1442695040888963407
		return int(x >> 33 % uint64(n))
	}
	for step := range 6000 {
		half := pick(2)
		p := two[half]
		switch pick(12) {
		case 0, 1, 2, 3, 4:
			kind, s := pick(258)-1, strings.Repeat(string(rune('a'+pick(26))), pick(243))
			n, e := p.Append(kind, s)
			wantN, wantE := -1, api.OK
			switch {
			case kind < 0 || kind > 255 || len(s) > 240:
				wantE = api.ErrArg
			case m.next[half] == room:
				wantE = api.ErrFull
			default:
				wantN = m.next[half]
				m.now[[2]int{half, wantN}] = note{kind, s}
				m.next[half]++
			}
			if n != wantN || e != wantE {
				t.Fatalf("P7.1: step %d: Append: %d (%d), not %d (%d)", step, n, e, wantN, wantE)
			}
		case 5, 6, 7:
			next := pick(room+3) - 1
			may := next >= 0 && next <= m.next[half]
			if p.Cut(next) != may {
				t.Fatalf("P7.1: step %d: Cut(%d) of %d: not %v", step, next, m.next[half], may)
			}
			if may {
				m.next[half] = next
			}
		case 8:
			fine(t, d.Flush())
			m.flush()
		case 9:
			d.Crash()
			m.crash()
		case 10:
			m.next[half] = pick(room + 1)
			two[half] = open(t, d, half, m.next[half])
		default:
			two[1-half] = p.Other()
			m.next[1-half] = 0
		}
		m.same(t, step, room, two)
	}
}
