package blob_test

import (
	"math"
	"slices"
	"strings"
	"testing"

	"dowser/api"
	"dowser/blob"
	"dowser/disk"
	"dowser/pages"
	"dowser/varint"
)

// mostPages is how many pages the longest text takes.
const mostPages = 279

// text: so many bytes, of which no two parts are alike.
func text(n int) string {
	b := make([]byte, n)
	x := uint32(n)
	for i := range b {
		x = x*1664525 + 1013904223
		b[i] = byte(x >> 24)
	}
	return string(b)
}

// half: pages of a half with so much room, of which some are in use.
func half(t *testing.T, room, which, next int) (*disk.Disk, *pages.Pages) {
	t.Helper()
	d := disk.New(2 + 2*room)
	p, e := pages.Open(d, which, next)
	if e != api.OK {
		t.Fatal(e)
	}
	return d, p
}

// put appends a page of any kind and payload.
func put(t *testing.T, p *pages.Pages, kind int, payload string) int {
	t.Helper()
	n, e := p.Append(kind, payload)
	if e != api.OK {
		t.Fatal(e)
	}
	return n
}

// writes: a text that must be written, on the next pages.
func writes(t *testing.T, p *pages.Pages, s string) int {
	t.Helper()
	want := p.Next() + blob.Cost(len(s)) - 1
	n, e := blob.Write(p, s)
	if n != want || e != api.OK || p.Next() != want+1 {
		t.Fatalf("P8.1: Write of %d bytes: %d (%d), not %d; %d pages are in use", len(s), n, e, want, p.Next())
	}
	return n
}

// notWritten: what a Write must be told; no page more is in use.
func notWritten(t *testing.T, p *pages.Pages, s string, want api.Errno) {
	t.Helper()
	next := p.Next()
	if n, e := blob.Write(p, s); n != -1 || e != want || p.Next() != next {
		t.Fatalf("P8.1: Write of %d bytes: %d (%d), not -1 (%d); %d pages are in use, not %d", len(s), n, e, want, p.Next(), next)
	}
}

// has: what a blob must be.
func has(t *testing.T, promise string, p *pages.Pages, first int, want string, numbers ...int) {
	t.Helper()
	if s, e := blob.Read(p, first); s != want || e != api.OK {
		t.Fatalf("%s: Read(%d): %d bytes (%d), not the %d", promise, first, len(s), e, len(want))
	}
	if l, e := blob.Pages(p, first); !slices.Equal(l, numbers) || e != api.OK {
		t.Fatalf("%s: Pages(%d): %v (%d), not %v", promise, first, l, e, numbers)
	}
}

// notRead: what a Read, and a Pages, must be told.
func notRead(t *testing.T, p *pages.Pages, first int, want api.Errno) {
	t.Helper()
	if s, e := blob.Read(p, first); s != "" || e != want {
		t.Fatalf("P8.1: Read(%d): %q (%d), not %d", first, s, e, want)
	}
	if l, e := blob.Pages(p, first); l != nil || e != want {
		t.Fatalf("P8.1: Pages(%d): %v (%d), not %d", first, l, e, want)
	}
}

// falling: from, and those below it, so many in all.
func falling(from, n int) []int {
	var l []int
	for i := range n {
		l = append(l, from-i)
	}
	return l
}

func goDown(t *testing.T, d *disk.Disk) {
	t.Helper()
	d.Halt(0)
	if d.Flush() != api.ErrDown {
		t.Fatal("the disk isn't down")
	}
}

func TestConstants(t *testing.T) {
	if blob.Kind != 3 || blob.Part != 235 {
		t.Errorf("P8.1: %d, %d", blob.Kind, blob.Part)
	}
}

func TestCost(t *testing.T) {
	for n, want := range map[int]int{
		math.MinInt: 1, -236: 1, -235: 1, -1: 1, 0: 1, 1: 1, 234: 1, 235: 1, 236: 2, 469: 2, 470: 2, 471: 3,
		65330: 278, 65331: 279, 65536: 279, 65537: 279, 65566: 280,
		math.MaxInt: math.MaxInt/235 + 1,
	} {
		if blob.Cost(n) != want {
			t.Errorf("P8.1: Cost(%d) is %d, not %d", n, blob.Cost(n), want)
		}
	}
}

func TestExample(t *testing.T) {
	_, p := half(t, 5, 0, 0)
	s := text(236)
	first := writes(t, p, s)
	if kind, x, e := p.Read(0); kind != 3 || x != "\x00"+s[235:] || e != api.OK {
		t.Errorf("P8.1: the first page is %d, %q (%d)", kind, x, e)
	}
	if kind, x, e := p.Read(1); kind != 3 || x != "\x01"+s[:235] || e != api.OK {
		t.Errorf("P8.1: the second page is %d, %q (%d)", kind, x, e)
	}
	has(t, "P8.2", p, first, s, 1, 0)
}

// There and back, at the edges, on either half, behind no and behind some
// pages; each page is as the chapter says.
func TestThereAndBack(t *testing.T) {
	for _, size := range []int{0, 1, 2, 234, 235, 236, 469, 470, 471, 1000, 65330, 65331, 65535, 65536} {
		for _, ahead := range []int{0, 1, 126, 127, 128} {
			cost := max((size+234)/235, 1)
			d, p := half(t, 500, ahead%2, ahead)
			s := text(size)
			first := writes(t, p, s)
			if d.Writes() != cost {
				t.Errorf("P8.1: %d writes for %d bytes, not %d", d.Writes(), size, cost)
			}
			has(t, "P8.2", p, first, s, falling(ahead+cost-1, cost)...)
			for i := range cost {
				n := first - i
				next := varint.Num(uint64(n)) // the page below it, and 1
				if i == cost-1 {
					next = "\x00"
				}
				want := next + s[235*i:min(235*(i+1), size)]
				if kind, x, e := p.Read(n); kind != 3 || x != want || e != api.OK {
					t.Fatalf("P8.1: %d bytes, part %d: kind %d, %q (%d), not %q", size, i, kind, x, e, want)
				}
			}
		}
	}
}

// Each length of few pages, one blob behind the other.
func TestEachLength(t *testing.T) {
	_, p := half(t, 3000, 0, 0)
	var firsts []int
	for size := range 720 {
		firsts = append(firsts, writes(t, p, text(size)))
	}
	for size, first := range firsts {
		has(t, "P8.2", p, first, text(size), falling(first, blob.Cost(size))...)
	}
}

// Texts of noughts, and texts that look like numbers, are as good as others.
func TestAnyBytes(t *testing.T) {
	_, p := half(t, 100, 1, 0)
	for _, s := range []string{
		"\x00", "\x80", "\xff\xff", strings.Repeat("\x00", 235), strings.Repeat("\x00", 700),
		strings.Repeat("\x80", 236), strings.Repeat("\xff", 470),
	} {
		first := writes(t, p, s)
		has(t, "P8.2", p, first, s, falling(first, blob.Cost(len(s)))...)
	}
}

// Numbers of pages of one, two and three bytes, up to the last page of the
// greatest disk.
func TestGreatNumbers(t *testing.T) {
	d := disk.New(65536)
	for _, ahead := range []int{125, 16380, 16382, 32767 - mostPages} {
		p, e := pages.Open(d, 1, ahead)
		if e != api.OK {
			t.Fatal(e)
		}
		s := text(65536)
		first := writes(t, p, s)
		has(t, "P8.2", p, first, s, falling(first, mostPages)...)
	}
}

func TestTooLong(t *testing.T) {
	for _, size := range []int{65537, 65538, 65565, 65566, 200000} {
		d, p := half(t, 2000, 0, 0)
		notWritten(t, p, text(size), api.ErrArg)
		goDown(t, d)
		notWritten(t, p, text(size), api.ErrArg) // ahead of ErrDown
		if d.Writes() != 0 {
			t.Errorf("P8.1: %d writes", d.Writes())
		}
		_, small := half(t, 5, 0, 5)
		notWritten(t, small, text(size), api.ErrArg) // ahead of ErrFull
	}
}

// Just as many free pages as a text takes, and one less.
func TestRoom(t *testing.T) {
	for _, size := range []int{0, 1, 235, 236, 470, 471, 65536} {
		cost := blob.Cost(size)
		for _, ahead := range []int{0, 3} {
			s := text(size)
			_, p := half(t, ahead+cost, 1, ahead)
			first := writes(t, p, s)
			has(t, "P8.2", p, first, s, falling(first, cost)...)
			notWritten(t, p, "", api.ErrFull)

			d, p := half(t, ahead+cost-1, 1, ahead)
			d.Halt(0)
			notWritten(t, p, s, api.ErrFull)
			if d.Writes() != 0 || len(d.Loose()) != 0 {
				t.Errorf("P8.1: %d writes, though there is no room", d.Writes())
			}
			goDown(t, d)
			notWritten(t, p, s, api.ErrFull) // ahead of ErrDown
		}
	}
	_, none := half(t, 0, 0, 0)
	notWritten(t, none, "", api.ErrFull)
}

func TestNotInUse(t *testing.T) {
	d, p := half(t, 10, 0, 0)
	writes(t, p, text(500))
	for range 2 {
		for _, first := range []int{math.MinInt, -2, -1, 3, 4, 10, 65536, math.MaxInt} {
			notRead(t, p, first, api.ErrArg)
			notRead(t, p.Other(), first, api.ErrArg)
		}
		notRead(t, p.Other(), 0, api.ErrArg)
		goDown(t, d) // ErrArg stays the first one
	}
	_, none := half(t, 0, 1, 0)
	notRead(t, none, 0, api.ErrArg)
}

func TestCutOff(t *testing.T) {
	_, p := half(t, 10, 0, 0)
	a, b := writes(t, p, text(300)), writes(t, p, text(301))
	p.Cut(3)
	notRead(t, p, b, api.ErrArg)
	has(t, "P8.2", p, a, text(300), 1, 0)
	c := writes(t, p, text(302))
	has(t, "P8.2", p, a, text(300), 1, 0)
	has(t, "P8.2", p, c, text(302), 4, 3)
}

// A page of another kind, be it a blob's first, middle or last one.
func TestPagesOfAnotherKind(t *testing.T) {
	for _, kind := range []int{0, 1, 2, 4, 131, 255} {
		for wrong := range 3 {
			_, p := half(t, 10, 0, 0)
			for n := range 3 {
				k := 3
				if n == wrong {
					k = kind
				}
				put(t, p, k, varint.Num(uint64(n))+"bytes")
			}
			for first := range 3 {
				if first < wrong {
					has(t, "P8.1", p, first, strings.Repeat("bytes", first+1), falling(first, first+1)...)
				} else {
					notRead(t, p, first, api.ErrBad)
				}
			}
		}
	}
}

// Pages without a number in its form.
func TestPagesWithoutBytesInThatForm(t *testing.T) {
	for _, payload := range []string{
		"", "\x80", "\x81", "\xff\xff\xff", "\x80\x00", "\x81\x00text", "\x81\x80\x00",
		strings.Repeat("\x80", 9), strings.Repeat("\x80", 9) + "\x02", strings.Repeat("\x80", 240),
	} {
		_, p := half(t, 10, 0, 0)
		put(t, p, 3, "\x00")
		put(t, p, 3, payload)
		put(t, p, 3, "\x02ahead")
		notRead(t, p, 1, api.ErrBad)
		notRead(t, p, 2, api.ErrBad)
		has(t, "P8.1", p, 0, "", 0)
	}
}

// Pages that name themselves, one above, one that isn't in use, or none that
// there could be.
func TestPagesThatNameOneThatIsNotLess(t *testing.T) {
	for _, next := range []uint64{3, 4, 5, 6, 7, 11, 1 << 15, 1 << 31, 1 << 32, 1<<32 + 1, 1 << 63, 1<<63 + 1, math.MaxUint64} {
		_, p := half(t, 10, 1, 0)
		put(t, p, 3, "\x00a")
		put(t, p, 3, "\x01b")
		put(t, p, 3, varint.Num(next)+"c")
		put(t, p, 3, "\x03d")
		put(t, p, 3, "\x00e")
		notRead(t, p, 2, api.ErrBad)
		notRead(t, p, 3, api.ErrBad)
		has(t, "P8.1", p, 1, "ba", 1, 0)
		has(t, "P8.1", p, 4, "e", 4)
	}
	_, p := half(t, 10, 1, 0)
	put(t, p, 3, "\x01itself")
	notRead(t, p, 0, api.ErrBad)
}

// Pages that name any one that is less.
func TestPagesThatNameOneThatIsLess(t *testing.T) {
	_, p := half(t, 10, 0, 0)
	put(t, p, 3, "\x00a")
	put(t, p, 9, "another kind")
	put(t, p, 3, "\x01b")
	put(t, p, 3, "\x00c")
	put(t, p, 3, "\x03d")
	put(t, p, 3, "\x01e")
	has(t, "P8.1", p, 4, "dba", 4, 2, 0)
	has(t, "P8.1", p, 5, "ea", 5, 0)
	notRead(t, p, 1, api.ErrBad)
}

// As many pages as there may be, and one more; of whatever bytes.
func TestMorePagesThanThereMayBe(t *testing.T) {
	for _, part := range []string{"", "x", strings.Repeat("y", 235)} {
		_, p := half(t, 400, 0, 0)
		for n := range 400 {
			put(t, p, 3, varint.Num(uint64(n))+part)
		}
		for _, n := range []int{1, 2, 278, 279} {
			has(t, "P8.1", p, n-1, strings.Repeat(part, n), falling(n-1, n)...)
		}
		for _, n := range []int{280, 281, 400} {
			notRead(t, p, n-1, api.ErrBad)
		}
	}
}

// The form doesn't say how many bytes a page has: what is there is read.
func TestPartsOfOtherLengths(t *testing.T) {
	_, p := half(t, 10, 0, 0)
	put(t, p, 3, "\x00"+strings.Repeat("a", 239))
	put(t, p, 3, "\x01")
	put(t, p, 3, "\x02b")
	has(t, "P8.1", p, 2, "b"+strings.Repeat("a", 239), 2, 1, 0)
}

// Pages that aren't any: never written, or with another byte.
func TestWhatIsNoPage(t *testing.T) {
	d, p := half(t, 10, 0, 2)
	notRead(t, p, 0, api.ErrBad)
	notRead(t, p, 1, api.ErrBad)
	put(t, p, 3, "\x02names one that was never written")
	notRead(t, p, 2, api.ErrBad)

	first := writes(t, p, text(600))
	for n := 3; n <= first; n++ {
		good, _ := d.Read(2 + n)
		d.Write(2+n, good[:50]+"!"+good[51:])
		notRead(t, p, first, api.ErrBad)
		d.Write(2+n, good)
		has(t, "P8.2", p, first, text(600), 5, 4, 3)
	}
}

func TestDown(t *testing.T) {
	d, p := half(t, 10, 0, 0)
	first := writes(t, p, text(600))
	if e := d.Flush(); e != api.OK {
		t.Fatal(e)
	}
	goDown(t, d)
	notRead(t, p, first, api.ErrDown)
	notWritten(t, p, "", api.ErrDown)
	notWritten(t, p, text(600), api.ErrDown)
	d.Crash()
	has(t, "P8.2", p, first, text(600), 2, 1, 0)
}

// A Write that is broken off at any of its pages: none of them is in use, and
// what was there ahead is as it was.
func TestBrokenOff(t *testing.T) {
	for n := range 5 {
		d, p := half(t, 12, 1, 0)
		first := writes(t, p, text(400))
		if e := d.Flush(); e != api.OK {
			t.Fatal(e)
		}
		d.Halt(n)
		notWritten(t, p, text(1000), api.ErrDown)
		d.Crash(256, 256, 17)
		has(t, "P8.2", p, first, text(400), 1, 0)
		again := writes(t, p, text(900))
		has(t, "P8.2", p, again, text(900), 5, 4, 3, 2)
		has(t, "P8.2", p, first, text(400), 1, 0)
	}
}

func TestListsAreNewMemory(t *testing.T) {
	_, p := half(t, 10, 0, 0)
	first := writes(t, p, text(600))
	a, _ := blob.Pages(p, first)
	b, _ := blob.Pages(p, first)
	clear(append(a, 7))
	clear(a)
	if !slices.Equal(b, []int{2, 1, 0}) {
		t.Errorf("P8.1: %v", b)
	}
	has(t, "P8.1", p, first, text(600), 2, 1, 0)
}

// plainPage is a page as the chapter tells it: next is the number that it
// says; well: it says one.
type plainPage struct {
	kind int
	next uint64
	part string
	well bool
}

// plainRead goes along pages as the chapter tells it.
func plainRead(l []plainPage, first int) (string, []int, api.Errno) {
	var s string
	var numbers []int
	for n := first; ; {
		x := l[n]
		if x.kind != 3 || !x.well || x.next > uint64(n) || len(numbers) == mostPages {
			return "", nil, api.ErrBad
		}
		s += x.part
		numbers = append(numbers, n)
		if x.next == 0 {
			return s, numbers, api.OK
		}
		n = int(x.next) - 1
	}
}

// TestAnyPages: of many pages, picked by a fixed rule, each Read ends, and
// tells what the chapter says.
func TestAnyPages(t *testing.T) {
	x := uint64(11)
	pick := func(n int) int {
		x = x*6364136223846793005 + 1442695040888963407
		return int(x >> 33 % uint64(n))
	}
	for range 40 {
		const room = 60
		_, p := half(t, room, pick(2), 0)
		var l []plainPage
		for n := range room {
			y := plainPage{kind: 3, next: uint64(pick(n + 1)), part: strings.Repeat(string(rune('a'+n%26)), pick(239)), well: true}
			payload := varint.Num(y.next) + y.part
			switch pick(40) {
			case 0:
				y.kind = pick(256)
			case 1:
				y.next += uint64(pick(room))
				payload = varint.Num(y.next) + y.part
			case 2:
				y.well = false
				payload = strings.Repeat("\x80", pick(5)+1) + "\x00" + y.part[:min(len(y.part), 200)]
			case 3:
				y.well = false
				payload = strings.Repeat("\x80", pick(9))
			}
			put(t, p, y.kind, payload)
			l = append(l, y)
		}
		for first := range room {
			s, numbers, e := plainRead(l, first)
			if e != api.OK {
				notRead(t, p, first, e)
			} else {
				has(t, "P8.2", p, first, s, numbers...)
			}
		}
	}
}
