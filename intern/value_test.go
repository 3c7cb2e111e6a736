package intern_test

import (
	"math"
	"strings"
	"testing"

	"dowser/api"
	"dowser/blob"
	"dowser/intern"
	"dowser/pages"
	"dowser/varint"
)

// value: that of a text, which must be made, on just the pages that it needs.
func value(t *testing.T, p *pages.Pages, s string) string {
	t.Helper()
	next := p.Next()
	want, cost := "i"+s, 0
	if len(s) > 31 {
		cost = blob.Cost(len(s))
		want = "b" + varint.Num(uint64(next+cost-1)) + varint.Num(uint64(len(s)))
	}
	v, e := intern.Value(p, s)
	if v != want || e != api.OK || p.Next() != next+cost {
		t.Fatalf("P14.1: Value of %d bytes: %x (%d), not %x; %d pages, not %d", len(s), v, e, want, p.Next()-next, cost)
	}
	if intern.Cost(len(s)) != cost {
		t.Fatalf("P14.1: Cost of %d bytes: %d, not %d", len(s), intern.Cost(len(s)), cost)
	}
	if len(v) > api.MaxValue {
		t.Fatalf("P14.1: a value of %d bytes", len(v))
	}
	return v
}

// noValue: what a Value must be told; nothing is in use then that wasn't.
func noValue(t *testing.T, p *pages.Pages, s string, want api.Errno) {
	t.Helper()
	next := p.Next()
	if v, e := intern.Value(p, s); v != "" || e != want || p.Next() != next {
		t.Fatalf("P14.1: Value of %d bytes: %x (%d), not %d; %d pages", len(s), v, e, want, p.Next()-next)
	}
}

// loads: what a value must be.
func loads(t *testing.T, p *pages.Pages, v, want string) {
	t.Helper()
	if s, e := intern.Load(p, v); s != want || e != api.OK {
		t.Fatalf("P14.1: Load of %x: %d bytes (%d), not the %d", v, len(s), e, len(want))
	}
}

// notLoaded: what a Load, and a Move, must be told.
func notLoaded(t *testing.T, p *pages.Pages, v string, want api.Errno) {
	t.Helper()
	if s, e := intern.Load(p, v); s != "" || e != want {
		t.Fatalf("P14.1: Load of %x: %q (%d), not %d", v, s, e, want)
	}
	to := p.Other()
	if w, e := intern.Move(p, to, v); w != "" || e != want || to.Next() != 0 {
		t.Fatalf("P14.1: Move of %x: %x (%d), not %d", v, w, e, want)
	}
}

// names: the page that a value must name; below 0: it names none.
func names(t *testing.T, v string, want int) {
	t.Helper()
	page, is := intern.Page(v)
	if is != (want >= 0) || page != max(want, 0) {
		t.Fatalf("P14.1: Page of %x: %d, %v, not %d", v, page, is, want)
	}
}

func TestValues(t *testing.T) {
	for _, n := range []int{0, 1, 30, 31, 32, 33, 235, 236, 470, 471, 65535, 65536} {
		for _, ahead := range []int{0, 126, 127, 128} {
			p := newBed(t, 500).p
			for range ahead {
				p.Append(9, "")
			}
			v := value(t, p, text(n))
			loads(t, p, v, text(n))
			if n <= 31 {
				names(t, v, -1)
			} else {
				names(t, v, ahead+blob.Cost(n)-1)
			}
		}
	}
	for _, n := range []int{65537, 65538, 70000} {
		noValue(t, newBed(t, 500).p, text(n), api.ErrArg)
		noValue(t, newBed(t, 0).p, text(n), api.ErrArg)
	}
}

func TestValuesWithoutRoom(t *testing.T) {
	for _, n := range []int{32, 235, 236, 900} {
		for free := range blob.Cost(n) {
			noValue(t, newBed(t, free).p, text(n), api.ErrFull)
		}
		value(t, newBed(t, blob.Cost(n)).p, text(n))
	}
	value(t, newBed(t, 0).p, text(31))
	b := newBed(t, 20)
	v := value(t, b.p, text(900))
	b.disk.Flush()
	for at := range 4 {
		b.disk.Halt(at)
		noValue(t, b.p, text(900), api.ErrDown)
		notLoaded(t, b.p, v, api.ErrDown)
		loads(t, b.p, "itext", "text")
		b.disk.Crash()
	}
	loads(t, b.p, v, text(900))
}

// Texts in values that are longer than Value would put there, and blobs that
// are shorter.
func TestLoadOfOtherValues(t *testing.T) {
	p := newBed(t, 400).p
	for _, n := range []int{32, 33, 1000, 65536, 65537, 100000} {
		loads(t, p, "i"+text(n), text(n))
	}
	for n := range 32 {
		page, e := blob.Write(p, text(n))
		if e != api.OK {
			t.Fatal(e)
		}
		loads(t, p, intern.Beside(page, n), text(n))
		names(t, intern.Beside(page, n), page)
		notLoaded(t, p, intern.Beside(page, n+1), api.ErrBad)
		notLoaded(t, p, intern.Beside(page, n-1), api.ErrBad)
	}
}

func TestLoadOfWhatSaysNothing(t *testing.T) {
	b := newBed(t, 400)
	p := b.p
	v := value(t, p, text(300)) // on the pages 0 and 1
	for _, x := range []string{
		"", "\x00", "x", "text", "I", "B", "b", "b\x01", "b\x80", "b\x01\x80", "b\x01\xac", v[:len(v)-1], v + "\x00", v + v, v[1:],
		"b\x81\x00\xac\x02", "b\x01\xac\x82\x00", // in longer forms
		intern.Beside(1, 65537), intern.Beside(1, math.MaxInt), intern.Beside(1<<31, 300), intern.Beside(math.MaxInt, 300),
		"b" + varint.Num(math.MaxUint64) + "\x00", "b\x01" + varint.Num(math.MaxUint64),
	} {
		notLoaded(t, p, x, api.ErrBad)
		names(t, x, -1)
	}
	for _, n := range []int{0, 1, 65, 299, 301, 65536} {
		notLoaded(t, p, intern.Beside(1, n), api.ErrBad)
		names(t, intern.Beside(1, n), 1)
	}
	for _, page := range []int{2, 3, 127, 128, 399, 400, 1<<31 - 1} {
		notLoaded(t, p, intern.Beside(page, 300), api.ErrArg)
	}
	n, _ := p.Append(4, "\x00"+text(100))
	notLoaded(t, p, intern.Beside(n, 100), api.ErrBad)
	loads(t, p, v, text(300))
}

// A chain of as many pages as may be, of more than MaxBlob bytes.
func TestLoadOfAChainThatIsTooLong(t *testing.T) {
	p := newBed(t, 400).p
	for n := range 279 {
		p.Append(blob.Kind, varint.Num(uint64(n))+strings.Repeat("y", 237))
	}
	for _, size := range []int{0, 279 * 237, 65536} {
		notLoaded(t, p, intern.Beside(278, size), api.ErrBad)
	}
	loads(t, p, intern.Beside(9, 2370), strings.Repeat("y", 2370))
}

func TestBesideAndPage(t *testing.T) {
	for _, x := range []struct {
		page, size int
		want       string
		is         bool
	}{
		{0, 0, "b\x00\x00", true}, {0, 32, "b\x00\x20", true}, {1, 300, "b\x01\xac\x02", true},
		{127, 127, "b\x7f\x7f", true}, {128, 128, "b\x80\x01\x80\x01", true}, {300, 65535, "b\xac\x02\xff\xff\x03", true},
		{1<<31 - 2, 40, "b\xfe\xff\xff\xff\x07\x28", true}, {1<<31 - 1, 40, "b\xff\xff\xff\xff\x07\x28", true},
		{1 << 31, 40, "b\x80\x80\x80\x80\x08\x28", false}, {1<<32 + 1, 40, "b\x81\x80\x80\x80\x10\x28", false},
		{math.MaxInt, 40, "b" + varint.Num(math.MaxInt) + "\x28", false},
		{7, 65536, "b\x07\x80\x80\x04", true}, {7, 65537, "b\x07\x81\x80\x04", false}, {7, math.MaxInt, "b\x07" + varint.Num(math.MaxInt), false},
		{1 << 31, 65537, "b\x80\x80\x80\x80\x08\x81\x80\x04", false},
		{-1, 40, "", false}, {40, -1, "", false}, {-1, -1, "", false}, {math.MinInt, math.MinInt, "", false},
	} {
		v := intern.Beside(x.page, x.size)
		if v != x.want {
			t.Errorf("P14.1: Beside(%d, %d): %x, not %x", x.page, x.size, v, x.want)
		}
		if !x.is {
			names(t, v, -1)
			continue
		}
		names(t, v, x.page)
		for i := range v {
			names(t, v[:i], -1)
		}
		for _, more := range []string{"\x00", "\x80", "a", v} {
			names(t, v+more, -1)
		}
	}
	for _, v := range []string{
		"i", "i\x05\x28", "ib\x05\x28", "B\x05\x28", "\x05\x28", " b\x05\x28", "b\x80\x00\x28", "b\x85\x00\x28", "b\x05\xa8\x00",
		"b" + strings.Repeat("\x80", 9) + "\x02\x28", "b\x05" + strings.Repeat("\xff", 12),
	} {
		names(t, v, -1)
	}
}

func TestMove(t *testing.T) {
	for _, n := range []int{0, 31, 32, 235, 236, 5000, 65536} {
		from := newBed(t, 600).p
		from.Append(9, "")
		v := value(t, from, text(n))
		to := from.Other()
		next, ahead := from.Next(), 0
		for range 2 { // from the first pages of the other half on, and behind them
			w, e := intern.Move(from, to, v)
			loads(t, to, w, text(n))
			if e != api.OK || to.Next() != ahead+intern.Cost(n) || from.Next() != next {
				t.Fatalf("P14.1: Move of %d bytes: %x (%d), %d pages", n, w, e, to.Next()-ahead)
			}
			if n > 31 {
				names(t, w, to.Next()-1)
			}
			ahead = to.Next()
		}
		loads(t, from, v, text(n))
	}
}

// A value that Value wouldn't make is moved as its text; over the same pages,
// too.
func TestMoveOfOtherValues(t *testing.T) {
	p := newBed(t, 600).p
	long := "i" + text(500)
	w, e := intern.Move(p, p, long)
	loads(t, p, w, text(500))
	if w != intern.Beside(2, 500) || e != api.OK || p.Next() != 3 {
		t.Errorf("P14.1: %x (%d)", w, e)
	}
	first, _ := blob.Write(p, text(31))
	if w, e := intern.Move(p, p.Other(), intern.Beside(first, 31)); w != "i"+text(31) || e != api.OK {
		t.Errorf("P14.1: %x (%d)", w, e)
	}
	if w, e := intern.Move(p, p.Other(), "i"+text(65537)); w != "" || e != api.ErrArg {
		t.Errorf("P14.1: %x (%d)", w, e)
	}
}

func TestMoveWithoutRoom(t *testing.T) {
	b := newBed(t, 6)
	v := value(t, b.p, text(900)) // four pages
	to := b.p.Other()
	for range 3 {
		to.Append(9, "")
	}
	if w, e := intern.Move(b.p, to, v); w != "" || e != api.ErrFull || to.Next() != 3 {
		t.Errorf("P14.1: %x (%d), %d pages", w, e, to.Next())
	}
	to.Cut(2)
	b.disk.Flush()
	for at := range 4 {
		b.disk.Halt(at)
		if w, e := intern.Move(b.p, to, v); w != "" || e != api.ErrDown || to.Next() != 2 {
			t.Errorf("P14.1: %x (%d), %d pages", w, e, to.Next())
		}
		b.disk.Crash()
	}
	if w, e := intern.Move(b.p, to, v); w != intern.Beside(5, 900) || e != api.OK {
		t.Errorf("P14.1: %x (%d)", w, e)
	}
}

func TestCost(t *testing.T) {
	for n, want := range map[int]int{
		math.MinInt: 0, -1: 0, 0: 0, 1: 0, 30: 0, 31: 0, 32: 1, 33: 1, 234: 1, 235: 1, 236: 2, 470: 2, 471: 3, 65330: 278, 65331: 279, 65536: 279,
	} {
		if intern.Cost(n) != want {
			t.Errorf("P14.1: Cost(%d) is %d, not %d", n, intern.Cost(n), want)
		}
	}
	p := newBed(t, 3000).p
	for n := range 720 {
		value(t, p, text(n)) // held against Cost there
	}
}
