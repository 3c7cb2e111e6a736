package varint_test

import (
	"encoding/binary"
	"math"
	"strings"
	"testing"

	"dowser/api"
	"dowser/varint"
)

const all = math.MaxUint64

// numbers: the edges of every count of bits, and what stands beside them.
func numbers() []uint64 {
	l := []uint64{0, 300}
	for i := range 64 {
		l = append(l, 1<<i-1, 1<<i, 1<<i+1)
	}
	return append(l, all-1, all)
}

// strangeBytes: all texts of up to n of the bytes that a number's form hangs
// on, alone and behind 8 bytes that aren't the last.
func strangeBytes(n int) []string {
	l := []string{""}
	for from := 0; n > 0; n-- {
		to := len(l)
		for _, s := range l[from:to] {
			for _, b := range "\x00\x01\x02\x7f" {
				l = append(l, s+string(b))
			}
			l = append(l, s+"\x80", s+"\x81", s+"\xff")
		}
		from = to
	}
	for _, s := range l {
		l = append(l, strings.Repeat("\x80", 8)+s, strings.Repeat("\xff", 8)+s)
	}
	return l
}

func TestNumBytes(t *testing.T) {
	for x, want := range map[uint64]string{
		0: "\x00", 1: "\x01", 127: "\x7f", 128: "\x80\x01", 300: "\xac\x02",
		16383: "\xff\x7f", 16384: "\x80\x80\x01",
		1 << 63: strings.Repeat("\x80", 9) + "\x01",
		all:     strings.Repeat("\xff", 9) + "\x01",
	} {
		if got := varint.Num(x); got != want {
			t.Errorf("P1.1: Num(%d) is %x, not %x", x, got, want)
		}
	}
	for _, x := range numbers() {
		if got, want := varint.Num(x), string(binary.AppendUvarint(nil, x)); got != want {
			t.Errorf("P1.1: Num(%d) is %x, not %x", x, got, want)
		}
	}
}

func TestTextBytes(t *testing.T) {
	long := strings.Repeat("x", 300)
	for s, want := range map[string]string{
		"": "\x00", "ab": "\x02ab", "\x00": "\x01\x00", "\xff\xfe": "\x02\xff\xfe", "ä": "\x02\xc3\xa4", long: "\xac\x02" + long,
	} {
		if got := varint.Text(s); got != want {
			t.Errorf("P1.1: Text(%q) is %x", s, got)
		}
	}
}

func TestNumThereAndBack(t *testing.T) {
	for _, x := range numbers() {
		in := varint.Of(varint.Num(x) + "rest")
		if got := in.Num(x); got != x || in.Err() != api.OK || in.Left() != 4 || in.Raw(4) != "rest" || in.End() != api.OK {
			t.Errorf("P1.2: %d comes back as %d, %v", x, got, in.Err())
		}
	}
}

func TestTextThereAndBack(t *testing.T) {
	for _, s := range []string{"", "a", "\x00\x80", strings.Repeat("y", 127), strings.Repeat("y", 128), strings.Repeat("z", 70000)} {
		in := varint.Of(varint.Text(s) + varint.Text("next"))
		if got := in.Text(len(s)); got != s || in.Text(math.MaxInt) != "next" || in.End() != api.OK {
			t.Errorf("P1.2: a text of %d bytes comes back with %d, %v", len(s), len(got), in.Err())
		}
	}
}

func TestNoNumberBeginsAnother(t *testing.T) {
	seen := map[string]uint64{}
	for _, x := range numbers() {
		seen[varint.Num(x)] = x
	}
	for s, x := range seen {
		for i := range len(s) {
			if y, ok := seen[s[:i]]; ok {
				t.Errorf("P1.2: the bytes of %d begin those of %d", y, x)
			}
		}
	}
}

// Whatever is taken is written in the one way that there is.
func TestOneWayAlone(t *testing.T) {
	for _, s := range strangeBytes(4) {
		in := varint.Of(s)
		x := in.Num(all)
		if in.Err() == api.OK && varint.Num(x) != s[:len(s)-in.Left()] {
			t.Errorf("P1.2: %x is taken as %d, whose bytes are %x", s, x, varint.Num(x))
		}
		in = varint.Of(s)
		u := in.Text(math.MaxInt)
		if in.Err() == api.OK && varint.Text(u) != s[:len(s)-in.Left()] {
			t.Errorf("P1.2: %x is taken as the text %x", s, u)
		}
	}
}

// numErr: the error of the number with which s begins, by the words of the
// chapter: the first byte that is wrong, or wanting, or the last one.
func numErr(s string, most uint64) api.Errno {
	for i := 0; i < len(s); i++ {
		switch {
		case s[i] == 0 && i > 0:
			return api.ErrForm
		case s[i] > 1 && i == 9:
			return api.ErrForm
		case s[i] < 0x80:
			if x, _ := binary.Uvarint([]byte(s)); x > most {
				return api.ErrBig
			}
			return api.OK
		}
	}
	return api.ErrEnd
}

func TestNumErrors(t *testing.T) {
	nine := strings.Repeat("\x80", 9)
	for s, want := range map[string]api.Errno{
		"": api.ErrEnd, "\x80": api.ErrEnd, nine: api.ErrEnd,
		"\x80\x00": api.ErrForm, "\xff\x80\x00": api.ErrForm, nine + "\x00": api.ErrForm,
		nine + "\x02": api.ErrForm, nine + "\x80": api.ErrForm, nine + "\x81\x01": api.ErrForm,
		nine + "\x01": api.OK, "\x00": api.OK, "\x00\x00": api.OK,
	} {
		in := varint.Of(s)
		if x := in.Num(all); in.Err() != want || want != api.OK && x != 0 {
			t.Errorf("P1.1: %x: %d, %v, not %v", s, x, in.Err(), want)
		}
	}
	for _, s := range strangeBytes(4) {
		for _, most := range []uint64{0, 1, 127, 1 << 62, all} {
			in := varint.Of(s)
			x := in.Num(most)
			if want := numErr(s, most); in.Err() != want {
				t.Errorf("P1.1: %x, at most %d: %v, not %v", s, most, in.Err(), want)
			}
			if in.Err() != api.OK && (x != 0 || in.Left() != 0) {
				t.Errorf("P1.1: %x: %d and %d bytes beside an error", s, x, in.Left())
			}
		}
	}
}

func TestNumMost(t *testing.T) {
	for _, x := range numbers() {
		if x == 0 {
			continue
		}
		in := varint.Of(varint.Num(x))
		if got := in.Num(x - 1); got != 0 || in.Err() != api.ErrBig || in.Left() != 0 {
			t.Errorf("P1.1: %d, at most %d: %d, %v", x, x-1, got, in.Err())
		}
	}
	// A number that is wrong isn't reckoned with: its form is told, not its greatness.
	in := varint.Of("\xff\x00")
	if in.Num(0); in.Err() != api.ErrForm {
		t.Errorf("P1.1: %v, not ErrForm", in.Err())
	}
}

func TestTextErrors(t *testing.T) {
	for _, c := range []struct {
		s    string
		most int
		want api.Errno
	}{
		{"", 9, api.ErrEnd}, {"\x80", 9, api.ErrEnd}, {"\x80\x00", 9, api.ErrForm},
		{"\x03ab", 9, api.ErrEnd}, {"\x01", 9, api.ErrEnd}, {"\x03abc", 2, api.ErrBig},
		{"\x03abc", 3, api.OK}, {"\x00", 0, api.OK}, {"\x01a", 0, api.ErrBig},
		{"\x00", -1, api.OK}, {"\x00", math.MinInt, api.OK}, {"\x01a", -1, api.ErrBig}, {"\x01a", math.MinInt, api.ErrBig},
		// The number of bytes comes ahead of them: that it is too great is told, though they are wanting too.
		{"\x05ab", 4, api.ErrBig},
		{varint.Num(math.MaxInt) + "ab", math.MaxInt, api.ErrEnd},
		{varint.Num(math.MaxInt+1) + "ab", math.MaxInt, api.ErrBig},
		{varint.Num(all) + "ab", math.MaxInt, api.ErrBig},
	} {
		in := varint.Of(c.s)
		got := in.Text(c.most)
		if in.Err() != c.want {
			t.Errorf("P1.1: %x, at most %d: %v, not %v", c.s, c.most, in.Err(), c.want)
		}
		if c.want != api.OK && (got != "" || in.Left() != 0) {
			t.Errorf("P1.1: %x: %q and %d bytes beside an error", c.s, got, in.Left())
		}
	}
}

func TestRaw(t *testing.T) {
	in := varint.Of("\x80bcde")
	for _, c := range []struct {
		n    int
		want string
		left int
	}{{2, "\x80b", 3}, {0, "", 3}, {-1, "", 3}, {math.MinInt, "", 3}, {3, "cde", 0}, {0, "", 0}, {-7, "", 0}} {
		if got := in.Raw(c.n); got != c.want || in.Left() != c.left || in.Err() != api.OK {
			t.Errorf("P1.1: Raw(%d): %q, %d left, %v", c.n, got, in.Left(), in.Err())
		}
	}
	for _, n := range []int{4, math.MaxInt} {
		in := varint.Of("abc")
		if got := in.Raw(n); got != "" || in.Err() != api.ErrEnd || in.Left() != 0 {
			t.Errorf("P1.1: Raw(%d) of 3: %q, %d left, %v", n, got, in.Left(), in.Err())
		}
	}
}

func TestFirstErrorStays(t *testing.T) {
	for want, wrong := range map[api.Errno]func(in *varint.In){
		api.ErrEnd:    func(in *varint.In) { in.Raw(99) },
		api.ErrBig:    func(in *varint.In) { in.Num(0) },
		api.ErrForm:   func(in *varint.In) { in.Raw(2); in.Num(all) },
		api.ErrKind:   func(in *varint.In) { in.Fail(api.ErrKind) },
		api.Errno(-1): func(in *varint.In) { in.Fail(-1) },
	} {
		in := varint.Of("\x01a\x80\x00")
		wrong(in)
		in.Fail(api.ErrArg)
		in.Fail(api.OK)
		if in.Num(all) != 0 || in.Text(9) != "" || in.Raw(1) != "" || in.Raw(0) != "" || in.Raw(-1) != "" {
			t.Errorf("P1.1: something is taken behind %v", want)
		}
		if in.Err() != want || in.End() != want || in.Left() != 0 {
			t.Errorf("P1.1: %v, %v, %d left, not %v", in.Err(), in.End(), in.Left(), want)
		}
	}
}

func TestFailWithOK(t *testing.T) {
	in := varint.Of("\x05")
	in.Fail(api.OK)
	if in.Err() != api.OK || in.Left() != 1 || in.Num(5) != 5 || in.End() != api.OK {
		t.Errorf("P1.1: Fail(OK) changed something: %v", in.Err())
	}
	in.Fail(api.ErrBad)
	if in.Err() != api.ErrBad || in.End() != api.ErrBad {
		t.Errorf("P1.1: %v behind Fail(ErrBad)", in.Err())
	}
}

func TestEnd(t *testing.T) {
	in := varint.Of("ab")
	if in.End() != api.ErrForm || in.Err() != api.OK || in.Left() != 2 {
		t.Errorf("P1.1: %v, %d left: End only tells", in.Err(), in.Left())
	}
	if in.Raw(2) != "ab" || in.End() != api.OK {
		t.Errorf("P1.1: %v behind all", in.End())
	}
	if in := varint.Of(""); in.End() != api.OK || in.Err() != api.OK || in.Left() != 0 {
		t.Errorf("P1.1: %v of nothing", in.End())
	}
}

// Two that are made of the same bytes don't hang on one another.
func TestInsAreTheirOwn(t *testing.T) {
	a, b := varint.Of("\x01\x02"), varint.Of("\x01\x02")
	if a.Num(0); a.Err() != api.ErrBig || b.Err() != api.OK || b.Num(1) != 1 || b.Num(2) != 2 || b.End() != api.OK {
		t.Errorf("P1.1: %v, %v", a.Err(), b.Err())
	}
}
