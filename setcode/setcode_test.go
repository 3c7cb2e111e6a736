package setcode_test

import (
	"math"
	"slices"
	"strings"
	"testing"

	"dowser/api"
	"dowser/setcode"
	"dowser/varint"
)

const most = 1<<31 - 1

// great is what most is as bytes.
const great = "\xff\xff\xff\xff\x07"

// random is numbers by a fixed rule.
type random uint64

func (r *random) pick(n int) int {
	*r = *r*6364136223846793005 + 1442695040888963407
	return int(uint64(*r) >> 33 % uint64(n))
}

// nums: numbers, each in layer 1's form.
func nums(l ...uint64) string {
	var s string
	for _, x := range l {
		s += varint.Num(x)
	}
	return s
}

// upTo: 0, 1, .. below n.
func upTo(n int) []int {
	var l []int
	for i := range n {
		l = append(l, i)
	}
	return l
}

// encodes: what a set's bytes must be; and back.
func encodes(t *testing.T, set []int, want string) {
	t.Helper()
	before := slices.Clone(set)
	if s, e := setcode.Encode(set); s != want || e != api.OK {
		t.Errorf("P13.1: Encode of %v: %x (%d), not %x", set, s, e, want)
	}
	if n := setcode.Size(set); n != len(want) {
		t.Errorf("P13.1: Size of %v: %d, not %d", set, n, len(want))
	}
	if !slices.Equal(set, before) {
		t.Errorf("P13.1: %v was changed to %v", before, set)
	}
	if l, e := setcode.Decode(want); !slices.Equal(l, set) || e != api.OK {
		t.Errorf("P13.2: Decode of %x: %v (%d), not %v", want, l, e, set)
	}
}

// notEncoded: a list that is no set.
func notEncoded(t *testing.T, l ...int) {
	t.Helper()
	if s, e := setcode.Encode(l); s != "" || e != api.ErrArg {
		t.Errorf("P13.1: Encode of %v: %x (%d)", l, s, e)
	}
	if n := setcode.Size(l); n != 0 {
		t.Errorf("P13.1: Size of %v: %d", l, n)
	}
}

// notDecoded: bytes that are no set.
func notDecoded(t *testing.T, s string, want api.Errno) {
	t.Helper()
	if l, e := setcode.Decode(s); l != nil || e != want {
		t.Errorf("P13.1: Decode of %x: %v (%d), not %d", s, l, e, want)
	}
}

func TestSets(t *testing.T) {
	encodes(t, []int{5, 6, 9}, "\x03\x05\x00\x02")
	encodes(t, nil, "\x00")
	encodes(t, []int{}, "\x00")
	encodes(t, []int{0}, "\x01\x00")
	encodes(t, []int{1}, "\x01\x01")
	encodes(t, []int{127}, "\x01\x7f")
	encodes(t, []int{128}, "\x01\x80\x01")
	encodes(t, []int{most}, "\x01"+great)
	encodes(t, []int{0, 1}, "\x02\x00\x00")
	encodes(t, []int{0, 128}, "\x02\x00\x7f")
	encodes(t, []int{0, 129}, "\x02\x00\x80\x01")
	encodes(t, []int{0, most}, "\x02\x00\xfe\xff\xff\xff\x07")
	encodes(t, []int{most - 1, most}, "\x02\xfe\xff\xff\xff\x07\x00")
	encodes(t, []int{3, most - 1, most}, "\x03\x03\xfa\xff\xff\xff\x07\x00")
	for _, n := range []int{126, 127, 128, 16383, 16384} {
		encodes(t, upTo(n), nums(uint64(n))+strings.Repeat("\x00", n))
	}
}

func TestNoSets(t *testing.T) {
	notEncoded(t, -1)
	notEncoded(t, math.MinInt)
	notEncoded(t, most+1)
	notEncoded(t, math.MaxInt)
	notEncoded(t, -1, 0)
	notEncoded(t, -5, -1, 3)
	notEncoded(t, 0, most+1)
	notEncoded(t, most, most+1)
	notEncoded(t, -1, most+1)
	notEncoded(t, math.MinInt, math.MaxInt)
	notEncoded(t, 1, 0)
	notEncoded(t, most, 0)
	notEncoded(t, 0, 0)
	notEncoded(t, most, most)
	notEncoded(t, 1, 2, 2)
	notEncoded(t, 1, 2, 2, 3)
	notEncoded(t, 1, 3, 2)
	notEncoded(t, 1, 3, 2, 4)
	notEncoded(t, most+1, 0)
}

// Wrong bytes, and of several things that are wrong the one that is told.
func TestDecodeOfWhatIsWrong(t *testing.T) {
	for s, want := range map[string]api.Errno{
		"": api.ErrEnd, "\x80": api.ErrEnd, "\x01": api.ErrEnd, "\x01\x80": api.ErrEnd, "\x02\x00": api.ErrEnd,
		"\x02\x00\xff\xff": api.ErrEnd, great: api.ErrEnd, great + "\x00": api.ErrEnd,
		"\x00\x00": api.ErrForm, "\x01\x00\x00": api.ErrForm, "\x01" + great + "a": api.ErrForm, "\x00\x80": api.ErrForm,
		"\x80\x00": api.ErrForm, "\x81\x00\x05": api.ErrForm, "\x01\x80\x00": api.ErrForm, "\x02\x00\x81\x00": api.ErrForm,
		"\x01\xff\xff\xff\xff\xff\xff\xff\xff\xff\x02": api.ErrForm,
		// a number above 2^31 - 1
		nums(1, 1<<31): api.ErrBig, nums(1 << 31): api.ErrBig, nums(2, 0, 1<<31): api.ErrBig,
		nums(1, math.MaxUint64): api.ErrBig, nums(math.MaxUint64): api.ErrBig, nums(1<<32, 0): api.ErrBig,
		// differences whose sum is
		nums(2, most, 0): api.ErrArg, nums(2, most, most): api.ErrArg, nums(2, 0, most): api.ErrArg,
		nums(2, 1, most-1): api.ErrArg, nums(3, 0, 0, most-1): api.ErrArg, nums(3, 5, most-6, 0): api.ErrArg,
		nums(4, most, 0, 0, 0): api.ErrArg,
		// several at once: number by number
		nums(2, most, 0, 0):           api.ErrArg,  // bytes are left
		nums(3, most, 0):              api.ErrArg,  // ahead of the end
		nums(3, most, 0) + "\x80":     api.ErrArg,  // likewise
		nums(2, most):                 api.ErrEnd,  // no number could follow, but none does
		nums(2, most) + "\x80":        api.ErrEnd,  // likewise
		nums(2, most) + "\x80\x00":    api.ErrForm, // likewise
		nums(2, most, 1<<31):          api.ErrBig,  // the number itself ahead of the sum
		nums(3, most, 0, 1<<31):       api.ErrArg,  // the sum ahead of the next number
		nums(3, most, 0) + "\x80\x00": api.ErrArg,
		nums(3, 0, 1<<31, most):       api.ErrBig,
		nums(1, 1<<31, 0):             api.ErrBig,  // bytes are left
		nums(3, 1<<31):                api.ErrBig,  // ahead of the end
		"\x02\x80\x00":                api.ErrForm, // likewise
		nums(1<<31) + "\x80\x00":      api.ErrBig,
	} {
		notDecoded(t, s, want)
	}
}

// Sums that would come back to numbers that may be, if they were reckoned in
// 32 or in 64 bits.
func TestSumsThatWouldWrapRound(t *testing.T) {
	for _, n := range []int{2, 3, 4, 5, 6, 100} {
		notDecoded(t, nums(uint64(n))+strings.Repeat(great, n), api.ErrArg)
	}
	for _, x := range []uint64{1 << 31, 1<<32 - 1, 1 << 32, 1<<32 + 1, 1<<63 - 1, 1 << 63, math.MaxUint64 - 1, math.MaxUint64} {
		notDecoded(t, nums(2, 5, x), api.ErrBig)
		notDecoded(t, nums(3, 5, x, x), api.ErrBig)
	}
}

// A set's bytes that end early, or go on.
func TestBeginningsAndMore(t *testing.T) {
	r := random(13)
	for range 300 {
		s, e := setcode.Encode(anySet(&r))
		if e != api.OK {
			t.Fatalf("P13.1: %d", e)
		}
		for i := range s {
			notDecoded(t, s[:i], api.ErrEnd)
		}
		for _, more := range []string{"\x00", "\x80", "a", s} {
			notDecoded(t, s+more, api.ErrForm)
		}
	}
}

// anySet: one of some numbers, near to one another and far.
func anySet(r *random) []int {
	var l []int
	x := -1
	for range r.pick(12) {
		x += 1 + r.pick(1<<r.pick(29))
		if x > most {
			break
		}
		l = append(l, x)
	}
	return l
}

func TestThereAndBack(t *testing.T) {
	r := random(1)
	seen := map[string][]int{}
	for range 5000 {
		set := anySet(&r)
		want := nums(uint64(len(set)))
		for i, x := range set {
			if i > 0 {
				x -= set[i-1] + 1
			}
			want += nums(uint64(x))
		}
		encodes(t, set, want)
		if other, is := seen[want]; is && !slices.Equal(other, set) {
			t.Errorf("P13.3: %v and %v have the bytes %x", other, set, want)
		}
		seen[want] = set
	}
}

// All sets of some numbers, the least and the greatest ones among them.
func TestUnlikeSetsHaveUnlikeBytes(t *testing.T) {
	numbers := []int{0, 1, 2, 3, 126, 127, 128, 129, 16384, most - 1, most}
	seen := map[string]int{}
	for chosen := range 1 << len(numbers) {
		var set []int
		for i, x := range numbers {
			if chosen>>i&1 == 1 {
				set = append(set, x)
			}
		}
		s, e := setcode.Encode(set)
		if other, is := seen[s]; is || e != api.OK || setcode.Size(set) != len(s) {
			t.Fatalf("P13.3: %v: %x (%d), those of choice %d", set, s, e, other)
		}
		seen[s] = chosen
		if l, e := setcode.Decode(s); !slices.Equal(l, set) || e != api.OK {
			t.Fatalf("P13.2: %x: %v (%d), not %v", s, l, e, set)
		}
	}
}

// anyBytes asks of all texts of at most so many bytes out of a few, and of
// some longer ones.
func anyBytes(size int, ask func(s string)) {
	few := []byte{0, 1, 2, 3, 7, 127, 128, 255}
	var grow func(s string)
	grow = func(s string) {
		ask(s)
		if len(s) == size {
			return
		}
		for _, b := range few {
			grow(s + string([]byte{b}))
		}
	}
	grow("")
	r := random(5)
	for range 20000 {
		s := nums(uint64(r.pick(4)))
		for range r.pick(7) {
			s += nums(uint64(r.pick(1 << r.pick(33))))
		}
		ask(s)
	}
}

// plain: the numbers of bytes as the chapter tells them: how many there are,
// and per times as many. fits is asked of all of them as each one more comes.
func plain(s string, per int, fits func(l []int) bool) ([]int, api.Errno) {
	in := varint.Of(s)
	n := int(in.Num(most)) * per
	var l []int
	for range n {
		x := in.Num(most)
		if in.Err() != api.OK {
			break
		}
		l = append(l, int(x))
		if !fits(l) {
			return nil, api.ErrArg
		}
	}
	if e := in.End(); e != api.OK {
		return nil, e
	}
	return l, api.OK
}

// Of any bytes: what the chapter says; of a set just one has its bytes.
func TestDecodeOfAnyBytes(t *testing.T) {
	anyBytes(6, func(s string) {
		want, e := plain(s, 1, func(l []int) bool {
			sum := len(l) - 1
			for _, x := range l {
				sum += x
			}
			return sum <= most
		})
		for i := 1; i < len(want); i++ {
			want[i] += want[i-1] + 1
		}
		l, f := setcode.Decode(s)
		if f != e || !slices.Equal(l, want) || f != api.OK && l != nil {
			t.Fatalf("P13.1: Decode of %x: %v (%d), not %v (%d)", s, l, f, want, e)
		}
		if f != api.OK {
			return
		}
		if back, e := setcode.Encode(l); back != s || e != api.OK || setcode.Size(l) != len(s) {
			t.Fatalf("P13.2: %x is %v, which is %x (%d)", s, l, back, e)
		}
	})
}

// Answers share nothing with one another, nor with what was handed in; spare
// room stays as it is.
func TestMemory(t *testing.T) {
	a, _ := setcode.Decode("\x02\x03\x04")
	clear(append(a, 7)[:3])
	clear(a)
	encodes(t, []int{3, 8}, "\x02\x03\x04")
	set := []int{1, 2, 9, -4}
	encodes(t, set[:2], "\x02\x01\x00")
	if !slices.Equal(set, []int{1, 2, 9, -4}) {
		t.Errorf("P13.1: spare room was changed: %v", set)
	}
	b, _ := setcode.FromPairs("\x01\x03\x04")
	b[0] = [2]int{}
	pairs(t, [][2]int{{3, 4}}, "\x01\x03\x04")
	l := [][2]int{{1, 2}, {3, 4}, {0, 0}}
	pairs(t, l[:2], "\x02\x01\x02\x03\x04")
	if l[2] != [2]int{} {
		t.Errorf("P13.1: spare room was changed: %v", l)
	}
}
