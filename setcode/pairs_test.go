package setcode_test

import (
	"math"
	"slices"
	"testing"

	"dowser/api"
	"dowser/setcode"
)

// pairs: what bytes these must have; and back.
func pairs(t *testing.T, l [][2]int, want string) {
	t.Helper()
	before := slices.Clone(l)
	if s, e := setcode.Pairs(l); s != want || e != api.OK {
		t.Errorf("P13.1: Pairs of %v: %x (%d), not %x", l, s, e, want)
	}
	if !slices.Equal(l, before) {
		t.Errorf("P13.1: %v was changed to %v", before, l)
	}
	if back, e := setcode.FromPairs(want); !slices.Equal(back, l) || e != api.OK {
		t.Errorf("P13.2: FromPairs of %x: %v (%d), not %v", want, back, e, l)
	}
}

// noPairs: a list that may not be.
func noPairs(t *testing.T, l ...[2]int) {
	t.Helper()
	if s, e := setcode.Pairs(l); s != "" || e != api.ErrArg {
		t.Errorf("P13.1: Pairs of %v: %x (%d)", l, s, e)
	}
}

func TestPairs(t *testing.T) {
	pairs(t, nil, "\x00")
	pairs(t, [][2]int{}, "\x00")
	pairs(t, [][2]int{{0, 0}}, "\x01\x00\x00")
	pairs(t, [][2]int{{5, 3}}, "\x01\x05\x03")
	pairs(t, [][2]int{{most, most}}, "\x01"+great+great)
	pairs(t, [][2]int{{0, most}}, "\x01\x00"+great)
	pairs(t, [][2]int{{most, 0}}, "\x01"+great+"\x00")
	pairs(t, [][2]int{{1, 4}, {2, 4}}, "\x02\x01\x04\x02\x04")         // the first numbers rise alone
	pairs(t, [][2]int{{4, 1}, {4, 2}}, "\x02\x04\x01\x04\x02")         // the second ones
	pairs(t, [][2]int{{1, 9}, {2, 0}}, "\x02\x01\x09\x02\x00")         // the second ones fall
	pairs(t, [][2]int{{1, most}, {2, 0}}, "\x02\x01"+great+"\x02\x00") // likewise
	pairs(t, [][2]int{{0, 128}, {300, 0}}, "\x02\x00\x80\x01\xac\x02\x00")
	pairs(t, [][2]int{{0, 0}, {0, most}, {1, 0}, {most, 0}, {most, most}}, "\x05\x00\x00\x00"+great+"\x01\x00"+great+"\x00"+great+great)
	var l [][2]int
	want := nums(128)
	for i := range 128 {
		l = append(l, [2]int{7, i})
		want += nums(7, uint64(i))
	}
	pairs(t, l, want)
}

func TestNoPairs(t *testing.T) {
	for _, x := range []int{-1, math.MinInt, most + 1, math.MaxInt} {
		noPairs(t, [2]int{x, 0})
		noPairs(t, [2]int{0, x})
		noPairs(t, [2]int{x, x})
		noPairs(t, [2]int{0, x}, [2]int{1, 1})
		noPairs(t, [2]int{0, 1}, [2]int{1, x})
		noPairs(t, [2]int{0, 1}, [2]int{1, x}, [2]int{2, 0})
	}
	noPairs(t, [2]int{-2, 0}, [2]int{-1, 0})
	noPairs(t, [2]int{most, 0}, [2]int{most + 1, 0})
	noPairs(t, [2]int{1, 0}, [2]int{0, 1})             // they fall
	noPairs(t, [2]int{1, 1}, [2]int{1, 0})             // likewise
	noPairs(t, [2]int{1, 1}, [2]int{1, 1})             // twice
	noPairs(t, [2]int{0, 0}, [2]int{0, 0})             // likewise
	noPairs(t, [2]int{most, most}, [2]int{most, most}) // likewise
	noPairs(t, [2]int{0, 1}, [2]int{0, 2}, [2]int{0, 2})
	noPairs(t, [2]int{0, 1}, [2]int{2, 0}, [2]int{1, 5}, [2]int{3, 0})
}

// Wrong bytes, and of several things that are wrong the one that is told.
func TestFromPairsOfWhatIsWrong(t *testing.T) {
	for s, want := range map[string]api.Errno{
		"": api.ErrEnd, "\x80": api.ErrEnd, "\x01": api.ErrEnd, "\x01\x00": api.ErrEnd, "\x01\x00\x80": api.ErrEnd,
		"\x02\x00\x00": api.ErrEnd, "\x02\x00\x00\x01": api.ErrEnd, great: api.ErrEnd, great + "\x00\x00": api.ErrEnd,
		"\x00\x00": api.ErrForm, "\x01\x00\x00\x00": api.ErrForm, "\x80\x00": api.ErrForm, "\x01\x80\x00\x00": api.ErrForm,
		"\x01\x00\x80\x00": api.ErrForm, "\x81\x00\x00\x00": api.ErrForm,
		nums(1, 1<<31, 0): api.ErrBig, nums(1, 0, 1<<31): api.ErrBig, nums(1 << 31): api.ErrBig,
		nums(1, 0, math.MaxUint64): api.ErrBig, nums(math.MaxUint64): api.ErrBig, nums(1<<32, 0): api.ErrBig,
		nums(2, 1, 0, 0, 1): api.ErrArg, nums(2, 1, 1, 1, 0): api.ErrArg, nums(2, 1, 1, 1, 1): api.ErrArg,
		nums(2, 0, 0, 0, 0): api.ErrArg, nums(3, 0, 0, 2, 0, 1, 9): api.ErrArg,
		// several at once
		nums(2, 1, 1, 1, 1, 0):           api.ErrForm, // bytes are left, ahead of pairs that don't rise
		nums(3, 1, 1, 1, 1):              api.ErrEnd,  // layer 1, ahead of pairs that don't rise
		nums(3, 1, 1, 1, 1, 1<<31):       api.ErrBig,  // likewise
		nums(3, 1, 1, 1, 1) + "\x80\x00": api.ErrForm, // likewise
		nums(1, 1<<31, 0, 0):             api.ErrBig,  // ahead of bytes that are left
		nums(2, 1<<31):                   api.ErrBig,  // ahead of the end
		"\x02\x80\x00":                   api.ErrForm, // likewise
		nums(1<<31) + "\x80\x00":         api.ErrBig,
	} {
		if l, e := setcode.FromPairs(s); l != nil || e != want {
			t.Errorf("P13.1: FromPairs of %x: %v (%d), not %d", s, l, e, want)
		}
	}
}

// Of any bytes: what the chapter says; of a list of pairs just one has its
// bytes.
func TestFromPairsOfAnyBytes(t *testing.T) {
	anyBytes(6, func(s string) {
		numbers, e := plain(s, 2, func([]int) bool { return true })
		var want [][2]int
		for i := 0; i < len(numbers); i += 2 {
			want = append(want, [2]int{numbers[i], numbers[i+1]})
		}
		for i := 1; i < len(want); i++ {
			a, b := want[i-1], want[i]
			if a[0] > b[0] || a[0] == b[0] && a[1] >= b[1] {
				want, e = nil, api.ErrArg
				break
			}
		}
		l, f := setcode.FromPairs(s)
		if f != e || !slices.Equal(l, want) || f != api.OK && l != nil {
			t.Fatalf("P13.1: FromPairs of %x: %v (%d), not %v (%d)", s, l, f, want, e)
		}
		if f != api.OK {
			return
		}
		if back, e := setcode.Pairs(l); back != s || e != api.OK {
			t.Fatalf("P13.2: %x is %v, which is %x (%d)", s, l, back, e)
		}
	})
}

func TestPairsThereAndBack(t *testing.T) {
	r := random(3)
	for range 3000 {
		var l [][2]int
		for range r.pick(10) {
			l = append(l, [2]int{r.pick(1 << r.pick(32)), r.pick(1 << r.pick(32))})
		}
		slices.SortFunc(l, func(a, b [2]int) int { return slices.Compare(a[:], b[:]) })
		l = slices.Compact(l)
		want := nums(uint64(len(l)))
		for _, x := range l {
			want += nums(uint64(x[0]), uint64(x[1]))
		}
		pairs(t, l, want)
	}
}
