package heat_test

import (
	"math"
	"slices"
	"testing"

	"dowser/heat"
)

const (
	none  = 0x7ff8000000000001
	inf   = 0x7ff0000000000000
	minus = 1 << 63
)

// noNumbers: bits that are no numbers, of both signs, the least and the
// greatest of each kind among them.
var noNumbers = []uint64{
	none, 0x7ff0000000000001, 0x7ff7ffffffffffff, 0x7ff8000000000000, 0x7fffffffffffffff,
	0xfff0000000000001, 0xfff7ffffffffffff, 0xfff8000000000000, 0xfff8000000000001, 0xffffffffffffffff,
}

// rising: heats as the order has them, with their keys.
var rising = []struct{ bits, key uint64 }{
	{none, 0},
	{minus | inf, 1},
	{0xffefffffffffffff, 2}, // the least number
	{0xc000000000000000, 0x3ff0000000000001},
	{0xbff0000000000001, 0x4000000000000000},
	{0xbff0000000000000, 0x4000000000000001}, // -1
	{0x8010000000000000, 0x7fe0000000000001},
	{0x800fffffffffffff, 0x7fe0000000000002}, // too small for all of its bits
	{0x8000000000000001, 0x7ff0000000000000},
	{minus, 0x7ff0000000000001}, // -0
	{0, 0x7ff0000000000002},
	{1, 0x7ff0000000000003},
	{0x000fffffffffffff, 0x8000000000000001},
	{0x0010000000000000, 0x8000000000000002},
	{0x3fe0000000000000, 0xbfd0000000000002},
	{0x3ff0000000000000, 0xbfe0000000000002}, // 1
	{0x4000000000000000, 0xbff0000000000002},
	{0x7fefffffffffffff, 0xffe0000000000001}, // the greatest number
	{inf, 0xffe0000000000002},
}

// number: the number of these bits, also where it is none.
func number(bits uint64) float64 { return math.Float64frombits(bits) }

// someBits: bits from all over, by a fixed rule, and all that are named above.
func someBits(n int) []uint64 {
	l := slices.Clone(noNumbers)
	for _, r := range rising {
		l = append(l, r.bits)
	}
	for x := uint64(1); n > 0; n-- {
		x = x*6364136223846793005 + 1442695040888963407
		l = append(l, x^x>>29)
	}
	return l
}

// isNone: do the bits say no number?
func isNone(bits uint64) bool { return bits&^minus > inf }

func TestCanonOfAnyBits(t *testing.T) {
	for _, bits := range someBits(2000) {
		want := bits
		if isNone(bits) {
			want = none
		}
		if got := math.Float64bits(heat.Canon(number(bits))); got != want {
			t.Errorf("P3.1: Canon of %x has the bits %x, not %x", bits, got, want)
		}
		if got := heat.Bits(number(bits)); got != want {
			t.Errorf("P3.1: Bits of %x are %x, not %x", bits, got, want)
		}
		if got := math.Float64bits(heat.Of(bits)); got != want {
			t.Errorf("P3.1: Of(%x) has the bits %x, not %x", bits, got, want)
		}
	}
}

func TestKeyOfEachKind(t *testing.T) {
	for _, r := range rising {
		if got := heat.Key(number(r.bits)); got != r.key {
			t.Errorf("P3.1: Key of %x is %x, not %x", r.bits, got, r.key)
		}
		if got := math.Float64bits(heat.From(r.key)); got != r.bits {
			t.Errorf("P3.1: From(%x) has the bits %x, not %x", r.key, got, r.bits)
		}
	}
	for _, bits := range noNumbers {
		if got := heat.Key(number(bits)); got != 0 {
			t.Errorf("P3.1: Key of %x is %x, not 0", bits, got)
		}
	}
}

func TestFromOfKeysThatAreNones(t *testing.T) {
	for _, key := range []uint64{0, 0xffe0000000000003, 0xfff0000000000000, 0xfff0000000000001, math.MaxUint64 - 1, math.MaxUint64} {
		if got := math.Float64bits(heat.From(key)); got != none {
			t.Errorf("P3.1: From(%x) has the bits %x, and it is none's key", key, got)
		}
	}
}

func TestKeyThereAndBack(t *testing.T) {
	for _, bits := range someBits(2000) {
		x := number(bits)
		if back := math.Float64bits(heat.From(heat.Key(x))); back != heat.Bits(x) {
			t.Errorf("P3.2: %x comes back as %x", bits, back)
		}
		if key := bits % 0xffe0000000000003; heat.Key(heat.From(key)) != key {
			t.Errorf("P3.2: the key %x comes back as %x", key, heat.Key(heat.From(key)))
		}
	}
}

func TestCompareGoesByTheOrder(t *testing.T) {
	for i, a := range rising {
		for k, b := range rising {
			want := 0
			if i < k {
				want = -1
			} else if i > k {
				want = 1
			}
			if got := heat.Compare(number(a.bits), number(b.bits)); got != want {
				t.Errorf("P3.1: Compare of %x, %x is %d, not %d", a.bits, b.bits, got, want)
			}
		}
		for _, bits := range noNumbers {
			want := min(i, 1)
			if got := heat.Compare(number(a.bits), number(bits)); got != want {
				t.Errorf("P3.1: Compare of %x, %x is %d, not %d", a.bits, bits, got, want)
			}
		}
	}
}

func TestCompareIsAnOrder(t *testing.T) {
	l := someBits(60)
	for _, a := range l {
		for _, b := range l {
			there, back := heat.Compare(number(a), number(b)), heat.Compare(number(b), number(a))
			if there != -back {
				t.Errorf("P3.2: Compare of %x, %x is %d, and back %d", a, b, there, back)
			}
			if same := heat.Bits(number(a)) == heat.Bits(number(b)); same != (there == 0) {
				t.Errorf("P3.2: Compare of %x, %x is %d", a, b, there)
			}
			if less := heat.Key(number(a)) < heat.Key(number(b)); less != (there < 0) {
				t.Errorf("P3.2: Key doesn't go by Compare at %x, %x", a, b)
			}
			for _, c := range l {
				if there <= 0 && heat.Compare(number(b), number(c)) <= 0 && heat.Compare(number(a), number(c)) > 0 {
					t.Errorf("P3.2: Compare doesn't go through %x, %x, %x", a, b, c)
				}
			}
		}
	}
}

func TestAdd(t *testing.T) {
	great := math.MaxFloat64
	for _, x := range []struct{ a, b, want float64 }{
		{1, 2, 3}, {0.1, 0.2, 0.30000000000000004}, {1, -1, 0},
		{1 << 53, 1, 1 << 53}, {1<<53 + 2, 1, 1<<53 + 4}, // to the nearest, and of two to the even one
		{great, great, math.Inf(1)}, {-great, -great, math.Inf(-1)},
		{great, 1, great}, {5e-324, 5e-324, 1e-323},
		{math.Inf(1), -great, math.Inf(1)}, {math.Inf(-1), math.Inf(-1), math.Inf(-1)},
		{number(minus), 0, 0}, {number(minus), number(minus), number(minus)}, {0, 0, 0},
	} {
		if got := heat.Add(x.a, x.b); math.Float64bits(got) != math.Float64bits(x.want) {
			t.Errorf("P3.1: Add(%v, %v) is %v, not %v", x.a, x.b, got, x.want)
		}
	}
	if got := math.Float64bits(heat.Add(math.Inf(1), math.Inf(-1))); got != none {
		t.Errorf("P3.1: Inf and -Inf have the bits %x", got)
	}
	for _, bits := range noNumbers {
		for _, r := range rising {
			if got := math.Float64bits(heat.Add(number(bits), number(r.bits))); got != none {
				t.Errorf("P3.1: Add of %x, %x has the bits %x", bits, r.bits, got)
			}
		}
	}
}

func TestAddGoesBothWays(t *testing.T) {
	l := someBits(300)
	for _, a := range l {
		for _, b := range l {
			there, back := heat.Add(number(a), number(b)), heat.Add(number(b), number(a))
			if math.Float64bits(there) != math.Float64bits(back) {
				t.Fatalf("P3.3: Add of %x, %x is %x, and back %x", a, b, math.Float64bits(there), math.Float64bits(back))
			}
			if math.Float64bits(there) != heat.Bits(number(a)+number(b)) {
				t.Fatalf("P3.1: Add of %x, %x is %x", a, b, math.Float64bits(there))
			}
		}
	}
}

func TestSum(t *testing.T) {
	back := number(minus)
	for _, x := range []struct {
		l    []float64
		want float64
	}{
		{nil, 0}, {[]float64{}, 0}, {[]float64{7}, 7}, {[]float64{back}, back}, {[]float64{back, back}, back}, {[]float64{back, 0}, 0},
		{[]float64{1e16, 1, 1, -1e16}, 0}, {[]float64{1e16, -1e16, 1, 1}, 2}, {[]float64{1, 1, 1e16, -1e16}, 2},
		{[]float64{math.Inf(1)}, math.Inf(1)}, {[]float64{1, math.Inf(-1), 2}, math.Inf(-1)},
		{[]float64{math.MaxFloat64, math.MaxFloat64, -math.MaxFloat64}, math.Inf(1)},
	} {
		if got := heat.Sum(x.l); math.Float64bits(got) != math.Float64bits(x.want) {
			t.Errorf("P3.1: Sum(%v) is %v, not %v", x.l, got, x.want)
		}
	}
	nothings := [][]float64{{math.Inf(1), math.Inf(-1)}, {math.Inf(-1), 1, math.Inf(1), 5}}
	for _, bits := range noNumbers {
		nothings = append(nothings, []float64{number(bits)}, []float64{1, number(bits)}, []float64{number(bits), 1, 2})
	}
	for _, l := range nothings {
		if got := math.Float64bits(heat.Sum(l)); got != none {
			t.Errorf("P3.1: Sum(%v) has the bits %x", l, got)
		}
	}
}

func TestRank(t *testing.T) {
	nan, back := math.NaN(), number(minus)
	for _, x := range []struct {
		l    []float64
		want []int
	}{
		{nil, nil}, {[]float64{}, nil}, {[]float64{nan}, []int{0}}, {[]float64{5}, []int{0}},
		{[]float64{1, nan, math.Inf(1), 1}, []int{2, 0, 3, 1}},
		{[]float64{2, 2, 2, 2}, []int{0, 1, 2, 3}},
		{[]float64{1, 2, 3}, []int{2, 1, 0}},
		{[]float64{back, 0, back, 0}, []int{1, 3, 0, 2}},
		{[]float64{number(0xfff8000000000001), math.Inf(-1), nan, number(0x7ff0000000000001), -3}, []int{4, 1, 0, 2, 3}},
	} {
		if got := heat.Rank(x.l); !slices.Equal(got, x.want) {
			t.Errorf("P3.1: Rank(%v) is %v, not %v", x.l, got, x.want)
		}
	}
}

func TestRankNamesEachPlaceOnce(t *testing.T) {
	bits := someBits(300)
	for n := range len(bits) {
		var l []float64
		for i := range n {
			l = append(l, number(bits[i*7%n])) // the same ones again and again
		}
		got := heat.Rank(l)
		for i := 1; i < len(got); i++ {
			c := heat.Compare(l[got[i-1]], l[got[i]])
			if c < 0 || c == 0 && got[i-1] >= got[i] {
				t.Fatalf("P3.1: of %d heats the places %d, %d are told so", n, got[i-1], got[i])
			}
		}
		slices.Sort(got)
		for i, place := range got {
			if i != place {
				t.Fatalf("P3.4: of %d heats not each place is named once", n)
			}
		}
		if len(got) != n {
			t.Fatalf("P3.4: of %d heats %d places are named", n, len(got))
		}
	}
}

func TestListsStayAsTheyAre(t *testing.T) {
	room := []uint64{0xfff0000000000001, minus, 0, inf, 0x3ff0000000000000, 5, 6}
	var l []float64
	for _, bits := range room {
		l = append(l, number(bits))
	}
	heat.Sum(l[:5])
	first := heat.Rank(l[:5])
	again := heat.Rank(l[:5])
	again[0] = 77
	if first[0] != 3 {
		t.Errorf("P3.1: two answers of Rank share memory")
	}
	for i, x := range l {
		if math.Float64bits(x) != room[i] {
			t.Errorf("P3.1: the list that was asked is changed at %d", i)
		}
	}
}
