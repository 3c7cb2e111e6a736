package ids_test

import (
	"math"
	"slices"
	"testing"

	"dowser/ids"
)

// numbers: what the sets of these tests are made of; it rises.
var numbers = []int{math.MinInt, -1, 0, 7, math.MaxInt}

// setOf: the set of those numbers whose bits are set.
func setOf(bits int) []int {
	var s []int
	for i, x := range numbers {
		if bits>>i&1 != 0 {
			s = append(s, x)
		}
	}
	return s
}

const all = 1 << 5 // so many sets there are

func TestOf(t *testing.T) {
	for _, x := range []struct{ l, want []int }{
		{nil, nil}, {[]int{}, nil}, {[]int{4}, []int{4}}, {[]int{3, 1, 3}, []int{1, 3}},
		{[]int{2, 2, 2}, []int{2}}, {[]int{1, 2, 3}, []int{1, 2, 3}}, {[]int{3, 2, 1}, []int{1, 2, 3}},
		{[]int{math.MaxInt, 0, math.MinInt, 0, -5}, []int{math.MinInt, -5, 0, math.MaxInt}},
	} {
		if got := ids.Of(x.l...); !slices.Equal(got, x.want) {
			t.Errorf("P4.1: Of(%v) is %v, not %v", x.l, got, x.want)
		}
	}
	if got := ids.Of(); len(got) != 0 {
		t.Errorf("P4.1: Of() is %v", got)
	}
}

func TestIs(t *testing.T) {
	for _, l := range [][]int{nil, {}, {5}, {1, 2}, {math.MinInt, -1, 0, math.MaxInt}} {
		if !ids.Is(l) {
			t.Errorf("P4.1: %v is a set", l)
		}
	}
	for _, l := range [][]int{{1, 1}, {2, 1}, {1, 2, 2}, {1, 3, 2}, {3, 1, 2}, {math.MaxInt, math.MinInt}} {
		if ids.Is(l) {
			t.Errorf("P4.1: %v is no set", l)
		}
	}
}

func TestHas(t *testing.T) {
	for bits := range all {
		for i, x := range numbers {
			if ids.Has(setOf(bits), x) != (bits>>i&1 != 0) {
				t.Errorf("P4.1: Has(%v, %d)", setOf(bits), x)
			}
		}
		for _, x := range []int{math.MinInt + 1, -2, 1, 6, 8, math.MaxInt - 1} {
			if ids.Has(setOf(bits), x) {
				t.Errorf("P4.1: Has(%v, %d)", setOf(bits), x)
			}
		}
	}
}

func TestTwoSets(t *testing.T) {
	for a := range all {
		for b := range all {
			l, m := setOf(a), setOf(b)
			for _, x := range []struct {
				what string
				got  []int
				want int
			}{
				{"Union", ids.Union(l, m), a | b}, {"Both", ids.Both(l, m), a & b}, {"Minus", ids.Minus(l, m), a &^ b},
			} {
				if !slices.Equal(x.got, setOf(x.want)) {
					t.Errorf("P4.1: %s(%v, %v) is %v", x.what, l, m, x.got)
				}
			}
			if ids.Meets(l, m) != (a&b != 0) || ids.Same(l, m) != (a == b) || ids.Within(l, m) != (a&^b == 0) {
				t.Errorf("P4.1: Meets, Same, Within of %v, %v: %v %v %v", l, m, ids.Meets(l, m), ids.Same(l, m), ids.Within(l, m))
			}
		}
	}
}

func TestLawsOfSets(t *testing.T) {
	for a := range all {
		for b := range all {
			l, m := setOf(a), setOf(b)
			if !ids.Same(ids.Union(l, m), ids.Union(m, l)) || !ids.Same(ids.Both(l, m), ids.Both(m, l)) {
				t.Errorf("P4.2: Union or Both of %v, %v doesn't go both ways", l, m)
			}
			for _, x := range l {
				if ids.Has(ids.Both(l, m), x) == ids.Has(ids.Minus(l, m), x) {
					t.Errorf("P4.2: %d of %v isn't in just one of Both and Minus with %v", x, l, m)
				}
			}
			for c := range all {
				n := setOf(c)
				if !ids.Same(ids.Union(ids.Union(l, m), n), ids.Union(l, ids.Union(m, n))) {
					t.Errorf("P4.2: Union doesn't go through %v, %v, %v", l, m, n)
				}
				if !ids.Same(ids.Both(ids.Both(l, m), n), ids.Both(l, ids.Both(m, n))) {
					t.Errorf("P4.2: Both doesn't go through %v, %v, %v", l, m, n)
				}
			}
		}
	}
}

func TestCompare(t *testing.T) {
	for _, x := range []struct {
		a, b []int
		want int
	}{
		{nil, nil, 0}, {nil, []int{}, 0}, {nil, []int{math.MinInt}, -1},
		{[]int{1}, []int{1, 2}, -1}, {[]int{1, 2}, []int{1, 2}, 0}, {[]int{1, 2}, []int{1, 3}, -1},
		{[]int{1, 9}, []int{2}, -1}, {[]int{-1}, []int{0}, -1}, {[]int{1, 2, 3}, []int{1, 3}, -1},
		{[]int{math.MinInt}, []int{math.MaxInt}, -1},
	} {
		if got := ids.Compare(x.a, x.b); got != x.want {
			t.Errorf("P4.1: Compare(%v, %v) is %d, not %d", x.a, x.b, got, x.want)
		}
		if got := ids.Compare(x.b, x.a); got != -x.want {
			t.Errorf("P4.1: Compare(%v, %v) is %d, not %d", x.b, x.a, got, -x.want)
		}
	}
}

// TestAnswersShareNothing: neither with what was asked, nor with one another;
// and what was asked stays, its spare room too.
func TestAnswersShareNothing(t *testing.T) {
	calls := []struct {
		what string
		call func(a, b []int) []int
	}{
		{"Of", func(a, b []int) []int { return ids.Of(a...) }},
		{"Union", ids.Union}, {"Both", ids.Both}, {"Minus", ids.Minus},
	}
	for _, c := range calls {
		for x := range all {
			for y := range all {
				a, b := append(setOf(x), 91, 92), append(setOf(y), 93, 94)
				roomA, roomB := slices.Clone(a), slices.Clone(b)
				l, m := a[:len(a)-2], b[:len(b)-2]
				first, again := c.call(l, m), c.call(l, m)
				kept := slices.Clone(first)
				again = append(again, 5, 6, 7, 8)
				for i := range again {
					again[i] = 55
				}
				if !slices.Equal(a, roomA) || !slices.Equal(b, roomB) || !slices.Equal(first, kept) {
					t.Fatalf("P4.1: %s of %v, %v: an answer shares memory", c.what, roomA, roomB)
				}
				clear(a)
				clear(b)
				if !slices.Equal(first, kept) {
					t.Fatalf("P4.1: %s of %v, %v keeps what was asked", c.what, roomA, roomB)
				}
			}
		}
	}
}

func TestOfLeavesTheListAsItIs(t *testing.T) {
	room := []int{3, 1, 3, 2, 9, 9}
	if got := ids.Of(room[:4]...); !slices.Equal(got, []int{1, 2, 3}) || !slices.Equal(room, []int{3, 1, 3, 2, 9, 9}) {
		t.Errorf("P4.1: Of answered %v and left %v", got, room)
	}
}

// TestListsThatAreNoSets: nothing is told of them but that each call ends.
func TestListsThatAreNoSets(t *testing.T) {
	wrong := [][]int{{2, 1}, {1, 1}, {3, 1, 2, 1}, {math.MaxInt, math.MinInt}, {0}, nil}
	for _, a := range wrong {
		for _, b := range wrong {
			keptA, keptB := slices.Clone(a), slices.Clone(b)
			ids.Union(a, b)
			ids.Both(a, b)
			ids.Minus(a, b)
			ids.Meets(a, b)
			ids.Same(a, b)
			ids.Within(a, b)
			ids.Compare(a, b)
			ids.Has(a, 1)
			if !slices.Equal(a, keptA) || !slices.Equal(b, keptB) {
				t.Errorf("P4.1: %v, %v: a list is changed", keptA, keptB)
			}
		}
	}
}

func TestOfEachNumberTwice(t *testing.T) {
	for bits := range all {
		l := slices.Concat(setOf(bits), setOf(bits))
		if got := ids.Of(l...); !slices.Equal(got, setOf(bits)) {
			t.Errorf("P4.1: Of(%v) is %v", l, got)
		}
	}
}
