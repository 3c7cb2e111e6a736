package forest_test

import (
	"math"
	"slices"
	"testing"

	"dowser/forest"
)

// random is numbers by a fixed rule.
type random uint64

func (r *random) pick(n int) int {
	*r = *r*6364136223846793005 + 1442695040888963407
	return int(uint64(*r) >> 33 % uint64(n))
}

// plain is a telling of the chapter: of each number, in which group it is, by
// a name that all of a group have.
type plain []int

func plainNew(n int) plain {
	l := make(plain, max(n, 0))
	for i := range l {
		l[i] = i
	}
	return l
}

func (l plain) has(x int) bool { return 0 <= x && x < len(l) }

func (l plain) members(x int) []int {
	var all []int
	for y := range l {
		if l.has(x) && l[y] == l[x] {
			all = append(all, y)
		}
	}
	return all
}

func (l plain) find(x int) int {
	if !l.has(x) {
		return -1
	}
	return l.members(x)[0]
}

func (l plain) groups() int {
	n := 0
	for x := range l {
		if l.find(x) == x {
			n++
		}
	}
	return n
}

func (l plain) union(x, y int) (int, int, bool) {
	a, b := l.find(x), l.find(y)
	switch {
	case a < 0 || b < 0:
		return -1, -1, false
	case a == b:
		return a, a, false
	}
	for _, z := range l.members(y) {
		l[z] = l[x]
	}
	return min(a, b), max(a, b), true
}

// around: the numbers that there are, those next to them, and far ones.
func around(n int) []int {
	l := []int{math.MinInt, math.MinInt + 1, -1 << 32, math.MaxInt - 1, math.MaxInt, 1 << 40}
	for x := -3; x < max(n, 0)+3; x++ {
		l = append(l, x)
	}
	return l
}

// isLike: does a forest answer all that is asked of it as it must?
func isLike(t *testing.T, f *forest.Forest, l plain) {
	t.Helper()
	if f.Len() != len(l) || f.Groups() != l.groups() {
		t.Fatalf("P17.1: %v: %d numbers, %d groups", l, f.Len(), f.Groups())
	}
	for _, x := range around(len(l)) {
		if got, want := f.Find(x), l.find(x); got != want {
			t.Fatalf("P17.1: %v: Find(%d) is %d, not %d", l, x, got, want)
		}
		if got, want := f.Members(x), l.members(x); !slices.Equal(got, want) {
			t.Fatalf("P17.1: %v: Members(%d) are %v, not %v", l, x, got, want)
		}
	}
}

// unites: a Union answers what it must, on a forest and in plain.
func unites(t *testing.T, f *forest.Forest, l plain, x, y int) {
	t.Helper()
	before := slices.Clone(l)
	a, b, is := l.union(x, y)
	if c, d, got := f.Union(x, y); c != a || d != b || got != is {
		t.Fatalf("P17.1: %v: Union(%d, %d) is %d, %d, %t, not %d, %d, %t", before, x, y, c, d, got, a, b, is)
	}
}

func TestNew(t *testing.T) {
	for _, n := range []int{math.MinInt, math.MinInt + 1, -1000, -2, -1, 0, 1, 2, 3, 10, 200} {
		f := forest.New(n)
		isLike(t, f, plainNew(n))
		for _, x := range around(n) {
			if f.Find(x) == -1 {
				unites(t, f, plainNew(n), x, 0)
				unites(t, f, plainNew(n), 0, x)
				unites(t, f, plainNew(n), x, x)
			}
		}
		isLike(t, f, plainNew(n))
	}
}

// So many that nobody could hold them all.
func TestGreatCounts(t *testing.T) {
	for _, n := range []int{1 << 31, 1 << 32, 1<<62 + 5, math.MaxInt} {
		f := forest.New(n)
		if f.Len() != n || f.Groups() != n || f.Find(n-1) != n-1 || f.Find(n/2) != n/2 || f.Find(-1) != -1 {
			t.Errorf("P17.1: of %d: %d, %d", n, f.Len(), f.Groups())
		}
		if n < math.MaxInt && f.Find(n) != -1 {
			t.Errorf("P17.1: Find(%d) is %d", n, f.Find(n))
		}
		if a, b, is := f.Union(n-1, 7); a != 7 || b != n-1 || !is {
			t.Errorf("P17.1: %d, %d, %t", a, b, is)
		}
		if l := f.Members(n - 1); !slices.Equal(l, []int{7, n - 1}) || f.Find(n-1) != 7 || f.Groups() != n-1 {
			t.Errorf("P17.1: %v", l)
		}
		if l := f.Members(n - 2); !slices.Equal(l, []int{n - 2}) {
			t.Errorf("P17.1: %v", l)
		}
	}
}

func TestWhatUnionAnswers(t *testing.T) {
	f, l := forest.New(10), plainNew(10)
	for _, x := range []struct {
		x, y, least, other int
		is                 bool
	}{
		{4, 4, 4, 4, false}, // with itself
		{3, 1, 1, 3, true},  // the example
		{1, 3, 1, 1, false}, // in one already
		{3, 1, 1, 1, false},
		{3, 3, 1, 1, false},
		{5, 3, 1, 5, true},
		{9, 8, 8, 9, true},
		{7, 9, 7, 8, true}, // the least of the other, not the one that was asked
		{9, 5, 1, 7, true}, // two groups of three
		{8, 1, 1, 1, false},
		{2, 0, 0, 2, true},
		{7, 2, 0, 1, true}, // the smaller group has the least
		{10, 0, -1, -1, false},
		{0, 10, -1, -1, false},
		{-1, 5, -1, -1, false},
		{5, -1, -1, -1, false},
		{-1, -1, -1, -1, false},
		{10, 10, -1, -1, false},
		{-1, 10, -1, -1, false},
		{math.MinInt, math.MaxInt, -1, -1, false},
		{6, math.MaxInt, -1, -1, false},
	} {
		if a, b, is := f.Union(x.x, x.y); a != x.least || b != x.other || is != x.is {
			t.Errorf("P17.1: Union(%d, %d) is %d, %d, %t", x.x, x.y, a, b, is)
		}
		l.union(x.x, x.y)
		isLike(t, f, l)
	}
	if m := f.Members(9); !slices.Equal(m, []int{0, 1, 2, 3, 5, 7, 8, 9}) || f.Groups() != 3 {
		t.Errorf("P17.1: %v, %d groups", m, f.Groups())
	}
}

func TestGreatGroups(t *testing.T) {
	const n = 1 << 10
	for _, turned := range []bool{false, true} {
		f := forest.New(2*n + 100)
		for i := 2; i < n; i++ { // the even ones, and those divided by 4 that leave 1
			f.Union(2*i, 2)
			f.Union(4*(i/2)+1, 5)
		}
		x, y := 100, 101
		if turned {
			x, y = y, x
		}
		if a, b, is := f.Union(x, y); a != 2 || b != 5 || !is {
			t.Errorf("P17.1: %d, %d, %t", a, b, is)
		}
		var want []int
		for z := 2; z < 2*n; z++ {
			if z%2 == 0 || z%4 == 1 {
				want = append(want, z)
			}
		}
		for _, z := range []int{2, 5, 100, 101, 2*n - 2} {
			if got := f.Members(z); !slices.Equal(got, want) || f.Find(z) != 2 {
				t.Errorf("P17.1: %d are together with %d: %v", len(got), z, got)
			}
		}
		if got := f.Members(3); !slices.Equal(got, []int{3}) || f.Groups() != 2*n+100-len(want)+1 {
			t.Errorf("P17.1: %v, %d groups", got, f.Groups())
		}
	}
}

// What Members tells is nobody else's.
func TestMembersAreNotShared(t *testing.T) {
	f, l := forest.New(9), plainNew(9)
	for _, pair := range [][2]int{{8, 3}, {5, 1}, {3, 5}, {0, 2}, {2, 8}} {
		unites(t, f, l, pair[0], pair[1])
		for x := range 9 {
			first, second := f.Members(x), f.Members(x)
			first = first[:cap(first)]
			for i := range first {
				first[i] = 77
			}
			if !slices.Equal(second, l.members(x)) {
				t.Fatalf("P17.1: Members(%d) share memory with one another", x)
			}
			_ = append(second, 5, 6, 7)
			isLike(t, f, l)
		}
	}
}

// Two forests have nothing to do with one another.
func TestTwoForests(t *testing.T) {
	f, g := forest.New(5), forest.New(5)
	l := plainNew(5)
	unites(t, f, l, 4, 2)
	isLike(t, g, plainNew(5))
	unites(t, g, plainNew(5), 4, 3)
	isLike(t, f, l)
}

// Any three unions of a few numbers, also of those that there aren't.
func TestAnyUnions(t *testing.T) {
	const n = 4
	var pairs [][2]int
	for x := -1; x <= n; x++ {
		for y := -1; y <= n; y++ {
			pairs = append(pairs, [2]int{x, y})
		}
	}
	for _, a := range pairs {
		for _, b := range pairs {
			for _, c := range pairs {
				f, l := forest.New(n), plainNew(n)
				for _, pair := range [][2]int{a, b, c} {
					unites(t, f, l, pair[0], pair[1])
				}
				isLike(t, f, l)
			}
		}
	}
}

func TestManyUnions(t *testing.T) {
	r := random(17)
	for n := range 60 {
		f, l := forest.New(n), plainNew(n)
		for range n + n/2 {
			unites(t, f, l, r.pick(n+2)-1, r.pick(n+2)-1)
			isLike(t, f, l)
		}
	}
}

// leads: do unions lead from one number to another one?
func leads(n int, unions [][2]int, x, y int) bool {
	met := make([]bool, n)
	met[x] = true
	for grew := true; grew; {
		grew = false
		for _, u := range unions {
			if met[u[0]] != met[u[1]] {
				met[u[0]], met[u[1]], grew = true, true, true
			}
		}
	}
	return met[y]
}

func TestTogetherJustIfUnionsLead(t *testing.T) {
	const n = 16
	r := random(4)
	for most := range 40 {
		var unions [][2]int
		for range most / 2 {
			unions = append(unions, [2]int{r.pick(n), r.pick(n)})
		}
		f := forest.New(n)
		for _, u := range unions {
			f.Union(u[0], u[1])
		}
		for x := range n {
			for y := range n {
				want := leads(n, unions, x, y)
				if (f.Find(x) == f.Find(y)) != want || slices.Contains(f.Members(x), y) != want {
					t.Fatalf("P17.2: %v: are %d and %d together? %t", unions, x, y, want)
				}
			}
		}
	}
}

// The same unions in any order, and either way round, make the same groups.
func TestUnionsInAnotherOrder(t *testing.T) {
	const n = 30
	r := random(9)
	for range 200 {
		var unions [][2]int
		for range r.pick(n + 5) {
			unions = append(unions, [2]int{r.pick(n), r.pick(n)})
		}
		f, g := forest.New(n), forest.New(n)
		for _, u := range unions {
			f.Union(u[0], u[1])
		}
		for i := range unions {
			j := i + r.pick(len(unions)-i)
			unions[i], unions[j] = unions[j], unions[i]
			if r.pick(2) == 0 {
				g.Union(unions[i][0], unions[i][1])
			} else {
				g.Union(unions[i][1], unions[i][0])
			}
		}
		for x := range n {
			if f.Find(x) != g.Find(x) || !slices.Equal(f.Members(x), g.Members(x)) || f.Groups() != g.Groups() {
				t.Fatalf("P17.2: %v: %v, %v", unions, f.Members(x), g.Members(x))
			}
		}
	}
}

// Long chains, from either end, and of groups that are alike.
func TestLongChains(t *testing.T) {
	const n = 1 << 16
	chains := map[string]func(f *forest.Forest){
		"rising": func(f *forest.Forest) {
			for x := range n - 1 {
				f.Union(x, x+1)
			}
		},
		"falling": func(f *forest.Forest) {
			for x := n - 1; x > 0; x-- {
				f.Union(x, x-1)
			}
		},
		"doubling": func(f *forest.Forest) {
			for step := 1; step < n; step *= 2 {
				for x := 0; x < n; x += 2 * step {
					f.Union(x+step, x)
				}
			}
		},
	}
	for name, chain := range chains {
		f := forest.New(n + 1)
		chain(f)
		l := f.Members(n / 3)
		if len(l) != n || l[0] != 0 || l[n-1] != n-1 || !slices.IsSorted(l) || f.Find(n-1) != 0 || f.Find(n) != n || f.Groups() != 2 {
			t.Errorf("P17.1: %s: %d are together, %d groups", name, len(l), f.Groups())
		}
	}
}
