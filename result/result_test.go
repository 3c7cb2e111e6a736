package result_test

import (
	"math"
	"slices"
	"testing"

	"dowser/api"
	"dowser/program"
	"dowser/result"
	"dowser/solve"
)

func TestKinds(t *testing.T) {
	kinds := []int{result.Var, result.Field, result.Calls, result.Reach, result.Callers}
	if !slices.Equal(kinds, []int{1, 2, 3, 4, 5}) {
		t.Errorf("P20.1: %v", kinds)
	}
}

func TestWithoutAnything(t *testing.T) {
	for _, p := range []program.Program{
		{},
		{Funcs: []program.Func{}, Entry: []int{}, Ops: []program.Op{}},
		{Vars: 200, Objs: 60, Fields: 6},
		{Vars: 1, Objs: 1, Funcs: []program.Func{{}}, Ops: []program.Op{{Kind: program.Alloc}}},
	} {
		if l := thereAndBack(t, "without anything", p, solved(t, p)); len(l) > 0 {
			t.Errorf("P20.1: %v has %v", p, l)
		}
		if s, e := result.From(p, []result.Fact{}); e != api.OK || len(s.Vars) != p.Vars {
			t.Errorf("P20.2: %v, %d", s, e)
		}
	}
}

// Facts of each Kind, told as numbers.
func TestWhole(t *testing.T) {
	p := whole()
	s := solved(t, p)
	l := thereAndBack(t, "with something of everything", p, s)
	want := []result.Fact{
		{Kind: 1, A: 0, Set: []int{0, 2}},
		{Kind: 1, A: 1, Set: []int{4, 6}},
		{Kind: 1, A: 2, Set: []int{4, 6}},
		{Kind: 1, A: 3, Set: []int{0, 2, 4, 6}},
		{Kind: 1, A: 4, Set: []int{0, 2, 4, 6}},
		{Kind: 1, A: 5, Set: []int{0, 2, 4, 6}},
		{Kind: 2, A: 0, B: 1, Set: []int{4, 6}},
		{Kind: 2, A: 2, B: 1, Set: []int{4, 6}},
		{Kind: 2, A: 4, B: 0, Set: []int{0, 2}},
		{Kind: 2, A: 6, B: 0, Set: []int{0, 2}},
		{Kind: 3, A: 7, Set: []int{1, 3}},
		{Kind: 3, A: 8, Set: []int{1}},
		{Kind: 4, Set: []int{0, 1, 3}},
		{Kind: 5, A: 1, Set: []int{7, 8}},
		{Kind: 5, A: 3, Set: []int{7}},
	}
	if text(l) != text(want) || !result.Same(l, want) {
		t.Errorf("P20.1: %v, not %v", l, want)
	}
}

// The least solutions of any programs, and any other sets over them.
func TestAnyThereAndBack(t *testing.T) {
	r := random(20)
	kinds := map[int]int{}
	for range 3000 {
		p := anyProgram(&r)
		for _, l := range [][]result.Fact{thereAndBack(t, "solved", p, solved(t, p)), thereAndBack(t, "any sets", p, anySolution(&r, p))} {
			if !areFacts(p, l) {
				t.Fatalf("P20.1: %v has %v", p, l)
			}
			for _, f := range l {
				kinds[f.Kind]++
			}
		}
	}
	for kind := result.Var; kind <= result.Callers; kind++ {
		if kinds[kind] < 1000 {
			t.Errorf("too few of some: %v", kinds)
		}
	}
}

// greatest: as many as may be of everything, each of which is all.
func greatest() (program.Program, solve.Solution) {
	p := program.Program{Vars: api.MaxVars, Objs: api.MaxObjs, Fields: api.MaxFields, Funcs: make([]program.Func, api.MaxFuncs)}
	for range api.MaxOps {
		p.Ops = append(p.Ops, program.Op{Kind: program.Via})
	}
	upTo := func(n int) []int {
		l := make([]int, n)
		for i := range l {
			l[i] = i
		}
		return l
	}
	s := solve.Solution{Reach: upTo(api.MaxFuncs)}
	for range p.Vars {
		s.Vars = append(s.Vars, upTo(p.Things()))
	}
	for thing := range p.Things() {
		for field := range p.Fields {
			s.Cells = append(s.Cells, solve.Cell{Obj: thing, Field: field, Set: upTo(p.Things())})
		}
	}
	for op := range p.Ops {
		for f := range p.Funcs {
			s.Edges = append(s.Edges, solve.Edge{Op: op, Func: f})
		}
	}
	return p, s
}

func TestTheGreatest(t *testing.T) {
	p, s := greatest()
	if l := thereAndBack(t, "the greatest", p, s); len(l) != 200+90*6+300+1+30 {
		t.Errorf("P20.1: %d facts", len(l))
	}
}

// Facts rise, each once, also of a solution whose lists don't; and what it
// says of others than the program's isn't told.
func TestFactsOfAnyLists(t *testing.T) {
	p := whole()
	s := solve.Solution{
		Vars:  [][]int{{3, 1, 3}, {}, {-1, 6, 7}, {7}, nil, {0}, {1}, {1, 2}},
		Cells: []solve.Cell{{Obj: 6, Field: 1, Set: []int{2}}, {Obj: 0, Field: 1, Set: []int{5, 4}}, {Obj: 0, Field: 0}, {Obj: 7, Field: 0, Set: []int{1}}, {Obj: -1, Field: 0, Set: []int{1}}, {Obj: 1, Field: 2, Set: []int{1}}, {Obj: 1, Field: -1, Set: []int{1}}},
		Edges: []solve.Edge{{Op: 10, Func: 0}, {Op: 2, Func: 3}, {Op: 2, Func: 0}, {Op: 2, Func: 3}, {Op: 11, Func: 0}, {Op: 0, Func: 4}, {Op: -1, Func: 0}, {Op: 0, Func: -1}},
		Reach: []int{3, 0, 3, 4, -1},
	}
	want := []result.Fact{
		{Kind: 1, A: 0, Set: []int{1, 3}}, {Kind: 1, A: 2, Set: []int{6}}, {Kind: 1, A: 5, Set: []int{0}},
		{Kind: 2, A: 0, B: 1, Set: []int{4, 5}}, {Kind: 2, A: 6, B: 1, Set: []int{2}},
		{Kind: 3, A: 2, Set: []int{0, 3}}, {Kind: 3, A: 10, Set: []int{0}},
		{Kind: 4, Set: []int{0, 3}},
		{Kind: 5, A: 0, Set: []int{2, 10}}, {Kind: 5, A: 3, Set: []int{2}},
	}
	before := text(s)
	if l := result.Facts(p, s); text(l) != text(want) || text(s) != before {
		t.Errorf("P20.1: %v, not %v", l, want)
	}
	for _, p := range []program.Program{
		{},
		{Vars: -1, Objs: -1, Fields: -1},
		{Vars: math.MinInt, Objs: math.MinInt, Fields: math.MinInt, Funcs: make([]program.Func, 2)},
		{Vars: math.MaxInt, Objs: math.MaxInt, Fields: math.MaxInt, Funcs: make([]program.Func, 2)},
		{Vars: math.MaxInt, Objs: math.MaxInt, Fields: math.MaxInt},
	} {
		if l := result.Facts(p, s); !slices.IsSortedFunc(l, result.Compare) {
			t.Errorf("P20.1: %v", l)
		}
	}
}

func TestFewerVariablesThanThereAre(t *testing.T) {
	p := whole()
	l := result.Facts(p, solve.Solution{Vars: [][]int{nil, {2}}})
	if text(l) != text([]result.Fact{{Kind: 1, A: 1, Set: []int{2}}}) {
		t.Errorf("P20.1: %v", l)
	}
}

// spoil writes over a list, its spare room too.
func spoil(l []int) {
	l = l[:cap(l)]
	for i := range l {
		l[i] = -77
	}
}

// lists: all lists of numbers that a solution has.
func lists(s solve.Solution) [][]int {
	l := append(slices.Clone(s.Vars), s.Reach)
	for _, c := range s.Cells {
		l = append(l, c.Set)
	}
	return l
}

// sets: all of some facts.
func sets(facts []result.Fact) [][]int {
	var l [][]int
	for _, f := range facts {
		l = append(l, f.Set)
	}
	return l
}

// unlinked: each of the lists that are answered, spoiled, leaves all others as
// they are.
func unlinked(t *testing.T, what string, answer func() [][]int) {
	t.Helper()
	for i := range answer() {
		l := answer()
		before := text(slices.Delete(slices.Clone(l), i, i+1))
		spoil(l[i])
		if after := text(slices.Delete(l, i, i+1)); after != before {
			t.Errorf("P20.1: %s: the %dth list shares memory: %s, not %s", what, i, after, before)
		}
	}
}

// What is told is nobody else's: not that which was handed in, nor what is
// told next, nor another list of it.
func TestNothingIsShared(t *testing.T) {
	p := whole()
	s := solved(t, p)
	l := result.Facts(p, s)
	from := func() solve.Solution {
		back, e := result.From(p, l)
		if e != api.OK {
			t.Fatal(e)
		}
		return back
	}
	before := text(p, s, l)
	unlinked(t, "Facts", func() [][]int { return sets(result.Facts(p, s)) })
	unlinked(t, "From", func() [][]int { return lists(from()) })
	for _, set := range sets(result.Facts(p, s)) {
		spoil(set)
	}
	back := from()
	for _, set := range lists(back) {
		spoil(set)
	}
	clear(back.Edges[:cap(back.Edges)])
	if after := text(p, s, l); after != before || text(from()) != text(s) {
		t.Errorf("P20.1: what was told shares memory with what was handed in: %s, not %s", after, before)
	}
	want := text(l)
	for _, set := range lists(s) {
		spoil(set)
	}
	if text(l) != want {
		t.Errorf("P20.1: the facts share memory with the solution: %v", l)
	}
}

func TestCompare(t *testing.T) {
	numbers := []int{math.MinInt, -1, 0, 1, 2, math.MaxInt}
	var all []result.Fact
	for _, kind := range numbers {
		for _, a := range numbers {
			for _, b := range numbers {
				all = append(all, result.Fact{Kind: kind, A: a, B: b, Set: []int{-kind, -a, -b}})
			}
		}
	}
	for i, x := range all {
		for j, y := range all {
			want := max(-1, min(1, i-j))
			if got := result.Compare(x, y); got != want {
				t.Fatalf("P20.1: Compare of %v and %v is %d, not %d", x, y, got, want)
			}
		}
		other := x
		other.Set = []int{99}
		if result.Compare(x, other) != 0 || result.Compare(other, x) != 0 {
			t.Fatalf("P20.1: Compare of %v and %v isn't 0", x, other)
		}
	}
}

// like: what Same must answer, either way round.
func like(t *testing.T, a, b []result.Fact, want bool) {
	t.Helper()
	before := text(a, b)
	if result.Same(a, b) != want || result.Same(b, a) != want || text(a, b) != before {
		t.Errorf("P20.1: are %v and %v the same? %t", a, b, want)
	}
}

func TestSame(t *testing.T) {
	one := []result.Fact{{Kind: 1, A: 2, B: 3, Set: []int{4, 5}}}
	like(t, nil, nil, true)
	like(t, nil, []result.Fact{}, true)
	like(t, []result.Fact{{}}, []result.Fact{{Set: []int{}}}, true)
	like(t, nil, []result.Fact{{}}, false)
	like(t, one, []result.Fact{{Kind: 1, A: 2, B: 3, Set: []int{4, 5}}}, true)
	for _, x := range []result.Fact{
		{Kind: 2, A: 2, B: 3, Set: []int{4, 5}}, {Kind: 1, A: 3, B: 3, Set: []int{4, 5}}, {Kind: 1, A: 2, B: 2, Set: []int{4, 5}},
		{Kind: 1, A: 2, B: 3}, {Kind: 1, A: 2, B: 3, Set: []int{4}}, {Kind: 1, A: 2, B: 3, Set: []int{5}}, {Kind: 1, A: 2, B: 3, Set: []int{5, 4}},
		{Kind: 1, A: 2, B: 3, Set: []int{4, 5, 6}}, {Kind: 1, A: 2, B: 3, Set: []int{4, 4, 5}}, {Kind: 1, A: 3, B: 2, Set: []int{4, 5}},
	} {
		like(t, one, []result.Fact{x}, false)
		like(t, []result.Fact{one[0], x}, []result.Fact{x, one[0]}, false)
		like(t, []result.Fact{one[0], x}, one, false)
		like(t, []result.Fact{one[0], x}, []result.Fact{one[0], x}, true)
	}
	like(t, append(slices.Clone(one), one...), one, false)
}
