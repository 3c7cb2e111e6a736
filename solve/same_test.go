package solve_test

import (
	"fmt"
	"math"
	"slices"
	"testing"

	"dowser/api"
	"dowser/program"
	"dowser/solve"
)

// whole: a program from which something of everything follows.
func whole() program.Program {
	return program.Program{
		Vars: 7, Objs: 3, Fields: 2, Entry: []int{0, 2},
		Funcs: []program.Func{fun(api.None), fun(4, 3, 3), fun(2, 1), fun(api.None)},
		Ops: []program.Op{
			alloc(0, 0, 2), alloc(2, 1, 0), addr(0, 5, 1), addr(2, 5, 2), same(1, 4, 3), same(2, 3, 4),
			store(0, 0, 1, 5), store(2, 1, 0, 0), store(0, 5, 1, 1), load(1, 6, 3, 1), load(2, 2, 1, 0),
			via(2, 6, 5, 1, 0), call(0, api.None, 2, 1), call(0, 4, 1, 0, 1), via(3, 2, 5), via(0, 2, 6, 5),
		},
	}
}

func solved(t *testing.T, p program.Program) solve.Solution {
	t.Helper()
	return solves(t, "with something of everything", p, "")
}

func TestWhole(t *testing.T) {
	s := solved(t, whole())
	if len(s.Cells) < 4 || len(s.Edges) < 5 || len(s.Reach) != 3 {
		t.Fatalf("too little follows: %v", s)
	}
	for i, c := range s.Cells {
		if i > 0 && (s.Cells[i-1].Obj > c.Obj || s.Cells[i-1].Obj == c.Obj && s.Cells[i-1].Field >= c.Field) || len(c.Set) == 0 {
			t.Errorf("P18.1: the cells are %v", s.Cells)
		}
	}
	for i, e := range s.Edges {
		if i > 0 && (s.Edges[i-1].Op > e.Op || s.Edges[i-1].Op == e.Op && s.Edges[i-1].Func >= e.Func) {
			t.Errorf("P18.1: the edges are %v", s.Edges)
		}
	}
}

// lists: all lists of numbers that a solution has.
func lists(s solve.Solution) [][]int {
	l := append(slices.Clone(s.Vars), s.Reach)
	for _, c := range s.Cells {
		l = append(l, c.Set)
	}
	return l
}

// spoil writes over a list, its spare room too.
func spoil(l []int) {
	l = l[:cap(l)]
	for i := range l {
		l[i] = -77
	}
}

// What is told is nobody else's: not the program's, nor what is told next, nor
// another list of it (all of a ring have the same set).
func TestNothingIsShared(t *testing.T) {
	p := whole()
	want := text(solved(t, p))
	for i := range lists(solved(t, p)) {
		s := solved(t, p)
		l := lists(s)
		before := fmt.Sprint(slices.Delete(slices.Clone(l), i, i+1))
		spoil(l[i])
		if after := fmt.Sprint(slices.Delete(l, i, i+1)); after != before {
			t.Errorf("P18.1: the %dth list shares memory: %v, not %v", i, after, before)
		}
	}
	s := solved(t, p)
	for _, l := range lists(s) {
		spoil(l)
	}
	clear(s.Cells[:cap(s.Cells)])
	clear(s.Edges[:cap(s.Edges)])
	if !program.Same(p, whole()) || text(solved(t, p)) != want {
		t.Errorf("P18.1: what was told shares memory with the program, or with what is told next")
	}
	s = solved(t, p)
	p.Entry[0], p.Funcs[1].Params[0], p.Ops[11].Args[0], p.Ops[0] = 1, 0, 5, alloc(0, 1, 1)
	if text(s) != want {
		t.Errorf("P18.1: what was told shares memory with the program: %v", s)
	}
}

func TestFieldAndCallsAreNotShared(t *testing.T) {
	s := solved(t, whole())
	want := text(s)
	for range 2 {
		for _, c := range s.Cells {
			spoil(s.Field(c.Obj, c.Field))
		}
		for _, e := range s.Edges {
			spoil(s.Calls(e.Op))
		}
		if text(s) != want {
			t.Fatalf("P18.1: Field or Calls shares memory with the solution: %v", s)
		}
	}
}

func TestFieldAndCallsOfWhatThereIsNot(t *testing.T) {
	far := []int{math.MinInt, math.MinInt32, -1, 7, 60, 90, 300, 1 << 32, math.MaxInt}
	for _, s := range []solve.Solution{{}, solved(t, program.Program{}), solved(t, whole())} {
		for _, x := range far {
			for _, y := range append(far, 0, 1, 2) {
				if l := s.Field(x, y); len(l) > 0 {
					t.Errorf("P18.1: Field(%d, %d) is %v", x, y, l)
				}
			}
			for y := range 7 {
				if l := s.Field(y, x); len(l) > 0 {
					t.Errorf("P18.1: Field(%d, %d) is %v", y, x, l)
				}
			}
			if l := s.Calls(x); len(l) > 0 {
				t.Errorf("P18.1: Calls(%d) are %v", x, l)
			}
		}
	}
}

// like: what Same must answer, either way round, and changing nothing.
func like(t *testing.T, what string, a, b solve.Solution, want bool) {
	t.Helper()
	before := text(a) + text(b)
	if solve.Same(a, b) != want || solve.Same(b, a) != want {
		t.Errorf("P18.1: %s: are %v and %v the same? %t", what, a, b, want)
	}
	if text(a)+text(b) != before {
		t.Errorf("P18.1: %s: Same changed something", what)
	}
}

func TestSame(t *testing.T) {
	like(t, "zero", solve.Solution{}, solve.Solution{}, true)
	like(t, "empty lists", solve.Solution{}, solve.Solution{Vars: [][]int{}, Cells: []solve.Cell{}, Edges: []solve.Edge{}, Reach: []int{}}, true)
	like(t, "empty lists in lists", solve.Solution{Vars: [][]int{nil}, Cells: []solve.Cell{{}}}, solve.Solution{Vars: [][]int{{}}, Cells: []solve.Cell{{Set: []int{}}}}, true)
	like(t, "solved twice", solved(t, whole()), solved(t, whole()), true)
	like(t, "a variable more", solve.Solution{}, solve.Solution{Vars: [][]int{nil}}, false)
	like(t, "a beginning", solve.Solution{Reach: []int{0}}, solve.Solution{Reach: []int{0, 1}}, false)
	like(t, "another order", solve.Solution{Vars: [][]int{{1, 2}}}, solve.Solution{Vars: [][]int{{2, 1}}}, false)
	like(t, "another order of edges", solve.Solution{Edges: []solve.Edge{{Op: 1}, {Op: 2}}}, solve.Solution{Edges: []solve.Edge{{Op: 2}, {Op: 1}}}, false)
	like(t, "a number in another list", solve.Solution{Vars: [][]int{{1}, {}}}, solve.Solution{Vars: [][]int{{}, {1}}}, false)
}

// unlike: each makes a solution unlike in one place alone.
func unlike(s solve.Solution) []func(s *solve.Solution) {
	var all []func(s *solve.Solution)
	set := func(at func(s *solve.Solution) *[]int) {
		for i := range *at(&s) {
			all = append(all,
				func(s *solve.Solution) { (*at(s))[i]++ },
				func(s *solve.Solution) { *at(s) = slices.Delete(*at(s), i, i+1) })
		}
		all = append(all, func(s *solve.Solution) { *at(s) = append(*at(s), 99) })
	}
	set(func(s *solve.Solution) *[]int { return &s.Reach })
	for i := range s.Vars {
		set(func(s *solve.Solution) *[]int { return &s.Vars[i] })
		all = append(all, func(s *solve.Solution) { s.Vars = slices.Insert(s.Vars, i, []int{50}) })
	}
	for i := range s.Cells {
		set(func(s *solve.Solution) *[]int { return &s.Cells[i].Set })
		all = append(all,
			func(s *solve.Solution) { s.Cells[i].Obj-- },
			func(s *solve.Solution) { s.Cells[i].Field++ },
			func(s *solve.Solution) { s.Cells = slices.Delete(s.Cells, i, i+1) })
	}
	for i := range s.Edges {
		all = append(all,
			func(s *solve.Solution) { s.Edges[i].Op++ },
			func(s *solve.Solution) { s.Edges[i].Func-- },
			func(s *solve.Solution) { s.Edges = slices.Delete(s.Edges, i, i+1) })
	}
	return append(all,
		func(s *solve.Solution) { s.Vars = s.Vars[:len(s.Vars)-1] },
		func(s *solve.Solution) { s.Vars = append(s.Vars, nil) },
		func(s *solve.Solution) { s.Cells = append(s.Cells, solve.Cell{Obj: 80, Set: []int{1}}) },
		func(s *solve.Solution) { s.Edges = append(s.Edges, solve.Edge{Op: 80}) })
}

func TestUnlikeInOnePlace(t *testing.T) {
	changes := unlike(solved(t, whole()))
	if len(changes) < 80 {
		t.Fatalf("there are but %d places", len(changes))
	}
	for i, change := range changes {
		s := solved(t, whole())
		change(&s)
		like(t, fmt.Sprint("the change ", i), solved(t, whole()), s, false)
	}
}
