package result_test

import (
	"fmt"
	"math"
	"slices"
	"testing"

	"dowser/api"
	"dowser/program"
	"dowser/result"
	"dowser/solve"
)

// random is numbers by a fixed rule.
type random uint64

func (r *random) pick(n int) int {
	*r = *r*6364136223846793005 + 1442695040888963407
	return int(uint64(*r) >> 33 % uint64(n))
}

// plainFacts is a telling of the chapter: what a solution says of all that a
// program has, as the facts rise.
func plainFacts(p program.Program, s solve.Solution) []result.Fact {
	var l []result.Fact
	for v := range p.Vars {
		l = append(l, result.Fact{Kind: result.Var, A: v, Set: s.Vars[v]})
	}
	for thing := range p.Objs + len(p.Funcs) {
		for field := range p.Fields {
			l = append(l, result.Fact{Kind: result.Field, A: thing, B: field, Set: s.Field(thing, field)})
		}
	}
	for op := range p.Ops {
		l = append(l, result.Fact{Kind: result.Calls, A: op, Set: s.Calls(op)})
	}
	l = append(l, result.Fact{Kind: result.Reach, Set: s.Reach})
	for f := range p.Funcs {
		var ops []int
		for op := range p.Ops {
			if slices.Contains(s.Edges, solve.Edge{Op: op, Func: f}) {
				ops = append(ops, op)
			}
		}
		l = append(l, result.Fact{Kind: result.Callers, A: f, Set: ops})
	}
	return slices.DeleteFunc(l, func(f result.Fact) bool { return len(f.Set) == 0 })
}

// isSet: do numbers below n rise?
func isSet(l []int, n int) bool {
	for i, x := range l {
		if x < 0 || x >= n || i > 0 && l[i-1] >= x {
			return false
		}
	}
	return len(l) > 0
}

// mayBe: a fact of a program, for itself.
func mayBe(p program.Program, f result.Fact) bool {
	things, functions, ops := p.Objs+len(p.Funcs), len(p.Funcs), len(p.Ops)
	of := func(a, b, set int) bool {
		return f.A >= 0 && f.A < a && f.B >= 0 && f.B < b && isSet(f.Set, set)
	}
	switch f.Kind {
	case 1:
		return of(p.Vars, 1, things)
	case 2:
		return of(things, p.Fields, things)
	case 3:
		return of(ops, 1, functions)
	case 4:
		return of(1, 1, functions)
	case 5:
		return of(functions, 1, ops)
	}
	return false
}

// areFacts: may a list be that of the facts of any sets over a program?
func areFacts(p program.Program, l []result.Fact) bool {
	calls, callers := map[[2]int]int{}, map[[2]int]int{}
	for i, f := range l {
		if !mayBe(p, f) || i > 0 && plainCompare(l[i-1], f) >= 0 {
			return false
		}
		for _, x := range f.Set {
			switch f.Kind {
			case 3:
				calls[[2]int{f.A, x}] = 1
			case 5:
				callers[[2]int{x, f.A}] = 1
			}
		}
	}
	return fmt.Sprint(calls) == fmt.Sprint(callers)
}

// plainCompare: by Kind, then A, then B.
func plainCompare(a, b result.Fact) int {
	return slices.Compare([]int{a.Kind, a.A, a.B}, []int{b.Kind, b.A, b.B})
}

// text: all of what there is; a list that is nil and an empty one are alike.
func text(all ...any) string { return fmt.Sprint(all...) }

// thereAndBack: the facts of a solution must be these, and the solution that
// of the facts; nothing is changed.
func thereAndBack(t *testing.T, what string, p program.Program, s solve.Solution) []result.Fact {
	t.Helper()
	before := text(p, s)
	l := result.Facts(p, s)
	if want := plainFacts(p, s); text(l) != text(want) {
		t.Fatalf("P20.1: %s: of %v\n%v\nthe facts are %v\nnot %v", what, p, s, l, want)
	}
	back, e := result.From(p, l)
	if e != api.OK || !solve.Same(back, s) || text(back) != text(s) {
		t.Fatalf("P20.2: %s: of %v\n%v\nFrom is %v, %d\nnot %v", what, p, l, back, e, s)
	}
	if again := result.Facts(p, back); !result.Same(again, l) || text(again) != text(l) {
		t.Fatalf("P20.2: %s: of %v\n%v\nthe facts are %v\nnot %v", what, p, back, again, l)
	}
	if text(p, s) != before {
		t.Fatalf("P20.1: %s: something was changed: %v, %v", what, p, s)
	}
	return l
}

// solved: a program that may be, and its least solution.
func solved(t *testing.T, p program.Program) solve.Solution {
	t.Helper()
	s, e := solve.Solve(p)
	if e != api.OK {
		t.Fatalf("%v may not be: %d", p, e)
	}
	return s
}

// whole: a program from which something of everything follows.
func whole() program.Program {
	op := func(kind, in, a, b, c int, args ...int) program.Op {
		return program.Op{Kind: kind, In: in, A: a, B: b, C: c, Args: args}
	}
	return program.Program{
		Vars: 6, Objs: 3, Fields: 2, Entry: []int{0},
		Funcs: []program.Func{{Ret: api.None}, {Params: []int{3}, Ret: 4}, {Ret: api.None}, {Ret: api.None}},
		Ops: []program.Op{
			op(program.Alloc, 0, 0, 2, 0), op(program.Alloc, 0, 0, 0, 0), op(program.Addr, 0, 1, 1, 0), op(program.Addr, 0, 1, 3, 0),
			op(program.Store, 0, 0, 1, 1), op(program.Store, 0, 1, 0, 0), op(program.Load, 0, 2, 0, 1),
			op(program.Via, 0, api.None, 2, 0, 0), op(program.Call, 1, 5, 1, 0, 1), op(program.Copy, 1, 4, 3, 0), op(program.Call, 2, 5, 0, 0),
		},
	}
}

// anyProgram: one that may be, by a fixed rule.
func anyProgram(r *random) program.Program {
	p := program.Program{Vars: 1 + r.pick(6), Objs: r.pick(4), Fields: r.pick(3)}
	for f := range 1 + r.pick(5) {
		p.Funcs = append(p.Funcs, program.Func{Params: []int{r.pick(p.Vars)}, Ret: r.pick(p.Vars+1) - 1})
		if r.pick(3) == 0 {
			p.Entry = append(p.Entry, f)
		}
	}
	for range r.pick(16) {
		o := program.Op{Kind: program.Copy, In: r.pick(len(p.Funcs)), A: r.pick(p.Vars), B: r.pick(p.Vars)}
		switch kind := 1 + r.pick(7); {
		case kind == program.Alloc && p.Objs > 0:
			o.Kind, o.B = kind, r.pick(p.Objs)
		case (kind == program.Load || kind == program.Store) && p.Fields > 0:
			o.Kind, o.C = kind, r.pick(p.Fields)
		case kind == program.Addr || kind == program.Call:
			o.Kind, o.B = kind, r.pick(len(p.Funcs))
		case kind == program.Via:
			o.Kind, o.A = kind, o.A-1
		}
		if o.Kind >= program.Call {
			o.Args, o.Heat = []int{r.pick(p.Vars)}, math.NaN()
		}
		p.Ops = append(p.Ops, o)
	}
	return p
}

// anySet of numbers below n.
func anySet(r *random, n int) []int {
	var l []int
	for x := range n {
		if r.pick(3) == 0 {
			l = append(l, x)
		}
	}
	return l
}

// anySolution: any sets over a program, which needn't follow.
func anySolution(r *random, p program.Program) solve.Solution {
	things := p.Objs + len(p.Funcs)
	s := solve.Solution{Reach: anySet(r, len(p.Funcs))}
	for range p.Vars {
		s.Vars = append(s.Vars, anySet(r, things))
	}
	for thing := range things {
		for field := range p.Fields {
			if set := anySet(r, things); len(set) > 0 {
				s.Cells = append(s.Cells, solve.Cell{Obj: thing, Field: field, Set: set})
			}
		}
	}
	for op := range p.Ops {
		for _, f := range anySet(r, len(p.Funcs)) {
			s.Edges = append(s.Edges, solve.Edge{Op: op, Func: f})
		}
	}
	return s
}
