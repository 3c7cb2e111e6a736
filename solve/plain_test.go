package solve_test

import (
	"fmt"
	"testing"

	"dowser/api"
	"dowser/program"
	"dowser/solve"
)

// random is numbers by a fixed rule.
type random uint64

func (r *random) pick(n int) int {
	*r = *r*6364136223846793005 + 1442695040888963407
	return int(uint64(*r) >> 33 % uint64(n))
}

// things is which ones something may be.
type things [api.MaxObjs + api.MaxFuncs]bool

// plain is a telling of the chapter: what follows of a program by now.
type plain struct {
	vars  [api.MaxVars]things
	cells [api.MaxObjs + api.MaxFuncs][api.MaxFields]things
	edges [api.MaxOps][api.MaxFuncs]bool
	reach [api.MaxFuncs]bool
	grew  bool
}

func (t *plain) say(fact *bool) {
	t.grew = t.grew || !*fact
	*fact = true
}

// isIn: what is in from is in to.
func (t *plain) isIn(from, to *things) {
	for x, is := range from {
		if is {
			t.say(&to[x])
		}
	}
}

// op: what an op of a function that is reached says.
func (t *plain) op(p program.Program, i int) {
	o := p.Ops[i]
	switch o.Kind {
	case program.Alloc:
		t.say(&t.vars[o.A][o.B])
	case program.Addr:
		t.say(&t.vars[o.A][p.Objs+o.B])
	case program.Copy:
		t.isIn(&t.vars[o.B], &t.vars[o.A])
	case program.Load:
		for x, is := range t.vars[o.B] {
			if is {
				t.isIn(&t.cells[x][o.C], &t.vars[o.A])
			}
		}
	case program.Store:
		for x, is := range t.vars[o.A] {
			if is {
				t.isIn(&t.vars[o.B], &t.cells[x][o.C])
			}
		}
	case program.Call:
		t.say(&t.edges[i][o.B])
	case program.Via:
		for x, is := range t.vars[o.B] {
			if is && x >= p.Objs {
				t.say(&t.edges[i][x-p.Objs])
			}
		}
	}
}

// edge: what an edge says.
func (t *plain) edge(p program.Program, i, f int) {
	o := p.Ops[i]
	t.say(&t.reach[f])
	for j, v := range o.Args {
		if j < len(p.Funcs[f].Params) {
			t.isIn(&t.vars[v], &t.vars[p.Funcs[f].Params[j]])
		}
	}
	if ret := p.Funcs[f].Ret; ret != -1 && o.A != -1 {
		t.isIn(&t.vars[ret], &t.vars[o.A])
	}
}

func (t *plain) round(p program.Program) {
	for _, f := range p.Entry {
		t.say(&t.reach[f])
	}
	for i, o := range p.Ops {
		if t.reach[o.In] {
			t.op(p, i)
		}
		for f, is := range t.edges[i] {
			if is {
				t.edge(p, i, f)
			}
		}
	}
}

func (x *things) list() []int {
	var l []int
	for n, is := range x {
		if is {
			l = append(l, n)
		}
	}
	return l
}

// plainly: the least solution of a program that may be, in rounds.
func plainly(p program.Program) solve.Solution {
	t := &plain{grew: true}
	for t.grew {
		t.grew = false
		t.round(p)
	}
	var s solve.Solution
	for v := range p.Vars {
		s.Vars = append(s.Vars, t.vars[v].list())
	}
	for x := range t.cells {
		for c := range t.cells[x] {
			if l := t.cells[x][c].list(); len(l) > 0 {
				s.Cells = append(s.Cells, solve.Cell{Obj: x, Field: c, Set: l})
			}
		}
	}
	for i := range t.edges {
		for f, is := range t.edges[i] {
			if is {
				s.Edges = append(s.Edges, solve.Edge{Op: i, Func: f})
			}
		}
	}
	for f, is := range t.reach {
		if is {
			s.Reach = append(s.Reach, f)
		}
	}
	return s
}

// text: all of a solution; a list that is nil and an empty one are alike.
func text(s solve.Solution) string { return fmt.Sprint(s) }

// solves: Solve must answer the least solution, and change nothing. Is that
// what is wanted (unless that is "")?
func solves(t *testing.T, what string, p program.Program, want string) solve.Solution {
	t.Helper()
	before := fmt.Sprint(p)
	s, e := solve.Solve(p)
	if e != api.OK {
		t.Fatalf("P18.1: %s: %d of %v", what, e, p)
	}
	if got := text(plainly(p)); text(s) != got || want != "" && want != got {
		t.Fatalf("P18.1: %s: of %v\n%v\nnot %v\nnor %v", what, p, s, got, want)
	}
	if fmt.Sprint(p) != before {
		t.Fatalf("P18.1: %s: the program was changed", what)
	}
	asks(t, s)
	return s
}

// asks: Field and Calls must answer what the solution says.
func asks(t *testing.T, s solve.Solution) {
	t.Helper()
	cells := map[[2]int][]int{}
	for _, c := range s.Cells {
		cells[[2]int{c.Obj, c.Field}] = c.Set
	}
	for obj := -2; obj < api.MaxObjs+api.MaxFuncs+2; obj++ {
		for field := -2; field < api.MaxFields+2; field++ {
			if got, want := s.Field(obj, field), cells[[2]int{obj, field}]; fmt.Sprint(got) != fmt.Sprint(want) {
				t.Fatalf("P18.1: %v: Field(%d, %d) is %v", s, obj, field, got)
			}
		}
	}
	calls := map[int][]int{}
	for _, e := range s.Edges {
		calls[e.Op] = append(calls[e.Op], e.Func)
	}
	for op := -2; op < api.MaxOps+2; op++ {
		if got := s.Calls(op); fmt.Sprint(got) != fmt.Sprint(calls[op]) {
			t.Fatalf("P18.1: %v: Calls(%d) are %v", s, op, got)
		}
	}
}
