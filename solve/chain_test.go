package solve_test

import (
	"fmt"
	"slices"
	"testing"

	"dowser/program"
	"dowser/solve"
)

// backwards: the same ops, the last one first.
func backwards(ops []program.Op) []program.Op {
	l := slices.Clone(ops)
	slices.Reverse(l)
	return l
}

// bothWays: a program's solution, also with its ops in the other order.
func bothWays(t *testing.T, what string, p program.Program) solve.Solution {
	t.Helper()
	back := p
	back.Ops = backwards(p.Ops)
	solves(t, what+", backwards", back, "")
	return solves(t, what, p, "")
}

// areAll: each variable from one on is all these.
func areAll(t *testing.T, s solve.Solution, from, to int, want ...int) {
	t.Helper()
	for v := from; v < to; v++ {
		if fmt.Sprint(s.Vars[v]) != fmt.Sprint(want) {
			t.Errorf("P18.1: %d is %v, not %v", v, s.Vars[v], want)
		}
	}
}

func TestChainsAndRingsOfCopies(t *testing.T) {
	for _, n := range []int{1, 2, 3, 7, 60, 200} {
		chain := with(n, 2, 0, funcs(1), alloc(0, 0, 1))
		for v := 1; v < n; v++ {
			chain.Ops = append(chain.Ops, same(0, v, v-1))
		}
		s := bothWays(t, "a chain", chain)
		areAll(t, s, 0, n, 1)
		ring := chain
		ring.Ops = append(slices.Clone(chain.Ops), same(0, 0, n-1), alloc(0, n/2, 0))
		s = bothWays(t, "a ring", ring)
		areAll(t, s, 0, n, 0, 1)
		ring.Ops[0].In, ring.Ops[n].In, ring.Funcs = 1, 1, funcs(2)
		s = bothWays(t, "a ring that another function closes", ring)
		areAll(t, s, 0, n/2)
		areAll(t, s, n/2, n, 0)
	}
}

// Rings that meet, rings beside one another, and what hangs on them.
func TestRingsTogether(t *testing.T) {
	p := with(12, 6, 0, funcs(1), alloc(0, 0, 0), alloc(0, 4, 1), alloc(0, 8, 2), alloc(0, 11, 3),
		same(0, 1, 0), same(0, 2, 1), same(0, 0, 2), // 0 1 2
		same(0, 3, 2), same(0, 4, 3), same(0, 2, 4), // 2 3 4
		same(0, 5, 4), same(0, 6, 5), same(0, 5, 6), // 5 6
		same(0, 7, 8), same(0, 8, 7), same(0, 9, 8), same(0, 10, 9), // 7 8
		same(0, 5, 10), same(0, 0, 11))
	s := bothWays(t, "rings", p)
	areAll(t, s, 0, 5, 0, 1, 3)
	areAll(t, s, 5, 7, 0, 1, 2, 3)
	areAll(t, s, 7, 11, 2)
	p.Ops = append(p.Ops, same(0, 8, 6))
	s = bothWays(t, "rings that become one behind another", p)
	areAll(t, s, 5, 11, 0, 1, 2, 3)
	p.Ops = append(p.Ops, same(0, 11, 9))
	s = bothWays(t, "rings that become one", p)
	areAll(t, s, 0, 12, 0, 1, 2, 3)
}

// made is a program of which some variables are a thing each.
type made struct {
	p     program.Program
	thing func(i int) int
}

// madeOf: variable i is the i-th thing, of n; or the i-th function.
func madeOf(n, vars int, functions bool) made {
	m := made{with(vars, n, 3, funcs(max(n, 1))), func(i int) int { return i }}
	if functions {
		m.thing = func(i int) int { return m.p.Thing(i) }
	}
	for i := range n {
		if functions {
			m.p.Ops = append(m.p.Ops, addr(0, i, i))
		} else {
			m.p.Ops = append(m.p.Ops, alloc(0, i, i))
		}
	}
	return m
}

// Each thing's field is the next one: a list, gone through by Loads.
func TestChainsOfFields(t *testing.T) {
	for _, functions := range []bool{false, true} {
		for _, n := range []int{1, 2, 3, 10, 30} {
			m := madeOf(n, 2*n, functions)
			for i := range n - 1 {
				m.p.Ops = append(m.p.Ops, store(0, i, 1, i+1))
			}
			m.p.Ops = append(m.p.Ops, same(0, n, 0))
			for i := range n - 1 {
				m.p.Ops = append(m.p.Ops, load(0, n+i+1, n+i, 1))
			}
			s := bothWays(t, "a list", m.p)
			for i := range n {
				areAll(t, s, n+i, n+i+1, m.thing(i))
			}
			// The last one's field is the first one, and one variable goes round.
			m.p.Ops = append(m.p.Ops, store(0, n-1, 1, 0), load(0, 2*n-1, 2*n-1, 1))
			s = bothWays(t, "a ring of things", m.p)
			var all []int
			for i := range n {
				all = append(all, m.thing(i))
			}
			areAll(t, s, 2*n-1, 2*n, all...)
		}
	}
}

// What is stored in a field is loaded, and stored in the next one's.
func TestRingsThroughFields(t *testing.T) {
	for _, functions := range []bool{false, true} {
		for _, n := range []int{1, 2, 5, 30} {
			m := madeOf(n, 3*n, functions)
			for i := range n {
				next := (i + 1) % n
				m.p.Ops = append(m.p.Ops,
					load(0, n+i, i, 2),         // n+i is what is in i's field
					store(0, next, 2, n+i),     // which is in the next one's
					load(0, 2*n+i, n+i, i%2+1), // 2n+i is what is in the fields of all those
				)
			}
			s := bothWays(t, "a ring without anything in it", m.p)
			areAll(t, s, n, 3*n)
			m.p.Ops = append(m.p.Ops, store(0, n/2, 2, n-1), store(0, 0, 2, 0))
			s = bothWays(t, "a ring", m.p)
			areAll(t, s, n, 2*n, slices.Compact([]int{m.thing(0), m.thing(n - 1)})...)
			for i := range n {
				if got := s.Field(m.thing(i), 2); !slices.Equal(got, s.Vars[n]) {
					t.Errorf("P18.1: %v are in %d's field", got, i)
				}
			}
		}
	}
}

// Rings that only Loads and Stores close, when they are worked on already: 0
// and 1 may be each other's fields, and all that is there is.
func TestRingsThatCloseLate(t *testing.T) {
	s := bothWays(t, "late", with(6, 4, 2, funcs(2),
		alloc(0, 0, 0), alloc(0, 1, 1), store(0, 0, 0, 1), load(0, 2, 0, 0), // 2 is 1
		store(0, 2, 1, 0), load(0, 3, 1, 1), // 3 is 0
		store(0, 3, 0, 4), load(0, 5, 0, 0), same(0, 4, 5), // 4, 5 and 0.0 are a ring
		alloc(0, 5, 3), addr(0, 4, 1)))
	areAll(t, s, 2, 3, 1, 3, 5)
	areAll(t, s, 4, 6, 1, 3, 5)
}

// Parameters and answers make rings, too.
func TestRingsThroughCalls(t *testing.T) {
	for n := 1; n < 30; n++ {
		p := program.Program{Vars: 2 * n, Objs: n, Entry: []int{n - 1}}
		for f := range n {
			p.Funcs = append(p.Funcs, fun(2*f+1, 2*f))
			next := (f + 1) % n
			o := call(f, 2*f+1, next, 2*f)
			if f%2 == 1 {
				o = via(f, 2*f+1, 2*f, 2*f)
				p.Ops = append(p.Ops, addr(f, 2*f, next))
			}
			p.Ops = append(p.Ops, o, alloc(f, 2*f+1, f))
		}
		bothWays(t, fmt.Sprint("a ring of so many functions: ", n), p)
	}
}
