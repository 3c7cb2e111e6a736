package graph_test

import (
	"math"
	"slices"
	"testing"

	"dowser/api"
	"dowser/graph"
	"dowser/program"
	"dowser/solve"
)

// random is numbers by a fixed rule.
type random uint64

func (r *random) pick(n int) int {
	*r = *r*6364136223846793005 + 1442695040888963407
	return int(uint64(*r) >> 33 % uint64(n))
}

// plain is a telling of the chapter: which ops call which functions.
type plain struct {
	p     program.Program
	n     int
	calls map[[2]int]int // by op and function
	reach map[int]int
	leads map[[2]int]int // by function and function
}

func plainOf(p program.Program, s solve.Solution) plain {
	g := plain{p, len(p.Funcs), map[[2]int]int{}, map[int]int{}, map[[2]int]int{}}
	for _, e := range s.Edges {
		g.calls[[2]int{e.Op, e.Func}] = 1
	}
	for _, f := range s.Reach {
		g.reach[f] = 1
	}
	for f := range g.n {
		for called := range g.n {
			if f == called || len(g.which(len(p.Ops), func(op int) bool { return p.Ops[op].In == f && g.isCalled(op, called) })) > 0 {
				g.leads[[2]int{f, called}] = 1
			}
		}
	}
	for by := range g.n {
		for a := range g.n {
			for b := range g.n {
				if g.lead(a, by) && g.lead(by, b) {
					g.leads[[2]int{a, b}] = 1
				}
			}
		}
	}
	return g
}

func (g plain) isCalled(op, f int) bool { return g.calls[[2]int{op, f}] > 0 }

func (g plain) lead(a, b int) bool { return g.leads[[2]int{a, b}] > 0 }

// which of the numbers below n are so?
func (g plain) which(n int, is func(x int) bool) []int {
	var l []int
	for x := range n {
		if is(x) {
			l = append(l, x)
		}
	}
	return l
}

func (g plain) sites(f int) []int {
	return g.which(len(g.p.Ops), func(op int) bool { return 0 <= f && f < g.n && g.isCalled(op, f) })
}

func (g plain) callers(f int) []int {
	return g.which(g.n, func(in int) bool {
		return slices.ContainsFunc(g.sites(f), func(op int) bool { return g.p.Ops[op].In == in })
	})
}

func (g plain) callees(f int) []int {
	return g.which(g.n, func(called int) bool { return slices.Contains(g.callers(called), f) })
}

func (g plain) from(f int) []int { return g.which(g.n, func(to int) bool { return g.lead(f, to) }) }

func (g plain) to(f int) []int { return g.which(g.n, func(from int) bool { return g.lead(from, f) }) }

// heat: -0 with any other one is that one, so it may be begun with.
func (g plain) heat(f int) float64 {
	sites := g.sites(f)
	if len(sites) == 0 {
		return 0
	}
	sum := math.Copysign(0, -1)
	for _, op := range sites {
		sum += g.p.Ops[op].Heat
	}
	return sum
}

// isHotter: by the order of layer 3.
func isHotter(a, b float64) bool {
	switch {
	case math.IsNaN(a):
		return false
	case math.IsNaN(b):
		return true
	case a == 0 && b == 0:
		return math.Signbit(b) && !math.Signbit(a)
	}
	return a > b
}

func (g plain) hot() []int {
	var hot []int
	for range g.which(g.n, func(f int) bool { return g.reach[f] > 0 }) {
		first := -1
		for f := range g.n {
			if g.reach[f] > 0 && !slices.Contains(hot, f) && (first < 0 || isHotter(g.heat(f), g.heat(first))) {
				first = f
			}
		}
		hot = append(hot, first)
	}
	return hot
}

func (g plain) rounds() [][]int {
	var rounds [][]int
	for f := range g.n {
		round := g.which(g.n, func(x int) bool { return g.lead(f, x) && g.lead(x, f) })
		if round[0] == f && (len(round) > 1 || slices.Contains(g.callees(f), f)) {
			rounds = append(rounds, round)
		}
	}
	return rounds
}

// sameHeat: by its bits; all that are no numbers are one.
func sameHeat(a, b float64) bool {
	if math.IsNaN(b) {
		return math.Float64bits(a) == 0x7ff8000000000001
	}
	return math.Float64bits(a) == math.Float64bits(b)
}

// around: the functions that there are, those next to them, and far ones.
func around(n int) []int {
	l := []int{math.MinInt, math.MinInt + 1, math.MinInt32, -1 << 32, 1 << 32, math.MaxInt32, math.MaxInt - 1, math.MaxInt}
	for f := -3; f < n+3; f++ {
		l = append(l, f)
	}
	return l
}

// isLike: does a graph answer all that is asked of it as it must?
func isLike(t *testing.T, what string, g *graph.Graph, want plain) {
	t.Helper()
	for _, f := range around(want.n) {
		inside := 0 <= f && f < want.n
		for _, x := range []struct {
			promise, name string
			got, want     []int
		}{
			{"P19.1", "Callees", g.Callees(f), want.callees(f)},
			{"P19.2", "Callers", g.Callers(f), want.callers(f)},
			{"P19.1", "Sites", g.Sites(f), want.sites(f)},
			{"P19.1", "From", g.From(f), want.from(f)},
			{"P19.2", "To", g.To(f), want.to(f)},
		} {
			if !slices.Equal(x.got, x.want) || !inside && len(x.got) > 0 {
				t.Fatalf("%s: %s: %v: %s(%d) are %v, not %v", x.promise, what, want.p, x.name, f, x.got, x.want)
			}
		}
		if got := g.Heat(f); !sameHeat(got, want.heat(f)) {
			t.Fatalf("P19.1: %s: %v: Heat(%d) is %v, not %v", what, want.p, f, got, want.heat(f))
		}
	}
	if got := g.Hot(); !slices.Equal(got, want.hot()) {
		t.Fatalf("P19.1: %s: %v: Hot are %v, not %v", what, want.p, got, want.hot())
	}
	if got := g.Rounds(); !slices.EqualFunc(got, want.rounds(), slices.Equal[[]int]) {
		t.Fatalf("P19.3: %s: %v: Rounds are %v, not %v", what, want.p, got, want.rounds())
	}
}

// of: the graph of a program that may be, and of its solution.
func of(t *testing.T, what string, p program.Program) *graph.Graph {
	t.Helper()
	s, e := solve.Solve(p)
	if e != api.OK {
		t.Fatalf("%s: %v may not be: %d", what, p, e)
	}
	g := graph.Of(p, s)
	isLike(t, what, g, plainOf(p, s))
	return g
}
