package graph_test

import (
	"fmt"
	"math"
	"slices"
	"testing"

	"dowser/api"
	"dowser/graph"
	"dowser/program"
	"dowser/solve"
)

// anyHeat: of all sorts, seldom the same ones in another order.
func anyHeat(r *random) float64 {
	l := []float64{0, math.Copysign(0, -1), 1, 1, -1, 0.1, 1e16, -1e16, math.Inf(1), math.Inf(-1), math.NaN(), math.MaxFloat64}
	return l[r.pick(len(l))]
}

// anyProgram: one that may be, by a fixed rule.
func anyProgram(r *random) program.Program {
	n := 1 + r.pick(9)
	p := with(n)
	for f := 1; f < n; f++ {
		if r.pick(4) == 0 {
			p.Entry = append(p.Entry, f)
		}
	}
	for range r.pick(2 * n) {
		switch r.pick(5) {
		case 0:
			p.Ops = append(p.Ops, via(r.pick(n), r.pick(3), anyHeat(r)))
		case 1:
			p.Ops = append(p.Ops, addr(r.pick(n), r.pick(3), r.pick(n)))
		default:
			p.Ops = append(p.Ops, call(r.pick(n), r.pick(n), anyHeat(r)))
		}
	}
	return p
}

func TestAnyProgram(t *testing.T) {
	r := random(19)
	rounds, calls := 0, 0
	for range 3000 {
		g := of(t, "any", anyProgram(&r))
		rounds += len(g.Rounds())
		for f := range 9 {
			calls += len(g.Callees(f))
		}
	}
	if rounds < 1000 || calls < 4000 {
		t.Errorf("too little was there: %d rounds, %d calls", rounds, calls)
	}
}

// Of each two functions: Callers is Callees the other way round, To is From;
// in one Round they are just if each leads to the other one.
func TestBothWaysRound(t *testing.T) {
	r := random(20)
	for range 3000 {
		p := anyProgram(&r)
		s, _ := solve.Solve(p)
		g := graph.Of(p, s)
		rounds := g.Rounds()
		for a := range p.Funcs {
			for b := range p.Funcs {
				if slices.Contains(g.Callees(a), b) != slices.Contains(g.Callers(b), a) || slices.Contains(g.From(a), b) != slices.Contains(g.To(b), a) {
					t.Fatalf("P19.2: %v: %d and %d: %v, %v, %v, %v", p, a, b, g.Callees(a), g.Callers(b), g.From(a), g.To(b))
				}
				isOne := slices.ContainsFunc(rounds, func(l []int) bool { return slices.Contains(l, a) && slices.Contains(l, b) })
				lead := slices.Contains(g.From(a), b) && slices.Contains(g.From(b), a)
				if a != b && isOne != lead || a == b && isOne && len(g.Callees(a)) == 0 {
					t.Fatalf("P19.3: %v: %d and %d: %v", p, a, b, rounds)
				}
			}
		}
	}
}

// anyNumber: mostly one of those below n.
func anyNumber(r *random, n int) int {
	if x := r.pick(8 * (n + 1)); x < 8*n {
		return x / 8
	}
	return []int{-1, n, n + 1, -2, math.MinInt, math.MaxInt, 1 << 32, -1 << 32}[r.pick(8)]
}

// Of a solution that isn't the program's what it says of its functions and ops
// holds; also where its lists don't rise, or say something twice.
func TestAnySolution(t *testing.T) {
	r := random(21)
	for range 2000 {
		p := anyProgram(&r)
		if r.pick(4) == 0 {
			p = with(r.pick(3))
		}
		var s, known solve.Solution
		for range r.pick(20) {
			e := solve.Edge{Op: anyNumber(&r, len(p.Ops)), Func: anyNumber(&r, len(p.Funcs))}
			s.Edges = append(s.Edges, e)
			if 0 <= e.Op && e.Op < len(p.Ops) && 0 <= e.Func && e.Func < len(p.Funcs) {
				known.Edges = append(known.Edges, e)
			}
		}
		for range r.pick(9) {
			s.Reach = append(s.Reach, anyNumber(&r, len(p.Funcs)))
		}
		known.Reach = s.Reach
		isLike(t, fmt.Sprint("any solution ", s), graph.Of(p, s), plainOf(p, known))
	}
}

// Of a program that may not be, an op that is in no function calls, but nobody
// does.
func TestOpsInNoFunction(t *testing.T) {
	for _, in := range []int{-1, 2, math.MinInt, math.MaxInt} {
		p := with(2, call(in, 1, 2), call(0, 1, 3), program.Op{Kind: 99, In: in, B: 55, Heat: 5})
		s := solve.Solution{Edges: []solve.Edge{{Op: 0, Func: 1}, {Op: 1, Func: 1}, {Op: 2, Func: 0}}, Reach: []int{0, 1}}
		g := graph.Of(p, s)
		isLike(t, "ops in no function", g, plainOf(p, s))
		are(t, "ops in no function", [][]int{g.Sites(1), g.Callers(1), g.Callers(0), g.Callees(0), g.Callees(in), g.Hot()}, "[[0 1] [0] [] [1] [] [0 1]]")
	}
}

// Of numbers that no program may have, too.
func TestWhatMayNotBe(t *testing.T) {
	s := solve.Solution{Vars: [][]int{{-5, 7}}, Cells: []solve.Cell{{Obj: -1}}, Edges: []solve.Edge{{Op: 0, Func: 0}, {Op: -1, Func: -1}, {Op: 0, Func: 40}}, Reach: []int{5, 0, -1, 5, math.MaxInt}}
	for _, p := range []program.Program{
		{Vars: -1, Objs: -1, Fields: -1},
		{Vars: math.MaxInt, Objs: math.MaxInt, Fields: math.MaxInt},
		{Funcs: make([]program.Func, 41), Ops: make([]program.Op, api.MaxOps+1), Entry: []int{9, -9}},
		{Funcs: []program.Func{{Params: []int{-1}, Ret: -9}}, Ops: []program.Op{{Kind: -1, A: -7, B: -7, C: -7, Args: []int{-7}}}},
		{Ops: []program.Op{{}, {}}},
	} {
		known := s
		known.Edges = slices.DeleteFunc(slices.Clone(s.Edges), func(e solve.Edge) bool {
			return e.Op < 0 || e.Func < 0 || e.Op >= len(p.Ops) || e.Func >= len(p.Funcs)
		})
		isLike(t, "what may not be", graph.Of(p, s), plainOf(p, known))
		isLike(t, "nothing of it", graph.Of(p, solve.Solution{}), plainOf(p, solve.Solution{}))
	}
}

// spoil writes over a list, its spare room too.
func spoil(l []int) {
	l = l[:cap(l)]
	for i := range l {
		l[i] = -77
	}
}

// asked: all lists that a graph answers.
func asked(g *graph.Graph, n int) [][]int {
	l := append([][]int{g.Hot()}, g.Rounds()...)
	for f := range n {
		l = append(l, g.Callees(f), g.Callers(f), g.Sites(f), g.From(f), g.To(f))
	}
	return l
}

// What is told is nobody else's: not the program's, nor the solution's, nor
// what is told next, nor another list of it.
func TestNothingIsShared(t *testing.T) {
	p := with(4, addr(0, 0, 3), addr(0, 0, 1), via(0, 0, 2), via(1, 0, 3), call(3, 2, 1), call(2, 2, 4))
	s, e := solve.Solve(p)
	if e != api.OK {
		t.Fatal(e)
	}
	before := fmt.Sprint(p, s)
	g := graph.Of(p, s)
	want := fmt.Sprint(asked(g, 4))
	for i := range asked(g, 4) {
		l := asked(g, 4)
		spoil(l[i])
		l[i] = asked(g, 4)[i]
		if got := fmt.Sprint(l); got != want {
			t.Errorf("P19.1: the %dth list shares memory: %s, not %s", i, got, want)
		}
	}
	if got := fmt.Sprint(p, s); got != before {
		t.Errorf("P19.1: %s became %s", before, got)
	}
	spoil(s.Reach)
	clear(s.Edges[:cap(s.Edges)])
	for i := range p.Ops {
		p.Ops[i] = program.Op{Kind: program.Call, In: 2, Heat: 50}
	}
	clear(p.Funcs)
	if got := fmt.Sprint(asked(g, 4)); got != want || g.Heat(3) != 5 {
		t.Errorf("P19.1: %s became %s, as the program did", want, got)
	}
}

// Neither the lists that are handed in are changed, nor their spare room.
func TestNothingIsChanged(t *testing.T) {
	reach := []int{2, 0, 2, 7, 1, 11, 12, 13}
	edges := []solve.Edge{{Op: 1, Func: 2}, {Op: 0, Func: 1}, {Op: 1, Func: 2}, {Op: 9, Func: 9}, {Op: 5, Func: 5}}
	s := solve.Solution{Edges: edges[:4], Reach: reach[:5]}
	before := fmt.Sprint(edges, reach)
	g := graph.Of(with(3, call(0, 1, 1), call(1, 2, 1)), s)
	are(t, "Hot", g.Hot(), "[1 2 0]")
	if got := fmt.Sprint(edges, reach); got != before {
		t.Errorf("P19.1: %s became %s", before, got)
	}
}
