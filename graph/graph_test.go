package graph_test

import (
	"fmt"
	"math"
	"slices"
	"testing"

	"dowser/api"
	"dowser/graph"
	"dowser/program"
	"dowser/solve"
)

func call(in, f int, heat float64) program.Op {
	return program.Op{Kind: program.Call, In: in, A: api.None, B: f, Heat: heat}
}

func via(in, v int, heat float64) program.Op {
	return program.Op{Kind: program.Via, In: in, A: api.None, B: v, Heat: heat}
}

func addr(in, v, f int) program.Op { return program.Op{Kind: program.Addr, In: in, A: v, B: f} }

// with: so many functions, of which the first is entered.
func with(functions int, ops ...program.Op) program.Program {
	p := program.Program{Vars: 3, Entry: []int{0}, Ops: ops}
	for range functions {
		p.Funcs = append(p.Funcs, program.Func{Ret: api.None})
	}
	return p
}

// are: lists in short.
func are(t *testing.T, what string, got any, want string) {
	t.Helper()
	if fmt.Sprint(got) != want {
		t.Errorf("P19.1: %s: %v, not %s", what, got, want)
	}
}

func TestWithoutAnything(t *testing.T) {
	for _, g := range []*graph.Graph{
		of(t, "no program", program.Program{}),
		of(t, "no functions", program.Program{Vars: 5, Objs: 3, Fields: 2}),
	} {
		are(t, "without functions", [][]int{g.Callees(0), g.Callers(0), g.Sites(0), g.From(0), g.To(0), g.Hot()}, "[[] [] [] [] [] []]")
		are(t, "without functions", g.Rounds(), "[]")
		are(t, "without functions", g.Heat(0), "0")
	}
	g := of(t, "no ops", with(3))
	are(t, "without ops", [][]int{g.Callees(1), g.Callers(1), g.Sites(1), g.From(1), g.To(1), g.Hot()}, "[[] [] [] [1] [1] [0]]")
	are(t, "without ops", g.Rounds(), "[]")
	p := with(3, call(0, 1, 1), call(1, 0, 1))
	p.Entry = nil
	g = of(t, "nothing is entered", p)
	are(t, "nothing is entered", [][]int{g.Callees(0), g.Sites(1), g.From(0), g.Hot()}, "[[] [] [0] []]")
	are(t, "nothing is entered", g.Rounds(), "[]")
}

func TestTheExample(t *testing.T) {
	g := of(t, "the example", with(2, call(0, 1, 1), call(1, 0, 1)))
	are(t, "Rounds", g.Rounds(), "[[0 1]]")
}

func TestWhoCallsWhom(t *testing.T) {
	g := of(t, "some calls", with(6,
		call(0, 2, 1), call(1, 5, 1), call(0, 2, 1), call(2, 4, 1), call(4, 2, 1), call(0, 1, 1), call(4, 4, 1), call(3, 0, 1), call(3, 5, 1)))
	are(t, "Callees", [][]int{g.Callees(0), g.Callees(1), g.Callees(2), g.Callees(3), g.Callees(4), g.Callees(5)}, "[[1 2] [5] [4] [] [2 4] []]")
	are(t, "Callers", [][]int{g.Callers(0), g.Callers(1), g.Callers(2), g.Callers(3), g.Callers(4), g.Callers(5)}, "[[] [0] [0 4] [] [2 4] [1]]")
	are(t, "Sites", [][]int{g.Sites(0), g.Sites(1), g.Sites(2), g.Sites(3), g.Sites(4), g.Sites(5)}, "[[] [5] [0 2 4] [] [3 6] [1]]")
	are(t, "From", [][]int{g.From(0), g.From(1), g.From(2), g.From(3), g.From(4), g.From(5)}, "[[0 1 2 4 5] [1 5] [2 4] [3] [2 4] [5]]")
	are(t, "To", [][]int{g.To(0), g.To(1), g.To(2), g.To(3), g.To(4), g.To(5)}, "[[0] [0 1] [0 2 4] [3] [0 2 4] [0 1 5]]")
	are(t, "Rounds", g.Rounds(), "[[2 4]]")
	are(t, "Hot", g.Hot(), "[2 4 1 5 0]")
}

// An op that may call several functions is a site of each, with all its heat.
func TestVias(t *testing.T) {
	g := of(t, "vias", with(4, addr(0, 0, 3), addr(0, 0, 1), via(0, 0, 2.5), via(3, 1, 7), via(1, 0, 0.25), call(3, 1, 8), addr(2, 1, 2)))
	are(t, "Callees", [][]int{g.Callees(0), g.Callees(1), g.Callees(2), g.Callees(3)}, "[[1 3] [1 3] [] [1]]")
	are(t, "Sites", [][]int{g.Sites(0), g.Sites(1), g.Sites(2), g.Sites(3)}, "[[] [2 4 5] [] [2 4]]")
	are(t, "Heat", []float64{g.Heat(0), g.Heat(1), g.Heat(2), g.Heat(3)}, "[0 10.75 0 2.75]")
	are(t, "Hot", g.Hot(), "[1 3 0]")
	are(t, "Rounds", g.Rounds(), "[[1 3]]")
}

func TestHeat(t *testing.T) {
	inf, none, minus := math.Inf(1), math.NaN(), math.Copysign(0, -1)
	for i, x := range []struct {
		heats []float64
		want  float64
	}{
		{nil, 0},
		{[]float64{0}, 0},
		{[]float64{minus}, minus},
		{[]float64{minus, minus}, minus},
		{[]float64{minus, 0}, 0},
		{[]float64{none}, none},
		{[]float64{math.Float64frombits(0xfff0000000000001)}, none},
		{[]float64{1, none, 2}, none},
		{[]float64{inf, inf}, inf},
		{[]float64{inf, 1, -inf}, none},
		{[]float64{-inf, 1}, -inf},
		{[]float64{1, 1e16, -1e16}, 0},
		{[]float64{1e16, -1e16, 1}, 1},
		{[]float64{1e16, 1, 1, -1e16}, 0},
		{[]float64{1, 1, 1e16, -1e16}, 2},
		{[]float64{math.MaxFloat64, math.MaxFloat64, -math.MaxFloat64}, inf},
		{[]float64{math.MaxFloat64, -math.MaxFloat64, math.MaxFloat64}, math.MaxFloat64},
		{[]float64{math.SmallestNonzeroFloat64, -1, 1}, 0},
	} {
		p := with(2)
		for _, h := range x.heats {
			p.Ops = append(p.Ops, call(0, 1, h), addr(0, 0, 0))
		}
		s, _ := solve.Solve(p)
		slices.Reverse(s.Edges)
		for what, g := range map[string]*graph.Graph{"heats": of(t, "heats", p), "edges that fall": graph.Of(p, s)} {
			if got := g.Heat(1); !sameHeat(got, x.want) {
				t.Errorf("P19.1: %d: %s: %v, not %v", i, what, got, x.want)
			}
		}
	}
}

// Those of all sorts, each hotter than the one behind it, or of the same heat
// and lesser.
func TestHot(t *testing.T) {
	heats := []float64{math.Inf(1), math.NaN(), -3, math.Copysign(0, -1), 0, math.Inf(-1), 5, math.MaxFloat64, -3, 5, 1e-300}
	p := with(len(heats)+3, call(1, len(heats)+1, 99))
	for i, h := range heats {
		p.Ops = append(p.Ops, call(0, i+1, h))
	}
	are(t, "Hot", of(t, "of all sorts", p).Hot(), "[1 8 12 7 10 11 0 5 4 3 9 6 2]")
	p.Ops = p.Ops[1:]
	are(t, "Hot", of(t, "one less is reached", p).Hot(), "[1 8 7 10 11 0 5 4 3 9 6 2]")
	for i := range p.Ops {
		p.Ops[i].Heat = math.NaN()
	}
	are(t, "Hot", of(t, "no numbers", p).Hot(), "[0 1 2 3 4 5 6 7 8 9 10 11]")
	p.Ops = nil
	p.Entry = []int{1, 4, 9}
	are(t, "Hot", of(t, "entered alone", p).Hot(), "[1 4 9]")
}

func TestRounds(t *testing.T) {
	for _, x := range []struct {
		what  string
		calls [][2]int
		want  string
	}{
		{"a chain", [][2]int{{0, 1}, {1, 2}, {2, 3}}, "[]"},
		{"the first calls itself", [][2]int{{0, 0}, {0, 1}}, "[[0]]"},
		{"each calls itself", [][2]int{{0, 0}, {0, 1}, {1, 1}, {1, 2}, {2, 2}}, "[[0] [1] [2]]"},
		{"one in a round calls itself", [][2]int{{0, 1}, {1, 0}, {1, 1}}, "[[0 1]]"},
		{"a ring", [][2]int{{0, 4}, {4, 2}, {2, 5}, {5, 1}, {1, 3}, {3, 0}}, "[[0 1 2 3 4 5]]"},
		{"two rings", [][2]int{{0, 3}, {3, 0}, {0, 1}, {1, 2}, {2, 4}, {4, 1}}, "[[0 3] [1 2 4]]"},
		{"two rings that meet in one", [][2]int{{0, 3}, {3, 0}, {0, 1}, {1, 2}, {2, 0}}, "[[0 1 2 3]]"},
		{"rings by their least ones", [][2]int{{0, 5}, {5, 2}, {2, 5}, {2, 4}, {4, 1}, {1, 4}, {1, 3}, {3, 3}}, "[[1 4] [2 5] [3]]"},
		{"what leads to a ring, and away from it", [][2]int{{0, 2}, {2, 3}, {3, 2}, {3, 1}, {1, 4}}, "[[2 3]]"},
		{"a ring that isn't reached", [][2]int{{0, 1}, {2, 3}, {3, 2}, {4, 4}}, "[]"},
	} {
		p := with(6)
		for _, c := range x.calls {
			p.Ops = append(p.Ops, call(c[0], c[1], 1))
		}
		if got := fmt.Sprint(of(t, x.what, p).Rounds()); got != x.want {
			t.Errorf("P19.3: %s: %s, not %s", x.what, got, x.want)
		}
	}
}

func TestTheGreatestProgram(t *testing.T) {
	p := with(api.MaxFuncs)
	for i := range api.MaxFuncs {
		p.Ops = append(p.Ops, addr(0, 0, i))
	}
	for i := range api.MaxOps - api.MaxFuncs {
		p.Ops = append(p.Ops, via(i%api.MaxFuncs, 0, float64(i)))
	}
	if l := of(t, "the greatest", p).Rounds(); len(l) != 1 || len(l[0]) != api.MaxFuncs {
		t.Errorf("P19.3: %v", l)
	}
	for i := range p.Ops {
		p.Ops[i] = call(i%api.MaxFuncs, (i+1)%api.MaxFuncs, 1)
	}
	if l := of(t, "a great ring", p).From(17); len(l) != api.MaxFuncs {
		t.Errorf("P19.1: %v", l)
	}
	p.Ops[api.MaxFuncs-1] = call(0, 1, 1)
	for i := api.MaxFuncs; i < api.MaxOps; i++ {
		p.Ops[i] = call(0, 0, 1)
	}
	g := of(t, "a great chain", p)
	if len(g.From(17)) != 13 || len(g.To(17)) != 18 || len(g.Rounds()) != 1 {
		t.Errorf("P19.1: %v, %v", g.From(17), g.To(17))
	}
}
