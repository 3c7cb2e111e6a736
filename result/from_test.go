package result_test

import (
	"math"
	"slices"
	"testing"

	"dowser/api"
	"dowser/program"
	"dowser/result"
)

// notFrom: the error, and nothing beside it.
func notFrom(t *testing.T, what string, p program.Program, l []result.Fact, want api.Errno) {
	t.Helper()
	before := text(p, l)
	s, e := result.From(p, l)
	if e != want || s.Vars != nil || s.Cells != nil || s.Edges != nil || s.Reach != nil {
		t.Errorf("P20.1: %s: of %v\n%v\n%d, not %d; beside it %v", what, p, l, e, want, s)
	}
	if text(p, l) != before {
		t.Errorf("P20.1: %s: something was changed", what)
	}
}

func TestWhatMayNotBe(t *testing.T) {
	for what, wrong := range map[string]func(p *program.Program){
		"variables below 0":    func(p *program.Program) { p.Vars = -1 },
		"things below 0":       func(p *program.Program) { p.Objs = -1 },
		"fields below 0":       func(p *program.Program) { p.Fields = math.MinInt },
		"more variables":       func(p *program.Program) { p.Vars = 201 },
		"more things":          func(p *program.Program) { p.Objs = math.MaxInt },
		"more fields":          func(p *program.Program) { p.Fields = 7 },
		"more functions":       func(p *program.Program) { p.Funcs = make([]program.Func, 31) },
		"no such parameter":    func(p *program.Program) { p.Funcs[1].Params[0] = 6 },
		"no such Entry":        func(p *program.Program) { p.Entry[0] = 4 },
		"no Kind":              func(p *program.Program) { p.Ops[3].Kind = 8 },
		"more ops":             func(p *program.Program) { p.Ops = make([]program.Op, 301) },
		"of several the least": func(p *program.Program) { p.Vars, p.Objs = 201, -1 },
	} {
		p := whole()
		l := result.Facts(p, solved(t, p))
		wrong(&p)
		notFrom(t, what, p, l, api.ErrProgram)
		notFrom(t, what+", of no facts", p, nil, api.ErrProgram)
		notFrom(t, what+", of wrong ones", p, []result.Fact{{Kind: 9}}, api.ErrProgram)
	}
}

// spoiled: a list of facts, with one fact that is another one.
func spoiled(l []result.Fact, at int, change func(f *result.Fact)) []result.Fact {
	l = slices.Clone(l)
	l[at].Set = slices.Clone(l[at].Set)
	change(&l[at])
	return l
}

// Each fact of a list that is right is wrong in one way.
func TestFactsThatMayNotBe(t *testing.T) {
	p := whole()
	l := result.Facts(p, solved(t, p))
	belowA, belowSet := []int{0, 6, 7, 11, 1, 4}, []int{0, 7, 7, 4, 4, 11}
	belowB := []int{0, 1, 2, 1, 1, 1}
	for i, f := range l {
		bad := func(what string, change func(f *result.Fact)) {
			t.Helper()
			notFrom(t, text(what, " ", i), p, spoiled(l, i, change), api.ErrBad)
		}
		for _, far := range []int{math.MinInt, -1, 0, 6, math.MaxInt} {
			bad("no such Kind", func(f *result.Fact) { f.Kind = far })
		}
		for _, far := range []int{math.MinInt, -1, belowA[f.Kind], math.MaxInt} {
			bad("no such A", func(f *result.Fact) { f.A = far })
		}
		for _, far := range []int{math.MinInt, -1, belowB[f.Kind], math.MaxInt} {
			bad("no such B", func(f *result.Fact) { f.B = far })
		}
		bad("nothing in the set", func(f *result.Fact) { f.Set = nil })
		bad("an empty set", func(f *result.Fact) { f.Set = []int{} })
		bad("below 0", func(f *result.Fact) { f.Set = append([]int{-1}, f.Set...) })
		bad("too great", func(f *result.Fact) { f.Set = append(f.Set, belowSet[f.Kind]) })
		bad("far too great", func(f *result.Fact) { f.Set = append(f.Set, math.MaxInt) })
		bad("a number twice", func(f *result.Fact) { f.Set = append(f.Set, f.Set[len(f.Set)-1]) })
		bad("a number that falls", func(f *result.Fact) { f.Set = append(f.Set, 0) })
		notFrom(t, "a fact twice", p, slices.Insert(slices.Clone(l), i, f), api.ErrBad)
		notFrom(t, "a fact at last", p, append(slices.Clone(l), f), api.ErrBad)
		other := f
		other.Set = []int{0}
		notFrom(t, "a fact with two sets", p, slices.Insert(slices.Clone(l), i+1, other), api.ErrBad)
		notFrom(t, "a fact with two sets, the other way round", p, slices.Insert(slices.Clone(l), i, other), api.ErrBad)
		if i > 0 {
			changed := slices.Clone(l)
			changed[i-1], changed[i] = changed[i], changed[i-1]
			notFrom(t, "two that fall", p, changed, api.ErrBad)
		}
	}
}

// Other sets may be a program's, though they don't follow.
func TestFactsThatNeedNotFollow(t *testing.T) {
	p := whole()
	for _, l := range [][]result.Fact{
		{{Kind: 1, A: 5, Set: []int{0, 1, 2, 3, 4, 5, 6}}},
		{{Kind: 2, A: 6, B: 1, Set: []int{6}}},
		{{Kind: 4, Set: []int{3}}},
		{{Kind: 3, A: 0, Set: []int{3}}, {Kind: 5, A: 3, Set: []int{0}}},
	} {
		s, e := result.From(p, l)
		if e != api.OK || len(s.Vars) != 6 || !result.Same(result.Facts(p, s), l) {
			t.Errorf("P20.2: of %v: %v, %d", l, s, e)
		}
	}
}

func TestCallersAreCallsTheOtherWayRound(t *testing.T) {
	p := whole()
	calls := func(op int, set ...int) result.Fact { return result.Fact{Kind: result.Calls, A: op, Set: set} }
	callers := func(f int, set ...int) result.Fact { return result.Fact{Kind: result.Callers, A: f, Set: set} }
	for i, l := range [][]result.Fact{
		{calls(7, 1)},
		{callers(1, 7)},
		{calls(7, 1), callers(1, 8)},
		{calls(7, 1), callers(2, 7)},
		{calls(7, 1), callers(1, 7, 8)},
		{calls(7, 1, 2), callers(1, 7)},
		{calls(7, 1), callers(1, 7), callers(2, 7)},
		{calls(7, 1), calls(8, 2), callers(1, 8), callers(2, 7)},
		{calls(1, 2), callers(1, 2)},
		{callers(1, 7), calls(7, 1)},
	} {
		notFrom(t, text("Callers ", i), p, l, api.ErrBad)
	}
	l := []result.Fact{calls(7, 1, 2), calls(8, 1), callers(1, 7, 8), callers(2, 7)}
	if s, e := result.From(p, l); e != api.OK || text(s.Edges) != "[{7 1} {7 2} {8 1}]" {
		t.Errorf("P20.2: %v, %d", s, e)
	}
}

// changed: some facts, with one number or fact that is another one, wanting,
// or there once more.
func changed(r *random, l []result.Fact) []result.Fact {
	i := r.pick(len(l))
	number := []int{-1, 0, 1, 2, 3, 4, 5, 6, 16, math.MaxInt}[r.pick(10)]
	switch r.pick(9) {
	case 0:
		return slices.Delete(slices.Clone(l), i, i+1)
	case 1:
		return slices.Insert(slices.Clone(l), r.pick(len(l)+1), l[i])
	}
	return spoiled(l, i, func(f *result.Fact) {
		switch j := r.pick(len(f.Set)); r.pick(6) {
		case 0:
			f.Kind = number
		case 1:
			f.A = number
		case 2:
			f.B = number
		case 3:
			f.Set[j] = number
		case 4:
			f.Set = slices.Delete(f.Set, j, j+1)
		default:
			f.Set = slices.Insert(f.Set, j, number)
		}
	})
}

// Any list is held against a plain telling of what is wrong.
func TestAnyFacts(t *testing.T) {
	r := random(22)
	right, wrong := 0, 0
	for range 20000 {
		p := anyProgram(&r)
		l := result.Facts(p, anySolution(&r, p))
		if len(l) == 0 {
			continue
		}
		l = changed(&r, l)
		if !areFacts(p, l) {
			wrong++
			notFrom(t, "any facts", p, l, api.ErrBad)
			continue
		}
		right++
		s, e := result.From(p, l)
		if e != api.OK {
			t.Fatalf("P20.1: of %v\n%v\n%d", p, l, e)
		}
		if back := thereAndBack(t, "any facts", p, s); !result.Same(back, l) {
			t.Fatalf("P20.2: of %v\n%v\nnot %v", p, back, l)
		}
	}
	if right < 3000 || wrong < 3000 {
		t.Errorf("%d were right, %d wrong", right, wrong)
	}
}

// Facts of one program, asked with another one.
func TestFactsOfAnotherProgram(t *testing.T) {
	r := random(23)
	for range 3000 {
		p, q := anyProgram(&r), anyProgram(&r)
		l := result.Facts(p, anySolution(&r, p))
		if areFacts(q, l) {
			if _, e := result.From(q, l); e != api.OK {
				t.Fatalf("P20.1: of %v\n%v\n%d", q, l, e)
			}
			continue
		}
		notFrom(t, "of another program", q, l, api.ErrBad)
	}
}
