package solve_test

import (
	"fmt"
	"math"
	"slices"
	"testing"

	"dowser/api"
	"dowser/ids"
	"dowser/program"
	"dowser/solve"
)

// anyProgram: one that may be, by a fixed rule, of so much at most.
func anyProgram(r *random, vars, objs, fields, functions, ops int) program.Program {
	p := program.Program{Vars: 1 + r.pick(vars), Objs: r.pick(objs + 1), Fields: r.pick(fields + 1)}
	variables := func(most int) []int {
		var l []int
		for range r.pick(most + 1) {
			l = append(l, r.pick(p.Vars))
		}
		return l
	}
	for f := range 1 + r.pick(functions) {
		p.Funcs = append(p.Funcs, fun(r.pick(p.Vars+1)-1, variables(api.MaxArgs)...))
		if r.pick(4) == 0 || f == 0 && r.pick(8) > 0 {
			p.Entry = append(p.Entry, f)
		}
	}
	for range ops {
		p.Ops = append(p.Ops, anyOp(r, p, variables))
	}
	return p
}

// anyOp: one that may be in a program. What needs things or fields is another
// one where there are none.
func anyOp(r *random, p program.Program, variables func(most int) []int) program.Op {
	in, a, b := r.pick(len(p.Funcs)), r.pick(p.Vars), r.pick(p.Vars)
	if r.pick(2) == 0 {
		in = 0
	}
	switch kind := 1 + r.pick(9); {
	case kind == program.Alloc && p.Objs > 0:
		return alloc(in, a, r.pick(p.Objs))
	case kind == program.Load && p.Fields > 0:
		return load(in, a, b, r.pick(p.Fields))
	case kind == program.Store && p.Fields > 0:
		return store(in, a, r.pick(p.Fields), b)
	case kind == program.Addr:
		return addr(in, a, r.pick(len(p.Funcs)))
	case kind == program.Call:
		return call(in, r.pick(p.Vars+1)-1, r.pick(len(p.Funcs)), variables(api.MaxArgs)...)
	case kind == program.Via:
		return via(in, r.pick(p.Vars+1)-1, b, variables(api.MaxArgs)...)
	}
	return same(in, a, b)
}

// few: a program that isn't great.
func few(r *random) program.Program {
	return anyProgram(r, 12, 5, 3, 6, 4+r.pick(30))
}

func TestAnyProgram(t *testing.T) {
	r := random(18)
	facts, edges := 0, 0
	for range 6000 {
		p := few(&r)
		if e := p.Check(); e != api.OK {
			t.Fatalf("%v may not be: %d", p, e)
		}
		s := solves(t, "any", p, "")
		facts += len(s.Cells)
		edges += len(s.Edges)
	}
	if facts < 6000 || edges < 6000 {
		t.Errorf("too little follows: %d cells, %d edges", facts, edges)
	}
}

func TestGreatPrograms(t *testing.T) {
	r := random(7)
	for range 40 {
		solves(t, "great", anyProgram(&r, api.MaxVars, api.MaxObjs, api.MaxFields, api.MaxFuncs, api.MaxOps), "")
	}
	for range 10 {
		solves(t, "with few variables", anyProgram(&r, 20, api.MaxObjs, api.MaxFields, api.MaxFuncs, api.MaxOps), "")
	}
}

// greatest: a program with as many as may be of everything.
func greatest(op func(i int) program.Op) program.Program {
	p := program.Program{Vars: api.MaxVars, Objs: api.MaxObjs, Fields: api.MaxFields}
	for f := range api.MaxFuncs {
		p.Funcs = append(p.Funcs, fun(f, 6*f, 6*f+1, 6*f+2, 6*f+3, 6*f+4, 6*f+5))
		p.Entry = append(p.Entry, f)
	}
	for i := range api.MaxOps {
		p.Ops = append(p.Ops, op(i))
	}
	return p
}

// everyThing: the first 90 ops put all things into a variable.
func everyThing(i, a int) program.Op {
	if i < api.MaxObjs {
		return alloc(0, a, i)
	}
	return addr(0, a, i-api.MaxObjs)
}

func TestGreatestPrograms(t *testing.T) {
	const n = api.MaxObjs + api.MaxFuncs
	for name, rest := range map[string]func(i int) program.Op{
		"copies":           func(i int) program.Op { return same(i%30, i%200, (i*7+3)%200) },
		"copies backwards": func(i int) program.Op { return same(i%30, (i*131+1)%200, i*131%200) },
		"stores into all":  func(i int) program.Op { return store(i%30, 0, i%6, i%200) },
		"loads of all":     func(i int) program.Op { return load(i%30, i%200, 0, i%6) },
		"stores and loads": func(i int) program.Op {
			if i%2 == 0 {
				return store(i%30, i/2%10*20, i%6, i%200)
			}
			return load(i%30, i%200, i/2%10*20, i%6)
		},
		"calls":         func(i int) program.Op { return call(i%30, i%200, i*11%30, 0, i%200, 7, i*3%200, 5, i*7%200) },
		"vias":          func(i int) program.Op { return via(i%30, i%200, 0, 0, i%200, 7, i*3%200, 5, i*7%200) },
		"vias of vias":  func(i int) program.Op { return via(i%30, i%200, (i+1)%200, i%200, 0, i%200, i%200, 0, i%200) },
		"all of itself": func(i int) program.Op { return store(i%30, 0, i%6, 0) },
	} {
		for _, turned := range []bool{false, true} {
			p := greatest(func(i int) program.Op {
				if i < n {
					return everyThing(i, 0)
				}
				return rest(i)
			})
			if turned {
				p.Ops = backwards(p.Ops)
			}
			if e := p.Check(); e != api.OK {
				t.Fatalf("%s: %d", name, e)
			}
			solves(t, name, p, "")
		}
	}
}

// notSolved: the error, and nothing beside it.
func notSolved(t *testing.T, what string, p program.Program, want api.Errno) {
	t.Helper()
	before := fmt.Sprint(p)
	s, e := solve.Solve(p)
	if e != want || s.Vars != nil || s.Cells != nil || s.Edges != nil || s.Reach != nil {
		t.Errorf("P18.1: %s: %d, not %d, beside it %v", what, e, want, s)
	}
	if fmt.Sprint(p) != before {
		t.Errorf("P18.1: %s: the program was changed", what)
	}
}

func TestWhatMayNotBe(t *testing.T) {
	for what, wrong := range map[string]func(p *program.Program){
		"variables below 0":                   func(p *program.Program) { *p = program.Program{Vars: -1} },
		"things below 0":                      func(p *program.Program) { *p = program.Program{Objs: -1} },
		"fields below 0":                      func(p *program.Program) { *p = program.Program{Fields: math.MinInt} },
		"a parameter that there isn't":        func(p *program.Program) { p.Funcs[3].Params = []int{7} },
		"a parameter that is None":            func(p *program.Program) { p.Funcs[3].Params = []int{-1} },
		"an answer that there isn't":          func(p *program.Program) { p.Funcs[3].Ret = 7 },
		"an answer below None":                func(p *program.Program) { p.Funcs[3].Ret = -2 },
		"an Entry that there isn't":           func(p *program.Program) { p.Entry[1] = 4 },
		"an Entry below 0":                    func(p *program.Program) { p.Entry[0] = -1 },
		"an Entry that falls":                 func(p *program.Program) { p.Entry = []int{2, 0} },
		"an Entry twice":                      func(p *program.Program) { p.Entry = []int{2, 2} },
		"no Kind":                             func(p *program.Program) { p.Ops[14].Kind = 0 },
		"a Kind beyond all":                   func(p *program.Program) { p.Ops[14].Kind = 8 },
		"an op in no function":                func(p *program.Program) { p.Ops[14].In = 4 },
		"an op in a function below 0":         func(p *program.Program) { p.Ops[14].In = -1 },
		"a variable that there isn't":         func(p *program.Program) { p.Ops[4].A = 7 },
		"a variable that is None":             func(p *program.Program) { p.Ops[4].B = -1 },
		"a thing that there isn't":            func(p *program.Program) { p.Ops[0].B = 3 },
		"a field that there isn't":            func(p *program.Program) { p.Ops[9].C = 2 },
		"a function that there isn't":         func(p *program.Program) { p.Ops[2].B = 4 },
		"a called function that there isn't":  func(p *program.Program) { p.Ops[12].B = 4 },
		"an argument that there isn't":        func(p *program.Program) { p.Ops[11].Args[1] = 7 },
		"an argument that is None":            func(p *program.Program) { p.Ops[11].Args[0] = -1 },
		"a number where none is named":        func(p *program.Program) { p.Ops[0].C = 1 },
		"Args where none are":                 func(p *program.Program) { p.Ops[0].Args = []int{0} },
		"a heat where none is":                func(p *program.Program) { p.Ops[0].Heat = math.Copysign(0, -1) },
		"what nobody reaches isn't right":     func(p *program.Program) { p.Ops = append(p.Ops, same(3, 0, 7)) },
		"ops, but neither functions nor else": func(p *program.Program) { *p = program.Program{Ops: p.Ops} },
	} {
		p := whole()
		wrong(&p)
		notSolved(t, what, p, api.ErrProgram)
		p.Vars = 201
		notSolved(t, what+", and more variables than may be", p, api.ErrBig)
	}
	solves(t, "nothing wrong", whole(), "")
}

func TestWhatPassesALimit(t *testing.T) {
	for what, more := range map[string]func(p *program.Program){
		"variables":  func(p *program.Program) { p.Vars = 201 },
		"things":     func(p *program.Program) { p.Objs = 61 },
		"fields":     func(p *program.Program) { p.Fields = 7 },
		"far more":   func(p *program.Program) { p.Vars, p.Objs, p.Fields = math.MaxInt, math.MaxInt, math.MaxInt },
		"functions":  func(p *program.Program) { p.Funcs = funcs(31) },
		"Entry":      func(p *program.Program) { p.Entry = make([]int, 31) },
		"parameters": func(p *program.Program) { p.Funcs[3].Params = make([]int, 7) },
		"arguments":  func(p *program.Program) { p.Ops[14].Args = make([]int, 7) },
		"ops":        func(p *program.Program) { p.Ops = append(p.Ops, make([]program.Op, 301-len(p.Ops))...) },
	} {
		p := whole()
		more(&p)
		notSolved(t, what, p, api.ErrBig)
		p.Objs = -1
		if what != "things" && what != "far more" {
			notSolved(t, what+", and things below 0", p, api.ErrBig)
		}
	}
}

// Of any program, one of whose numbers is any, Solve's error is Check's.
func TestErrorsAreThoseOfCheck(t *testing.T) {
	r := random(3)
	seen := map[api.Errno]int{}
	for range 6000 {
		p := few(&r)
		at := []*int{&p.Vars, &p.Objs, &p.Fields}
		for i := range p.Ops {
			o := &p.Ops[i]
			at = append(at, &o.Kind, &o.In, &o.A, &o.B, &o.C)
		}
		for i := range p.Funcs {
			at = append(at, &p.Funcs[i].Ret)
		}
		*at[r.pick(len(at))] = []int{-2, -1, 0, 1, 2, 5, 200, 201}[r.pick(8)]
		e := p.Check()
		seen[e]++
		if e == api.OK {
			solves(t, "any", p, "")
		} else {
			notSolved(t, "any", p, e)
		}
	}
	if min(seen[api.OK], seen[api.ErrProgram], seen[api.ErrBig]) < 20 {
		t.Errorf("too few of some: %v", seen)
	}
}

// shuffled: the ops in another order, and where each of them was.
func shuffled(r *random, p program.Program) (program.Program, []int) {
	was := make([]int, len(p.Ops))
	ops := slices.Clone(p.Ops)
	for i := range ops {
		was[i] = i
	}
	for i := range ops {
		j := i + r.pick(len(ops)-i)
		ops[i], ops[j] = ops[j], ops[i]
		was[i], was[j] = was[j], was[i]
	}
	p.Ops = ops
	return p, was
}

// renamed: a solution whose ops have other numbers.
func renamed(s solve.Solution, name func(op int) int) solve.Solution {
	s.Edges = slices.Clone(s.Edges)
	for i, e := range s.Edges {
		s.Edges[i].Op = name(e.Op)
	}
	slices.SortFunc(s.Edges, func(a, b solve.Edge) int { return slices.Compare([]int{a.Op, a.Func}, []int{b.Op, b.Func}) })
	return s
}

// solution: that of a program that may be.
func solution(t *testing.T, p program.Program) solve.Solution {
	t.Helper()
	s, e := solve.Solve(p)
	if e != api.OK {
		t.Fatalf("P18.2: %d of %v", e, p)
	}
	return s
}

func TestOpsInAnotherOrder(t *testing.T) {
	r := random(11)
	for i := range 2000 {
		p := few(&r)
		if i%40 == 0 {
			p = anyProgram(&r, api.MaxVars, api.MaxObjs, api.MaxFields, api.MaxFuncs, api.MaxOps)
		}
		s := solution(t, p)
		for range 3 {
			q, was := shuffled(&r, p)
			other := renamed(solution(t, q), func(op int) int { return was[op] })
			if text(other) != text(s) || !solve.Same(other, s) {
				t.Fatalf("P18.2: %v\nis %v\nnot %v", q, other, s)
			}
		}
	}
}

func TestOpsTwice(t *testing.T) {
	r := random(12)
	for range 2000 {
		p := few(&r)
		s := solution(t, p)
		n := len(p.Ops)
		q := p
		q.Ops = append(slices.Clone(p.Ops), p.Ops...)
		twice := solution(t, q)
		for i := range n {
			if !slices.Equal(twice.Calls(i), s.Calls(i)) || !slices.Equal(twice.Calls(n+i), s.Calls(i)) {
				t.Fatalf("P18.2: %v calls %v, not %v", q.Ops[i], twice.Calls(i), s.Calls(i))
			}
		}
		if len(twice.Edges) != 2*len(s.Edges) {
			t.Fatalf("P18.2: %v, not %v twice", twice.Edges, s.Edges)
		}
		twice.Edges = s.Edges
		if text(twice) != text(s) {
			t.Fatalf("P18.2: %v\nis %v\nnot %v", q, twice, s)
		}
	}
}

// isWithin: is all of one solution in another one, of the same program with
// more ops?
func isWithin(s, more solve.Solution) bool {
	for v, set := range s.Vars {
		if !ids.Within(set, more.Vars[v]) {
			return false
		}
	}
	for _, c := range s.Cells {
		if !ids.Within(c.Set, more.Field(c.Obj, c.Field)) {
			return false
		}
	}
	for _, e := range s.Edges {
		if !ids.Has(more.Calls(e.Op), e.Func) {
			return false
		}
	}
	return ids.Within(s.Reach, more.Reach)
}

func TestAnOpMore(t *testing.T) {
	r := random(13)
	grew := 0
	for range 2000 {
		p := few(&r)
		more := solution(t, p)
		at := r.pick(len(p.Ops))
		q := p
		q.Ops = slices.Delete(slices.Clone(p.Ops), at, at+1)
		s := renamed(solution(t, q), func(op int) int {
			if op >= at {
				return op + 1
			}
			return op
		})
		if !isWithin(s, more) {
			t.Fatalf("P18.2: %v\nis %v\nand without op %d %v", p, more, at, s)
		}
		if text(s) != text(more) {
			grew++
		}
	}
	if grew < 200 {
		t.Errorf("an op more made more only %d times", grew)
	}
}

// Program by program that grows, op by op: what is told never becomes less.
func TestOpsOneByOne(t *testing.T) {
	r := random(14)
	for range 20 {
		p := anyProgram(&r, 30, 10, 3, 8, 80)
		var before solve.Solution
		for n := range len(p.Ops) + 1 {
			q := p
			q.Ops = p.Ops[:n]
			s := solves(t, "op by op", q, "")
			if !isWithin(before, s) {
				t.Fatalf("P18.2: %v\nis %v\nand without its last op %v", q, s, before)
			}
			before = s
		}
	}
}
