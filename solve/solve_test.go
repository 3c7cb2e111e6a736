package solve_test

import (
	"math"
	"testing"

	"dowser/api"
	"dowser/program"
)

func alloc(in, a, thing int) program.Op {
	return program.Op{Kind: program.Alloc, In: in, A: a, B: thing}
}

func same(in, a, b int) program.Op { return program.Op{Kind: program.Copy, In: in, A: a, B: b} }

func load(in, a, b, field int) program.Op {
	return program.Op{Kind: program.Load, In: in, A: a, B: b, C: field}
}

func store(in, a, field, b int) program.Op {
	return program.Op{Kind: program.Store, In: in, A: a, B: b, C: field}
}

func addr(in, a, f int) program.Op { return program.Op{Kind: program.Addr, In: in, A: a, B: f} }

func call(in, a, f int, args ...int) program.Op {
	return program.Op{Kind: program.Call, In: in, A: a, B: f, Args: args, Heat: 0.5}
}

func via(in, a, b int, args ...int) program.Op {
	return program.Op{Kind: program.Via, In: in, A: a, B: b, Args: args, Heat: math.NaN()}
}

func fun(ret int, params ...int) program.Func { return program.Func{Ret: ret, Params: params} }

// funcs: so many, without anything.
func funcs(n int) []program.Func {
	l := make([]program.Func, n)
	for i := range l {
		l[i].Ret = api.None
	}
	return l
}

// with: a program that enters function 0 alone.
func with(vars, objs, fields int, funcs []program.Func, ops ...program.Op) program.Program {
	return program.Program{Vars: vars, Objs: objs, Fields: fields, Funcs: funcs, Entry: []int{0}, Ops: ops}
}

// example is a program, and its least solution.
type example struct {
	what string
	p    program.Program
	want string // variables, cells, edges, reach
}

func hold(t *testing.T, examples ...example) {
	t.Helper()
	for _, x := range examples {
		solves(t, x.what, x.p, x.want)
	}
}

func TestWithoutMuch(t *testing.T) {
	notEntered := with(2, 2, 1, funcs(1), alloc(0, 0, 1), same(0, 1, 0), addr(0, 1, 0), store(0, 0, 0, 1), call(0, 0, 0), via(0, 0, 1))
	notEntered.Entry = nil
	all := program.Program{Vars: 1, Objs: 1, Funcs: funcs(30)}
	for f := range 30 {
		all.Entry = append(all.Entry, f)
	}
	hold(t,
		example{"without anything", program.Program{}, "{[] [] [] []}"},
		example{"with empty lists", program.Program{Funcs: []program.Func{}, Entry: []int{}, Ops: []program.Op{}}, "{[] [] [] []}"},
		example{"variables, things and fields alone", program.Program{Vars: 3, Objs: 2, Fields: 2}, "{[[] [] []] [] [] []}"},
		example{"functions alone", program.Program{Vars: 1, Funcs: funcs(3)}, "{[[]] [] [] []}"},
		example{"nothing entered", notEntered, "{[[] []] [] [] []}"},
		example{"entered, but without ops", program.Program{Funcs: funcs(4), Entry: []int{1, 3}}, "{[] [] [] [1 3]}"},
		example{"all entered", all, "{[[]] [] [] [0 1 2 3 4 5 6 7 8 9 10 11 12 13 14 15 16 17 18 19 20 21 22 23 24 25 26 27 28 29]}"},
	)
}

func TestEachKindAlone(t *testing.T) {
	two := []program.Func{fun(2, 3), fun(1, 2, 0)}
	hold(t,
		example{"Alloc", with(4, 3, 2, two, alloc(0, 1, 2)), "{[[] [2] [] []] [] [] [0]}"},
		example{"Copy", with(4, 3, 2, two, same(0, 1, 2)), "{[[] [] [] []] [] [] [0]}"},
		example{"Copy of itself", with(4, 3, 2, two, same(0, 1, 1)), "{[[] [] [] []] [] [] [0]}"},
		example{"Load", with(4, 3, 2, two, load(0, 1, 2, 0)), "{[[] [] [] []] [] [] [0]}"},
		example{"Store", with(4, 3, 2, two, store(0, 1, 0, 2)), "{[[] [] [] []] [] [] [0]}"},
		example{"Addr", with(4, 3, 2, two, addr(0, 1, 1)), "{[[] [4] [] []] [] [] [0]}"},
		example{"Addr of the function it is in", with(4, 3, 2, two, addr(0, 3, 0)), "{[[] [] [] [3]] [] [] [0]}"},
		example{"Addr where there are no things", with(1, 0, 0, funcs(2), addr(0, 0, 1)), "{[[1]] [] [] [0]}"},
		example{"Call", with(4, 3, 2, two, call(0, 1, 1, 2, 3)), "{[[] [] [] []] [] [{0 1}] [0 1]}"},
		example{"Via", with(4, 3, 2, two, via(0, 1, 2, 3)), "{[[] [] [] []] [] [] [0]}"},
	)
}

func TestAllocAndCopy(t *testing.T) {
	one := funcs(1)
	hold(t,
		example{"the example", with(2, 4, 0, one, alloc(0, 0, 3), same(0, 1, 0)), "{[[3] [3]] [] [] [0]}"},
		example{"Copy ahead", with(2, 4, 0, one, same(0, 1, 0), alloc(0, 0, 3)), "{[[3] [3]] [] [] [0]}"},
		example{"two Allocs of a variable", with(1, 4, 0, one, alloc(0, 0, 3), alloc(0, 0, 1)), "{[[1 3]] [] [] [0]}"},
		example{"a thing twice", with(2, 1, 0, one, alloc(0, 0, 0), alloc(0, 1, 0)), "{[[0] [0]] [] [] [0]}"},
		example{"Alloc and Addr", with(1, 3, 0, one, addr(0, 0, 0), alloc(0, 0, 1)), "{[[1 3]] [] [] [0]}"},
		example{"Copy isn't the other way round", with(2, 2, 0, one, alloc(0, 0, 0), alloc(0, 1, 1), same(0, 1, 0)), "{[[0] [0 1]] [] [] [0]}"},
		example{"Copies of two", with(3, 2, 0, one, same(0, 2, 0), same(0, 2, 1), alloc(0, 0, 1), alloc(0, 1, 0)), "{[[1] [0] [0 1]] [] [] [0]}"},
		example{"a Copy twice", with(2, 1, 0, one, same(0, 1, 0), same(0, 1, 0), alloc(0, 0, 0)), "{[[0] [0]] [] [] [0]}"},
	)
}

func TestStoreAndLoad(t *testing.T) {
	one := funcs(1)
	hold(t,
		example{"Store", with(2, 2, 3, one, alloc(0, 0, 1), alloc(0, 1, 0), store(0, 0, 2, 1)), "{[[1] [0]] [{1 2 [0]}] [] [0]}"},
		example{"Store ahead", with(2, 2, 3, one, store(0, 0, 2, 1), alloc(0, 0, 1), alloc(0, 1, 0)), "{[[1] [0]] [{1 2 [0]}] [] [0]}"},
		example{"Store into itself", with(1, 1, 1, one, store(0, 0, 0, 0), alloc(0, 0, 0)), "{[[0]] [{0 0 [0]}] [] [0]}"},
		example{"Store into two things", with(2, 3, 1, one, alloc(0, 0, 2), alloc(0, 0, 0), alloc(0, 1, 1), store(0, 0, 0, 1)), "{[[0 2] [1]] [{0 0 [1]} {2 0 [1]}] [] [0]}"},
		example{"Store into a function's field", with(2, 1, 2, one, addr(0, 0, 0), alloc(0, 1, 0), store(0, 0, 1, 1)), "{[[1] [0]] [{1 1 [0]}] [] [0]}"},
		example{"Store of nothing", with(2, 1, 1, one, alloc(0, 0, 0), store(0, 0, 0, 1)), "{[[0] []] [] [] [0]}"},
		example{"Load", with(3, 2, 3, one, alloc(0, 0, 1), alloc(0, 1, 0), store(0, 0, 2, 1), load(0, 2, 0, 2)), "{[[1] [0] [0]] [{1 2 [0]}] [] [0]}"},
		example{"Load ahead", with(3, 2, 3, one, load(0, 2, 0, 2), store(0, 0, 2, 1), alloc(0, 1, 0), alloc(0, 0, 1)), "{[[1] [0] [0]] [{1 2 [0]}] [] [0]}"},
		example{"Load of another field", with(3, 2, 3, one, alloc(0, 0, 1), alloc(0, 1, 0), store(0, 0, 2, 1), load(0, 2, 0, 1)), "{[[1] [0] []] [{1 2 [0]}] [] [0]}"},
		example{"Load of another thing", with(3, 2, 3, one, alloc(0, 0, 1), alloc(0, 1, 0), store(0, 0, 2, 1), load(0, 2, 1, 2)), "{[[1] [0] []] [{1 2 [0]}] [] [0]}"},
		example{"Load by another variable", with(4, 2, 1, one, alloc(0, 0, 1), same(0, 3, 0), alloc(0, 1, 0), store(0, 0, 0, 1), load(0, 2, 3, 0)), "{[[1] [0] [0] [1]] [{1 0 [0]}] [] [0]}"},
		example{"Load of a function's field", with(2, 1, 2, one, addr(0, 0, 0), store(0, 0, 1, 0), load(0, 1, 0, 1)), "{[[1] [1]] [{1 1 [1]}] [] [0]}"},
		example{"Load into itself", with(2, 2, 1, one, alloc(0, 0, 0), alloc(0, 1, 1), store(0, 0, 0, 1), load(0, 0, 0, 0)), "{[[0 1] [1]] [{0 0 [1]} {1 0 [1]}] [] [0]}"},
	)
}

func TestCallAndVia(t *testing.T) {
	two := []program.Func{fun(2, 3), fun(1, 2, 0)}
	hold(t,
		example{"Call", with(5, 2, 1, two, alloc(0, 3, 1), alloc(0, 4, 0), call(0, 4, 1, 3, 4), alloc(1, 1, 1)), "{[[0 1] [1] [1] [1] [0 1]] [] [{2 1}] [0 1]}"},
		example{"Call ahead", with(5, 2, 1, two, alloc(1, 1, 1), call(0, 4, 1, 3, 4), alloc(0, 4, 0), alloc(0, 3, 1)), "{[[0 1] [1] [1] [1] [0 1]] [] [{1 1}] [0 1]}"},
		example{"Via", with(5, 2, 1, two, addr(0, 3, 1), alloc(0, 4, 0), via(0, 4, 3, 3, 4), alloc(1, 1, 1)), "{[[0 1] [1] [3] [3] [0 1]] [] [{2 1}] [0 1]}"},
		example{"Via ahead", with(5, 2, 1, two, via(0, 4, 3, 3, 4), alloc(1, 1, 1), alloc(0, 4, 0), addr(0, 3, 1)), "{[[0 1] [1] [3] [3] [0 1]] [] [{0 1}] [0 1]}"},
		example{"Via of things of no functions", with(5, 3, 1, two, alloc(0, 3, 0), alloc(0, 3, 2), via(0, 4, 3, 3)), "{[[] [] [] [0 2] []] [] [] [0]}"},
		example{"Via of things of both sorts", with(5, 3, 1, two, alloc(0, 3, 2), addr(0, 3, 1), via(0, 4, 3)), "{[[] [] [] [2 4] []] [] [{2 1}] [0 1]}"},
		example{"Via of what an answer is", with(2, 0, 0, []program.Func{fun(api.None), fun(1), fun(api.None)}, call(0, 0, 1), via(0, api.None, 0), addr(1, 1, 2)), "{[[2] [2]] [] [{0 1} {1 2}] [0 1 2]}"},
		example{"the same function in two ways", with(3, 1, 0, []program.Func{fun(api.None), fun(0, 0)}, alloc(0, 1, 0), addr(0, 2, 1), call(0, 1, 1, 1), via(0, 2, 2, 2)), "{[[0 2] [0 2] [0 2]] [] [{2 1} {3 1}] [0 1]}"},
	)
}

// What isn't reached says nothing, even where all else would follow of it.
func TestFunctionsNotReached(t *testing.T) {
	three := []program.Func{fun(api.None), fun(0, 1), fun(1, 0)}
	hold(t,
		example{"Alloc in one", with(2, 1, 0, three, alloc(1, 0, 0)), "{[[] []] [] [] [0]}"},
		example{"its thing is there, but nobody calls it", with(2, 1, 0, three, addr(0, 0, 1), alloc(1, 1, 0)), "{[[2] []] [] [] [0]}"},
		example{"one that calls itself", with(2, 1, 0, three, call(1, 0, 1), alloc(1, 0, 0)), "{[[] []] [] [] [0]}"},
		example{"two that call one another", with(2, 1, 0, three, call(1, 0, 2, 1), call(2, 0, 1, 1), alloc(2, 0, 0)), "{[[] []] [] [] [0]}"},
		example{"one reached by another one alone", with(2, 1, 0, three, call(0, api.None, 1), call(1, api.None, 2), alloc(2, 0, 0)), "{[[0] []] [] [{0 1} {1 2}] [0 1 2]}"},
		example{"one reached by a Via alone", with(2, 1, 0, three, addr(0, 0, 2), via(0, api.None, 0), alloc(2, 1, 0), alloc(1, 0, 0)), "{[[3] [0]] [] [{1 2}] [0 2]}"},
		example{"a Via of nothing", with(2, 1, 0, three, via(0, 0, 1), addr(1, 1, 1), alloc(1, 0, 0)), "{[[] []] [] [] [0]}"},
		example{"a Via in one that is not reached", with(2, 1, 0, three, addr(0, 0, 2), via(1, 1, 0)), "{[[3] []] [] [] [0]}"},
	)
	p := with(2, 1, 0, three, alloc(0, 0, 0), alloc(2, 1, 0), call(2, 0, 1))
	p.Entry = []int{2}
	solves(t, "the first isn't entered", p, "{[[] [0]] [] [{2 1}] [1 2]}")
}

func TestArgsAndParams(t *testing.T) {
	args := []program.Op{alloc(0, 0, 0), alloc(0, 1, 1), alloc(0, 2, 2)}
	of := func(called program.Func, o program.Op) program.Program {
		return with(7, 3, 0, []program.Func{fun(api.None), called}, append(args[:3:3], addr(0, 6, 1), o)...)
	}
	for name, o := range map[string]program.Op{"Call": call(0, 5, 1, 0, 1), "Via": via(0, 5, 6, 0, 1)} {
		hold(t,
			example{name + ": as many", of(fun(api.None, 3, 4), o), "{[[0] [1] [2] [0] [1] [] [4]] [] [{4 1}] [0 1]}"},
			example{name + ": fewer parameters", of(fun(api.None, 4), o), "{[[0] [1] [2] [] [0] [] [4]] [] [{4 1}] [0 1]}"},
			example{name + ": no parameters", of(fun(api.None), o), "{[[0] [1] [2] [] [] [] [4]] [] [{4 1}] [0 1]}"},
			example{name + ": more parameters", of(fun(api.None, 3, 4, 5), o), "{[[0] [1] [2] [0] [1] [] [4]] [] [{4 1}] [0 1]}"},
			example{name + ": a parameter twice", of(fun(api.None, 3, 3), o), "{[[0] [1] [2] [0 1] [] [] [4]] [] [{4 1}] [0 1]}"},
			example{name + ": an argument is the parameter", of(fun(api.None, 0, 0), o), "{[[0 1] [1] [2] [] [] [] [4]] [] [{4 1}] [0 1]}"},
			example{name + ": changed about", of(fun(api.None, 1, 0), o), "{[[0 1] [0 1] [2] [] [] [] [4]] [] [{4 1}] [0 1]}"},
			example{name + ": an answer", of(fun(2), o), "{[[0] [1] [2] [] [] [2] [4]] [] [{4 1}] [0 1]}"},
			example{name + ": a parameter is the answer", of(fun(4, 3, 4), o), "{[[0] [1] [2] [0] [1] [1] [4]] [] [{4 1}] [0 1]}"},
			example{name + ": the answer goes where it comes from", of(fun(5, 5), o), "{[[0] [1] [2] [] [] [0] [4]] [] [{4 1}] [0 1]}"},
		)
		o.A = api.None
		hold(t,
			example{name + ": the answer goes nowhere", of(fun(2, 3), o), "{[[0] [1] [2] [0] [] [] [4]] [] [{4 1}] [0 1]}"},
			example{name + ": neither of both", of(fun(api.None, 3), o), "{[[0] [1] [2] [0] [] [] [4]] [] [{4 1}] [0 1]}"},
		)
		o.A, o.Args = 5, []int{2, 2, 1, 0, 0, 1}
		hold(t,
			example{name + ": an argument twice", of(fun(api.None, 3, 4), o), "{[[0] [1] [2] [2] [2] [] [4]] [] [{4 1}] [0 1]}"},
			example{name + ": as many as may be", of(fun(4, 3, 3, 3, 4, 3, 4), o), "{[[0] [1] [2] [0 1 2] [0 1] [0 1] [4]] [] [{4 1}] [0 1]}"},
		)
	}
}

func TestFunctionsThatCallThemselves(t *testing.T) {
	self := []program.Func{fun(1, 0), fun(3, 2)}
	hold(t,
		example{"itself", with(4, 2, 0, self, call(0, 1, 0, 1), alloc(0, 1, 1)), "{[[1] [1] [] []] [] [{0 0}] [0]}"},
		example{"itself by a Via", with(4, 2, 0, self, addr(0, 1, 0), via(0, 1, 1, 1)), "{[[2] [2] [] []] [] [{1 0}] [0]}"},
		example{"itself with its parameter", with(4, 2, 0, self, alloc(0, 0, 0), call(0, 1, 0, 0), same(0, 1, 0)), "{[[0] [0] [] []] [] [{1 0}] [0]}"},
		example{"one another", with(4, 2, 0, self, alloc(0, 0, 0), call(0, 1, 1, 0), alloc(1, 3, 1), call(1, 3, 0, 3)), "{[[0 1] [1] [0 1] [1]] [] [{1 1} {3 0}] [0 1]}"},
		example{"itself in two ways", with(4, 2, 0, self, addr(0, 2, 0), via(0, 2, 2, 1), call(0, api.None, 0, 2)), "{[[2] [] [2] []] [] [{1 0} {2 0}] [0]}"},
	)
}

// Of a Via that is worked on more functions become known: by its own answer,
// by its own argument, by a field, by what it is that reaches them.
func TestViaOfMoreAndMore(t *testing.T) {
	hold(t,
		example{"by its answer", with(2, 0, 0, []program.Func{fun(api.None), fun(1), fun(0)}, addr(0, 0, 1), via(0, 0, 0), addr(1, 1, 2)), "{[[1 2] [2]] [] [{1 1} {1 2}] [0 1 2]}"},
		example{"one by one", with(5, 0, 0, []program.Func{fun(api.None), fun(1), fun(2), fun(3), fun(4)},
			via(0, 0, 0), addr(3, 3, 4), addr(2, 2, 3), addr(1, 1, 2), addr(0, 0, 1)),
			"{[[1 2 3 4] [2] [3] [4] []] [] [{0 1} {0 2} {0 3} {0 4}] [0 1 2 3 4]}"},
		example{"by its argument", with(2, 0, 0, []program.Func{fun(api.None), fun(api.None, 0), fun(api.None, 0)}, addr(0, 0, 1), addr(0, 1, 2), via(0, api.None, 0, 1)), "{[[1 2] [2]] [] [{2 1} {2 2}] [0 1 2]}"},
		example{"by a field", with(3, 1, 1, []program.Func{fun(api.None), fun(api.None, 2), fun(api.None)},
			alloc(0, 0, 0), addr(0, 1, 1), store(0, 0, 0, 1), load(0, 1, 0, 0), via(0, api.None, 1, 0), addr(1, 2, 2), store(1, 2, 0, 2)),
			"{[[0] [0 2 3] [0 3]] [{0 0 [0 2 3]} {3 0 [0 3]}] [{4 1} {4 2}] [0 1 2]}"},
	)
}
