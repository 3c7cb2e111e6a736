package program_test

import (
	"math"
	"slices"
	"testing"

	"dowser/api"
	"dowser/program"
)

// random is numbers by a fixed rule.
type random uint64

func (r *random) pick(n int) int {
	*r = *r*6364136223846793005 + 1442695040888963407
	return int(uint64(*r) >> 33 % uint64(n))
}

// whole: a program with something of everything, made anew each time. It has
// other numbers of variables, things, fields and functions.
func whole() program.Program {
	return program.Program{
		Vars: 6, Objs: 4, Fields: 2,
		Funcs: []program.Func{{Params: []int{0, 5}, Ret: 2}, {Ret: api.None}, {Params: []int{3, 3, 1}, Ret: 0}},
		Entry: []int{0, 2},
		Ops: []program.Op{
			{Kind: program.Alloc, In: 1, A: 5, B: 3},
			{Kind: program.Copy, In: 2, A: 4, B: 5},
			{Kind: program.Load, In: 0, A: 3, B: 4, C: 1},
			{Kind: program.Store, In: 1, A: 2, B: 3, C: 1},
			{Kind: program.Addr, In: 2, A: 1, B: 2},
			{Kind: program.Call, In: 0, A: 3, B: 2, Args: []int{1, 0, 5}, Heat: 2.5},
			{Kind: program.Via, In: 1, A: api.None, B: 2, Args: []int{4, 4}, Heat: math.NaN()},
		},
	}
}

// funcs: so many, without anything.
func funcs(n int) []program.Func {
	l := make([]program.Func, n)
	for i := range l {
		l[i].Ret = api.None
	}
	return l
}

// upTo: 0, 1, .. below n.
func upTo(n int) []int {
	var l []int
	for i := range n {
		l = append(l, i)
	}
	return l
}

// change is one thing that is done with a program.
type change struct {
	name string
	do   func(p *program.Program)
}

func (c change) on(p program.Program) program.Program {
	c.do(&p)
	return p
}

func TestKinds(t *testing.T) {
	kinds := []int{program.Alloc, program.Copy, program.Load, program.Store, program.Addr, program.Call, program.Via}
	if !slices.Equal(kinds, []int{1, 2, 3, 4, 5, 6, 7}) {
		t.Errorf("P15.1: the kinds are %v", kinds)
	}
}

func TestThings(t *testing.T) {
	p := whole()
	if n := p.Things(); n != 7 {
		t.Errorf("P15.1: Things: %d, not 7", n)
	}
	for f := range p.Funcs {
		if x := p.Thing(f); x != 4+f {
			t.Errorf("P15.1: Thing of %d: %d", f, x)
		}
		if g, is := p.Function(4 + f); g != f || !is {
			t.Errorf("P15.1: Function of %d: %d, %t, not %d", 4+f, g, is, f)
		}
	}
	for _, x := range []int{math.MinInt, -5, -4, -1, 0, 1, 3, 7, 8, 11, 200, math.MaxInt - 1, math.MaxInt} {
		if f, is := p.Function(x); f != 0 || is {
			t.Errorf("P15.1: Function of %d: %d, %t, but it is a thing of none", x, f, is)
		}
	}
	// Of what is no function, too: Objs and that number.
	for f, want := range map[int]int{-5: -1, -1: 3, 3: 7, 30: 34} {
		if x := p.Thing(f); x != want {
			t.Errorf("P15.1: Thing of %d: %d, not %d", f, x, want)
		}
	}
	var none program.Program
	if none.Things() != 0 || none.Thing(0) != 0 {
		t.Errorf("P15.1: of the program without anything: %d things", none.Things())
	}
	for _, x := range []int{-1, 0, 1} {
		if f, is := none.Function(x); f != 0 || is {
			t.Errorf("P15.1: without anything, Function of %d: %d, %t", x, f, is)
		}
	}
}

func TestThingsWithoutObjects(t *testing.T) {
	p := program.Program{Funcs: funcs(2)}
	if p.Things() != 2 || p.Thing(0) != 0 || p.Thing(1) != 1 {
		t.Errorf("P15.1: %d things", p.Things())
	}
	for x, want := range map[int]bool{-1: false, 0: true, 1: true, 2: false} {
		if f, is := p.Function(x); is != want || f != max(x, 0)%2 {
			t.Errorf("P15.1: Function of %d: %d, %t", x, f, is)
		}
	}
	p = program.Program{Objs: 3}
	for x := range 5 {
		if f, is := p.Function(x); f != 0 || is {
			t.Errorf("P15.1: without functions, Function of %d: %d, %t", x, f, is)
		}
	}
}

// Of what can't be, too: each call answers, and no thing comes round to a
// function's.
func TestThingsOfWhatMayNotBe(t *testing.T) {
	ends := []int{math.MinInt, math.MinInt + 1, -3, -1, 0, 1, 3, math.MaxInt - 1, math.MaxInt}
	for _, objs := range ends {
		p := program.Program{Objs: objs, Funcs: funcs(3)}
		p.Things()
		for _, x := range ends {
			p.Thing(x)
			f, is := p.Function(x)
			// Where x is Objs and f, no sum is too great for an int.
			want := 0 <= f && f < 3 && x >= objs && x-f == objs
			if is && !want || !is && f != 0 {
				t.Errorf("P15.1: with %d things, Function of %d: %d, %t", objs, x, f, is)
			}
		}
	}
}

// unlike: changes of the whole program, each at one place.
func unlike() []change {
	all := []change{
		{"Vars", func(p *program.Program) { p.Vars++ }},
		{"Objs", func(p *program.Program) { p.Objs++ }},
		{"Fields", func(p *program.Program) { p.Fields++ }},
		{"Vars below 0", func(p *program.Program) { p.Vars = -p.Vars }},
		{"a function more", func(p *program.Program) { p.Funcs = append(p.Funcs, program.Func{}) }},
		{"a function less", func(p *program.Program) { p.Funcs = p.Funcs[:2] }},
		{"no functions", func(p *program.Program) { p.Funcs = nil }},
		{"functions in another order", func(p *program.Program) { slices.Reverse(p.Funcs) }},
		{"a first parameter", func(p *program.Program) { p.Funcs[0].Params[0]++ }},
		{"a last parameter", func(p *program.Program) { p.Funcs[2].Params[2]++ }},
		{"a parameter more", func(p *program.Program) { p.Funcs[1].Params = []int{0} }},
		{"a parameter less", func(p *program.Program) { p.Funcs[0].Params = []int{0} }},
		{"no parameters", func(p *program.Program) { p.Funcs[2].Params = nil }},
		{"Ret", func(p *program.Program) { p.Funcs[0].Ret = 1 }},
		{"Ret of the last", func(p *program.Program) { p.Funcs[2].Ret = api.None }},
		{"Ret of one with none", func(p *program.Program) { p.Funcs[1].Ret = 0 }},
		{"an entry more", func(p *program.Program) { p.Entry = append(p.Entry, 2) }},
		{"an entry less", func(p *program.Program) { p.Entry = p.Entry[:1] }},
		{"no entry", func(p *program.Program) { p.Entry = nil }},
		{"another first entry", func(p *program.Program) { p.Entry[0] = 1 }},
		{"another last entry", func(p *program.Program) { p.Entry[1] = 1 }},
		{"entries in another order", func(p *program.Program) { slices.Reverse(p.Entry) }},
		{"an op more", func(p *program.Program) { p.Ops = append(p.Ops, p.Ops[6]) }},
		{"an op less", func(p *program.Program) { p.Ops = p.Ops[:6] }},
		{"no ops", func(p *program.Program) { p.Ops = nil }},
		{"ops in another order", func(p *program.Program) { slices.Reverse(p.Ops) }},
	}
	for i := range whole().Ops {
		all = append(all,
			change{"Kind of an op", func(p *program.Program) { p.Ops[i].Kind += 7 }},
			change{"In of an op", func(p *program.Program) { p.Ops[i].In += 3 }},
			change{"A of an op", func(p *program.Program) { p.Ops[i].A += 9 }},
			change{"B of an op", func(p *program.Program) { p.Ops[i].B -= 9 }},
			change{"C of an op", func(p *program.Program) { p.Ops[i].C -= 4 }},
			change{"an op's A for its B", func(p *program.Program) { p.Ops[i].A, p.Ops[i].B = p.Ops[i].B, p.Ops[i].A }},
			change{"an op's Args", func(p *program.Program) { p.Ops[i].Args = append(p.Ops[i].Args, 0) }},
			change{"an op's other Args", func(p *program.Program) { p.Ops[i].Args = []int{1, 0, 4} }},
			change{"an op's Heat", func(p *program.Program) { p.Ops[i].Heat = 3 }},
			change{"an op's Heat, the 0 with a sign", func(p *program.Program) { p.Ops[i].Heat = math.Copysign(0, -1) }},
			change{"an op's Heat, without end", func(p *program.Program) { p.Ops[i].Heat = math.Inf(-1) }},
		)
	}
	return all
}

// Two that are changed at the same place in the same way are alike again.
func TestSameOfWhatIsUnlikeInOnePlace(t *testing.T) {
	for i, c := range unlike() {
		p, q := whole(), c.on(whole())
		if program.Same(p, q) || program.Same(q, p) {
			t.Errorf("P15.2: the Same, though unlike in %d: %s", i, c.name)
		}
		if !program.Same(q, c.on(whole())) || !program.Same(q, q.Clone()) {
			t.Errorf("P15.2: not the Same with itself behind %d: %s", i, c.name)
		}
	}
}

func TestSameOfNoneAndEmpty(t *testing.T) {
	none := program.Program{Funcs: []program.Func{{}}, Ops: []program.Op{{}}}
	empty := program.Program{Funcs: []program.Func{{Params: []int{}}}, Entry: []int{}, Ops: []program.Op{{Args: []int{}}}}
	if !program.Same(none, empty) || !program.Same(empty, none) {
		t.Errorf("P15.2: empty Params, Entry, Args aren't the Same as none")
	}
	empty = program.Program{Funcs: []program.Func{}, Ops: []program.Op{}}
	if !program.Same(program.Program{}, empty) || !program.Same(empty, program.Program{}) {
		t.Errorf("P15.2: empty Funcs, Ops aren't the Same as none")
	}
}

// heats: of each kind that there is, no two alike.
func heats() []float64 {
	return []float64{math.NaN(), math.Inf(-1), -math.MaxFloat64, -1, -math.SmallestNonzeroFloat64, math.Copysign(0, -1),
		0, math.SmallestNonzeroFloat64, 1, math.Nextafter(1, 2), 1e300, math.MaxFloat64, math.Inf(1)}
}

// none: all kinds of no number that a test needs.
func none() []float64 {
	var l []float64
	for _, bits := range []uint64{0x7ff8000000000001, 0x7ff8000000000000, 0xfff8000000000001, 0x7ff0000000000001, 0xffffffffffffffff, 0x7fffffffffffffff} {
		l = append(l, math.Float64frombits(bits))
	}
	return l
}

func TestSameOfHeats(t *testing.T) {
	with := func(x float64) program.Program {
		p := whole()
		p.Ops[5].Heat = x
		return p
	}
	for i, x := range heats() {
		for j, y := range heats() {
			if program.Same(with(x), with(y)) != (i == j) {
				t.Errorf("P15.2: Same with the heats %g and %g", x, y)
			}
		}
	}
	for _, x := range none() {
		for _, y := range none() {
			if !program.Same(with(x), with(y)) {
				t.Errorf("P15.2: %x and %x are no numbers, and so alike", math.Float64bits(x), math.Float64bits(y))
			}
		}
	}
}

// justAlike: none stays none, and empty empty; heats bit by bit.
func justAlike(a, b program.Program) bool {
	if !program.Same(a, b) || !alikeLists(a.Entry, b.Entry) || (a.Funcs == nil) != (b.Funcs == nil) || (a.Ops == nil) != (b.Ops == nil) {
		return false
	}
	for i := range a.Funcs {
		if !alikeLists(a.Funcs[i].Params, b.Funcs[i].Params) {
			return false
		}
	}
	for i, o := range a.Ops {
		if !alikeLists(o.Args, b.Ops[i].Args) || math.Float64bits(o.Heat) != math.Float64bits(b.Ops[i].Heat) {
			return false
		}
	}
	return true
}

func alikeLists(a, b []int) bool { return slices.Equal(a, b) && (a == nil) == (b == nil) }

func TestClone(t *testing.T) {
	all := append(unlike(), change{"none", func(*program.Program) {}},
		change{"nothing", func(p *program.Program) { *p = program.Program{} }},
		change{"empty lists", func(p *program.Program) {
			*p = program.Program{Funcs: []program.Func{}, Entry: []int{}, Ops: []program.Op{}}
		}},
		change{"empty lists within", func(p *program.Program) {
			p.Funcs[1].Params, p.Ops[0].Args = []int{}, []int{}
		}})
	for _, x := range append(heats(), none()...) {
		all = append(all, change{"a heat", func(p *program.Program) { p.Ops[5].Heat = x }})
	}
	for _, c := range all {
		p := c.on(whole())
		if q := p.Clone(); !justAlike(p, q) {
			t.Errorf("P15.2: %s: %v is cloned as %v", c.name, p, q)
		}
	}
}

// Whatever is changed in one of them, the other one stays as it was.
func TestCloneSharesNothing(t *testing.T) {
	for _, c := range unlike() {
		p := whole()
		q := p.Clone()
		c.do(&q)
		if !program.Same(p, whole()) {
			t.Errorf("P15.2: %s of a clone is changed, and of what was cloned, too", c.name)
		}
		p = whole()
		q = p.Clone()
		c.do(&p)
		if !program.Same(q, whole()) {
			t.Errorf("P15.2: %s is changed, and of the clone, too", c.name)
		}
	}
}

// wipe: everything that a program's lists hold, spare room too.
func wipe(p program.Program) {
	for _, f := range p.Funcs[:cap(p.Funcs)] {
		clear(f.Params[:cap(f.Params)])
	}
	for _, o := range p.Ops[:cap(p.Ops)] {
		clear(o.Args[:cap(o.Args)])
	}
	clear(p.Funcs[:cap(p.Funcs)])
	clear(p.Entry[:cap(p.Entry)])
	clear(p.Ops[:cap(p.Ops)])
}

func TestCloneSharesNoSpareRoom(t *testing.T) {
	p, short := whole(), whole()
	short.Funcs, short.Entry, short.Ops = short.Funcs[:0], short.Entry[:1], short.Ops[:6]
	short.Ops[5].Args = short.Ops[5].Args[:0]
	q := short.Clone()
	wipe(q)
	short.Funcs, short.Entry, short.Ops = short.Funcs[:3], short.Entry[:2], short.Ops[:7]
	short.Ops[5].Args = short.Ops[5].Args[:3]
	if !program.Same(short, p) {
		t.Errorf("P15.2: spare room was changed: %v", short)
	}
	q = p.Clone()
	wipe(p)
	if !program.Same(q, whole()) {
		t.Errorf("P15.2: what was cloned is changed, and the clone, too: %v", q)
	}
}
