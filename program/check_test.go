package program_test

import (
	"math"
	"slices"
	"testing"

	"dowser/api"
	"dowser/program"
)

// checks: what Check must answer; and it changes nothing.
func checks(t *testing.T, what string, p program.Program, want api.Errno) {
	t.Helper()
	before := p.Clone()
	if e := p.Check(); e != want {
		t.Errorf("P15.1: %s: %d, not %d", what, e, want)
	}
	if !justAlike(p, before) {
		t.Errorf("P15.1: %s: the program was changed", what)
	}
}

func TestWhatMayBe(t *testing.T) {
	checks(t, "without anything", program.Program{}, api.OK)
	checks(t, "with empty lists", program.Program{Funcs: []program.Func{}, Entry: []int{}, Ops: []program.Op{}}, api.OK)
	checks(t, "with something of everything", whole(), api.OK)
	checks(t, "with functions alone", program.Program{Funcs: funcs(3), Entry: []int{0, 1, 2}}, api.OK)
	checks(t, "with variables alone", program.Program{Vars: 3}, api.OK)
	p := whole()
	for i := range p.Ops[:5] {
		p.Ops[i].Args = []int{}
	}
	p.Funcs[1].Params = []int{}
	checks(t, "with empty Args", p, api.OK)
}

// sizes: of each limit what makes a program with so many of it; with as many
// as there may be it may be.
func sizes() map[string]func(p *program.Program, more int) {
	return map[string]func(p *program.Program, more int){
		"variables": func(p *program.Program, more int) { p.Vars = 200 + more },
		"things":    func(p *program.Program, more int) { p.Objs = 60 + more },
		"fields":    func(p *program.Program, more int) { p.Fields = 6 + more },
		"functions": func(p *program.Program, more int) { p.Funcs = append(p.Funcs, funcs(30+more-len(p.Funcs))...) },
		"Entry": func(p *program.Program, more int) {
			p.Funcs = append(p.Funcs, funcs(30-len(p.Funcs))...)
			p.Entry = upTo(30 + more)
		},
		"a first function's parameters": func(p *program.Program, more int) { p.Funcs[0].Params = make([]int, 6+more) },
		"a last function's parameters":  func(p *program.Program, more int) { p.Funcs[2].Params = make([]int, 6+more) },
		"a Call's Args":                 func(p *program.Program, more int) { p.Ops[5].Args = make([]int, 6+more) },
		"a Via's Args":                  func(p *program.Program, more int) { p.Ops[6].Args = make([]int, 6+more) },
		"ops": func(p *program.Program, more int) {
			for len(p.Ops) < 300+more {
				p.Ops = append(p.Ops, p.Ops[len(p.Ops)%5])
			}
		},
	}
}

// excesses: each passes a limit.
func excesses() []change {
	var all []change
	for name, size := range sizes() {
		for _, more := range []int{1, 2, 40} {
			all = append(all, change{name, func(p *program.Program) { size(p, more) }})
		}
	}
	for i := range whole().Ops {
		all = append(all, change{"an op's Args", func(p *program.Program) { p.Ops[i].Args = make([]int, 7) }})
	}
	return append(all,
		change{"variables", func(p *program.Program) { p.Vars = math.MaxInt }},
		change{"things", func(p *program.Program) { p.Objs = math.MaxInt }},
		change{"fields", func(p *program.Program) { p.Fields = math.MaxInt }},
		change{"Entry of a number again and again", func(p *program.Program) { p.Entry = make([]int, 31) }},
		change{"Entry of no functions", func(p *program.Program) { p.Funcs, p.Entry = nil, upTo(31) }},
		change{"Args of an op of no Kind", func(p *program.Program) {
			p.Ops = append(p.Ops, program.Op{Args: make([]int, 7)})
		}},
	)
}

func TestLimits(t *testing.T) {
	together := whole()
	for name, size := range sizes() {
		p := whole()
		size(&p, 0)
		checks(t, "as many as may be: "+name, p, api.OK)
		p = whole()
		size(&p, -1)
		checks(t, "one fewer: "+name, p, api.OK)
		if name != "ops" {
			size(&together, 0)
		}
	}
	sizes()["ops"](&together, 0)
	checks(t, "as many as may be of everything", together, api.OK)
	for _, c := range excesses() {
		checks(t, "too many: "+c.name, c.on(whole()), api.ErrBig)
	}
}

// faults: with each of them a program isn't so, but it passes no limit.
func faults() []change {
	return append(countFaults(), opFaults()...)
}

func countFaults() []change {
	return []change{
		{"variables below 0", func(p *program.Program) { *p = program.Program{Vars: -1} }},
		{"things below 0", func(p *program.Program) { *p = program.Program{Objs: -1} }},
		{"fields below 0", func(p *program.Program) { *p = program.Program{Fields: -1} }},
		{"variables far below 0", func(p *program.Program) { *p = program.Program{Vars: math.MinInt} }},
		{"things far below 0", func(p *program.Program) { *p = program.Program{Objs: math.MinInt} }},
		{"fields far below 0", func(p *program.Program) { *p = program.Program{Fields: math.MinInt} }},
		{"too few variables", func(p *program.Program) { p.Vars-- }},
		{"too few things", func(p *program.Program) { p.Objs-- }},
		{"too few fields", func(p *program.Program) { p.Fields-- }},
		{"too few functions", func(p *program.Program) { p.Funcs = p.Funcs[:2] }},
		{"a first parameter below 0", func(p *program.Program) { p.Funcs[0].Params[0] = -1 }},
		{"a last parameter below 0", func(p *program.Program) { p.Funcs[2].Params[2] = -1 }},
		{"a parameter beyond all", func(p *program.Program) { p.Funcs[2].Params[1] = 6 }},
		{"a parameter far beyond all", func(p *program.Program) { p.Funcs[0].Params[1] = math.MaxInt }},
		{"Ret below None", func(p *program.Program) { p.Funcs[1].Ret = -2 }},
		{"Ret far below None", func(p *program.Program) { p.Funcs[0].Ret = math.MinInt }},
		{"Ret beyond all", func(p *program.Program) { p.Funcs[2].Ret = 6 }},
		{"Ret where there are no variables", func(p *program.Program) { *p = program.Program{Funcs: []program.Func{{}}} }},
		{"a parameter where there are no variables", func(p *program.Program) {
			*p = program.Program{Funcs: []program.Func{{Params: []int{0}, Ret: api.None}}}
		}},
		{"an entry below 0", func(p *program.Program) { p.Entry[0] = -1 }},
		{"an entry beyond all", func(p *program.Program) { p.Entry[1] = 3 }},
		{"an entry where there are no functions", func(p *program.Program) { *p = program.Program{Entry: []int{0}} }},
		{"an Entry that falls", func(p *program.Program) { p.Entry = []int{2, 0} }},
		{"an Entry that falls at its end", func(p *program.Program) { p.Entry = []int{0, 2, 1} }},
		{"an Entry with a number twice", func(p *program.Program) { p.Entry = []int{0, 0} }},
		{"an Entry with its last number twice", func(p *program.Program) { p.Entry = []int{0, 2, 2} }},
		{"no Kind", func(p *program.Program) { p.Ops[0].Kind = 0 }},
		{"a Kind below 0", func(p *program.Program) { p.Ops[3].Kind = -1 }},
		{"a Kind beyond all", func(p *program.Program) { p.Ops[6].Kind = 8 }},
		{"a Kind far beyond all", func(p *program.Program) { p.Ops[6].Kind = 7 + 256 }},
		{"an op where there are no functions", func(p *program.Program) {
			*p = program.Program{Vars: 1, Objs: 1, Ops: []program.Op{{Kind: program.Alloc}}}
		}},
	}
}

// opFaults: of each op, also the last one.
func opFaults() []change {
	var all []change
	for i, o := range whole().Ops {
		all = append(all,
			change{"In below 0", func(p *program.Program) { p.Ops[i].In = -1 }},
			change{"In beyond all", func(p *program.Program) { p.Ops[i].In = 3 }},
			change{"In far beyond all", func(p *program.Program) { p.Ops[i].In = math.MaxInt }},
			change{"A below None", func(p *program.Program) { p.Ops[i].A = -2 }},
			change{"A beyond all", func(p *program.Program) { p.Ops[i].A = 6 }},
			change{"B that is None", func(p *program.Program) { p.Ops[i].B = api.None }},
			change{"B beyond all", func(p *program.Program) { p.Ops[i].B = 6 }},
			change{"C below 0", func(p *program.Program) { p.Ops[i].C = -1 }},
			change{"C beyond all", func(p *program.Program) { p.Ops[i].C = 2 }},
		)
		if o.Kind == program.Call || o.Kind == program.Via {
			all = append(all,
				change{"an argument that is None", func(p *program.Program) { p.Ops[i].Args[0] = api.None }},
				change{"an argument beyond all", func(p *program.Program) { p.Ops[i].Args[1] = 6 }},
				change{"C where none is named", func(p *program.Program) { p.Ops[i].C = 1 }},
			)
			continue
		}
		all = append(all,
			change{"A that is None", func(p *program.Program) { p.Ops[i].A = api.None }},
			change{"Args where none are", func(p *program.Program) { p.Ops[i].Args = []int{0} }},
		)
		if o.Kind != program.Load && o.Kind != program.Store {
			all = append(all, change{"C where none is named", func(p *program.Program) { p.Ops[i].C = 1 }})
		}
		for _, x := range slices.Concat(heats(), none()) {
			if math.Float64bits(x) != 0 {
				all = append(all, change{"a heat where none is", func(p *program.Program) { p.Ops[i].Heat = x }})
			}
		}
	}
	return all
}

func TestWhatMayNotBe(t *testing.T) {
	for _, c := range faults() {
		checks(t, c.name, c.on(whole()), api.ErrProgram)
	}
}

// A limit that is passed is told, whatever else may not be.
func TestLimitsAheadOfAllElse(t *testing.T) {
	for _, fault := range faults() {
		bad := fault.on(whole())
		if len(bad.Funcs) < 3 || len(bad.Ops) < 7 {
			continue // the excess has no place there
		}
		for _, excess := range excesses() {
			checks(t, excess.name+" and "+fault.name, excess.on(bad.Clone()), api.ErrBig)
		}
	}
	checks(t, "variables, and things below 0", program.Program{Vars: 201, Objs: -1}, api.ErrBig)
	checks(t, "things, and variables below 0", program.Program{Vars: -1, Objs: 61}, api.ErrBig)
	checks(t, "fields, and things below 0", program.Program{Objs: -1, Fields: 7}, api.ErrBig)
}

func TestHeatsOfCalls(t *testing.T) {
	for _, x := range slices.Concat(heats(), none()) {
		p := whole()
		p.Ops[5].Heat, p.Ops[6].Heat = x, x
		checks(t, "any heat", p, api.OK)
	}
}

// reach is the least number of an op's place and how many there are from 0 on.
type reach struct{ least, count int }

func (r reach) has(x int) bool { return r.least <= x && x < r.count }

// reaches: of A, B and C, as the chapter's table tells them.
func reaches(p program.Program, kind int) [3]reach {
	variable, orNone := reach{0, p.Vars}, reach{api.None, p.Vars}
	thing, field, function, nothing := reach{0, p.Objs}, reach{0, p.Fields}, reach{0, len(p.Funcs)}, reach{0, 1}
	return map[int][3]reach{
		program.Alloc: {variable, thing, nothing},
		program.Copy:  {variable, variable, nothing},
		program.Load:  {variable, variable, field},
		program.Store: {variable, variable, field},
		program.Addr:  {variable, function, nothing},
		program.Call:  {orNone, function, nothing},
		program.Via:   {orNone, variable, nothing},
	}[kind]
}

// Each number of an op, from far below to far beyond all that may be.
func TestNumbersOfOps(t *testing.T) {
	numbers := []int{math.MinInt, math.MinInt32, -1 << 31, 1 << 31, 1 << 32, math.MaxInt}
	for x := -3; x <= 203; x++ {
		numbers = append(numbers, x)
	}
	for _, p := range []program.Program{
		{Vars: 5, Objs: 4, Fields: 3, Funcs: funcs(2)},
		{Vars: 2, Objs: 3, Fields: 4, Funcs: funcs(5)},
		{Vars: 1, Objs: 1, Fields: 1, Funcs: funcs(1)},
		{Vars: 200, Objs: 60, Fields: 6, Funcs: funcs(30)},
	} {
		for kind := program.Alloc; kind <= program.Via; kind++ {
			for place, r := range reaches(p, kind) {
				for _, x := range numbers {
					o := program.Op{Kind: kind}
					*[]*int{&o.A, &o.B, &o.C}[place] = x
					p.Ops = []program.Op{o}
					want := api.ErrProgram
					if r.has(x) {
						want = api.OK
					}
					if e := p.Check(); e != want {
						t.Errorf("P15.1: %v: %d, not %d", p, e, want)
					}
				}
			}
		}
	}
}

// Without variables, things, fields each op but a Call that hands over nothing
// names what there isn't.
func TestOpsWithoutAnything(t *testing.T) {
	for kind := -2; kind < 12; kind++ {
		for _, a := range []int{-2, api.None, 0, 1} {
			p := program.Program{Funcs: funcs(1), Ops: []program.Op{{Kind: kind, A: a}}}
			want := api.ErrProgram
			if kind == program.Call && a == api.None {
				want = api.OK
			}
			checks(t, "an op without anything", p, want)
		}
	}
}

// plain: what the chapter says of a program, word by word.
func plain(p program.Program) api.Errno {
	big := p.Vars > 200 || p.Objs > 60 || p.Fields > 6 || len(p.Funcs) > 30 || len(p.Entry) > 30 || len(p.Ops) > 300
	bad := p.Vars < 0 || p.Objs < 0 || p.Fields < 0
	variables := func(l []int) {
		big = big || len(l) > 6
		for _, x := range l {
			bad = bad || x < 0 || x >= p.Vars
		}
	}
	for _, f := range p.Funcs {
		variables(f.Params)
		bad = bad || f.Ret != api.None && (f.Ret < 0 || f.Ret >= p.Vars)
	}
	for i, f := range p.Entry {
		bad = bad || f < 0 || f >= len(p.Funcs) || i > 0 && f <= p.Entry[i-1]
	}
	for _, o := range p.Ops {
		variables(o.Args)
		bad = bad || o.In < 0 || o.In >= len(p.Funcs) || o.Kind < 1 || o.Kind > 7
		r := reaches(p, o.Kind)
		bad = bad || !r[0].has(o.A) || !r[1].has(o.B) || !r[2].has(o.C)
		bad = bad || o.Kind < program.Call && (len(o.Args) > 0 || math.Float64bits(o.Heat) != 0)
	}
	switch {
	case big:
		return api.ErrBig
	case bad:
		return api.ErrProgram
	}
	return api.OK
}

// anyProgram: one by a fixed rule, which often may be.
func anyProgram(r *random) program.Program {
	p := program.Program{Vars: r.pick(8), Objs: r.pick(5), Fields: r.pick(4), Funcs: funcs(r.pick(5))}
	variable := func() int { return r.pick(max(p.Vars, 1)) }
	for i := range p.Funcs {
		for range r.pick(4) {
			p.Funcs[i].Params = append(p.Funcs[i].Params, variable())
		}
		if r.pick(2) == 0 {
			p.Funcs[i].Ret = variable()
		}
		if r.pick(2) == 0 {
			p.Entry = append(p.Entry, i)
		}
	}
	for range r.pick(6) {
		o := program.Op{Kind: 1 + r.pick(7), In: r.pick(max(len(p.Funcs), 1))}
		for place, at := range []*int{&o.A, &o.B, &o.C} {
			*at = r.pick(max(reaches(p, o.Kind)[place].count, 1))
		}
		if o.Kind >= program.Call {
			o.Args = upTo(r.pick(min(p.Vars, 6) + 1))
			o.Heat = heats()[r.pick(len(heats()))]
			o.A -= r.pick(2)
		}
		p.Ops = append(p.Ops, o)
	}
	return p
}

// spoil: one number of a program becomes one that may not be, or may.
func spoil(p *program.Program, r *random) {
	at := []*int{&p.Vars, &p.Objs, &p.Fields}
	for i := range p.Funcs {
		at = append(at, &p.Funcs[i].Ret)
		for j := range p.Funcs[i].Params {
			at = append(at, &p.Funcs[i].Params[j])
		}
	}
	for i := range p.Entry {
		at = append(at, &p.Entry[i])
	}
	for i := range p.Ops {
		o := &p.Ops[i]
		at = append(at, &o.Kind, &o.In, &o.A, &o.B, &o.C)
		for j := range o.Args {
			at = append(at, &o.Args[j])
		}
	}
	*at[r.pick(len(at))] = []int{-2, -1, 0, 1, 2, 3, 7, 201}[r.pick(8)]
}

func TestCheckOfAnyProgram(t *testing.T) {
	r := random(15)
	seen := map[api.Errno]int{}
	for range 30000 {
		p := anyProgram(&r)
		for range r.pick(3) {
			spoil(&p, &r)
		}
		want := plain(p)
		seen[want]++
		if e := p.Check(); e != want {
			t.Fatalf("P15.1: %v: %d, not %d", p, e, want)
		}
		if q := p.Clone(); !justAlike(p, q) || q.Check() != want {
			t.Fatalf("P15.2: %v is cloned as %v", p, q)
		}
	}
	if min(seen[api.OK], seen[api.ErrProgram], seen[api.ErrBig]) < 100 {
		t.Errorf("P15.1: too few of some: %v", seen)
	}
}
