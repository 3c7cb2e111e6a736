package wire_test

import (
	"math"
	"slices"
	"strings"
	"testing"

	"dowser/api"
	"dowser/program"
	"dowser/varint"
	"dowser/wire"
)

// random is numbers by a fixed rule.
type random uint64

func (r *random) pick(n int) int {
	*r = *r*6364136223846793005 + 1442695040888963407
	return int(uint64(*r) >> 33 % uint64(n))
}

// nums: numbers, each in layer 1's form.
func nums(l ...int) string {
	var s string
	for _, x := range l {
		s += varint.Num(uint64(x))
	}
	return s
}

// funcs: so many, without anything.
func funcs(n int) []program.Func {
	l := make([]program.Func, n)
	for i := range l {
		l[i].Ret = api.None
	}
	return l
}

// encodes: what a program's bytes must be; and back.
func encodes(t *testing.T, p program.Program, want string) {
	t.Helper()
	before := p.Clone()
	if s, e := wire.Encode(p); s != want || e != api.OK {
		t.Errorf("P16.1: Encode of %v: %x (%d), not %x", p, s, e, want)
	}
	if n := wire.Size(p); n != len(want) {
		t.Errorf("P16.1: Size of %v: %d, not %d", p, n, len(want))
	}
	if !program.Same(p, before) {
		t.Errorf("P16.1: %v was changed to %v", before, p)
	}
	if q, e := wire.Decode(want); !program.Same(p, q) || e != api.OK {
		t.Errorf("P16.2: Decode of %x: %v (%d), not %v", want, q, e, p)
	}
}

// notEncoded: a program that may not be.
func notEncoded(t *testing.T, p program.Program, want api.Errno) {
	t.Helper()
	if s, e := wire.Encode(p); s != "" || e != want {
		t.Errorf("P16.1: Encode of %v: %x (%d), not %d", p, s, e, want)
	}
	if n := wire.Size(p); n != 0 {
		t.Errorf("P16.1: Size of %v: %d", p, n)
	}
}

// isZero: without anything, of lists that are nil.
func isZero(p program.Program) bool {
	return program.Same(p, program.Program{}) && p.Funcs == nil && p.Entry == nil && p.Ops == nil
}

// notDecoded: bytes that are no program.
func notDecoded(t *testing.T, s string, want api.Errno) {
	t.Helper()
	if p, e := wire.Decode(s); !isZero(p) || e != want {
		t.Errorf("P16.1: Decode of %x: %v (%d), not %d", s, p, e, want)
	}
}

func TestWithoutAnything(t *testing.T) {
	encodes(t, program.Program{}, "\x00\x00\x00\x00\x00\x00")
	encodes(t, program.Program{Funcs: []program.Func{}, Entry: []int{}, Ops: []program.Op{}}, "\x00\x00\x00\x00\x00\x00")
}

func TestCounts(t *testing.T) {
	encodes(t, program.Program{Vars: 1}, nums(1, 0, 0, 0, 0, 0))
	encodes(t, program.Program{Objs: 1}, nums(0, 1, 0, 0, 0, 0))
	encodes(t, program.Program{Fields: 1}, nums(0, 0, 1, 0, 0, 0))
	encodes(t, program.Program{Vars: 127, Objs: 60, Fields: 6}, "\x7f\x3c\x06\x00\x00\x00")
	encodes(t, program.Program{Vars: 128}, "\x80\x01\x00\x00\x00\x00\x00")
	encodes(t, program.Program{Vars: 200}, "\xc8\x01\x00\x00\x00\x00\x00")
}

func TestFunctions(t *testing.T) {
	encodes(t, program.Program{Funcs: funcs(1)}, nums(0, 0, 0, 1, 0, 0, 0, 0))
	encodes(t, program.Program{Vars: 200, Funcs: []program.Func{
		{Params: []int{7}, Ret: 0}, {Params: []int{}, Ret: 126}, {Params: []int{199, 3, 3}, Ret: 127}, {Ret: 199},
	}, Entry: []int{1, 3}}, nums(200, 0, 0, 4, 1, 7, 1, 0, 127, 3, 199, 3, 3, 128, 0, 200, 2, 1, 3, 0))
	p := program.Program{Funcs: funcs(30)}
	for f := range 30 {
		p.Entry = append(p.Entry, f)
	}
	encodes(t, p, nums(0, 0, 0, 30)+strings.Repeat("\x00\x00", 30)+nums(30)+nums(p.Entry...)+nums(0))
}

// ops: a program with these, in its two functions, and with many of all else.
func ops(l ...program.Op) program.Program {
	return program.Program{Vars: 200, Objs: 60, Fields: 6, Funcs: funcs(2), Ops: l}
}

// ahead of its ops the bytes of such a program.
func ahead() string { return nums(200, 60, 6, 2, 0, 0, 0, 0, 0) }

func TestOps(t *testing.T) {
	one := func(o program.Op, want string) {
		t.Helper()
		encodes(t, ops(o), ahead()+"\x01"+want)
	}
	one(program.Op{Kind: program.Alloc, In: 1, A: 2, B: 3}, "\x01\x01\x02\x03")
	one(program.Op{Kind: program.Alloc, A: 199, B: 59}, "\x01\x00\xc7\x01\x3b")
	one(program.Op{Kind: program.Copy, In: 1, A: 130, B: 5}, "\x02\x01\x82\x01\x05")
	one(program.Op{Kind: program.Load, In: 1, A: 4, B: 3, C: 2}, "\x03\x01\x04\x03\x02")
	one(program.Op{Kind: program.Load}, "\x03\x00\x00\x00\x00")
	one(program.Op{Kind: program.Store, In: 1, A: 4, B: 3, C: 5}, "\x04\x01\x04\x03\x05")
	one(program.Op{Kind: program.Addr, In: 0, A: 9, B: 1}, "\x05\x00\x09\x01")
	one(program.Op{Kind: program.Call, In: 1, A: 9, B: 1, Args: []int{3, 2, 1}, Heat: 1},
		"\x06\x01\x0a\x01\x03\x03\x02\x01\x3f\xf0\x00\x00\x00\x00\x00\x00")
	one(program.Op{Kind: program.Call, A: api.None}, "\x06\x00\x00\x00\x00"+strings.Repeat("\x00", 8))
	one(program.Op{Kind: program.Call, A: 127, Args: []int{}}, "\x06\x00\x80\x01\x00\x00"+strings.Repeat("\x00", 8))
	one(program.Op{Kind: program.Via, In: 1, A: 0, B: 199, Args: []int{199, 0, 1, 2, 3, 4}, Heat: math.Inf(-1)},
		"\x07\x01\x01\xc7\x01\x06\xc7\x01\x00\x01\x02\x03\x04\xff\xf0\x00\x00\x00\x00\x00\x00")
	one(program.Op{Kind: program.Via, A: api.None, B: 8}, "\x07\x00\x00\x08\x00"+strings.Repeat("\x00", 8))
	encodes(t, ops(program.Op{Kind: program.Store, A: 1, B: 2, C: 3}, program.Op{Kind: program.Alloc, A: 1, B: 2}),
		ahead()+"\x02\x04\x00\x01\x02\x03\x01\x00\x01\x02")
	copies := make([]program.Op, 300)
	for i := range copies {
		copies[i] = program.Op{Kind: program.Copy, In: i % 2, A: i % 100, B: 7}
	}
	s := ahead() + nums(300)
	for i := range copies {
		s += nums(2, i%2, i%100, 7)
	}
	encodes(t, ops(copies...), s)
}

// called: a program with one op, a Via of a heat; its bytes, but for the heat.
func called(x float64) (program.Program, string) {
	return ops(program.Op{Kind: program.Via, A: api.None, B: 8, Heat: x}), ahead() + "\x01\x07\x00\x00\x08\x00"
}

// eight bytes of a number, the highest first.
func eight(bits uint64) string {
	var b []byte
	for i := range 8 {
		b = append(b, byte(bits>>(56-8*i)))
	}
	return string(b)
}

func TestHeats(t *testing.T) {
	for _, bits := range []uint64{0, 1, 1 << 63, 1<<63 + 1, 0x3ff0000000000000, 0x0102030405060708, 0x7fefffffffffffff,
		0x7ff0000000000000, 0xfff0000000000000, 0x7ff8000000000001, 0xffefffffffffffff, 0x00000000ffffffff, 0x000fffffffffffff} {
		p, s := called(math.Float64frombits(bits))
		encodes(t, p, s+eight(bits))
		if q, _ := wire.Decode(s + eight(bits)); len(q.Ops) != 1 || math.Float64bits(q.Ops[0].Heat) != bits {
			t.Errorf("P16.2: the heat %x doesn't come back: %v", bits, q)
		}
	}
	// Each other one that is no number has the bytes of that one.
	for _, bits := range []uint64{0x7ff8000000000000, 0xfff8000000000001, 0x7ff0000000000001, 0xfff0000000000001,
		0x7ff8000000000002, 0x7fffffffffffffff, 0xffffffffffffffff, 0x7ff4000000000000, 0xfff8000000000000} {
		p, s := called(math.Float64frombits(bits))
		encodes(t, p, s+eight(0x7ff8000000000001))
		notDecoded(t, s+eight(bits), api.ErrForm)
		notDecoded(t, s+eight(bits)+"\x00", api.ErrForm)
		notDecoded(t, s+eight(bits)[:7], api.ErrEnd)
	}
}

func TestWhatMayNotBe(t *testing.T) {
	for _, p := range []program.Program{
		{Vars: -1}, {Objs: -1}, {Fields: math.MinInt}, {Entry: []int{0}}, {Funcs: []program.Func{{}}},
		{Funcs: funcs(2), Entry: []int{1, 0}}, {Funcs: funcs(2), Entry: []int{1, 1}},
		{Vars: 1, Funcs: []program.Func{{Params: []int{1}}}}, {Vars: 1, Funcs: []program.Func{{Ret: -2}}},
		ops(program.Op{}), ops(program.Op{Kind: 8}), ops(program.Op{Kind: -1}),
		ops(program.Op{Kind: program.Copy, C: 1}), ops(program.Op{Kind: program.Copy, Args: []int{0}}),
		ops(program.Op{Kind: program.Copy, Heat: 1}), ops(program.Op{Kind: program.Load, Heat: math.Copysign(0, -1)}),
		ops(program.Op{Kind: program.Copy, A: -1}), ops(program.Op{Kind: program.Addr, B: 2}),
		ops(program.Op{Kind: program.Call, A: -2}), ops(program.Op{Kind: program.Via, B: -1}), ops(program.Op{Kind: program.Call, In: 2}),
	} {
		notEncoded(t, p, api.ErrProgram)
	}
	for _, p := range []program.Program{
		{Vars: 201}, {Objs: 61}, {Fields: 7}, {Funcs: funcs(31)}, {Entry: make([]int, 31)}, {Vars: 65536}, {Vars: math.MaxInt, Objs: -1},
		{Vars: 1, Funcs: []program.Func{{Params: make([]int, 7)}}}, ops(program.Op{Kind: program.Call, Args: make([]int, 7)}),
		ops(make([]program.Op, 301)...),
	} {
		notEncoded(t, p, api.ErrBig)
	}
}

// whole: a program with something of everything.
func whole() program.Program {
	p := ops(
		program.Op{Kind: program.Alloc, In: 1, A: 2, B: 3},
		program.Op{Kind: program.Copy, A: 130, B: 5},
		program.Op{Kind: program.Load, In: 1, A: 4, B: 3, C: 2},
		program.Op{Kind: program.Store, In: 1, A: 4, B: 3, C: 5},
		program.Op{Kind: program.Addr, A: 9, B: 1},
		program.Op{Kind: program.Call, In: 1, A: 9, B: 1, Args: []int{3, 2, 1}, Heat: 0.1},
		program.Op{Kind: program.Via, In: 1, A: 199, B: 199, Args: []int{199}, Heat: math.NaN()},
	)
	p.Funcs[1] = program.Func{Params: []int{150, 151}, Ret: 3}
	p.Entry = []int{0, 1}
	return p
}

func TestThereAndBackOfTheWhole(t *testing.T) {
	s, e := wire.Encode(whole())
	if e != api.OK {
		t.Fatalf("P16.1: %d", e)
	}
	encodes(t, whole(), s)
	for i := range s {
		notDecoded(t, s[:i], api.ErrEnd)
	}
	for _, more := range []string{"\x00", "\x80", "\xff", "a", s} {
		notDecoded(t, s+more, api.ErrForm)
	}
}

// Answers share nothing with one another.
func TestMemory(t *testing.T) {
	s, _ := wire.Encode(whole())
	p, _ := wire.Decode(s)
	q, _ := wire.Decode(s)
	for i := range p.Ops {
		clear(p.Ops[i].Args[:cap(p.Ops[i].Args)])
	}
	clear(p.Funcs[1].Params)
	clear(p.Entry[:cap(p.Entry)])
	clear(p.Funcs[:cap(p.Funcs)])
	clear(p.Ops[:cap(p.Ops)])
	if !program.Same(q, whole()) {
		t.Errorf("P16.1: one answer is changed, and another one, too: %v", q)
	}
	encodes(t, whole(), s)
}

// No list of an answer reaches into another one's room.
func TestListsStandAlone(t *testing.T) {
	s, _ := wire.Encode(whole())
	p, _ := wire.Decode(s)
	for _, l := range [][]int{p.Entry, p.Funcs[0].Params, p.Funcs[1].Params, p.Ops[5].Args, p.Ops[6].Args} {
		l = append(l, 1, 1, 1)
		clear(l[len(l)-3:])
	}
	if !program.Same(p, whole()) {
		t.Errorf("P16.1: a list is appended to, and the program is %v", p)
	}
}

func TestManyProgramsThereAndBack(t *testing.T) {
	r := random(16)
	seen := map[string]program.Program{}
	for range 5000 {
		p := anyProgram(&r)
		s := plainBytes(p)
		encodes(t, p, s)
		if other, is := seen[s]; is && !program.Same(other, p) {
			t.Errorf("P16.2: %v and %v have the bytes %x", other, p, s)
		}
		seen[s] = p
	}
}

// anyProgram: one that may be, by a fixed rule.
func anyProgram(r *random) program.Program {
	p := program.Program{Vars: 1 + r.pick(200), Objs: 1 + r.pick(60), Fields: 1 + r.pick(6), Funcs: funcs(1 + r.pick(5))}
	variables := func() []int {
		var l []int
		for range r.pick(7) {
			l = append(l, r.pick(p.Vars))
		}
		return l
	}
	orNone := func() int { return r.pick(p.Vars+1) - 1 }
	for i := range p.Funcs {
		p.Funcs[i] = program.Func{Params: variables(), Ret: orNone()}
		if r.pick(2) == 0 {
			p.Entry = append(p.Entry, i)
		}
	}
	for range r.pick(6) {
		o := program.Op{Kind: 1 + r.pick(7), In: r.pick(len(p.Funcs)), A: r.pick(p.Vars), B: r.pick(p.Vars)}
		switch o.Kind {
		case program.Alloc:
			o.B = r.pick(p.Objs)
		case program.Load, program.Store:
			o.C = r.pick(p.Fields)
		case program.Addr:
			o.B = r.pick(len(p.Funcs))
		case program.Call, program.Via:
			o.A, o.Args = orNone(), variables()
			o.Heat = math.Float64frombits(uint64(r.pick(1<<31)) << r.pick(34))
			if o.Kind == program.Call {
				o.B = r.pick(len(p.Funcs))
			}
		}
		p.Ops = append(p.Ops, o)
	}
	return p
}

// plainBytes: what the chapter says of a program's bytes, word by word.
func plainBytes(p program.Program) string {
	s := nums(p.Vars, p.Objs, p.Fields, len(p.Funcs))
	for _, f := range p.Funcs {
		s += nums(slices.Concat([]int{len(f.Params)}, f.Params, []int{f.Ret + 1})...)
	}
	s += nums(len(p.Entry)) + nums(p.Entry...) + nums(len(p.Ops))
	for _, o := range p.Ops {
		switch o.Kind {
		case program.Alloc, program.Copy, program.Addr:
			s += nums(o.Kind, o.In, o.A, o.B)
		case program.Load, program.Store:
			s += nums(o.Kind, o.In, o.A, o.B, o.C)
		default:
			s += nums(o.Kind, o.In, o.A+1, o.B, len(o.Args)) + nums(o.Args...) + eight(math.Float64bits(o.Heat))
		}
	}
	return s
}
