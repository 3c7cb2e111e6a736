package wire

import (
	"dowser/api"
	"dowser/heat"
	"dowser/program"
	"dowser/varint"
)

const (
	mostNumber = 65535
	heatBytes  = 8
)

// reader is bytes of which a program is to be taken. Behind its first error
// nothing more is found.
type reader struct{ *varint.In }

func read(s string) reader { return reader{varint.Of(s)} }

func (r reader) program() program.Program {
	var p program.Program
	r.numbers(&p.Vars, &p.Objs, &p.Fields)
	r.each(func() { p.Funcs = append(p.Funcs, r.function()) })
	p.Entry = r.list()
	r.each(func() { p.Ops = append(p.Ops, r.op()) })
	return p
}

func (r reader) function() program.Func {
	return program.Func{Params: r.list(), Ret: r.orNone()}
}

func (r reader) op() program.Op {
	var o program.Op
	switch r.numbers(&o.Kind); o.Kind {
	case program.Alloc, program.Copy, program.Addr:
		r.numbers(&o.In, &o.A, &o.B)
	case program.Load, program.Store:
		r.numbers(&o.In, &o.A, &o.B, &o.C)
	case program.Call, program.Via:
		r.numbers(&o.In)
		o.A = r.orNone()
		r.numbers(&o.B)
		o.Args = r.list()
		o.Heat = r.heat()
	default:
		r.Fail(api.ErrForm)
	}
	return o
}

func (r reader) list() []int {
	var l []int
	r.each(func() { l = append(l, r.number()) })
	return l
}

// each: as often as a number tells, while nothing is wrong. No room is made
// ahead: there may be far fewer bytes than that.
func (r reader) each(take func()) {
	for left := r.number(); left > 0 && r.Err() == api.OK; left-- {
		take()
	}
}

// orNone: a variable, or None.
func (r reader) orNone() int { return r.number() - 1 }

// numbers: one for each of these.
func (r reader) numbers(l ...*int) {
	for _, x := range l {
		*x = r.number()
	}
}

func (r reader) number() int { return int(r.Num(mostNumber)) }

// heat: of its bits, which may be none that a heat's Bits are.
func (r reader) heat() float64 {
	var bits uint64
	for _, b := range []byte(r.Raw(heatBytes)) {
		bits = bits<<8 | uint64(b)
	}
	x := heat.Of(bits)
	if heat.Bits(x) != bits {
		r.Fail(api.ErrForm)
	}
	return x
}
