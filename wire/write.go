package wire

import (
	"strings"

	"dowser/heat"
	"dowser/program"
	"dowser/varint"
)

// writer is the bytes of a program that may be, as they become more.
type writer struct{ strings.Builder }

func (w *writer) program(p program.Program) {
	w.numbers(p.Vars, p.Objs, p.Fields)
	w.numbers(len(p.Funcs))
	for _, f := range p.Funcs {
		w.list(f.Params)
		w.orNone(f.Ret)
	}
	w.list(p.Entry)
	w.numbers(len(p.Ops))
	for _, o := range p.Ops {
		w.op(o)
	}
}

func (w *writer) op(o program.Op) {
	w.numbers(o.Kind, o.In)
	switch o.Kind {
	case program.Alloc, program.Copy, program.Addr:
		w.numbers(o.A, o.B)
	case program.Load, program.Store:
		w.numbers(o.A, o.B, o.C)
	case program.Call, program.Via:
		w.orNone(o.A)
		w.numbers(o.B)
		w.list(o.Args)
		w.heat(o.Heat)
	}
}

func (w *writer) list(l []int) {
	w.numbers(len(l))
	w.numbers(l...)
}

// orNone: a variable, or None, which is -1: so one more of either.
func (w *writer) orNone(x int) { w.numbers(x + 1) }

func (w *writer) numbers(l ...int) {
	for _, x := range l {
		w.WriteString(varint.Num(uint64(x)))
	}
}

// heat: its bits, the highest byte first.
func (w *writer) heat(x float64) {
	bits := heat.Bits(x)
	for shift := 64 - 8; shift >= 0; shift -= 8 {
		w.WriteByte(byte(bits >> shift))
	}
}
