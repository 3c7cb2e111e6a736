package program

import (
	"slices"

	"dowser/api"
	"dowser/heat"
	"dowser/ids"
)

// Check: may it be?
func (p Program) Check() api.Errno {
	switch {
	case p.passesLimit():
		return api.ErrBig
	case !p.isFormed():
		return api.ErrProgram
	}
	return api.OK
}

// passesLimit: is there more of anything than there may be?
func (p Program) passesLimit() bool {
	return p.Vars > api.MaxVars || p.Objs > api.MaxObjs || p.Fields > api.MaxFields ||
		len(p.Funcs) > api.MaxFuncs || len(p.Entry) > api.MaxFuncs || len(p.Ops) > api.MaxOps ||
		!all(p.Funcs, func(f Func) bool { return len(f.Params) <= api.MaxArgs }) ||
		!all(p.Ops, func(o Op) bool { return len(o.Args) <= api.MaxArgs })
}

// isFormed: is each number one that it may be?
func (p Program) isFormed() bool {
	return p.Vars >= 0 && p.Objs >= 0 && p.Fields >= 0 &&
		all(p.Funcs, p.mayBeFunc) &&
		ids.Is(p.Entry) && all(p.Entry, below(len(p.Funcs))) &&
		all(p.Ops, p.mayBeOp)
}

func (p Program) mayBeFunc(f Func) bool {
	variable := below(p.Vars)
	return all(f.Params, variable) && orNone(variable)(f.Ret)
}

func (p Program) mayBeOp(o Op) bool {
	variable, thing, field, function := below(p.Vars), below(p.Objs), below(p.Fields), below(len(p.Funcs))
	if !function(o.In) {
		return false
	}
	switch o.Kind {
	case Alloc:
		return variable(o.A) && thing(o.B) && o.C == 0 && isBare(o)
	case Copy:
		return variable(o.A) && variable(o.B) && o.C == 0 && isBare(o)
	case Load, Store:
		return variable(o.A) && variable(o.B) && field(o.C) && isBare(o)
	case Addr:
		return variable(o.A) && function(o.B) && o.C == 0 && isBare(o)
	case Call:
		return orNone(variable)(o.A) && function(o.B) && o.C == 0 && all(o.Args, variable)
	case Via:
		return orNone(variable)(o.A) && variable(o.B) && o.C == 0 && all(o.Args, variable)
	}
	return false
}

// isBare: has an op neither Args nor a heat? The 0 with a sign is one.
func isBare(o Op) bool { return len(o.Args) == 0 && heat.Bits(o.Heat) == 0 }

// orNone: likewise, or is it None?
func orNone(is func(x int) bool) func(x int) bool {
	return func(x int) bool { return x == api.None || is(x) }
}

// all: is each of a list so?
func all[T any](l []T, is func(x T) bool) bool {
	return !slices.ContainsFunc(l, func(x T) bool { return !is(x) })
}
