package solve

import (
	"slices"

	"dowser/api"
	"dowser/forest"
	"dowser/ids"
	"dowser/program"
)

// place is a variable, or a field of a thing; or a ring of such ones, all of
// which have the same set.
type place struct {
	set   []int // which things are in it
	flows []int // to which places what is in it goes on
	uses  []int // the ops that ask what is in it
}

// news is things that came into a place, and weren't handed on yet.
type news struct {
	place  int
	things []int
}

// work is a solution as it grows. Nothing is put into it that doesn't follow;
// so it is the least one as soon as nothing is left to be done.
type work struct {
	program program.Program
	rings   *forest.Forest      // of places: those of one ring are one group
	places  []place             // that of a ring is its least one's
	asked   map[[2]int]struct{} // flows that were looked at for rings
	calls   [][]int             // which functions each op may call
	reach   []int
	entered queue[int] // functions that are reached, whose ops don't hold yet
	fresh   queue[news]
}

// begin: only the functions of Entry are reached.
func begin(p program.Program) *work {
	n := p.Vars + p.Things()*p.Fields
	w := &work{
		program: p,
		rings:   forest.New(n),
		places:  make([]place, n),
		asked:   map[[2]int]struct{}{},
		calls:   make([][]int, len(p.Ops)),
	}
	for _, f := range p.Entry {
		w.enter(f)
	}
	return w
}

// finish goes on till nothing more follows.
func (w *work) finish() {
next:
	for {
		if f, is := w.entered.pop(); is {
			w.holdAll(f)
			continue
		}
		n, is := w.fresh.pop()
		if !is {
			return
		}
		// What became part of a ring has nothing to do: the ring has news of all.
		at := n.place
		for _, i := range w.places[at].uses {
			w.use(i, n.things)
		}
		for _, to := range w.places[at].flows {
			if w.put(to, n.things) {
				continue
			}
			if ring := w.ring(at, w.rings.Find(to)); len(ring) > 0 {
				w.unite(ring)
				continue next // the ring hands on all that is in it anew
			}
		}
	}
}

// enter: a function is reached.
func (w *work) enter(f int) {
	if !ids.Has(w.reach, f) {
		w.reach = ids.Union(w.reach, ids.Of(f))
		w.entered.push(f)
	}
}

// holdAll: the ops of a function hold.
func (w *work) holdAll(f int) {
	for i, o := range w.program.Ops {
		if o.In == f {
			w.hold(i, o)
		}
	}
}

// hold: an op holds, of what is there by now; and of what comes, for it is
// among the uses, or its flows are.
func (w *work) hold(i int, o program.Op) {
	switch o.Kind {
	case program.Alloc:
		w.put(o.A, ids.Of(o.B))
	case program.Addr:
		w.put(o.A, ids.Of(w.program.Thing(o.B)))
	case program.Copy:
		w.flow(o.B, o.A)
	case program.Load, program.Via:
		w.ask(i, o.B)
	case program.Store:
		w.ask(i, o.A)
	case program.Call:
		w.call(i, o.B)
	}
}

// ask: an op asks what is in a place.
func (w *work) ask(i, at int) {
	p := &w.places[w.rings.Find(at)]
	p.uses = ids.Union(p.uses, ids.Of(i))
	w.use(i, p.set)
}

// use: what follows of things that an op asked for.
func (w *work) use(i int, things []int) {
	o := w.program.Ops[i]
	for _, thing := range things {
		switch o.Kind {
		case program.Load:
			w.flow(w.field(thing, o.C), o.A)
		case program.Store:
			w.flow(o.B, w.field(thing, o.C))
		case program.Via:
			if f, is := w.program.Function(thing); is {
				w.call(i, f)
			}
		}
	}
}

// call: there is an edge.
func (w *work) call(i, f int) {
	if ids.Has(w.calls[i], f) {
		return
	}
	w.calls[i] = ids.Union(w.calls[i], ids.Of(f))
	w.enter(f)
	o, called := w.program.Ops[i], w.program.Funcs[f]
	for j := range min(len(o.Args), len(called.Params)) {
		w.flow(o.Args[j], called.Params[j])
	}
	if called.Ret != api.None && o.A != api.None {
		w.flow(called.Ret, o.A)
	}
}

// flow: what is in a place, now or later, is in another one.
func (w *work) flow(from, to int) {
	from, to = w.rings.Find(from), w.rings.Find(to)
	p := &w.places[from]
	if from == to || ids.Has(p.flows, to) {
		return
	}
	p.flows = ids.Union(p.flows, ids.Of(to))
	w.put(to, p.set)
}

// put: things are in a place; is one of them new there?
func (w *work) put(at int, things []int) bool {
	at = w.rings.Find(at)
	p := &w.places[at]
	more := ids.Minus(things, p.set)
	if len(more) == 0 {
		return false
	}
	p.set = ids.Union(p.set, more)
	w.fresh.push(news{at, more})
	return true
}

// field: which place a thing's field is.
func (w *work) field(thing, c int) int { return w.program.Vars + thing*w.program.Fields + c }

// in: the set of a place.
func (w *work) in(at int) []int { return slices.Clone(w.places[w.rings.Find(at)].set) }

// solution: what there is by now.
func (w *work) solution() Solution {
	s := Solution{Reach: slices.Clone(w.reach)}
	for v := range w.program.Vars {
		s.Vars = append(s.Vars, w.in(v))
	}
	for obj := range w.program.Things() {
		for c := range w.program.Fields {
			if set := w.in(w.field(obj, c)); len(set) > 0 {
				s.Cells = append(s.Cells, Cell{obj, c, set})
			}
		}
	}
	for i, functions := range w.calls {
		for _, f := range functions {
			s.Edges = append(s.Edges, Edge{i, f})
		}
	}
	return s
}
