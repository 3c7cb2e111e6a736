package solve

import (
	"testing"

	"dowser/program"
)

// workOn: what was worked out of a program that enters function 0 alone.
func workOn(vars, objs, fields int, ops ...program.Op) *work {
	w := begin(program.Program{Vars: vars, Objs: objs, Fields: fields, Funcs: []program.Func{{Ret: -1}}, Entry: []int{0}, Ops: ops})
	w.finish()
	return w
}

// Rings are worked on as one place: else all that comes into one would go
// round it thing by thing.
func TestRingsAreOnePlace(t *testing.T) {
	const n = 20
	var ring []program.Op
	for v := range n {
		ring = append(ring, program.Op{Kind: program.Alloc, A: v, B: v}, program.Op{Kind: program.Copy, A: (v + 1) % n, B: v})
	}
	if w := workOn(n, n, 0, ring...); len(w.rings.Members(0)) != n {
		t.Errorf("of a ring of copies only %v are one place", w.rings.Members(0))
	}
	if w := workOn(n, n, 0, ring[:2*n-1]...); w.rings.Groups() != n {
		t.Errorf("a chain of copies is %d places", w.rings.Groups())
	}
	// 1 is what is in 0's field, and stored there; 2 goes into it.
	w := workOn(3, 2, 1,
		program.Op{Kind: program.Alloc, A: 0, B: 0}, program.Op{Kind: program.Load, A: 1, B: 0}, program.Op{Kind: program.Store, A: 0, B: 1},
		program.Op{Kind: program.Copy, A: 1, B: 2}, program.Op{Kind: program.Alloc, A: 2, B: 1})
	if w.rings.Find(w.field(0, 0)) != 1 || w.rings.Find(2) != 2 {
		t.Errorf("a ring through a field isn't one place")
	}
}

func TestQueue(t *testing.T) {
	var q queue[string]
	if x, is := q.pop(); x != "" || is {
		t.Errorf("an empty queue has %q", x)
	}
	for range 3 {
		q.push("a")
		q.push("b")
		for _, want := range []string{"a", "b"} {
			if x, is := q.pop(); x != want || !is {
				t.Errorf("%q is next, not %q", x, want)
			}
		}
		if x, is := q.pop(); x != "" || is {
			t.Errorf("a queue that was emptied has %q", x)
		}
	}
}
