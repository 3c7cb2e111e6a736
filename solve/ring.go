package solve

import (
	"slices"

	"dowser/ids"
)

// ring: the places on a ring that a flow is part of, if one is found. Without
// this, all that comes into a ring would go round it thing by thing.
//
// Only a flow between places with the same set is looked at, and but once: on
// a ring all sets become the same, elsewhere they seldom are.
func (w *work) ring(from, to int) []int {
	flow := [2]int{from, to}
	if _, is := w.asked[flow]; is || from == to || !ids.Same(w.places[from].set, w.places[to].set) {
		return nil
	}
	w.asked[flow] = struct{}{}
	return w.way(to, from)
}

// way: the places by which flows lead from one place to another one (none:
// they don't).
func (w *work) way(from, to int) []int {
	ahead := map[int]int{from: from} // of each place that was met, by which one
	var ends queue[int]
	ends.push(from)
search:
	for {
		at, is := ends.pop()
		if !is {
			return nil
		}
		for _, next := range w.places[at].flows {
			next = w.rings.Find(next)
			if _, met := ahead[next]; met {
				continue
			}
			ahead[next] = at
			if next == to {
				break search
			}
			ends.push(next)
		}
	}
	way := []int{to}
	for at := to; at != from; {
		at = ahead[at]
		way = append(way, at)
	}
	return way
}

// unite makes one place of those of a ring. All that is in it is news: what
// one of them had wasn't handed on by the others.
func (w *work) unite(ring []int) {
	var all place
	for _, at := range ring {
		p := &w.places[at]
		all.set = ids.Union(all.set, p.set)
		all.flows = ids.Union(all.flows, p.flows)
		all.uses = ids.Union(all.uses, p.uses)
		*p = place{}
		w.rings.Union(ring[0], at)
	}
	at := w.rings.Find(ring[0])
	all.flows = w.others(at, all.flows)
	w.places[at] = all
	w.fresh.push(news{at, all.set})
}

// others: places, each of a ring by its least one, but for one place itself.
func (w *work) others(self int, places []int) []int {
	l := slices.Clone(places)
	for i, at := range l {
		l[i] = w.rings.Find(at)
	}
	return ids.Minus(ids.Of(l...), ids.Of(self))
}
