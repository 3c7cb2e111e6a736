package tree

import (
	"dowser/api"
	"dowser/node"
)

// fewest is how many entries a node has at least; an uppermost Leaf has one.
const fewest = 2

// spot is where a node is, and what it must be by those above it.
type spot struct {
	page   int
	levels int    // its own, and those below it
	least  string // its first key; "": the uppermost one's, which is any
	above  string // all its keys are less; "": they may be any
}

// top: the uppermost node's, of a tree that has one. A root that says less than
// one level, or more than its keys may have, is no tree's.
func (t *Tree) top() (spot, api.Errno) {
	r := t.root
	if r.Height < 1 || r.Height > Most(r.Count) {
		return spot{}, api.ErrBad
	}
	return spot{page: r.Page, levels: r.Height}, api.OK
}

// child: that of a Branch's entry.
func (s spot) child(n node.Node, i int) spot {
	above := s.above
	if i+1 < n.Len() {
		above = n.Keys[i+1]
	}
	return spot{n.Kids[i], s.levels - 1, n.Keys[i], above}
}

// takes: may a node be there?
func (s spot) takes(n node.Node) bool {
	least := fewest
	if s.least == "" && s.levels == 1 {
		least = 1
	}
	if n.Len() < least || (n.Kind == node.Leaf) != (s.levels == 1) {
		return false
	}
	first, last := n.Keys[0], n.Keys[n.Len()-1]
	return (s.least == "" || s.least == first) && (s.above == "" || last < s.above)
}

// read: the node of a spot. What isn't such a tree is ErrBad, however that
// shows.
func (t *Tree) read(s spot) (node.Node, api.Errno) {
	kind, payload, e := t.pages.Read(s.page)
	if e == api.ErrArg {
		return node.Node{}, api.ErrBad
	}
	if e != api.OK {
		return node.Node{}, e
	}
	n, e := node.Parse(kind, payload)
	if e != api.OK || !s.takes(n) {
		return node.Node{}, api.ErrBad
	}
	return n, api.OK
}

// way: which child of a Branch a key belongs to. One that is less than all
// belongs to the first.
func way(n node.Node, key string) int {
	i, is := n.Find(key)
	if is {
		return i
	}
	return max(i-1, 0)
}

// leaf: the one to which a key belongs, of a tree that has one.
func (t *Tree) leaf(key string) (node.Node, api.Errno) {
	s, e := t.top()
	for e == api.OK {
		var n node.Node
		n, e = t.read(s)
		if e == api.OK && n.Kind == node.Leaf {
			return n, api.OK
		}
		if e == api.OK {
			s = s.child(n, way(n, key))
		}
	}
	return node.Node{}, e
}
