// Package spot says where a node of a tree is, and what it must be by those
// above it. Layers 10, 11 and 14 go down by it, so that all tell the same of
// what is no tree.
package spot

import (
	"dowser/api"
	"dowser/node"
	"dowser/pages"
)

// Fewest is how many entries a node has at least; an uppermost Leaf has one.
const Fewest = 2

// Spot is where a node is.
type Spot struct {
	page   int
	levels int    // its own, and those below it
	least  string // its first key; "": the uppermost one's, which is any
	above  string // all its keys are less; "": they may be any
}

// Top: the uppermost node's, of a tree that has one. One that says less than
// one level, or more than it may have at most, is no tree.
func Top(page, levels, most int) (Spot, api.Errno) {
	if levels < 1 || levels > most {
		return Spot{}, api.ErrBad
	}
	return Spot{page: page, levels: levels}, api.OK
}

// Page: the node's.
func (s Spot) Page() int { return s.page }

// Child: that of a Branch's entry.
func (s Spot) Child(n node.Node, i int) Spot {
	above := s.above
	if i+1 < n.Len() {
		above = n.Keys[i+1]
	}
	return Spot{n.Kids[i], s.levels - 1, n.Keys[i], above}
}

// Read: the node that is there. What isn't such a tree is ErrBad, however that
// shows.
func (s Spot) Read(p *pages.Pages) (node.Node, api.Errno) {
	kind, payload, e := p.Read(s.page)
	if e == api.ErrArg {
		return node.Node{}, api.ErrBad
	}
	if e != api.OK {
		return node.Node{}, e
	}
	n, e := node.Parse(kind, payload)
	if e != api.OK || !s.takes(n) {
		return node.Node{}, api.ErrBad
	}
	return n, api.OK
}

// Leaf: the one to which a key belongs, of those below a node, or that node
// itself, and the least key that belongs behind it ("": there is none).
func (s Spot) Leaf(p *pages.Pages, key string) (node.Node, string, api.Errno) {
	n, e := s.Read(p)
	for e == api.OK && n.Kind != node.Leaf {
		s = s.Child(n, Way(n, key))
		n, e = s.Read(p)
	}
	if e != api.OK {
		return node.Node{}, "", e
	}
	return n, s.above, api.OK
}

// takes: may a node be there?
func (s Spot) takes(n node.Node) bool {
	least := Fewest
	if s.least == "" && s.levels == 1 {
		least = 1
	}
	if n.Len() < least || (n.Kind == node.Leaf) != (s.levels == 1) {
		return false
	}
	first, last := n.Keys[0], n.Keys[n.Len()-1]
	return (s.least == "" || s.least == first) && (s.above == "" || last < s.above)
}

// Way: which child of a Branch a key belongs to. One that is less than all
// belongs to the first.
func Way(n node.Node, key string) int {
	i, is := n.Find(key)
	if is {
		return i
	}
	return max(i-1, 0)
}
