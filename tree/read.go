package tree

import (
	"dowser/api"
	"dowser/node"
	"dowser/spot"
)

// top: the uppermost node's spot, of a tree that has one.
func (t *Tree) top() (spot.Spot, api.Errno) {
	return spot.Top(t.root.Page, t.root.Height, Most(t.root.Count))
}

// leaf: the one to which a key belongs, of a tree that has one.
func (t *Tree) leaf(key string) (node.Node, api.Errno) {
	s, e := t.top()
	for e == api.OK {
		var n node.Node
		n, e = s.Read(t.pages)
		if e == api.OK && n.Kind == node.Leaf {
			return n, api.OK
		}
		if e == api.OK {
			s = s.Child(n, spot.Way(n, key))
		}
	}
	return node.Node{}, e
}
