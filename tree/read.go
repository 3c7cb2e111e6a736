package tree

import (
	"dowser/api"
	"dowser/node"
	"dowser/spot"
)

// top: the uppermost node's spot, of a tree that has one.
func (t *Tree) top() (spot.Spot, api.Errno) {
	return spot.Top(t.root.Page, t.root.Height, Most(t.root.Count))
}

// leaf: the one to which a key belongs, of a tree that has one.
func (t *Tree) leaf(key string) (node.Node, api.Errno) {
	s, e := t.top()
	if e != api.OK {
		return node.Node{}, e
	}
	n, _, e := s.Leaf(t.pages, key)
	return n, e
}
