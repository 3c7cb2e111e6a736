package tree

import (
	"slices"

	"dowser/api"
	"dowser/node"
	"dowser/spot"
)

// edit: what becomes of the leaf that a key belongs to, where that is its
// place, and it is there or isn't.
type edit func(leaf node.Node, i int, is bool) node.Node

// draft is a change of a tree that isn't written yet.
type draft struct {
	tree  *Tree
	nodes []node.Node // to be appended in this order
	more  int         // how many keys more there are
}

// change edits the leaf that a key belongs to.
func (t *Tree) change(key string, by edit) api.Errno {
	d := &draft{tree: t}
	tops, e := d.tops(key, by)
	if e != api.OK {
		return e
	}
	root := d.crown(tops)
	if e := d.write(); e != api.OK {
		return e
	}
	t.root = root
	return api.OK
}

// tops: what becomes of the uppermost node.
func (d *draft) tops(key string, by edit) ([]node.Node, api.Errno) {
	if d.tree.root == Empty() {
		return d.edited(node.Node{Kind: node.Leaf}, key, by), api.OK
	}
	s, e := d.tree.top()
	if e != api.OK {
		return nil, e
	}
	return d.anew(s, key, by)
}

// anew: what becomes of a node, one or two, which aren't drafted yet, for
// those above may lay one that has too few entries together with another one.
// What becomes of those below it is drafted.
func (d *draft) anew(s spot.Spot, key string, by edit) ([]node.Node, api.Errno) {
	n, e := s.Read(d.tree.pages)
	if e != api.OK {
		return nil, e
	}
	if n.Kind == node.Leaf {
		return d.edited(n, key, by), api.OK
	}
	i := spot.Way(n, key)
	below, e := d.anew(s.Child(n, i), key, by)
	if e != api.OK {
		return nil, e
	}
	if below[0].Len() >= spot.Fewest {
		return parts(d.over(n, i, i+1, below)), api.OK
	}
	return d.mended(s, n, i, below[0])
}

// edited: what becomes of a key's leaf.
func (d *draft) edited(leaf node.Node, key string, by edit) []node.Node {
	before := leaf.Len()
	i, is := leaf.Find(key)
	leaf = by(leaf, i, is)
	d.more = leaf.Len() - before
	return parts(leaf)
}

// mended: what becomes of a Branch whose i-th child has too few entries now:
// that is laid together with the one behind it; the last child has but the one
// ahead of it.
func (d *draft) mended(s spot.Spot, n node.Node, i int, few node.Node) ([]node.Node, api.Errno) {
	if i == n.Len()-1 {
		ahead, e := s.Child(n, i-1).Read(d.tree.pages)
		return parts(d.over(n, i-1, i+1, parts(node.Join(ahead, few)))), e
	}
	behind, e := s.Child(n, i+1).Read(d.tree.pages)
	return parts(d.over(n, i, i+2, parts(node.Join(few, behind)))), e
}

// over: a Branch, some of whose entries are now those of other nodes, which
// are drafted.
func (d *draft) over(n node.Node, from, to int, below []node.Node) node.Node {
	var keys []string
	var kids []int
	for _, b := range below {
		keys = append(keys, b.Keys[0])
		kids = append(kids, d.add(b))
	}
	n.Keys = slices.Replace(n.Keys, from, to, keys...)
	n.Kids = slices.Replace(n.Kids, from, to, kids...)
	return n
}

// crown: the root over what became of the uppermost node. That is drafted
// last; a Branch over one alone isn't needed.
func (d *draft) crown(tops []node.Node) Root {
	top, root := tops[0], d.tree.root
	levels := max(root.Height, 1)
	if len(tops) > 1 {
		top = d.over(node.Node{Kind: node.Branch}, 0, 0, tops)
		levels++
	}
	if top.Len() == 0 {
		return Empty()
	}
	if top.Kind == node.Branch && top.Len() < spot.Fewest {
		return Root{top.Kids[0], root.Count + d.more, levels - 1}
	}
	return Root{d.add(top), root.Count + d.more, levels}
}

// add drafts a node: the page that it will be on.
func (d *draft) add(n node.Node) int {
	d.nodes = append(d.nodes, n)
	return d.tree.pages.Next() + len(d.nodes) - 1
}

// write appends what is drafted, all or nothing.
func (d *draft) write() api.Errno {
	p := d.tree.pages
	if p.Free() < len(d.nodes) {
		return api.ErrFull
	}
	before := p.Next()
	for _, n := range d.nodes {
		if _, e := p.Append(n.Kind, n.Pack()); e != api.OK {
			p.Cut(before)
			return e
		}
	}
	return api.OK
}

// parts: a node, or both parts of one that doesn't go on a page.
func parts(n node.Node) []node.Node {
	if n.Fits() {
		return []node.Node{n}
	}
	a, b := n.Split()
	return []node.Node{a, b}
}
