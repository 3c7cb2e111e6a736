package cursor_test

import (
	"slices"
	"strings"
	"testing"

	"dowser/api"
	"dowser/cursor"
	"dowser/disk"
	"dowser/node"
	"dowser/pages"
	"dowser/tree"
)

// refused: All and Nodes beside an error.
func (b *bed) refused(prefix string, want api.Errno) {
	b.t.Helper()
	if k, v, e := cursor.All(b.p, b.root, prefix); k != nil || v != nil || e != want {
		b.t.Fatalf("P11.1: All of %q: %q, %q (%d), not %d", prefix, k, v, e, want)
	}
	if l, e := cursor.Nodes(b.p, b.root); l != nil || e != want {
		b.t.Fatalf("P11.2: Nodes: %v (%d), not %d", l, e, want)
	}
}

// firstKeys: the page of each leaf, by its keys' order, and its first key.
func firstKeys(b *bed) ([]int, []string) {
	var l []int
	first := map[int]string{}
	for _, page := range shape(b) {
		kind, payload, _ := b.p.Read(page)
		if n, _ := node.Parse(kind, payload); n.Kind == node.Leaf {
			l, first[page] = append(l, page), n.Keys[0]
		}
	}
	slices.SortFunc(l, func(x, y int) int { return strings.Compare(first[x], first[y]) })
	var keys []string
	for _, page := range l {
		keys = append(keys, first[page])
	}
	return l, keys
}

// A leaf that can't be read: all keys ahead of it are told, then the error,
// which stays, though the leaf be there again.
func TestSpoiltLeaves(t *testing.T) {
	b := grown(t, 300)
	leaves, first := firstKeys(b)
	keys := b.keys()
	for i, page := range leaves {
		was, _ := b.disk.Read(2 + page)
		b.disk.Write(2+page, "?")
		at, _ := slices.BinarySearch(keys, first[i])
		b.runs(cursor.From(b.p, b.root, ""), keys[:at], api.ErrBad)
		b.runs(cursor.From(b.p, b.root, keys[at]), nil, api.ErrBad)
		b.refused("", api.ErrBad)
		b.refused(keys[at], api.ErrBad)
		if i > 0 {
			b.runs(cursor.From(b.p, b.root, keys[at-1]), keys[at-1:at], api.ErrBad)
		}
		if i+1 < len(leaves) {
			b.runs(cursor.From(b.p, b.root, first[i+1]), b.from(first[i+1]), api.OK)
		}
		c := cursor.From(b.p, b.root, first[max(i-1, 0)])
		for c.Next() {
		}
		b.disk.Write(2+page, was)
		if c.Next() || c.Err() != api.ErrBad || c.Key() != "" || c.Value() != "" {
			t.Fatalf("P11.1: it went on behind an error: %q (%d)", c.Key(), c.Err())
		}
	}
	b.runs(cursor.From(b.p, b.root, ""), keys, api.OK)
}

// A Branch that can't be read: the uppermost one, and those below it.
func TestSpoiltBranches(t *testing.T) {
	b := grown(t, 1200)
	keys, met := b.keys(), 0
	for _, page := range shape(b) {
		kind, payload, _ := b.p.Read(page)
		n, _ := node.Parse(kind, payload)
		if n.Kind != node.Branch {
			continue
		}
		met++
		was, _ := b.disk.Read(2 + page)
		b.disk.Write(2+page, strings.Repeat("?", 256))
		at, _ := slices.BinarySearch(keys, n.Keys[0])
		if page == b.root.Page {
			at = 0
		}
		b.runs(cursor.From(b.p, b.root, ""), keys[:at], api.ErrBad)
		b.runs(cursor.From(b.p, b.root, n.Keys[1]), nil, api.ErrBad)
		b.refused("", api.ErrBad)
		b.refused(n.Keys[0], api.ErrBad)
		b.disk.Write(2+page, was)
	}
	if met < 5 {
		t.Fatalf("%d branches are few", met)
	}
	b.runs(cursor.From(b.p, b.root, ""), keys, api.OK)
}

// A disk that goes down while a cursor goes on: what it has read it tells, then
// the error, which stays behind the crash.
func TestDown(t *testing.T) {
	b := grown(t, 120)
	b.disk.Flush()
	keys := b.keys()
	_, first := firstKeys(b)
	for at := range keys {
		c := cursor.From(b.p, b.root, "")
		for _, k := range keys[:at] {
			if !c.Next() || c.Key() != k {
				t.Fatalf("P11.1: %q, not %q", c.Key(), k)
			}
		}
		b.disk.Halt(0)
		b.disk.Flush()
		b.refused("", api.ErrDown)
		b.refused("?", api.ErrDown)
		told := at
		for c.Next() {
			if told == len(keys) || c.Key() != keys[told] || c.Value() != b.has[keys[told]] || c.Err() != api.OK {
				t.Fatalf("P11.1: %q (%d) behind %d keys", c.Key(), c.Err(), told)
			}
			told++
		}
		b.disk.Crash()
		if told == len(keys) { // in the last leaf: there was nothing more to read
			b.at(c, "", "", api.OK)
			if at <= slices.Index(keys, first[len(first)-1]) {
				t.Fatalf("P11.1: all keys, of a disk that was down behind %d", at)
			}
			continue
		}
		if c.Next() || c.Next() {
			t.Fatalf("P11.1: it went on behind an error, to %q", c.Key())
		}
		b.at(c, "", "", api.ErrDown)
	}
	b.runs(cursor.From(b.p, b.root, ""), keys, api.OK)
}

// Both halves, of which each has a tree of its own.
func TestBothHalves(t *testing.T) {
	d := disk.New(802)
	var beds []*bed
	for half := range 2 {
		p, e := pages.Open(d, half, 0)
		if e != api.OK {
			t.Fatal(e)
		}
		b := &bed{t, d, p, tree.Empty(), map[string]string{}}
		for i := range 60 {
			b.put(string([]byte{'k', byte(i*(half+1)) + byte(half)}), strings.Repeat("v", 32-half))
		}
		beds = append(beds, b)
	}
	for _, b := range beds {
		b.runs(cursor.From(b.p, b.root, ""), b.keys(), api.OK)
		b.all("k")
		if l, e := cursor.Nodes(b.p, b.root); e != api.OK || !slices.Equal(l, shape(b)) {
			t.Errorf("P11.2: %v (%d)", l, e)
		}
	}
}

// lay appends a node as it is; its page.
func (b *bed) lay(n node.Node) int {
	b.t.Helper()
	page, e := b.p.Append(n.Kind, n.Pack())
	if e != api.OK {
		b.t.Fatal(e)
	}
	return page
}

// leaf lays one of these keys; its page.
func (b *bed) leaf(keys ...string) int {
	b.t.Helper()
	return b.lay(node.Node{Kind: node.Leaf, Keys: keys, Vals: make([]string, len(keys))})
}

// branch lays one over nodes that lie there already; its page.
func (b *bed) branch(keys string, kids ...int) int {
	b.t.Helper()
	return b.lay(node.Node{Kind: node.Branch, Keys: strings.Split(keys, " "), Kids: kids})
}

// raw lays a page of anything.
func (b *bed) raw(kind int, payload string) int {
	b.t.Helper()
	page, e := b.p.Append(kind, payload)
	if e != api.OK {
		b.t.Fatal(e)
	}
	return page
}

// Pages that are no such tree: the keys ahead of what is wrong are told, then
// ErrBad, as the tree's Get tells it.
func TestNoSuchTree(t *testing.T) {
	type root = tree.Root
	for name, x := range map[string]struct {
		ahead string // the keys that are told first
		lay   func(b *bed) root
	}{
		"a page not in use":       {"", func(b *bed) root { return root{Page: b.leaf("a") + 1, Count: 1, Height: 1} }},
		"a page below 0":          {"", func(b *bed) root { b.leaf("a"); return root{Page: -1, Count: 1, Height: 1} }},
		"more levels than may be": {"", func(b *bed) root { return root{Page: b.leaf("a"), Count: 1, Height: 2} }},
		"no level":                {"", func(b *bed) root { return root{Page: b.leaf("a"), Count: 1} }},
		"levels below 0":          {"", func(b *bed) root { return root{Page: b.leaf("a"), Count: 1, Height: -1} }},
		"no keys":                 {"", func(b *bed) root { return root{Page: b.leaf("a"), Height: 1} }},
		"keys below 0":            {"", func(b *bed) root { return root{Page: b.leaf("a"), Count: -1, Height: 1} }},
		"keys, and no page":       {"", func(b *bed) root { return root{Page: -1, Count: 1} }},
		"the zero root":           {"", func(b *bed) root { b.leaf("a"); return root{} }},
		"an empty leaf":           {"", func(b *bed) root { return root{Page: b.leaf(), Count: 1, Height: 1} }},
		"a blob":                  {"", func(b *bed) root { return root{Page: b.raw(3, "\x01\x01a\x00"), Count: 1, Height: 1} }},
		"bytes are wanting":       {"", func(b *bed) root { return root{Page: b.raw(1, "\x02\x01a\x00"), Count: 2, Height: 1} }},
		"bytes are left":          {"", func(b *bed) root { return root{Page: b.raw(1, "\x01\x01a\x00\x00"), Count: 1, Height: 1} }},
		"keys that fall":          {"", func(b *bed) root { return root{Page: b.raw(1, "\x02\x01b\x00\x01a\x00"), Count: 2, Height: 1} }},
		"a branch for a leaf": {"", func(b *bed) root {
			return root{Page: b.branch("a c", b.leaf("a", "b"), b.leaf("c", "d")), Count: 4, Height: 1}
		}},
		"a leaf for a branch": {"", func(b *bed) root { return root{Page: b.leaf("a", "b", "c", "d"), Count: 4, Height: 2} }},
		"an uppermost branch of one": {"", func(b *bed) root {
			return root{Page: b.branch("a", b.leaf("a", "b")), Count: 2, Height: 2}
		}},
		"a first leaf of one": {"", func(b *bed) root {
			return root{Page: b.branch("a c", b.leaf("a"), b.leaf("c", "d")), Count: 3, Height: 2}
		}},
		"a last leaf of one": {"ab", func(b *bed) root {
			return root{Page: b.branch("a c", b.leaf("a", "b"), b.leaf("c")), Count: 3, Height: 2}
		}},
		"a least key that is less": {"ab", func(b *bed) root {
			return root{Page: b.branch("a c", b.leaf("a", "b"), b.leaf("d", "e")), Count: 4, Height: 2}
		}},
		"a least key that is greater": {"ab", func(b *bed) root {
			return root{Page: b.branch("a d", b.leaf("a", "b"), b.leaf("c", "e")), Count: 4, Height: 2}
		}},
		"a key that is the next one's": {"", func(b *bed) root {
			return root{Page: b.branch("a c", b.leaf("a", "c"), b.leaf("c", "d")), Count: 4, Height: 2}
		}},
		"one leaf twice": {"ab", func(b *bed) root {
			n := b.leaf("a", "b")
			return root{Page: b.branch("a c", n, n), Count: 4, Height: 2}
		}},
		"a child that isn't there": {"ab", func(b *bed) root {
			return root{Page: b.branch("a c", b.leaf("a", "b"), 999999), Count: 4, Height: 2}
		}},
		"leaves on two levels": {"abcd", func(b *bed) root {
			x := b.branch("a c", b.leaf("a", "b"), b.leaf("c", "d"))
			return root{Page: b.branch("a e", x, b.leaf("e", "f")), Count: 6, Height: 3}
		}},
		"a lower branch of one": {"abcd", func(b *bed) root {
			x := b.branch("a c", b.leaf("a", "b"), b.leaf("c", "d"))
			return root{Page: b.branch("a e", x, b.branch("e", b.leaf("e", "f"))), Count: 6, Height: 3}
		}},
		"keys behind those of the one above": {"ab", func(b *bed) root {
			x := b.branch("a c", b.leaf("a", "b"), b.leaf("c", "x"))
			y := b.branch("e g", b.leaf("e", "f"), b.leaf("g", "h"))
			return root{Page: b.branch("a e", x, y), Count: 8, Height: 3}
		}},
		"a branch over itself": {"", func(b *bed) root {
			n := b.p.Next()
			return root{Page: b.branch("a b", n, n), Count: 1 << 40, Height: 40}
		}},
		"levels without end": {"", func(b *bed) root {
			n := b.p.Next()
			return root{Page: b.branch("a b", n, n), Count: 4, Height: 1 << 30}
		}},
	} {
		t.Run(name, func(t *testing.T) {
			b := newBed(t, 100)
			b.root = x.lay(b)
			var ahead []string
			for _, k := range x.ahead {
				ahead = append(ahead, string(k))
			}
			b.runs(cursor.From(b.p, b.root, ""), ahead, api.ErrBad)
			b.refused("", api.ErrBad)
			for _, key := range []string{"a", "b", "c", "d", "e", "f", "zzzzzzzzzzzzzzzzzzzzz"} {
				_, _, e := tree.Open(b.p, b.root).Get(key)
				c := cursor.From(b.p, b.root, key)
				if is := c.Next(); e != api.OK && (is || c.Err() != e) {
					t.Errorf("P11.1: From %q: %v (%d), where Get tells %d", key, is, c.Err(), e)
				}
			}
		})
	}
}
