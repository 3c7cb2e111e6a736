package tree_test

import (
	"maps"
	"slices"
	"strconv"
	"strings"
	"testing"

	"dowser/api"
	"dowser/node"
	"dowser/pages"
	"dowser/tree"
)

// lay appends a node as it is; its page.
func (b *bed) lay(n node.Node) int {
	b.t.Helper()
	page, e := b.p.Append(n.Kind, n.Pack())
	if e != api.OK {
		b.t.Fatal(e)
	}
	return page
}

// leaf lays one of these keys; its page.
func (b *bed) leaf(value string, keys ...string) int {
	b.t.Helper()
	n := node.Node{Kind: node.Leaf, Keys: keys}
	for _, k := range keys {
		n.Vals = append(n.Vals, value)
		b.has[k] = value
	}
	return b.lay(n)
}

// branch lays one over nodes that lie there already; its page.
func (b *bed) branch(keys []string, kids ...int) int {
	b.t.Helper()
	return b.lay(node.Node{Kind: node.Branch, Keys: keys, Kids: kids})
}

// stands: a tree that was laid by hand.
func (b *bed) stands(page, levels int) {
	b.t.Helper()
	b.tree = tree.Open(b.p, tree.Root{Page: page, Count: len(b.has), Height: levels})
	b.same()
}

// grown: trees of some sizes.
func grown(t *testing.T) []*bed {
	var l []*bed
	for _, keys := range []int{1, 2, 4, 5, 9, 40, 200} {
		for _, size := range []int{0, 13, 32} {
			b := newBed(t, 3000)
			r := random(keys)
			for len(b.has) < keys {
				b.put(strconv.Itoa(r.pick(10000))+strings.Repeat("k", r.pick(12)), strings.Repeat("v", size))
			}
			l = append(l, b)
		}
	}
	return l
}

// asks: what a tree may be told, each one on its own: some keys that are
// there, and some that aren't.
func (b *bed) asks() []func(b *bed) (bool, api.Errno) {
	var l []func(b *bed) (bool, api.Errno)
	keys := slices.Sorted(maps.Keys(b.has))
	for i := 0; i < len(keys); i += 1 + len(keys)/6 {
		k := keys[i]
		for _, value := range []string{"", strings.Repeat("w", 32)} {
			l = append(l, func(b *bed) (bool, api.Errno) { return true, b.tree.Put(k, value) })
			l = append(l, func(b *bed) (bool, api.Errno) { return true, b.tree.Put(k[:len(k)-1]+"+", value) })
			l = append(l, func(b *bed) (bool, api.Errno) { return true, b.tree.Put(k[:1]+"++++++++++++++", value) })
		}
		l = append(l, func(b *bed) (bool, api.Errno) { return b.tree.Delete(k) })
	}
	return l
}

// As many pages free as a call takes, and one less.
func TestRoom(t *testing.T) {
	for _, b := range grown(t) {
		for i, ask := range b.asks() {
			wide := b.beside(b.p.Next() + 50)
			if did, e := ask(wide); !did || e != api.OK {
				t.Fatalf("P10.1: ask %d: %d", i, e)
			}
			takes := wide.p.Next() - b.p.Next()
			just := b.beside(wide.p.Next())
			if did, e := ask(just); !did || e != api.OK || just.tree.Root() != wide.tree.Root() || just.p.Free() != 0 {
				t.Fatalf("P10.1: ask %d, %d pages for %d: %d", i, takes, takes, e)
			}
			for less := 1; less <= takes; less++ {
				tight := b.beside(wide.p.Next() - less)
				writes := tight.disk.Writes()
				tight.refused(api.ErrFull, func() api.Errno { _, e := ask(tight); return e })
				if tight.disk.Writes() != writes {
					t.Fatalf("P10.1: ask %d, %d pages for %d: some were written", i, takes-less, takes)
				}
				tight.same()
			}
		}
	}
}

// The last key goes where no page is free; what isn't there, too.
func TestDeleteWithoutRoom(t *testing.T) {
	b := newBed(t, 1)
	b.put("a", "x")
	b.notPut("a", "x", api.ErrFull)
	b.notPut("b", "", api.ErrFull)
	b.absent("b")
	b.drop("a")
	b.notPut("a", "x", api.ErrFull)
	b.absent("a")
	two := newBed(t, 2)
	two.put("a", "x")
	two.put("b", "x")
	two.notDropped("a", api.ErrFull)
	two.absent("c")
	two.same()
}

// A disk that is down, and one that goes down at each write of a call.
func TestDown(t *testing.T) {
	for _, b := range grown(t) {
		b := b.beside(b.p.Next() + 50)
		for i, ask := range b.asks() {
			wide := b.beside(b.p.Next() + 50)
			ask(wide)
			takes := wide.p.Next() - b.p.Next()
			if len(b.has) > 1 && takes == 0 {
				t.Fatalf("P10.1: ask %d takes no pages", i)
			}
			for at := range takes {
				b.disk.Halt(at)
				b.refused(api.ErrDown, func() api.Errno {
					_, e := ask(b)
					return e
				})
				for k := range b.has {
					b.notGot(k, api.ErrDown)
					b.notDropped(k, api.ErrDown)
					b.notPut(k, "", api.ErrDown)
					break
				}
				b.notGot("?", api.ErrDown)
				b.notDropped("?", api.ErrDown)
				b.notPut("?", "", api.ErrDown)
				b.disk.Crash(100, 7, 0)
				b.same()
			}
		}
	}
}

// A full disk that is down: that there is no room is the least error, and
// holds whatever the nodes are.
func TestDownAndFull(t *testing.T) {
	b := newBed(t, 40)
	for i := 0; b.tree.Root().Height < 2; i++ {
		b.put(strconv.Itoa(i), strings.Repeat("v", 32))
	}
	for free, want := range []api.Errno{api.ErrFull, api.ErrFull, api.ErrDown, api.ErrDown} {
		c := b.beside(b.p.Next() + free)
		c.disk.Halt(0)
		c.disk.Flush()
		c.notPut("0", "", want)
		c.notDropped("0", api.ErrDown)
		c.notGot("0", api.ErrDown)
	}
}

// abc: some keys as a list.
func abc(s string) []string { return strings.Split(s, "") }

// Pages that are no such tree: whichever call meets them is told so.
func TestNoSuchTree(t *testing.T) {
	for name, lay := range map[string]func(b *bed) tree.Root{
		"a page not in use":     func(b *bed) tree.Root { return tree.Root{Page: b.leaf("", "a") + 1, Count: 1, Height: 1} },
		"a page below 0":        func(b *bed) tree.Root { b.leaf("", "a"); return tree.Root{Page: -1, Count: 1, Height: 1} },
		"a page far below 0":    func(b *bed) tree.Root { b.leaf("", "a"); return tree.Root{Page: -9, Count: 1, Height: 1} },
		"more levels":           func(b *bed) tree.Root { return tree.Root{Page: b.leaf("", "a", "b", "c", "d"), Count: 4, Height: 2} },
		"no level":              func(b *bed) tree.Root { return tree.Root{Page: b.leaf("", "a"), Count: 1} },
		"levels below 0":        func(b *bed) tree.Root { return tree.Root{Page: b.leaf("", "a"), Count: 1, Height: -1} },
		"no keys":               func(b *bed) tree.Root { return tree.Root{Page: b.leaf("", "a"), Height: 1} },
		"keys below 0":          func(b *bed) tree.Root { return tree.Root{Page: b.leaf("", "a"), Count: -1, Height: 1} },
		"a level, and no page":  func(b *bed) tree.Root { return tree.Root{Page: -1, Height: 1} },
		"no level, and no page": func(b *bed) tree.Root { return tree.Root{Page: -1, Count: 1} },
		"an empty leaf":         func(b *bed) tree.Root { return tree.Root{Page: b.leaf(""), Count: 1, Height: 1} },
		"a blob": func(b *bed) tree.Root {
			n, _ := b.p.Append(3, "\x01\x01a\x00")
			return tree.Root{Page: n, Count: 1, Height: 1}
		},
		"a page of kind 0": func(b *bed) tree.Root {
			n, _ := b.p.Append(0, "")
			return tree.Root{Page: n, Count: 1, Height: 1}
		},
		"bytes are wanting": func(b *bed) tree.Root {
			n, _ := b.p.Append(1, "\x02\x01a\x00")
			return tree.Root{Page: n, Count: 2, Height: 1}
		},
		"bytes are left": func(b *bed) tree.Root {
			n, _ := b.p.Append(1, "\x01\x01a\x00\x00")
			return tree.Root{Page: n, Count: 1, Height: 1}
		},
		"a key that is too long": func(b *bed) tree.Root {
			n, _ := b.p.Append(1, "\x01\x11aaaaaaaaaaaaaaaaa\x00")
			return tree.Root{Page: n, Count: 1, Height: 1}
		},
		"keys that fall": func(b *bed) tree.Root {
			n, _ := b.p.Append(1, "\x02\x01b\x00\x01a\x00")
			return tree.Root{Page: n, Count: 2, Height: 1}
		},
		"a sector that isn't one": func(b *bed) tree.Root {
			n := b.leaf("", "a", "b")
			b.disk.Write(2+n, "?")
			return tree.Root{Page: n, Count: 2, Height: 1}
		},
		"a branch where a leaf should be": func(b *bed) tree.Root {
			return tree.Root{Page: b.branch(abc("ac"), b.leaf("", "a", "b"), b.leaf("", "c", "d")), Count: 4, Height: 1}
		},
		"a leaf where a branch should be": func(b *bed) tree.Root {
			return tree.Root{Page: b.branch(abc("ac"), b.leaf("", "a", "b"), b.leaf("", "c", "d")), Count: 8, Height: 3}
		},
		"an uppermost branch of one": func(b *bed) tree.Root {
			return tree.Root{Page: b.branch(abc("a"), b.leaf("", "a", "b", "c", "d")), Count: 4, Height: 2}
		},
		"leaves of one": func(b *bed) tree.Root {
			return tree.Root{Page: b.branch(abc("abcd"), b.leaf("", "a"), b.leaf("", "b"), b.leaf("", "c"), b.leaf("", "d")), Count: 4, Height: 2}
		},
		"branches of one": func(b *bed) tree.Root {
			x, y := b.branch(abc("a"), b.leaf("", "a", "b")), b.branch(abc("c"), b.leaf("", "c", "d"))
			return tree.Root{Page: b.branch(abc("ac"), x, y), Count: 4, Height: 3}
		},
		"least keys that are greater": func(b *bed) tree.Root {
			return tree.Root{Page: b.branch(abc("bd"), b.leaf("", "a", "c"), b.leaf("", "d", "e")), Count: 4, Height: 2}
		},
		"least keys that are less": func(b *bed) tree.Root {
			return tree.Root{Page: b.branch([]string{"A", "bb"}, b.leaf("", "a", "b"), b.leaf("", "c", "d")), Count: 4, Height: 2}
		},
		"keys that are the next one's": func(b *bed) tree.Root {
			return tree.Root{Page: b.branch(abc("ac"), b.leaf("", "a", "c"), b.leaf("", "c", "z")), Count: 4, Height: 2}
		},
		"branches' keys behind the next one's": func(b *bed) tree.Root {
			x, y := b.branch(abc("ay"), b.leaf("", "a", "b"), b.leaf("", "y", "z")), b.branch(abc("xz"), 0, 0)
			return tree.Root{Page: b.branch(abc("ax"), x, y), Count: 8, Height: 3}
		},
		"leaves' keys behind the one's above": func(b *bed) tree.Root {
			x, y := b.branch([]string{"0", "00"}, b.leaf("", "0", "000"), b.leaf("", "00", "y")), b.branch(abc("xz"), 0, 0)
			return tree.Root{Page: b.branch(abc("0x"), x, y), Count: 8, Height: 3}
		},
		"a child that isn't there": func(b *bed) tree.Root {
			return tree.Root{Page: b.branch(abc("ac"), 999999, b.leaf("", "c", "d")), Count: 4, Height: 2}
		},
		"a branch over itself": func(b *bed) tree.Root {
			n := b.p.Next()
			return tree.Root{Page: b.branch(abc("ab"), n, n), Count: 1 << 40, Height: 40}
		},
		"a branch over itself, of no level": func(b *bed) tree.Root {
			n := b.p.Next()
			return tree.Root{Page: b.branch(abc("ab"), n, n), Count: 1 << 40}
		},
		"a branch over itself, of levels below 0": func(b *bed) tree.Root {
			n := b.p.Next()
			return tree.Root{Page: b.branch(abc("ab"), n, n), Count: 1 << 40, Height: -2}
		},
		"levels without end": func(b *bed) tree.Root {
			n := b.p.Next()
			return tree.Root{Page: b.branch(abc("ab"), n, n), Count: 4, Height: 1 << 30}
		},
	} {
		t.Run(name, func(t *testing.T) {
			b := newBed(t, 100)
			r := lay(b)
			b.tree = tree.Open(b.p, r)
			if b.tree.Root() != r || b.tree.Clone().Root() != r {
				t.Errorf("P10.1: the root is %v, not %v", b.tree.Root(), r)
			}
			for _, key := range []string{"a", "b", "0", "c", "bb"} {
				if key >= "b" && r.Height == 2 { // beside what is wrong, all is well
					break
				}
				b.notGot(key, api.ErrBad)
				b.notDropped(key, api.ErrBad)
				if r.Height < 1000 {
					b.notPut(key, "", api.ErrBad)
					b.notPut(key, strings.Repeat("v", 32), api.ErrBad)
				}
			}
			b.notPut("", "", api.ErrArg)
			b.notDropped("", api.ErrArg)
		})
	}
}

// What is beside a node that has too few entries is no such node.
func TestNoSuchNeighbour(t *testing.T) {
	for name, wrong := range map[string]func(b *bed, first string) int{
		"a branch":   func(b *bed, first string) int { return b.branch([]string{first, first + "x"}, 0, 0) },
		"of one":     func(b *bed, first string) int { return b.leaf("", first) },
		"of others":  func(b *bed, first string) int { return b.leaf("", first+"0", first+"1") },
		"not in use": func(b *bed, first string) int { return 77 },
	} {
		t.Run(name, func(t *testing.T) {
			b := newBed(t, 60)
			good, bad := b.leaf("", "a", "aa"), wrong(b, "c")
			b.tree = tree.Open(b.p, tree.Root{Page: b.branch(abc("ac"), good, bad), Count: 4, Height: 2})
			b.notDropped("a", api.ErrBad)
			b.notDropped("aa", api.ErrBad)
			if v, is, e := b.tree.Get("aa"); v != "" || !is || e != api.OK {
				t.Errorf("P10.1: %q, %v (%d)", v, is, e)
			}
			good, bad = b.leaf("", "c", "cc"), wrong(b, "a")
			b.tree = tree.Open(b.p, tree.Root{Page: b.branch(abc("ac"), bad, good), Count: 4, Height: 2})
			b.notDropped("c", api.ErrBad)
			b.notDropped("cc", api.ErrBad)
		})
	}
}

// wide: a tree of two levels, whose uppermost Branch, of short keys, is nearly
// a whole page; its leaves are of three keys, a short one and two long ones.
func wide(t *testing.T) (*bed, []string) {
	b := newBed(t, 3000)
	var keys []string
	var kids []int
	for i := range 79 {
		k := string([]byte{byte(33 + i)})
		keys = append(keys, k)
		kids = append(kids, b.leaf("v", k, k+strings.Repeat("x", 15), k+strings.Repeat("y", 15)))
	}
	b.stands(b.branch(keys, kids...), 2)
	return b, keys
}

// A Delete may make keys of Branches longer, so that they have to be split.
func TestDeleteThatSplits(t *testing.T) {
	b, keys := wide(t)
	if b.drop(keys[0]) != 4 || b.tree.Root().Height != 3 { // a leaf, two Branches, and one over them
		t.Errorf("P10.3: %v", b.tree.Root())
	}
	b.same()
	for _, k := range keys[1:] {
		b.drop(k)
		b.same()
	}
	for len(b.has) > 0 {
		b.drop(slices.Max(slices.Collect(maps.Keys(b.has))))
		if len(b.has)%5 == 0 {
			b.same()
		}
	}
	for i := 0; i < 79; i += 6 { // others first
		b, keys := wide(t)
		b.drop(keys[i])
		b.same()
	}
}

// A Put of a key that is less than all, and longer: the keys on the way are
// other ones.
func TestPutAheadOfAll(t *testing.T) {
	b, _ := wide(t)
	if b.put(strings.Repeat(" ", 16), "v") != 4 || b.tree.Root().Height != 3 {
		t.Errorf("P10.3: %v", b.tree.Root())
	}
	b.same()
	b.put(" ", "v")
	b.same()
	b.drop(" ")
	b.same()
}

// A Put that splits a node of each level takes two pages of each, and one.
func TestPutThatSplitsAll(t *testing.T) {
	b := newBed(t, 3000)
	for range 128 { // pages' numbers of two bytes
		b.lay(node.Node{Kind: node.Leaf})
	}
	key := func(i, j, k int) string {
		return string([]byte{byte('a' + i), byte('a' + j), byte('a' + k)}) + strings.Repeat("-", 13)
	}
	var tops []int
	var topKeys []string
	for i := range 10 {
		var kids []int
		var keys []string
		for j := range 10 {
			var l []string
			for k := range 4 {
				l = append(l, key(i, j, k))
			}
			kids, keys = append(kids, b.leaf(strings.Repeat("v", 32), l...)), append(keys, l[0])
		}
		for j := range 2 { // longer still: the Branch is 240 bytes, or nearly
			k := string([]byte{byte('a' + i), byte('m' + j)}) + strings.Repeat("-", 14)
			kids, keys = append(kids, b.leaf("v", k, k[:15]+"z")), append(keys, k)
		}
		tops, topKeys = append(tops, b.branch(keys, kids...)), append(topKeys, keys[0])
	}
	for i := range 2 {
		k := string(rune('x'+i)) + strings.Repeat("-", 15)
		below := b.branch([]string{k, k[:15] + "4"}, b.leaf("v", k, k[:15]+"3"), b.leaf("v", k[:15]+"4", k[:15]+"5"))
		tops, topKeys = append(tops, below), append(topKeys, k)
	}
	b.stands(b.branch(topKeys, tops...), 3)
	count := b.tree.Root().Count
	if took := b.put(key(4, 4, 7), strings.Repeat("v", 32)); took != 7 || b.tree.Root().Height != 4 || took > tree.Cost(count) {
		t.Errorf("P10.3: %d pages; %v", took, b.tree.Root())
	}
	b.same()
	for len(b.has) > 0 {
		b.drop(slices.Min(slices.Collect(maps.Keys(b.has))))
		if len(b.has)%9 == 0 {
			b.same()
		}
	}
}

// The fewest keys that a tree of so many levels may have: each Delete lays
// nodes of all levels together.
func TestFewestKeys(t *testing.T) {
	for levels := 2; levels <= 7; levels++ {
		for _, falls := range []bool{false, true} {
			b := newBed(t, 3000)
			b.stands(b.thin(0, levels))
			for b.tree.Root().Count > 0 {
				keys := slices.Sorted(maps.Keys(b.has))
				if falls {
					slices.Reverse(keys)
				}
				old := b.tree.Root()
				b.drop(keys[0])
				b.same()
				if r := b.tree.Root(); old.Count == 1<<levels && r.Height != levels-1 {
					t.Errorf("P10.3: %v behind %v", r, old)
				}
			}
		}
	}
}

// thin lays a node of two entries over such nodes, from a key on; its page,
// and how many levels.
func (b *bed) thin(from, levels int) (int, int) {
	key := func(i int) string { return string([]byte{'k', byte(i)}) }
	if levels == 1 {
		return b.leaf("v", key(from), key(from+1)), 1
	}
	half := 1 << (levels - 1)
	x, _ := b.thin(from, levels-1)
	y, _ := b.thin(from+half, levels-1)
	return b.branch([]string{key(from), key(from + half)}, x, y), levels
}

// Both halves, and pages that others appended among those of the tree.
func TestOtherPagesBetween(t *testing.T) {
	b := newBed(t, 2000)
	p, e := pages.Open(b.disk, 1, 0)
	if e != api.OK {
		t.Fatal(e)
	}
	other := &bed{t, b.disk, p, tree.Open(p, tree.Empty()), map[string]string{}}
	for i := range 100 {
		b.put(strconv.Itoa(i), strings.Repeat("v", 32))
		if _, e := b.p.Append(3, "between"); e != api.OK {
			t.Fatal(e)
		}
		other.put(strconv.Itoa(200-i), strings.Repeat("w", i%33))
	}
	b.same()
	other.same()
	for i := range 100 {
		b.drop(strconv.Itoa(i))
		if _, e := b.p.Append(3, "between"); e != api.OK {
			t.Fatal(e)
		}
	}
	other.same()
}
