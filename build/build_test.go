package build_test

import (
	"maps"
	"slices"
	"strconv"
	"strings"
	"testing"

	"dowser/api"
	"dowser/build"
	"dowser/cursor"
	"dowser/disk"
	"dowser/node"
	"dowser/pages"
	"dowser/tree"
)

// random: numbers by a fixed rule.
type random uint64

func (r *random) pick(n int) int {
	*r = *r*6364136223846793005 + 1442695040888963407
	return int(uint64(*r) >> 33 % uint64(n))
}

// bed is pages of a half, of a disk with so many a half, the first of which
// are in use already.
type bed struct {
	t    *testing.T
	disk *disk.Disk
	p    *pages.Pages
}

func newBed(t *testing.T, room, used int) *bed {
	t.Helper()
	d := disk.New(2 + 2*room)
	p, e := pages.Open(d, 0, 0)
	if e != api.OK {
		t.Fatal(e)
	}
	for i := range used {
		if _, e := p.Append(7, "in use "+strconv.Itoa(i)); e != api.OK {
			t.Fatal(e)
		}
	}
	d.Flush()
	return &bed{t, d, p}
}

// like: pairs with keys and values of so many bytes.
func like(pairs, key, value int) []build.Pair {
	var l []build.Pair
	for i := range pairs {
		k := string([]byte{byte('a' + i/26/26%26), byte('a' + i/26%26), byte('a' + i%26)})
		if key > 3 {
			k += strings.Repeat("k", key-3)
		}
		l = append(l, build.Pair{Key: k, Value: strings.Repeat(string(rune('a'+i%26)), value)})
	}
	return l
}

// mixed: pairs of any length, by a fixed rule.
func mixed(pairs, seed int) []build.Pair {
	r := random(seed)
	has := map[string]string{}
	for len(has) < pairs {
		k := strconv.Itoa(r.pick(20 + 30*pairs))
		has[k+strings.Repeat("x", r.pick(17-len(k)))] = strings.Repeat("v", r.pick(33))
	}
	return pairsOf(has)
}

func pairsOf(has map[string]string) []build.Pair {
	var l []build.Pair
	for _, k := range slices.Sorted(maps.Keys(has)) {
		l = append(l, build.Pair{Key: k, Value: has[k]})
	}
	return l
}

// group cuts a level's entries, of so many bytes each, into nodes: how many
// entries each of them has.
func group(sizes []int) []int {
	var l []int
	sum := 0
	for _, s := range sizes {
		if len(l) == 0 || 1+sum+s > 240 { // one byte says how many there are
			l, sum = append(l, 0), 0
		}
		l[len(l)-1]++
		sum += s
	}
	last := len(l) - 1
	if last < 1 || l[last] != 1 {
		return l
	}
	both := sizes[len(sizes)-1-l[last-1]:]
	total, first, at := 0, 0, 0
	for _, s := range both {
		total += s
	}
	for 2*first < total {
		first += both[at]
		at++
	}
	l[last-1], l[last] = at, len(both)-at
	return l
}

// model: the payloads of the pages that are appended from a page on, and how
// many levels there are.
func model(l []build.Pair, page int) ([]string, int) {
	var out []string
	type child struct {
		key  string
		page int
	}
	var level []child
	var sizes []int
	for _, x := range l {
		sizes = append(sizes, 2+len(x.Key)+len(x.Value))
	}
	at := 0
	for _, n := range group(sizes) {
		leaf := node.Node{Kind: node.Leaf}
		for _, x := range l[at : at+n] {
			leaf.Keys, leaf.Vals = append(leaf.Keys, x.Key), append(leaf.Vals, x.Value)
		}
		level = append(level, child{leaf.Keys[0], page + len(out)})
		out = append(out, "\x01"+leaf.Pack())
		at += n
	}
	levels := min(1, len(level))
	for len(level) > 1 {
		sizes = nil
		for _, c := range level {
			sizes = append(sizes, 1+len(c.key)+5)
		}
		var above []child
		at := 0
		for _, n := range group(sizes) {
			b := node.Node{Kind: node.Branch}
			for _, c := range level[at : at+n] {
				b.Keys, b.Kids = append(b.Keys, c.key), append(b.Kids, c.page)
			}
			above = append(above, child{b.Keys[0], page + len(out)})
			out = append(out, "\x02"+b.Pack())
			at += n
		}
		level = above
		levels++
	}
	return out, levels
}

// made: a Make that must go well, and all that is to be seen of it; its root.
func (b *bed) made(l []build.Pair) tree.Root {
	b.t.Helper()
	before, writes, handed := b.p.Next(), b.disk.Writes(), slices.Clone(l)
	want, levels := model(l, before)
	if n, h, e := build.Plan(l); n != len(want) || h != levels || e != api.OK {
		b.t.Fatalf("P12.1: Plan of %d pairs: %d pages, %d levels (%d), not %d, %d", len(l), n, h, e, len(want), levels)
	}
	if b.disk.Writes() != writes || b.p.Next() != before {
		b.t.Fatalf("P12.1: Plan wrote")
	}
	r, e := build.Make(b.p, l)
	root := tree.Root{Page: before + len(want) - 1, Count: len(l), Height: levels}
	if len(l) == 0 {
		root = tree.Empty()
	}
	if r != root || e != api.OK {
		b.t.Fatalf("P12.1: Make of %d pairs: %v (%d), not %v", len(l), r, e, root)
	}
	if b.p.Next() != before+len(want) || b.disk.Writes() != writes+len(want) {
		b.t.Fatalf("P12.1: %d pages, %d writes, not %d", b.p.Next()-before, b.disk.Writes()-writes, len(want))
	}
	for i, w := range want {
		if kind, payload, e := b.p.Read(before + i); string([]byte{byte(kind)})+payload != w || e != api.OK {
			b.t.Fatalf("P12.1: page %d of %d: %d, %q (%d), not %q", i, len(want), kind, payload, e, w)
		}
	}
	if !slices.Equal(l, handed) {
		b.t.Fatalf("P12.1: what is handed in was changed")
	}
	b.isTree(r, l, before)
	return r
}

// isTree: a root's pages are a tree of just these pairs, and all those from a
// page on (below 0: any).
func (b *bed) isTree(r tree.Root, l []build.Pair, from int) {
	b.t.Helper()
	if len(l) == 0 {
		if r != tree.Empty() {
			b.t.Fatalf("P12.2: %v of no pairs", r)
		}
		return
	}
	if r.Count != len(l) || r.Height > tree.Most(r.Count) {
		b.t.Fatalf("P12.2: %v of %d pairs", r, len(l))
	}
	var got []build.Pair
	b.walk(r.Page, r.Height, true, &got)
	if !slices.Equal(got, l) {
		b.t.Fatalf("P12.2: %d pairs, not %d, or others", len(got), len(l))
	}
	x := tree.Open(b.p, r)
	for _, p := range l {
		if v, is, e := x.Get(p.Key); v != p.Value || !is || e != api.OK {
			b.t.Fatalf("P12.2: %q: %q, %v (%d)", p.Key, v, is, e)
		}
	}
	if from < 0 {
		return
	}
	nodes, e := cursor.Nodes(b.p, r)
	var want []int
	for page := from; page < b.p.Next(); page++ {
		want = append(want, page)
	}
	if !slices.Equal(nodes, want) || e != api.OK {
		b.t.Fatalf("P12.2: nodes %v (%d), not from %d on", nodes, e, from)
	}
}

// walk takes all pairs of a node, and of those below it; its first key.
func (b *bed) walk(page, levels int, top bool, got *[]build.Pair) string {
	b.t.Helper()
	kind, payload, e := b.p.Read(page)
	if e != api.OK {
		b.t.Fatalf("P12.2: page %d: %d", page, e)
	}
	n, e := node.Parse(kind, payload)
	if e != api.OK || (n.Kind == node.Leaf) != (levels == 1) {
		b.t.Fatalf("P12.2: page %d, of level %d, is of kind %d (%d)", page, levels, kind, e)
	}
	if n.Len() < 2 && !(top && n.Kind == node.Leaf && n.Len() == 1) {
		b.t.Fatalf("P12.2: page %d has %d entries", page, n.Len())
	}
	for i, k := range n.Keys {
		if n.Kind == node.Leaf {
			*got = append(*got, build.Pair{Key: k, Value: n.Vals[i]})
		} else if first := b.walk(n.Kids[i], levels-1, false, got); first != k {
			b.t.Fatalf("P12.2: page %d: key %q of a node from %q on", page, k, first)
		}
	}
	return n.Keys[0]
}

// lens: how many entries each node has, level by level, the leaves first.
func (b *bed) lens(r tree.Root) [][]int {
	b.t.Helper()
	level, l := []int{r.Page}, [][]int(nil)
	for range r.Height {
		var below, lens []int
		for _, page := range level {
			kind, payload, _ := b.p.Read(page)
			n, _ := node.Parse(kind, payload)
			lens, below = append(lens, n.Len()), append(below, n.Kids...)
		}
		l, level = append(l, lens), below
	}
	slices.Reverse(l)
	return l
}

func TestExample(t *testing.T) {
	b := newBed(t, 9, 0)
	l := []build.Pair{{Key: "a", Value: "x"}}
	if n, h, e := build.Plan(l); n != 1 || h != 1 || e != api.OK {
		t.Errorf("P12.1: %d, %d (%d)", n, h, e)
	}
	if r, e := build.Make(b.p, l); r != (tree.Root{Page: 0, Count: 1, Height: 1}) || e != api.OK {
		t.Errorf("P12.1: %v (%d)", r, e)
	}
	if kind, s, e := b.p.Read(0); kind != 1 || s != "\x01\x01a\x01x" || e != api.OK {
		t.Errorf("P12.1: %d, %q (%d)", kind, s, e)
	}
}

func TestNoPairs(t *testing.T) {
	for _, room := range []int{0, 1, 9} {
		b := newBed(t, room, room/2)
		for range 2 {
			for _, l := range [][]build.Pair{nil, {}} {
				if n, h, e := build.Plan(l); n != 0 || h != 0 || e != api.OK {
					t.Errorf("P12.1: %d, %d (%d)", n, h, e)
				}
				if r, e := build.Make(b.p, l); r != tree.Empty() || e != api.OK || b.p.Next() != room/2 {
					t.Errorf("P12.1: %v (%d), %d pages", r, e, b.p.Next())
				}
			}
			b.disk.Halt(0) // nothing is to be written
			b.disk.Flush()
		}
	}
}

// How entries fall into nodes: just as many as go on a page, one more, and as
// many as leave a last node with a single entry.
func TestLevels(t *testing.T) {
	longer := func(l []build.Pair, at, bytes int) []build.Pair {
		l[at].Value += strings.Repeat("+", bytes)
		return l
	}
	for _, x := range []struct {
		l    []build.Pair
		want [][]int
	}{
		{like(1, 3, 0), [][]int{{1}}},
		{like(2, 3, 0), [][]int{{2}}},
		// of 50 bytes: four are 201
		{like(4, 16, 32), [][]int{{4}}},
		{like(5, 16, 32), [][]int{{3, 2}, {2}}},
		{like(6, 16, 32), [][]int{{4, 2}, {2}}},
		{like(8, 16, 32), [][]int{{4, 4}, {2}}},
		{like(9, 16, 32), [][]int{{4, 3, 2}, {3}}},
		// of 5 bytes: 47 are 236, and four bytes are left
		{like(47, 3, 0), [][]int{{47}}},
		{like(48, 3, 0), [][]int{{24, 24}, {2}}},
		{like(49, 3, 0), [][]int{{47, 2}, {2}}},
		{longer(like(47, 3, 0), 3, 4), [][]int{{47}}},
		{longer(like(47, 3, 0), 46, 4), [][]int{{47}}},
		{longer(like(47, 3, 0), 3, 5), [][]int{{23, 24}, {2}}},
		{longer(like(47, 3, 0), 46, 5), [][]int{{24, 23}, {2}}},
		// of a Branch entries count 22 bytes: ten are 221, though the pages'
		// numbers take but one; and 9 bytes: 26 are 235
		{like(40, 16, 32), [][]int{{4, 4, 4, 4, 4, 4, 4, 4, 4, 4}, {10}}},
		{like(42, 16, 32), [][]int{{4, 4, 4, 4, 4, 4, 4, 4, 4, 4, 2}, {6, 5}, {2}}},
		{like(46, 16, 32), [][]int{{4, 4, 4, 4, 4, 4, 4, 4, 4, 4, 4, 2}, {10, 2}, {2}}},
		// a single one on both levels
		{like(41, 16, 32), [][]int{{4, 4, 4, 4, 4, 4, 4, 4, 4, 3, 2}, {6, 5}, {2}}},
		{like(26*6, 3, 32), [][]int{slices.Repeat([]int{6}, 26), {26}}},
		{like(26*6+1, 3, 32), [][]int{append(slices.Repeat([]int{6}, 25), 4, 3), {14, 13}, {2}}},
		{like(27*6, 3, 32), [][]int{slices.Repeat([]int{6}, 27), {14, 13}, {2}}},
		{like(28*6, 3, 32), [][]int{slices.Repeat([]int{6}, 28), {26, 2}, {2}}},
	} {
		for _, used := range []int{0, 1, 127, 200} {
			b := newBed(t, 1000, used)
			if got := b.lens(b.made(x.l)); !slices.EqualFunc(got, x.want, slices.Equal) {
				t.Errorf("P12.1: %d pairs: %v, not %v", len(x.l), got, x.want)
			}
		}
	}
}

// A last Branch with a single entry on the third level.
func TestSingleHighUp(t *testing.T) {
	// 4 to a leaf, 10 to a Branch: 404 are 101 leaves and 11 Branches, of
	// which the last two are 6 and 5
	b := newBed(t, 1000, 0)
	got := b.lens(b.made(like(404, 16, 32)))
	want := [][]int{slices.Repeat([]int{4}, 101), append(slices.Repeat([]int{10}, 9), 6, 5), {6, 5}, {2}}
	if !slices.EqualFunc(got, want, slices.Equal) {
		t.Errorf("P12.1: %v, not %v", got, want)
	}
}

// What a Split of Branches counts: the numbers of pages as five bytes each,
// wherever the tree lies; so Plan tells what Make takes.
func TestSplitOfBranches(t *testing.T) {
	for seed := range 120 {
		l := mixed(60+seed, seed)
		var shapes [][][]int
		for _, used := range []int{0, 90, 126} {
			b := newBed(t, 1000, used)
			shapes = append(shapes, b.lens(b.made(l)))
		}
		for _, s := range shapes[1:] {
			if !slices.EqualFunc(s, shapes[0], slices.Equal) {
				t.Fatalf("P12.1: %v, elsewhere %v", s, shapes[0])
			}
		}
	}
}

// Each number of pairs, of some sizes.
func TestEachNumber(t *testing.T) {
	for _, size := range [][2]int{{3, 0}, {3, 32}, {16, 0}, {16, 32}, {9, 17}} {
		for n := range 180 {
			b := newBed(t, 300, n%5)
			b.made(like(n, size[0], size[1]))
		}
	}
	for _, n := range []int{500, 1500, 4000} {
		b := newBed(t, 3000, 3)
		b.made(like(n, 16, 32))
		b.made(mixed(n, n))
	}
}

// wrongs: lists that may not be.
func wrongs() map[string][]build.Pair {
	swapped := like(100, 3, 3)
	swapped[98], swapped[99] = swapped[99], swapped[98]
	twice := like(100, 3, 3)
	twice[50].Key = twice[51].Key
	first := like(100, 3, 3)
	first[0].Key = "zzz"
	return map[string][]build.Pair{
		"falls":                  {{Key: "b"}, {Key: "a"}},
		"twice":                  {{Key: "a", Value: "x"}, {Key: "a", Value: "y"}},
		"twice the same":         {{Key: "a"}, {Key: "a"}},
		"no key":                 {{Value: "x"}},
		"no key, of several":     {{Key: ""}, {Key: "a"}, {Key: "b"}},
		"a long key":             {{Key: strings.Repeat("k", 17)}},
		"a very long key":        {{Key: "a"}, {Key: strings.Repeat("k", 100000)}},
		"a long value":           {{Key: "a", Value: strings.Repeat("v", 33)}},
		"a long last value":      {{Key: "a"}, {Key: "b", Value: strings.Repeat("v", 300)}},
		"swapped at the end":     swapped,
		"twice, in a later leaf": twice,
		"the first one is last":  first,
	}
}

func (b *bed) refused(l []build.Pair, want api.Errno) {
	b.t.Helper()
	next, writes := b.p.Next(), b.disk.Writes()
	if r, e := build.Make(b.p, l); r != (tree.Root{}) || e != want {
		b.t.Fatalf("P12.1: Make: %v (%d), not %d", r, e, want)
	}
	if b.p.Next() != next || want != api.ErrDown && b.disk.Writes() != writes {
		b.t.Fatalf("P12.1: beside %d: %d pages are in use, %d before; %d writes", want, b.p.Next(), next, b.disk.Writes()-writes)
	}
}

func TestWrongPairs(t *testing.T) {
	for name, l := range wrongs() {
		t.Run(name, func(t *testing.T) {
			if n, h, e := build.Plan(l); n != 0 || h != 0 || e != api.ErrArg {
				t.Errorf("P12.1: Plan: %d, %d (%d)", n, h, e)
			}
			for _, room := range []int{0, 200} { // no room: the first error is told
				b := newBed(t, room, room/100)
				b.refused(l, api.ErrArg)
				b.disk.Halt(0)
				b.disk.Flush()
				b.refused(l, api.ErrArg)
			}
		})
	}
	b := newBed(t, 9, 0)
	b.made([]build.Pair{{Key: "\x00"}, {Key: "a", Value: strings.Repeat("v", 32)}, {Key: strings.Repeat("k", 16)}, {Key: "\xff"}})
}

// lists: of one level and of several.
func lists() [][]build.Pair {
	return [][]build.Pair{like(1, 3, 0), like(4, 16, 32), like(5, 16, 32), like(42, 16, 32), mixed(30, 1), mixed(300, 2)}
}

// As many pages free as Plan tells, and one less.
func TestRoom(t *testing.T) {
	for _, l := range lists() {
		n, _, _ := build.Plan(l)
		for _, used := range []int{0, 3} {
			b := newBed(t, used+n, used)
			b.made(l)
			if b.p.Free() != 0 {
				t.Errorf("P12.1: %d pages are left", b.p.Free())
			}
			for less := 1; less <= n; less += 1 + n/5 {
				b := newBed(t, used+n-less, used)
				b.refused(l, api.ErrFull)
				b.disk.Halt(0)
				b.disk.Flush()
				b.refused(l, api.ErrFull) // the first error is told
			}
		}
	}
}

// A disk that is down, and one that goes down at each write.
func TestDown(t *testing.T) {
	for _, l := range lists() {
		b := newBed(t, 200, 3)
		n, _, _ := build.Plan(l)
		for at := range n {
			b.disk.Halt(at)
			b.refused(l, api.ErrDown)
			b.refused(l, api.ErrDown)
			b.disk.Crash(256, 0, 99)
			for i := range 3 {
				if kind, s, e := b.p.Read(i); kind != 7 || s != "in use "+strconv.Itoa(i) || e != api.OK {
					t.Fatalf("P12.1: page %d: %d, %q (%d)", i, kind, s, e)
				}
			}
		}
		b.made(l)
	}
}

// A tree that was made goes on with Put and Delete, and is there as it was.
func TestGoesOn(t *testing.T) {
	for seed, l := range lists() {
		b := newBed(t, 20000, seed)
		r := b.made(l)
		x, has, rnd := tree.Open(b.p, r), map[string]string{}, random(seed)
		for _, p := range l {
			has[p.Key] = p.Value
		}
		for step := range 400 {
			key := strconv.Itoa(rnd.pick(300)) + strings.Repeat("x", rnd.pick(13))
			if len(has) > 0 && rnd.pick(2) == 0 {
				keys := slices.Sorted(maps.Keys(has))
				key = keys[rnd.pick(len(keys))]
				if was, e := x.Delete(key); !was || e != api.OK {
					t.Fatalf("P12.2: Delete of %q: %v (%d)", key, was, e)
				}
				delete(has, key)
			} else {
				has[key] = strings.Repeat("w", rnd.pick(33))
				if e := x.Put(key, has[key]); e != api.OK {
					t.Fatalf("P12.2: Put of %q: %d", key, e)
				}
			}
			if step%40 == 0 {
				b.isTree(x.Root(), pairsOf(has), -1)
			}
		}
		for key := range has {
			if was, e := x.Delete(key); !was || e != api.OK {
				t.Fatalf("P12.2: Delete of %q: %v (%d)", key, was, e)
			}
		}
		if x.Root() != tree.Empty() {
			t.Errorf("P12.2: %v", x.Root())
		}
		b.isTree(r, l, -1)
	}
}

// Making a tree keeps nothing of what is handed in.
func TestNothingIsKept(t *testing.T) {
	b := newBed(t, 200, 0)
	l := mixed(100, 9)
	kept := slices.Clone(l)
	r := b.made(l)
	for i := range l {
		l[i] = build.Pair{Key: "?"}
	}
	b.isTree(r, kept, 0)
	spare := append(make([]build.Pair, 0, 50), kept[:20]...)
	spare[:21][20] = build.Pair{Key: "spare", Value: "room"}
	b.made(spare)
	if spare[:21][20] != (build.Pair{Key: "spare", Value: "room"}) {
		t.Errorf("P12.1: spare room was written")
	}
}
