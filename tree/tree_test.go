package tree_test

import (
	"maps"
	"math"
	"math/bits"
	"slices"
	"strconv"
	"strings"
	"testing"

	"dowser/api"
	"dowser/disk"
	"dowser/node"
	"dowser/pages"
	"dowser/tree"
)

// random: numbers by a fixed rule.
type random uint64

func (r *random) pick(n int) int {
	*r = *r*6364136223846793005 + 1442695040888963407
	return int(uint64(*r) >> 33 % uint64(n))
}

// bed is a tree, what it lies on, and what it must hold.
type bed struct {
	t    *testing.T
	disk *disk.Disk
	p    *pages.Pages
	tree *tree.Tree
	has  map[string]string
}

// newBed: of a disk with so many pages a half, and no keys.
func newBed(t *testing.T, room int) *bed {
	t.Helper()
	d := disk.New(2 + 2*room)
	p, e := pages.Open(d, 0, 0)
	if e != api.OK {
		t.Fatal(e)
	}
	return &bed{t, d, p, tree.Open(p, tree.Empty()), map[string]string{}}
}

// beside: another bed, whose disk has so many pages a half, with the same
// pages in use, and the same tree.
func (b *bed) beside(room int) *bed {
	b.t.Helper()
	d := disk.New(2 + 2*room)
	for i := range b.p.Next() {
		s, e := b.disk.Read(2 + i)
		if e != api.OK || d.Write(2+i, s) != api.OK {
			b.t.Fatal("a disk is down")
		}
	}
	if e := d.Flush(); e != api.OK {
		b.t.Fatal(e)
	}
	p, e := pages.Open(d, 0, b.p.Next())
	if e != api.OK {
		b.t.Fatal(e)
	}
	return &bed{b.t, d, p, tree.Open(p, b.tree.Root()), maps.Clone(b.has)}
}

// put: a Put that must go well; how many pages it took.
func (b *bed) put(key, value string) int {
	b.t.Helper()
	before, writes, old := b.p.Next(), b.disk.Writes(), b.tree.Root()
	if e := b.tree.Put(key, value); e != api.OK {
		b.t.Fatalf("P10.1: Put(%q) into %v: %d", key, old, e)
	}
	b.has[key] = value
	took := b.p.Next() - before
	if b.disk.Writes()-writes != took {
		b.t.Fatalf("P10.1: %d writes for %d pages", b.disk.Writes()-writes, took)
	}
	if took < max(old.Height, 1) || took > tree.Cost(old.Count) {
		b.t.Fatalf("P10.3: Put into %v took %d pages, not %d to %d", old, took, old.Height, tree.Cost(old.Count))
	}
	b.rootIsLast()
	return took
}

// drop: a Delete of a key that is there, which must go well; how many pages it
// took.
func (b *bed) drop(key string) int {
	b.t.Helper()
	before, writes, old := b.p.Next(), b.disk.Writes(), b.tree.Root()
	if was, e := b.tree.Delete(key); !was || e != api.OK {
		b.t.Fatalf("P10.1: Delete(%q) of %v: %v (%d)", key, old, was, e)
	}
	delete(b.has, key)
	took := b.p.Next() - before
	if b.disk.Writes()-writes != took {
		b.t.Fatalf("P10.1: %d writes for %d pages", b.disk.Writes()-writes, took)
	}
	if took > tree.Cost(old.Count) {
		b.t.Fatalf("P10.3: Delete of %v took %d pages, not at most %d", old, took, tree.Cost(old.Count))
	}
	if len(b.has) == 0 {
		if r := b.tree.Root(); r != tree.Empty() || took != 0 {
			b.t.Fatalf("P10.1: behind the last Delete: %v, %d pages", r, took)
		}
		return took
	}
	b.rootIsLast()
	return took
}

// rootIsLast: of a tree that was just changed.
func (b *bed) rootIsLast() {
	b.t.Helper()
	r := b.tree.Root()
	if r.Page != b.p.Next()-1 {
		b.t.Fatalf("P10.1: the uppermost node's page is %d of %d", r.Page, b.p.Next())
	}
	if r.Count != len(b.has) || r.Height < 1 || r.Height > tree.Most(r.Count) {
		b.t.Fatalf("P10.3: %v, of %d keys", r, len(b.has))
	}
}

// refused: a call that must be told an error, and changes nothing.
func (b *bed) refused(want api.Errno, call func() api.Errno) {
	b.t.Helper()
	next, root := b.p.Next(), b.tree.Root()
	if e := call(); e != want {
		b.t.Fatalf("P10.1: error %d, not %d", e, want)
	}
	if b.p.Next() != next || b.tree.Root() != root {
		b.t.Fatalf("P10.1: beside an error: %v, %d pages, not %v, %d", b.tree.Root(), b.p.Next(), root, next)
	}
}

func (b *bed) notPut(key, value string, want api.Errno) {
	b.t.Helper()
	b.refused(want, func() api.Errno { return b.tree.Put(key, value) })
}

func (b *bed) notDropped(key string, want api.Errno) {
	b.t.Helper()
	b.refused(want, func() api.Errno {
		was, e := b.tree.Delete(key)
		if was {
			b.t.Errorf("P10.1: Delete(%q): true beside %d", key, e)
		}
		return e
	})
}

func (b *bed) notGot(key string, want api.Errno) {
	b.t.Helper()
	b.refused(want, func() api.Errno {
		v, is, e := b.tree.Get(key)
		if v != "" || is {
			b.t.Errorf("P10.1: Get(%q): %q, %v beside %d", key, v, is, e)
		}
		return e
	})
}

// absent: a key that isn't there, and whose Delete does nothing.
func (b *bed) absent(key string) {
	b.t.Helper()
	b.notGot(key, api.OK)
	writes := b.disk.Writes()
	b.notDropped(key, api.OK)
	if b.disk.Writes() != writes {
		b.t.Errorf("P10.1: a Delete that did nothing wrote")
	}
}

// same: the tree is one, and has what it must have.
func (b *bed) same() {
	b.t.Helper()
	holds(b.t, "P10.1", b.p, b.tree.Root(), b.has)
	for k, v := range b.has {
		if got, is, e := b.tree.Get(k); got != v || !is || e != api.OK {
			b.t.Fatalf("P10.1: Get(%q): %q, %v (%d), not %q", k, got, is, e, v)
		}
	}
}

// holds: the pages of that root are a tree, with just these keys.
func holds(t *testing.T, promise string, p *pages.Pages, r tree.Root, want map[string]string) {
	t.Helper()
	if len(want) == 0 {
		if r != tree.Empty() {
			t.Fatalf("%s: %v of no keys", promise, r)
		}
		return
	}
	got := map[string]string{}
	walk(t, p, r.Page, r.Height, true, got)
	if r.Count != len(want) || !maps.Equal(got, want) {
		t.Fatalf("%s: %v has %d keys, not the %d that it must have", promise, r, len(got), len(want))
	}
	if r.Height > tree.Most(len(want)) {
		t.Fatalf("P10.3: %d levels of %d keys", r.Height, len(want))
	}
}

// walk takes all keys of a node, and of those below it; its first and its last
// one.
func walk(t *testing.T, p *pages.Pages, page, levels int, top bool, got map[string]string) (string, string) {
	t.Helper()
	kind, payload, e := p.Read(page)
	if e != api.OK {
		t.Fatalf("P10.1: page %d: %d", page, e)
	}
	n, e := node.Parse(kind, payload)
	if e != api.OK || (n.Kind == node.Leaf) != (levels == 1) {
		t.Fatalf("P10.1: page %d, of level %d, is of kind %d (%d)", page, levels, kind, e)
	}
	if n.Len() < 2 && !(top && n.Kind == node.Leaf && n.Len() == 1) {
		t.Fatalf("P10.1: page %d has %d entries", page, n.Len())
	}
	last := ""
	for i, k := range n.Keys {
		if n.Kind == node.Leaf {
			got[k], last = n.Vals[i], k
			continue
		}
		first, end := walk(t, p, n.Kids[i], levels-1, false, got)
		if first != k || first <= last {
			t.Fatalf("P10.1: page %d: key %q, of a node from %q to %q, behind %q", page, k, first, end, last)
		}
		last = end
	}
	return n.Keys[0], last
}

// leaves: how many entries each one has.
func (b *bed) leaves() []int {
	b.t.Helper()
	level, l := []int{b.tree.Root().Page}, []int(nil)
	for range b.tree.Root().Height {
		var below []int
		l = nil
		for _, page := range level {
			kind, payload, _ := b.p.Read(page)
			n, _ := node.Parse(kind, payload)
			l, below = append(l, n.Len()), append(below, n.Kids...)
		}
		level = below
	}
	return l
}

func TestExample(t *testing.T) {
	b := newBed(t, 9)
	b.put("a", "x")
	if r := b.tree.Root(); r != (tree.Root{Page: 0, Count: 1, Height: 1}) {
		t.Errorf("P10.1: %v", r)
	}
	b.drop("a")
	if r := b.tree.Root(); r != tree.Empty() || r != (tree.Root{Page: -1, Count: 0, Height: 0}) {
		t.Errorf("P10.1: %v", r)
	}
}

func TestNoKeys(t *testing.T) {
	b := newBed(t, 9)
	if b.tree.Root() != tree.Empty() {
		t.Errorf("P10.1: %v", b.tree.Root())
	}
	b.absent("a")
	b.disk.Halt(0)
	b.disk.Flush()
	b.absent("a") // nothing is to be read
	b.notPut("a", "", api.ErrDown)
	none := newBed(t, 0)
	none.absent("a")
	none.notPut("a", "", api.ErrFull)
	none.disk.Halt(0)
	none.disk.Flush()
	none.notPut("a", "", api.ErrFull) // the least error is told
}

func TestPutOfAKeyThatIsThere(t *testing.T) {
	b := newBed(t, 2000)
	for i := range 40 {
		b.put("key"+strconv.Itoa(i), strings.Repeat("v", i%33))
	}
	for i := range 40 {
		old, value := b.tree.Root(), strings.Repeat("v", i%33)
		key := "key" + strconv.Itoa(i)
		if took := b.put(key, value); took != old.Height { // the same
			t.Errorf("P10.1: a Put of the same value took %d pages, of %d levels", took, old.Height)
		}
		if r := b.tree.Root(); r.Page != b.p.Next()-1 || r.Count != old.Count || r.Height != old.Height {
			t.Errorf("P10.1: %v behind %v", r, old)
		}
		b.same()
		b.put(key, "another")
		b.put(key, strings.Repeat("w", 32-i%33))
		b.put(key, "")
		b.same()
		if v, is, e := tree.Open(b.p, old).Get(key); v != value || !is || e != api.OK {
			t.Errorf("P10.2: %q, %v (%d)", v, is, e)
		}
	}
}

func TestKeysAndValuesThatMayNotBe(t *testing.T) {
	long, longer := strings.Repeat("k", 16), strings.Repeat("k", 17)
	full, fuller := strings.Repeat("v", 32), strings.Repeat("v", 33)
	for _, keys := range []int{0, 1, 2, 60} {
		b := newBed(t, 1000)
		for i := range keys {
			b.put(string([]byte{'k', byte(i)}), full)
		}
		for range 2 {
			for _, key := range []string{"", longer, strings.Repeat("a", 300)} {
				b.notPut(key, "", api.ErrArg)
				b.notPut(key, full, api.ErrArg)
				b.notPut(key, fuller, api.ErrArg)
				b.notDropped(key, api.ErrArg)
				if keys == 0 || b.disk.Flush() == api.OK {
					b.notGot(key, api.OK) // it isn't there
				}
			}
			b.notPut("a", fuller, api.ErrArg)
			b.notPut("k\x00", strings.Repeat("v", 100000), api.ErrArg)
			b.disk.Halt(0) // down: the least error is told
			b.disk.Flush()
		}
	}
	b := newBed(t, 100)
	for _, key := range []string{"\x00", "k", long, "\xff", "k\x00", "kk", "\xff\xff"} {
		b.put(key, "")
		b.put(key, full)
		b.same()
	}
	b.absent(long[:15])
}

func (b *bed) fill(keys []string, size func(i int) int) {
	b.t.Helper()
	for i, k := range keys {
		b.put(k, strings.Repeat(string(rune('a'+i%26)), size(i)))
		if i%37 == 0 {
			b.same()
		}
	}
	b.same()
}

// orders: a list of keys as it rises, as it falls, and mixed by a fixed rule.
func orders(keys []string) map[string][]string {
	rising := slices.Clone(keys)
	slices.Sort(rising)
	falling := slices.Clone(rising)
	slices.Reverse(falling)
	mixed := slices.Clone(rising)
	r := random(11)
	for i := len(mixed) - 1; i > 0; i-- {
		j := r.pick(i + 1)
		mixed[i], mixed[j] = mixed[j], mixed[i]
	}
	return map[string][]string{"rising": rising, "falling": falling, "mixed": mixed}
}

// Many keys, put and deleted in each order.
func TestOrders(t *testing.T) {
	kinds := map[string]func(i int) (string, int){
		"short": func(i int) (string, int) { return string([]byte{byte(i >> 8), byte(i)}), 0 },
		"long":  func(i int) (string, int) { return strconv.Itoa(1000+i) + strings.Repeat("-", 12), 32 },
		"mixed": func(i int) (string, int) {
			return strconv.Itoa(1000+i) + strings.Repeat("-", i*7%13), i * 5 % 33
		},
		"steep": func(i int) (string, int) { // every fourth key is short, those behind it long
			if i%4 == 0 {
				return string([]byte{byte(i >> 8), byte(i)}), 3
			}
			return string([]byte{byte(i >> 8), byte(i &^ 3), byte(i)}) + strings.Repeat("k", 13), 20
		},
	}
	for name, make := range kinds {
		size := map[string]int{}
		var keys []string
		for i := range 300 {
			k, n := make(i)
			keys, size[k] = append(keys, k), n
		}
		for put, first := range orders(keys) {
			for del, last := range orders(keys) {
				t.Run(name+", put "+put+", deleted "+del, func(t *testing.T) {
					b := newBed(t, 8000)
					b.fill(first, func(i int) int { return size[first[i]] })
					if b.tree.Root().Height < 2 {
						t.Errorf("P10.1: %v", b.tree.Root())
					}
					for i, k := range last {
						b.drop(k)
						b.absent(k)
						if i%37 == 0 || len(b.has) < 20 {
							b.same()
						}
					}
				})
			}
		}
	}
}

// Entries of 50 bytes, of which four go on a page. A node that has too few
// beside one that has many: they are laid together, and split; beside one that
// has few: they are one.
func TestTooFew(t *testing.T) {
	key := func(i int) string { return string(rune('a'+i)) + strings.Repeat("k", 15) }
	for _, x := range []struct {
		falls      bool // are the keys put as they fall?
		keys       int
		before     []int
		drop       []int
		took, left int // by the last Delete, and how many levels there are
		after      []int
	}{
		{false, 5, []int{3, 2}, []int{0}, 2, 2, []int{2, 2}},
		{false, 5, []int{3, 2}, []int{1, 0}, 1, 1, []int{3}},
		{false, 5, []int{3, 2}, []int{4}, 1, 1, []int{4}},
		{false, 5, []int{3, 2}, []int{0, 3}, 1, 1, []int{3}},
		{false, 6, []int{3, 3}, []int{1, 2}, 1, 1, []int{4}},
		{false, 7, []int{3, 4}, []int{1, 0}, 3, 2, []int{3, 2}},
		{false, 7, []int{3, 4}, []int{1, 2}, 3, 2, []int{3, 2}},
		{true, 6, []int{4, 2}, []int{5}, 3, 2, []int{3, 2}},
		{true, 6, []int{4, 2}, []int{4}, 3, 2, []int{3, 2}},
		{true, 7, []int{3, 2, 2}, []int{3}, 2, 2, []int{3, 3}},
		{true, 7, []int{3, 2, 2}, []int{6}, 2, 2, []int{3, 3}},
		{true, 7, []int{3, 2, 2}, []int{0, 1}, 2, 2, []int{3, 2}},
		{false, 10, []int{3, 3, 4}, []int{3, 4}, 3, 2, []int{3, 3, 2}},
	} {
		b := newBed(t, 500)
		for i := range x.keys {
			if x.falls {
				i = x.keys - 1 - i
			}
			b.put(key(i), strings.Repeat("v", 32))
		}
		if !slices.Equal(b.leaves(), x.before) {
			t.Fatalf("P10.1: %d keys: %v, not %v", x.keys, b.leaves(), x.before)
		}
		took := 0
		for _, i := range x.drop {
			took = b.drop(key(i))
			b.same()
		}
		if !slices.Equal(b.leaves(), x.after) || took != x.took || b.tree.Root().Height != x.left {
			t.Errorf("P10.1: %v without %v: %v, %d levels; %d pages were taken", x.before, x.drop, b.leaves(), b.tree.Root().Height, took)
		}
	}
}

func TestMostAndCost(t *testing.T) {
	for keys, want := range map[int][2]int{
		math.MinInt: {0, 3}, -2: {0, 3}, -1: {0, 3}, 0: {0, 3}, 1: {1, 5}, 2: {2, 5}, 3: {2, 7}, 4: {3, 7},
		5: {3, 7}, 6: {3, 7}, 7: {3, 9}, 8: {4, 9}, 15: {4, 11}, 16: {5, 11},
		1<<31 - 1: {31, 65}, 1 << 31: {32, 65}, math.MaxInt - 1: {63, 127}, math.MaxInt: {63, 129},
	} {
		if tree.Most(keys) != want[0] || tree.Cost(keys) != want[1] {
			t.Errorf("P10.1: of %d keys: Most %d, Cost %d, not %v", keys, tree.Most(keys), tree.Cost(keys), want)
		}
	}
	for keys := range 3000 {
		if tree.Most(keys) != bits.Len(uint(keys)) || tree.Cost(keys) != 2*bits.Len(uint(keys+1))+1 {
			t.Errorf("P10.1: of %d keys: Most %d, Cost %d", keys, tree.Most(keys), tree.Cost(keys))
		}
	}
}

// Elder roots, each read behind many calls.
func TestElderRoots(t *testing.T) {
	type elder struct {
		root tree.Root
		has  map[string]string
	}
	b := newBed(t, 10000)
	r := random(5)
	l := []elder{{tree.Empty(), map[string]string{}}}
	for step := range 1500 {
		key := strconv.Itoa(r.pick(150)) + strings.Repeat("k", r.pick(3))
		if _, is := b.has[key]; is && r.pick(3) > 0 {
			b.drop(key)
		} else {
			b.put(key, strings.Repeat("v", r.pick(33)))
		}
		if step%15 == 0 {
			l = append(l, elder{b.tree.Root(), maps.Clone(b.has)})
		}
	}
	for len(b.has) > 0 {
		b.drop(slices.Min(slices.Collect(maps.Keys(b.has))))
	}
	for _, x := range l {
		holds(t, "P10.2", b.p, x.root, x.has)
		old := tree.Open(b.p, x.root)
		if old.Root() != x.root {
			t.Errorf("P10.2: %v, not %v", old.Root(), x.root)
		}
		for i := range 150 {
			key := strconv.Itoa(i)
			want, there := x.has[key]
			if v, is, e := old.Get(key); v != want || is != there || e != api.OK {
				t.Fatalf("P10.2: %v: %q is %q, %v (%d), not %q, %v", x.root, key, v, is, e, want, there)
			}
		}
		if e := old.Put("new", "x"); e != api.OK { // an elder root, too, can be gone on from
			t.Fatalf("P10.2: %d", e)
		}
		holds(t, "P10.2", b.p, x.root, x.has)
		more := maps.Clone(x.has)
		more["new"] = "x"
		holds(t, "P10.2", b.p, old.Root(), more)
	}
}

func TestClone(t *testing.T) {
	b := newBed(t, 5000)
	check := func(x, y *tree.Tree, hasX, hasY map[string]string) {
		t.Helper()
		holds(t, "P10.1", b.p, x.Root(), hasX)
		holds(t, "P10.1", b.p, y.Root(), hasY)
	}
	empty := b.tree.Clone()
	b.put("a", "x")
	check(empty, b.tree, map[string]string{}, b.has)
	for i := range 100 {
		b.put("key"+strconv.Itoa(i), "value")
	}
	other := b.tree.Clone()
	if other == b.tree || other.Root() != b.tree.Root() {
		t.Errorf("P10.1: %v, not %v", other.Root(), b.tree.Root())
	}
	has := maps.Clone(b.has)
	for i := range 100 {
		key := "key" + strconv.Itoa(i)
		b.drop(key)
		if e := other.Put(key, "other"); e != api.OK {
			t.Fatalf("P10.1: %d", e)
		}
		has[key] = "other"
		if e := other.Put(key+"*", ""); e != api.OK {
			t.Fatalf("P10.1: %d", e)
		}
		has[key+"*"] = ""
		check(b.tree, other, b.has, has)
	}
	if was, e := empty.Delete("a"); was || e != api.OK || empty.Put("b", "y") != api.OK {
		t.Errorf("P10.1: an empty one's Clone: %v (%d)", was, e)
	}
	check(empty, b.tree, map[string]string{"b": "y"}, b.has)
}

// TestAnyCalls: many calls, picked by a fixed rule, on a tree and on a map.
func TestAnyCalls(t *testing.T) {
	for seed := range 12 {
		r := random(100 + seed)
		b := newBed(t, 32767)
		span := []int{3, 8, 30, 300}[seed%4]
		for step := range 1200 {
			key := strings.Repeat(string(rune('a'+r.pick(3))), 1+r.pick(2)) + strconv.Itoa(r.pick(span))
			key += strings.Repeat("x", r.pick(17-len(key)))
			_, is := b.has[key]
			grows := step/300%2 == 0
			switch {
			case is && r.pick(4) == 0:
				b.put(key, strings.Repeat("w", r.pick(33)))
			case is && (!grows || r.pick(4) == 0):
				b.drop(key)
			case is:
				if v, there, e := b.tree.Get(key); v != b.has[key] || !there || e != api.OK {
					t.Fatalf("P10.1: %q: %q, %v (%d)", key, v, there, e)
				}
			case grows || r.pick(4) == 0:
				b.absent(key)
				b.put(key, strings.Repeat("v", r.pick(33)))
			default:
				b.absent(key)
				if len(b.has) > 0 { // one that is there: the next one behind it, or the last
					l := slices.Sorted(maps.Keys(b.has))
					i, _ := slices.BinarySearch(l, key)
					b.drop(l[min(i, len(l)-1)])
				}
			}
			if step%20 == 0 {
				b.same()
			}
		}
		b.same()
	}
}
