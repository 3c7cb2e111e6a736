package cursor_test

import (
	"maps"
	"slices"
	"strconv"
	"strings"
	"testing"

	"dowser/api"
	"dowser/cursor"
	"dowser/disk"
	"dowser/node"
	"dowser/pages"
	"dowser/tree"
)

// random: numbers by a fixed rule.
type random uint64

func (r *random) pick(n int) int {
	*r = *r*6364136223846793005 + 1442695040888963407
	return int(uint64(*r) >> 33 % uint64(n))
}

// bed is a tree, what it lies on, and what it must hold.
type bed struct {
	t    *testing.T
	disk *disk.Disk
	p    *pages.Pages
	root tree.Root
	has  map[string]string
}

// newBed: of a disk with so many pages a half, and no keys.
func newBed(t *testing.T, room int) *bed {
	t.Helper()
	d := disk.New(2 + 2*room)
	p, e := pages.Open(d, 0, 0)
	if e != api.OK {
		t.Fatal(e)
	}
	return &bed{t, d, p, tree.Empty(), map[string]string{}}
}

// put: keys more.
func (b *bed) put(key, value string) {
	b.t.Helper()
	x := tree.Open(b.p, b.root)
	if e := x.Put(key, value); e != api.OK {
		b.t.Fatal(e)
	}
	b.root, b.has[key] = x.Root(), value
}

// drop: a key less.
func (b *bed) drop(key string) {
	b.t.Helper()
	x := tree.Open(b.p, b.root)
	if was, e := x.Delete(key); !was || e != api.OK {
		b.t.Fatal(was, e)
	}
	b.root = x.Root()
	delete(b.has, key)
}

// keys: what there is, rising.
func (b *bed) keys() []string { return slices.Sorted(maps.Keys(b.has)) }

// grown: a tree of keys by a fixed rule, with values of any length.
func grown(t *testing.T, keys int) *bed {
	t.Helper()
	b := newBed(t, 30000)
	r := random(keys)
	for len(b.has) < keys {
		key := strconv.Itoa(r.pick(10 + 20*keys))
		b.put(key+strings.Repeat("k", r.pick(3)*(16-len(key))/2), strings.Repeat("v", r.pick(33)))
	}
	return b
}

// trees: of some sizes, of one level and of several.
func trees(t *testing.T) []*bed {
	var l []*bed
	for _, keys := range []int{0, 1, 2, 3, 9, 20, 60, 300, 1200} {
		l = append(l, grown(t, keys))
	}
	if h := l[len(l)-1].root.Height; h < 3 {
		t.Fatalf("%d levels are few", h)
	}
	return l
}

// at: what a cursor says of where it is.
func (b *bed) at(c *cursor.Cursor, key, value string, e api.Errno) {
	b.t.Helper()
	if c.Key() != key || c.Value() != value || c.Err() != e {
		b.t.Fatalf("P11.1: at %q, %q (%d), not at %q, %q (%d)", c.Key(), c.Value(), c.Err(), key, value, e)
	}
}

// runs: a cursor goes through just these keys, and then ends, with that error,
// and stays so.
func (b *bed) runs(c *cursor.Cursor, keys []string, e api.Errno) {
	b.t.Helper()
	b.at(c, "", "", api.OK)
	for _, k := range keys {
		if !c.Next() {
			b.t.Fatalf("P11.1: no Next to %q (%d)", k, c.Err())
		}
		b.at(c, k, b.has[k], api.OK)
		b.at(c, k, b.has[k], api.OK)
	}
	for range 3 {
		if c.Next() {
			b.t.Fatalf("P11.1: Next to %q behind the last one", c.Key())
		}
		b.at(c, "", "", e)
	}
}

// from: what comes behind a text, by a list.
func (b *bed) from(text string) []string {
	l := b.keys()
	i, _ := slices.BinarySearch(l, text)
	return l[i:]
}

func TestExample(t *testing.T) {
	b := newBed(t, 9)
	for _, k := range []string{"c", "a", "b"} {
		b.put(k, k+"!")
	}
	c := cursor.From(b.p, b.root, "b")
	for _, k := range []string{"b", "c"} {
		if !c.Next() || c.Key() != k || c.Value() != k+"!" || c.Err() != api.OK {
			t.Errorf("P11.1: %q, %q (%d), not %q", c.Key(), c.Value(), c.Err(), k)
		}
	}
	if c.Next() || c.Key() != "" || c.Value() != "" || c.Err() != api.OK {
		t.Errorf("P11.1: %q, %q (%d) behind the last one", c.Key(), c.Value(), c.Err())
	}
}

func TestNoKeys(t *testing.T) {
	b := newBed(t, 9)
	for range 2 {
		for _, from := range []string{"", "a", strings.Repeat("a", 17), "\xff"} {
			b.runs(cursor.From(b.p, tree.Empty(), from), nil, api.OK)
			if k, v, e := cursor.All(b.p, tree.Empty(), from); len(k) != 0 || len(v) != 0 || e != api.OK {
				t.Errorf("P11.1: %q, %q (%d) of no keys", k, v, e)
			}
		}
		if l, e := cursor.Nodes(b.p, tree.Empty()); len(l) != 0 || e != api.OK {
			t.Errorf("P11.2: %v (%d) of no keys", l, e)
		}
		b.disk.Halt(0) // nothing is to be read
		b.disk.Flush()
	}
}

// Each key as the beginning, and texts around it.
func TestFrom(t *testing.T) {
	for _, b := range trees(t) {
		b.runs(cursor.From(b.p, b.root, ""), b.keys(), api.OK)
		b.runs(cursor.From(b.p, b.root, "\x00"), b.keys(), api.OK)
		for _, behind := range []string{"\xff", "x", strings.Repeat("\xff", 16), strings.Repeat("\xff", 1000)} {
			b.runs(cursor.From(b.p, b.root, behind), nil, api.OK)
		}
		for i, k := range b.keys() {
			if len(b.has) > 300 && i%7 > 0 {
				continue
			}
			for _, text := range []string{
				k, k + "\x00", k + "\xff", k[:len(k)-1], k[:len(k)-1] + "\x01", k[:1],
				k + strings.Repeat("a", 20), strings.Repeat(k, 17), k[:len(k)-1] + string([]byte{k[len(k)-1] - 1}) + strings.Repeat("\xff", 300),
			} {
				b.runs(cursor.From(b.p, b.root, text), b.from(text), api.OK)
			}
		}
	}
}

// A text that belongs to a leaf and is behind all its keys: the first key is in
// the next one.
func TestFromTheEndOfEachLeaf(t *testing.T) {
	b := grown(t, 1200)
	met := 0
	for _, page := range shape(b) {
		kind, payload, _ := b.p.Read(page)
		n, e := node.Parse(kind, payload)
		if e != api.OK || n.Kind != node.Leaf {
			continue
		}
		met++
		for _, text := range []string{n.Keys[n.Len()-1] + "\x00", n.Keys[n.Len()-1], n.Keys[0]} {
			b.runs(cursor.From(b.p, b.root, text), b.from(text), api.OK)
		}
	}
	if met < 30 {
		t.Fatalf("%d leaves are few", met)
	}
}

// A cursor is at the keys of its root, whatever is put and appended meanwhile,
// and each one goes on its own.
func TestMeanwhile(t *testing.T) {
	b := grown(t, 200)
	old, keys, has := b.root, b.keys(), maps.Clone(b.has)
	x, y := cursor.From(b.p, old, ""), cursor.From(b.p, old, keys[100])
	for i, k := range keys {
		if !x.Next() || x.Key() != k || x.Value() != has[k] {
			t.Fatalf("P11.1: %q, not %q", x.Key(), k)
		}
		if y.Next() != (i < 100) || i < 100 && y.Key() != keys[100+i] {
			t.Fatalf("P11.1: %q beside %q", y.Key(), k)
		}
		b.drop(k)
		b.put("n"+k[1:], "")
		if i%10 == 0 {
			b.p.Append(3, "between")
		}
	}
	if x.Next() || y.Next() || x.Err() != api.OK || y.Err() != api.OK {
		t.Errorf("P11.1: %q, %q", x.Key(), y.Key())
	}
	b.runs(cursor.From(b.p, b.root, ""), b.keys(), api.OK)
}

func (b *bed) all(prefix string) {
	b.t.Helper()
	var keys, values []string
	for _, k := range b.keys() {
		if strings.HasPrefix(k, prefix) {
			keys, values = append(keys, k), append(values, b.has[k])
		}
	}
	k, v, e := cursor.All(b.p, b.root, prefix)
	if !slices.Equal(k, keys) || !slices.Equal(v, values) || e != api.OK {
		b.t.Fatalf("P11.1: All of %q: %q, %q (%d), not %q, %q", prefix, k, v, e, keys, values)
	}
}

func TestAll(t *testing.T) {
	for _, b := range trees(t) {
		for _, prefix := range []string{"", "?", "\x00", "\xff", strings.Repeat("1", 16), strings.Repeat("1", 17), strings.Repeat("1", 400)} {
			b.all(prefix)
		}
		for i := range 10 {
			b.all(strconv.Itoa(i))
		}
		for i, k := range b.keys() {
			if i%3 > 0 && len(b.has) > 100 {
				continue
			}
			for n := range k {
				b.all(k[:n+1])
			}
			b.all(k + "\x00")
			b.all(k + k + k)
		}
	}
}

// A prefix that all keys have, one has, none has; of bytes that can't be more.
func TestPrefixes(t *testing.T) {
	b := newBed(t, 3000)
	for i := range 100 {
		b.put("same"+strconv.Itoa(i), "v")
	}
	for _, prefix := range []string{"", "s", "same", "same5", "same55", "same555", "samf", "sam\xff", "same\x00", "rame", "tame"} {
		b.all(prefix)
	}
	if k, _, _ := cursor.All(b.p, b.root, "same"); len(k) != 100 {
		t.Errorf("P11.1: %d keys", len(k))
	}
	if k, v, _ := cursor.All(b.p, b.root, "same55"); len(k) != 1 || k[0] != "same55" || len(v) != 1 {
		t.Errorf("P11.1: %q", k)
	}
	high := newBed(t, 3000)
	for i := range 256 {
		high.put("\xff"+string([]byte{byte(i)}), strconv.Itoa(i))
		high.put("\xff\xff"+string([]byte{byte(i)}), strconv.Itoa(i))
	}
	for _, prefix := range []string{"\xff", "\xff\xff", "\xff\xff\xff", "\xfe", "\xff\xff\xff\xff", "\xff\x00"} {
		high.all(prefix)
	}
}

// Lists that are answered are new.
func TestNewMemory(t *testing.T) {
	b := grown(t, 60)
	k, v, _ := cursor.All(b.p, b.root, "")
	l, _ := cursor.Nodes(b.p, b.root)
	for i := range k {
		k[i], v[i] = "?", "!"
	}
	for i := range l {
		l[i] = -7
	}
	b.all("")
	if again, e := cursor.Nodes(b.p, b.root); !slices.Equal(again, shape(b)) || e != api.OK {
		t.Errorf("P11.2: %v (%d)", again, e)
	}
}

// shape: the pages of all nodes of a tree, by its nodes, rising.
func shape(b *bed) []int {
	b.t.Helper()
	if b.root == tree.Empty() {
		return nil
	}
	level, l := []int{b.root.Page}, []int(nil)
	for range b.root.Height {
		l = append(l, level...)
		var below []int
		for _, page := range level {
			kind, payload, e := b.p.Read(page)
			if e != api.OK {
				b.t.Fatal(e)
			}
			n, e := node.Parse(kind, payload)
			if e != api.OK {
				b.t.Fatal(e)
			}
			below = append(below, n.Kids...)
		}
		level = below
	}
	slices.Sort(l)
	return l
}

func TestNodes(t *testing.T) {
	for _, b := range trees(t) {
		l, e := cursor.Nodes(b.p, b.root)
		if e != api.OK || !slices.Equal(l, shape(b)) {
			t.Fatalf("P11.2: Nodes of %v: %v (%d), not %v", b.root, l, e, shape(b))
		}
		for i, page := range l {
			if page < 0 || page >= b.p.Next() || i > 0 && page <= l[i-1] {
				t.Errorf("P11.2: %v", l)
			}
		}
		if b.root.Height == 1 && !slices.Equal(l, []int{b.root.Page}) {
			t.Errorf("P11.2: %v of one level", l)
		}
	}
}

// The pages without which all keys can't be gone through are just those of the
// nodes: each page of the half is spoilt, one at a time.
func TestNodesAreRead(t *testing.T) {
	for _, keys := range []int{1, 5, 60, 250} {
		b := grown(t, keys)
		for range 3 {
			b.p.Append(3, "a page of no node")
		}
		want, met := shape(b), 0
		for page := range b.p.Next() {
			was, _ := b.disk.Read(2 + page)
			b.disk.Write(2+page, "?")
			_, isNode := slices.BinarySearch(want, page)
			c := cursor.From(b.p, b.root, "")
			for c.Next() {
			}
			l, e := cursor.Nodes(b.p, b.root)
			if e != c.Err() || (e == api.ErrBad) != isNode || isNode && l != nil || !isNode && !slices.Equal(l, want) {
				t.Fatalf("P11.2: page %d is a node: %v; errors %d, %d; %v", page, isNode, c.Err(), e, l)
			}
			if isNode {
				met++
			}
			b.disk.Write(2+page, was)
		}
		if met != len(want) {
			t.Errorf("P11.2: %d nodes, not %d", met, len(want))
		}
		b.runs(cursor.From(b.p, b.root, ""), b.keys(), api.OK)
	}
}

// TestAnyTrees: trees by many calls, with all that is asked of them held
// against a list.
func TestAnyTrees(t *testing.T) {
	for seed := range 8 {
		b, r := newBed(t, 32000), random(seed)
		for step := range 800 {
			key := strconv.Itoa(r.pick([]int{20, 200, 2000}[seed%3]))
			key += strings.Repeat("x", r.pick(17-len(key)))
			if _, is := b.has[key]; is && r.pick(3) > 0 {
				b.drop(key)
			} else {
				b.put(key, strings.Repeat("v", r.pick(33)))
			}
			if step%40 > 0 {
				continue
			}
			text := key[:1+r.pick(len(key))]
			b.runs(cursor.From(b.p, b.root, text), b.from(text), api.OK)
			b.all(text)
			if l, e := cursor.Nodes(b.p, b.root); !slices.Equal(l, shape(b)) || e != api.OK {
				t.Fatalf("P11.2: %v (%d), not %v", l, e, shape(b))
			}
		}
	}
}
