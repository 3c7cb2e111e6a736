package node_test

import (
	"math"
	"slices"
	"strings"
	"testing"

	"dowser/api"
	"dowser/node"
	"dowser/varint"
)

const mostPage = 1<<31 - 1

// random: numbers by a fixed rule.
type random uint64

func (r *random) pick(n int) int {
	*r = *r*6364136223846793005 + 1442695040888963407
	return int(uint64(*r) >> 33 % uint64(n))
}

func (r *random) text(n int) string {
	b := make([]byte, n)
	for i := range b {
		b[i] = byte(r.pick(256))
	}
	return string(b)
}

// leaf: of a list of key, value, key, value ..
func leaf(l ...string) node.Node {
	n := node.Node{Kind: node.Leaf}
	for i := 0; i+1 < len(l); i += 2 {
		n.Keys, n.Vals = append(n.Keys, l[i]), append(n.Vals, l[i+1])
	}
	return n
}

// branch: keys a, b, c .., of these pages.
func branch(kids ...int) node.Node {
	n := node.Node{Kind: node.Branch}
	for i, k := range kids {
		n.Keys, n.Kids = append(n.Keys, string(rune('a'+i))), append(n.Kids, k)
	}
	return n
}

// anyNode: one that may be, of at least one entry and at most most bytes.
func anyNode(r *random, kind, most int) node.Node {
	keys := map[string]int{}
	n := node.Node{Kind: kind}
	longest, widest := 1+r.pick(16), r.pick(33)
	for size := 0; ; {
		k := r.text(1 + r.pick(longest))
		v := r.text(min(r.pick(widest+1), 32))
		page := r.pick(mostPage) >> r.pick(31)
		more := 1 + len(k) + 1 + len(v)
		if kind == node.Branch {
			more = 1 + len(k) + len(varint.Num(uint64(page)))
		}
		if _, is := keys[k]; is || size+more+2 > most || len(keys) == 120 {
			break
		}
		keys[k] = page
		size += more
		i, _ := slices.BinarySearch(n.Keys, k)
		n.Keys = slices.Insert(n.Keys, i, k)
		if kind == node.Leaf {
			n.Vals = slices.Insert(n.Vals, i, v)
		} else {
			n.Kids = slices.Insert(n.Kids, i, page)
		}
	}
	return n
}

func same(a, b node.Node) bool {
	return a.Kind == b.Kind && slices.Equal(a.Keys, b.Keys) && slices.Equal(a.Vals, b.Vals) && slices.Equal(a.Kids, b.Kids)
}

func copyOf(n node.Node) node.Node {
	return node.Node{Kind: n.Kind, Keys: slices.Clone(n.Keys), Vals: slices.Clone(n.Vals), Kids: slices.Clone(n.Kids)}
}

// plainSize: how many bytes an entry has.
func plainSize(n node.Node, i int) int {
	size := 1 + len(n.Keys[i])
	if n.Kind == node.Leaf {
		return size + 1 + len(n.Vals[i])
	}
	for x := n.Kids[i]; x > 127; x >>= 7 {
		size++
	}
	return size + 1
}

func TestCheck(t *testing.T) {
	long, longer := strings.Repeat("k", 16), strings.Repeat("k", 17)
	full, fuller := strings.Repeat("v", 32), strings.Repeat("v", 33)
	good := []node.Node{
		{Kind: node.Leaf},
		{Kind: node.Leaf, Keys: []string{}, Vals: []string{}, Kids: []int{}},
		leaf("a", ""), leaf("\x00", "x"), leaf(long, full), leaf("a", full, "b", ""),
		leaf("a", "", "aa", "", "ab", "", "b", ""), leaf("\x7f", "", "\x80", ""), leaf("\xff", "", "\xff\x00", ""),
		branch(0), branch(mostPage), branch(5, 5, 4), branch(0, mostPage, 1),
		{Kind: node.Branch, Keys: []string{long}, Kids: []int{1}},
		{Kind: node.Branch, Keys: []string{"a"}, Kids: []int{1}, Vals: []string{}},
	}
	for _, n := range good {
		if e := n.Check(); e != api.OK {
			t.Errorf("P9.1: Check of %v: %d", n, e)
		}
	}
	bad := []node.Node{
		{}, {Kind: node.Branch}, {Kind: node.Branch, Keys: []string{}, Kids: []int{}},
		leaf("", ""), leaf(longer, ""), leaf("a", fuller), leaf("", "", "a", ""), leaf("a", "", longer, ""),
		leaf("a", "", "b", fuller), leaf("a", fuller, "b", ""),
		leaf("b", "", "a", ""), leaf("a", "", "a", ""), leaf("a", "", "c", "", "b", ""), leaf("ab", "", "a", ""),
		leaf("a", "", "b", "", "b", ""), leaf("\x80", "", "\x7f", ""), leaf("b", "", "a", "", "c", ""),
		branch(-1), branch(mostPage + 1), branch(math.MinInt), branch(math.MaxInt), branch(1, -1), branch(-1, 1), branch(0, mostPage+1, 0),
		{Kind: node.Branch, Keys: []string{""}, Kids: []int{1}},
		{Kind: node.Branch, Keys: []string{longer}, Kids: []int{1}},
		{Kind: node.Branch, Keys: []string{"b", "a"}, Kids: []int{1, 2}},
		{Kind: node.Branch, Keys: []string{"a", "a"}, Kids: []int{1, 2}},
	}
	for _, n := range bad {
		if e := n.Check(); e != api.ErrArg {
			t.Errorf("P9.1: Check of %v: %d", n, e)
		}
	}
}

// As many keys as values or pages, fewer and more; and what another kind has.
func TestCheckHowMany(t *testing.T) {
	abc := []string{"a", "b", "c"}
	for keys := range 4 {
		for vals := range 4 {
			for kids := range 4 {
				n := node.Node{Keys: abc[:keys], Vals: abc[:vals], Kids: []int{1, 2, 3}[:kids]}
				for kind, may := range map[int]bool{
					node.Leaf:   keys == vals && kids == 0,
					node.Branch: keys == kids && vals == 0 && keys > 0,
				} {
					n.Kind = kind
					if got := n.Check(); (got == api.OK) != may || got != api.OK && got != api.ErrArg {
						t.Errorf("P9.1: kind %d, %d keys, %d values, %d pages: %d", kind, keys, vals, kids, got)
					}
				}
			}
		}
	}
}

func TestOtherKinds(t *testing.T) {
	for _, kind := range []int{math.MinInt, -1, 0, 3, 4, 255, 257, 258, 1<<32 + 1, math.MaxInt} {
		for _, n := range []node.Node{{}, leaf("a", "x"), branch(1)} {
			n.Kind = kind
			if e := n.Check(); e != api.ErrArg {
				t.Errorf("P9.1: Check of kind %d: %d", kind, e)
			}
		}
		for _, s := range []string{"", "\x00", "\x01\x01a\x01x", "\x01\x01a\x00", "\x80", "\x01\x11"} {
			if n, e := node.Parse(kind, s); !same(n, node.Node{}) || e != api.ErrKind {
				t.Errorf("P9.1: Parse of kind %d, %q: %v (%d)", kind, s, n, e)
			}
		}
	}
}

// Size isn't asked by Check.
func TestCheckOfGreatNodes(t *testing.T) {
	n := node.Node{Kind: node.Leaf}
	for i := range 1000 {
		n.Keys = append(n.Keys, string([]byte{byte(i >> 8), byte(i)}))
		n.Vals = append(n.Vals, strings.Repeat("v", 32))
	}
	if n.Check() != api.OK || n.Len() != 1000 || n.Size() != 2+1000*(3+33) || n.Fits() {
		t.Errorf("P9.1: %d, %d, %d, %v", n.Check(), n.Len(), n.Size(), n.Fits())
	}
	m, e := node.Parse(node.Leaf, n.Pack())
	if e != api.OK || !same(m, n) {
		t.Errorf("P9.2: a node of 1000 entries: %d (%d)", m.Len(), e)
	}
}

func TestExample(t *testing.T) {
	if s := leaf("a", "x").Pack(); s != "\x01\x01\x61\x01\x78" {
		t.Errorf("P9.1: %x", s)
	}
}

func TestBytes(t *testing.T) {
	for _, x := range []struct {
		n node.Node
		s string
	}{
		{leaf(), "\x00"},
		{leaf("a", ""), "\x01\x01a\x00"},
		{leaf("a", "x", "c", ""), "\x02\x01a\x01x\x01c\x00"},
		{leaf("\x00", "\x00"), "\x01\x01\x00\x01\x00"},
		{leaf(strings.Repeat("k", 16), strings.Repeat("v", 32)), "\x01\x10" + strings.Repeat("k", 16) + "\x20" + strings.Repeat("v", 32)},
		{branch(0), "\x01\x01a\x00"},
		{branch(127, 128, 300), "\x03\x01a\x7f\x01b\x80\x01\x01c\xac\x02"},
		{branch(mostPage), "\x01\x01a\xff\xff\xff\xff\x07"},
	} {
		if s := x.n.Pack(); s != x.s || x.n.Size() != len(x.s) {
			t.Errorf("P9.1: Pack of %v: %x (%d), not %x", x.n, s, x.n.Size(), x.s)
		}
		if n, e := node.Parse(x.n.Kind, x.s); e != api.OK || !same(n, x.n) || n.Len() != len(x.n.Keys) {
			t.Errorf("P9.2: Parse of %x: %v (%d), not %v", x.s, n, e, x.n)
		}
	}
}

// Nodes that may be, there and back; each beginning of the bytes is wanting
// some, and one byte more is left over.
func TestThereAndBack(t *testing.T) {
	r := random(9)
	for step := range 2000 {
		n := anyNode(&r, 1+step%2, 3+r.pick(400))
		if n.Len() == 0 && n.Kind == node.Branch {
			continue
		}
		if e := n.Check(); e != api.OK {
			t.Fatalf("P9.1: Check of %v: %d", n, e)
		}
		before := copyOf(n)
		s := n.Pack()
		size := 1
		for i := range n.Keys {
			size += plainSize(n, i)
		}
		if len(s) != size || n.Size() != size || n.Fits() != (size <= 240) || n.Len() != len(n.Keys) {
			t.Fatalf("P9.1: %d bytes, Size %d, not %d; Fits %v", len(s), n.Size(), size, n.Fits())
		}
		m, e := node.Parse(n.Kind, s)
		if e != api.OK || !same(m, n) || !same(n, before) {
			t.Fatalf("P9.2: %v (%d), not %v", m, e, n)
		}
		for i := range s {
			if m, e := node.Parse(n.Kind, s[:i]); e != api.ErrEnd || !same(m, node.Node{}) {
				t.Fatalf("P9.1: the first %d bytes of %x: %v (%d)", i, s, m, e)
			}
		}
		for _, more := range []string{"\x00", "a", "\x01a\x00", s} {
			if m, e := node.Parse(n.Kind, s+more); e != api.ErrForm || !same(m, node.Node{}) {
				t.Fatalf("P9.1: %x behind %x: %v (%d)", more, s, m, e)
			}
		}
	}
}

// Whatever bytes there are: what is parsed has just these, and may be.
func TestAnyBytes(t *testing.T) {
	ask := func(s string) {
		for kind := 1; kind <= 2; kind++ {
			n, e := node.Parse(kind, s)
			if e != api.OK && !same(n, node.Node{}) {
				t.Fatalf("P9.1: %x: %v beside %d", s, n, e)
			}
			if e == api.OK && (n.Kind != kind || n.Check() != api.OK || n.Pack() != s) {
				t.Fatalf("P9.2: %x: %v, which is %x", s, n, n.Pack())
			}
		}
	}
	few := []byte{0, 1, 2, 3, 'a', 127, 128, 129, 255}
	var grow func(s string)
	grow = func(s string) {
		ask(s)
		if len(s) == 6 {
			return
		}
		for _, b := range few {
			grow(s + string([]byte{b}))
		}
	}
	grow("")
	r := random(4)
	for step := range 3000 {
		b := []byte(anyNode(&r, 1+step%2, 100).Pack())
		for range 1 + r.pick(3) {
			if len(b) > 0 {
				b[r.pick(len(b))] = byte(r.pick(256))
			}
		}
		ask(string(b))
	}
}

func TestParseOfWhatIsWrong(t *testing.T) {
	key16, key17 := "\x10"+strings.Repeat("k", 16), "\x11"+strings.Repeat("k", 17)
	val32, val33 := "\x20"+strings.Repeat("v", 32), "\x21"+strings.Repeat("v", 33)
	great := "\xff\xff\xff\xff\xff\xff\xff\xff\xff\x01" // 2^64 - 1
	for _, x := range []struct {
		kind int
		s    string
		want api.Errno
	}{
		{1, "\x00", api.OK}, {2, "\x00", api.ErrArg},
		{1, "", api.ErrEnd}, {2, "", api.ErrEnd}, {1, "\x01", api.ErrEnd}, {1, "\x02\x01a\x00", api.ErrEnd},
		{1, "\x80", api.ErrEnd}, {1, "\x80\x00", api.ErrForm}, {1, "\x81\x00\x01a\x00", api.ErrForm},
		{1, great, api.ErrEnd}, {2, great, api.ErrEnd}, {1, great + "\x01a\x00", api.ErrEnd}, {1, great + "\x11", api.ErrBig},
		{1, "\xff\xff\xff\xff\xff\xff\xff\xff\xff\x02", api.ErrForm},
		{1, "\x01" + key16 + val32, api.OK}, {1, "\x01" + key17 + val32, api.ErrBig}, {1, "\x01" + key16 + val33, api.ErrBig},
		{2, "\x01" + key16 + "\x05", api.OK}, {2, "\x01" + key17 + "\x05", api.ErrBig},
		{2, "\x01\x01a\xff\xff\xff\xff\x07", api.OK}, {2, "\x01\x01a\x80\x80\x80\x80\x08", api.ErrBig},
		{2, "\x01\x01a" + great, api.ErrBig}, {2, "\x01\x01a\x80", api.ErrEnd}, {2, "\x01\x01a\x80\x00", api.ErrForm},
		{1, "\x01\x81\x00a\x00", api.ErrForm}, {1, "\x01\x01a\x81\x00x", api.ErrForm},
		{1, "\x00\x00", api.ErrForm}, {2, "\x00\x00", api.ErrForm}, {1, "\x01\x01a\x00\x00", api.ErrForm},
		{1, "\x01\x00\x00", api.ErrArg}, {2, "\x01\x00\x00", api.ErrArg},
		{1, "\x02\x01b\x00\x01a\x00", api.ErrArg}, {2, "\x02\x01b\x00\x01a\x00", api.ErrArg},
		{1, "\x02\x01a\x00\x01a\x00", api.ErrArg}, {2, "\x02\x01a\x01\x01a\x02", api.ErrArg},
		// which one is first:
		{1, "\x02\x01b\x00\x01a\x00\x00", api.ErrForm}, // bytes are left, ahead of keys that don't rise
		{1, "\x02\x01b\x00\x01a", api.ErrEnd},          // layer 1, ahead of keys that don't rise
		{1, "\x02\x00\x00" + key17, api.ErrBig},        // and ahead of a key of no bytes
		{1, "\x02" + key17 + "\x00\x80\x00", api.ErrBig},
		{1, "\x02\x80\x00" + key17, api.ErrForm},
		{1, "\x03\x01a\x80\x00", api.ErrForm}, // ahead of the end
	} {
		n, e := node.Parse(x.kind, x.s)
		if e != x.want || e != api.OK && !same(n, node.Node{}) {
			t.Errorf("P9.1: Parse(%d, %x): %v (%d), not %d", x.kind, x.s, n, e, x.want)
		}
	}
}

func TestFits(t *testing.T) {
	n := node.Node{Kind: node.Leaf}
	for i := range 4 { // 1 and 4 times 50 bytes
		n.Keys = append(n.Keys, strings.Repeat(string(rune('a'+i)), 16))
		n.Vals = append(n.Vals, strings.Repeat("v", 32))
	}
	for last := range 33 {
		m := copyOf(n)
		m.Keys, m.Vals = append(m.Keys, "eeeee"), append(m.Vals, strings.Repeat("v", last))
		if want := 201 + 7 + last; m.Size() != want || m.Fits() != (want <= 240) {
			t.Errorf("P9.1: of %d bytes: Size %d, Fits %v", want, m.Size(), m.Fits())
		}
		m.Keys[4] += "e"
		if want := 201 + 8 + last; m.Size() != want || m.Fits() != (want <= 240) {
			t.Errorf("P9.1: of %d bytes: Size %d, Fits %v", want, m.Size(), m.Fits())
		}
	}
	if !(node.Node{Kind: node.Leaf}).Fits() || (node.Node{Kind: node.Leaf}).Size() != 1 || (node.Node{Kind: node.Leaf}).Len() != 0 {
		t.Errorf("P9.1: a Leaf with no entries is one byte")
	}
}

func TestFind(t *testing.T) {
	finds := func(n node.Node, key string, place int, there bool) {
		t.Helper()
		if i, is := n.Find(key); i != place || is != there {
			t.Errorf("P9.1: %q among %q: %d, %v, not %d, %v", key, n.Keys, i, is, place, there)
		}
	}
	for _, key := range []string{"", "a", strings.Repeat("z", 40)} {
		finds(node.Node{Kind: node.Leaf}, key, 0, false)
	}
	keys := []string{"b", "bb", "d", "d\x00", "f", "\x80", "\xff\xff"}
	l, b := node.Node{Kind: node.Leaf, Keys: keys}, node.Node{Kind: node.Branch, Keys: keys}
	for range keys {
		l.Vals, b.Kids = append(l.Vals, ""), append(b.Kids, 0)
	}
	for _, n := range []node.Node{l, b} {
		for i, k := range keys {
			finds(n, k, i, true)
			finds(n, k+"\x00", i+1, k == "d")
		}
		finds(n, "", 0, false)
		finds(n, "\x00", 0, false)
		finds(n, "a", 0, false)
		finds(n, "ba", 1, false)
		finds(n, "c", 2, false)
		finds(n, "e", 4, false)
		finds(n, "g", 5, false)
		finds(n, "\xff", 6, false)
		finds(n, strings.Repeat("b", 17), 2, false)
		finds(n, "\xff\xff\xff", 7, false)
	}
}

// splits: what a node must be split into.
func splits(t *testing.T, n node.Node) (node.Node, node.Node) {
	t.Helper()
	total, bytes, want := 0, 0, 0
	for i := range n.Keys {
		total += plainSize(n, i)
	}
	for want < n.Len()-1 && (want < 1 || 2*bytes < total) {
		bytes += plainSize(n, want)
		want++
	}
	before := copyOf(n)
	a, b := n.Split()
	if a.Len() != want || !same(n, before) || a.Kind != n.Kind || b.Kind != n.Kind {
		t.Fatalf("P9.1: %d and %d entries of %v, not %d", a.Len(), b.Len(), n, want)
	}
	back := node.Node{Kind: n.Kind, Keys: append(slices.Clone(a.Keys), b.Keys...), Vals: append(slices.Clone(a.Vals), b.Vals...), Kids: append(slices.Clone(a.Kids), b.Kids...)}
	if !same(back, n) || a.Check() != api.OK || b.Check() != api.OK {
		t.Fatalf("P9.1: %v and %v, of %v", a, b, n)
	}
	if j := node.Join(a, b); !same(j, n) {
		t.Fatalf("P9.1: joined: %v, not %v", j, n)
	}
	return a, b
}

func TestSplit(t *testing.T) {
	big := strings.Repeat("v", 32)
	for _, x := range []struct {
		n    node.Node
		want int
	}{
		{leaf("a", "", "b", ""), 1},
		{leaf("a", "", "b", big), 1},
		{leaf("a", big, "b", ""), 1},
		{leaf("a", "", "b", "", "c", "", "d", ""), 2},
		{leaf("a", "", "b", "", "c", ""), 2},
		{leaf("a", "", "b", "", "c", big), 2},
		{leaf("a", "", "b", "", "c", "", "d", big), 3},
		{leaf("a", big, "b", "", "c", ""), 1},
		{leaf("a", "1234", "b", "", "c", "x"), 1}, // just half
		{leaf("a", "123", "b", "", "c", "x"), 2},  // a byte less
		{leaf("a", "", "b", big, "c", ""), 2},
		{branch(0, 0), 1}, {branch(0, 0, 0), 2}, {branch(0, 0, mostPage), 2}, {branch(mostPage, 0, 0), 1},
		{branch(0, 0, 0, 0, 0, mostPage), 4}, {branch(0, 128, 0, 0), 2},
	} {
		if a, _ := splits(t, x.n); a.Len() != x.want {
			t.Errorf("P9.1: %v is split behind %d, not %d", x.n, a.Len(), x.want)
		}
	}
	r := random(2)
	for step := range 2000 {
		if n := anyNode(&r, 1+step%2, 10+r.pick(500)); n.Len() >= 2 {
			splits(t, n)
		}
	}
}

// padded: a node of just so many bytes, of entries picked by a fixed rule.
func padded(r *random, kind, size int) (node.Node, bool) {
	n := anyNode(r, kind, size-1)
	if n.Len() == 0 {
		return n, false
	}
	for i := range n.Keys {
		rest := size - n.Size()
		if kind == node.Leaf {
			n.Vals[i] += strings.Repeat("p", min(rest, 32-len(n.Vals[i])))
		} else {
			rest = min(rest, 5-len(varint.Num(uint64(n.Kids[i]))))
			n.Kids[i] = max(n.Kids[i], 1) << (7 * rest) & mostPage
		}
	}
	return n, n.Size() == size && n.Check() == api.OK
}

// A node of 241 to 290 bytes is split into two that fit, of two entries at
// least each.
func TestSplitOfWhatDoesNotFit(t *testing.T) {
	r := random(3)
	for _, kind := range []int{node.Leaf, node.Branch} {
		for size := 241; size <= 290; size++ {
			made := 0
			for made < 100 {
				n, is := padded(&r, kind, size)
				if !is {
					continue
				}
				made++
				a, b := splits(t, n)
				if n.Fits() || !a.Fits() || !b.Fits() || a.Len() < 2 || b.Len() < 2 {
					t.Fatalf("P9.3: %d bytes: %d of %d entries and %d of %d", size, a.Size(), a.Len(), b.Size(), b.Len())
				}
			}
		}
	}
}

// Of the greatest entries, and with the greatest ones where they weigh most.
func TestSplitOfGreatEntries(t *testing.T) {
	big := func(i int) (string, string) {
		return string(rune('a'+i)) + strings.Repeat("k", 15), strings.Repeat("v", 32)
	}
	for great := range 6 { // which entries are great: all pairs of places
		for other := range 6 {
			n := node.Node{Kind: node.Leaf}
			for i := range 6 {
				k, v := big(i)
				if i != great && i != other {
					k, v = k[:14], v[:30]
				}
				n.Keys, n.Vals = append(n.Keys, k), append(n.Vals, v)
			}
			a, b := splits(t, n)
			if n.Size() > 290 || !a.Fits() || !b.Fits() || a.Len() < 2 || b.Len() < 2 {
				t.Errorf("P9.3: %d bytes: %d and %d entries", n.Size(), a.Len(), b.Len())
			}
		}
	}
	n := node.Node{Kind: node.Leaf}
	for i := range 5 {
		k, v := big(i)
		n.Keys, n.Vals = append(n.Keys, k), append(n.Vals, v)
	}
	if a, b := splits(t, n); a.Len() != 3 || b.Len() != 2 || n.Size() != 251 {
		t.Errorf("P9.3: %d and %d of 5", a.Len(), b.Len())
	}
}

func TestJoin(t *testing.T) {
	empty := node.Node{Kind: node.Leaf}
	for _, x := range [][3]node.Node{
		{empty, empty, empty},
		{empty, leaf("a", "x"), leaf("a", "x")},
		{leaf("a", "x"), empty, leaf("a", "x")},
		{leaf("a", "x"), leaf("b", "y", "c", ""), leaf("a", "x", "b", "y", "c", "")},
		{branch(7), node.Node{Kind: node.Branch, Keys: []string{"b"}, Kids: []int{3}}, branch(7, 3)},
	} {
		a, b := copyOf(x[0]), copyOf(x[1])
		if j := node.Join(x[0], x[1]); !same(j, x[2]) || !same(x[0], a) || !same(x[1], b) {
			t.Errorf("P9.1: Join(%v, %v): %v", a, b, j)
		}
	}
}

// spoil writes over all that a node has, its spare room too.
func spoil(n node.Node) {
	for _, l := range [][]string{n.Keys, n.Vals} {
		for i := range l[:cap(l)] {
			l[:cap(l)][i] = "spoilt"
		}
	}
	for i := range n.Kids[:cap(n.Kids)] {
		n.Kids[:cap(n.Kids)][i] = -77
	}
}

func TestNothingIsShared(t *testing.T) {
	for _, n := range []node.Node{leaf("a", "1", "b", "2", "c", "3", "d", "4"), branch(1, 2, 3, 4)} {
		asked := copyOf(n)
		a, b := asked.Split()
		keptA, keptB := copyOf(a), copyOf(b)
		spoil(asked)
		if !same(a, keptA) || !same(b, keptB) {
			t.Errorf("P9.1: Split shares what it was asked with: %v, %v", a, b)
		}
		asked = copyOf(n)
		a, b = asked.Split()
		spoil(a)
		if !same(asked, n) || !same(b, keptB) {
			t.Errorf("P9.1: Split's first part is shared: %v, %v", asked, b)
		}
		a, b = asked.Split()
		spoil(b)
		if !same(asked, n) || !same(a, keptA) {
			t.Errorf("P9.1: Split's second part is shared: %v, %v", asked, a)
		}
		for _, x := range [][2]node.Node{{keptA, keptB}, {n, {Kind: n.Kind}}, {{Kind: n.Kind}, n}} {
			a, b := copyOf(x[0]), copyOf(x[1])
			a.Keys = slices.Grow(a.Keys, 10)
			a.Vals = slices.Grow(a.Vals, 10)
			a.Kids = slices.Grow(a.Kids, 10)
			j := node.Join(a, b)
			spoil(a)
			spoil(b)
			if !same(j, n) {
				t.Errorf("P9.1: Join shares what it was asked with: %v", j)
			}
			a, b = copyOf(x[0]), copyOf(x[1])
			spoil(node.Join(a, b))
			if !same(a, x[0]) || !same(b, x[1]) {
				t.Errorf("P9.1: what Join answers is shared: %v, %v", a, b)
			}
		}
	}
	s := leaf("a", "1", "b", "2").Pack()
	m, _ := node.Parse(node.Leaf, s)
	spoil(m)
	if again, e := node.Parse(node.Leaf, s); e != api.OK || !same(again, leaf("a", "1", "b", "2")) {
		t.Errorf("P9.1: two Parses share: %v", again)
	}
}

// What Check doesn't let, too, is taken by each call.
func TestWhatMayNotBeIsTaken(t *testing.T) {
	for _, n := range []node.Node{
		{}, {Kind: 9, Keys: []string{"b", "a"}}, {Kind: node.Leaf, Keys: []string{"a", "b", "c"}, Vals: []string{"x"}},
		{Kind: node.Branch, Keys: []string{"", ""}, Kids: []int{-1}}, {Kind: node.Branch, Kids: []int{1, 2}},
		{Kind: node.Leaf, Keys: []string{"a"}}, {Kind: node.Leaf, Keys: []string{"a", "b"}, Vals: []string{"x", "y", "z"}, Kids: []int{4}},
		branch(1), leaf(), leaf(strings.Repeat("k", 300), strings.Repeat("v", 300)),
	} {
		n.Find("a")
		n.Fits()
		if n.Size() != len(n.Pack()) || n.Len() != len(n.Keys) {
			t.Errorf("P9.1: %v: Size %d, Len %d", n, n.Size(), n.Len())
		}
		a, b := n.Split()
		if a.Len()+b.Len() != n.Len() || node.Join(a, b).Len() != n.Len() {
			t.Errorf("P9.1: %v: %v, %v", n, a, b)
		}
	}
}
