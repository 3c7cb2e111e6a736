package intern_test

import (
	"math"
	"slices"
	"strconv"
	"strings"
	"testing"

	"dowser/api"
	"dowser/blob"
	"dowser/crc"
	"dowser/disk"
	"dowser/intern"
	"dowser/pages"
	"dowser/tree"
	"dowser/varint"
)

// random is numbers by a fixed rule.
type random uint64

func (r *random) pick(n int) int {
	*r = *r*6364136223846793005 + 1442695040888963407
	return int(uint64(*r) >> 33 % uint64(n))
}

// text: so many bytes, of which no two parts are alike.
func text(n int) string {
	b := make([]byte, n)
	r := random(n)
	for i := range b {
		b[i] = byte(r.pick(256))
	}
	return string(b)
}

// noughtSum: a text that begins so, and whose sum is 0.
func noughtSum(s string) string { return s + crc.Four(crc.Of(s)) }

// alike: so many texts that all have one sum, some short, some long.
func alike(n int) []string {
	var l []string
	for i := range n {
		s := strconv.Itoa(i) + strings.Repeat("x", i%5*15)
		l = append(l, noughtSum(s)+"and behind")
	}
	return l
}

// bed is a tree over pages, and the texts that are kept in it.
type bed struct {
	t    *testing.T
	disk *disk.Disk
	p    *pages.Pages
	tree *tree.Tree
	kept map[string]intern.Ref
}

// newBed: of a half with so much room.
func newBed(t *testing.T, room int) *bed {
	t.Helper()
	d := disk.New(2 + 2*room)
	p, e := pages.Open(d, 1, 0)
	if e != api.OK {
		t.Fatal(e)
	}
	return &bed{t, d, p, tree.Open(p, tree.Empty()), map[string]intern.Ref{}}
}

// beside: one that has the same, of a half with other room.
func (b *bed) beside(room int) *bed {
	b.t.Helper()
	c := newBed(b.t, room)
	for n := range b.p.Next() {
		kind, payload, e := b.p.Read(n)
		if e != api.OK {
			b.t.Fatal(e)
		}
		if _, e = c.p.Append(kind, payload); e != api.OK {
			b.t.Fatal(e)
		}
	}
	c.tree = tree.Open(c.p, b.tree.Root())
	for s, r := range b.kept {
		c.kept[s] = r
	}
	return c
}

// place: under which number a new text must be kept.
func (b *bed) place(s string) intern.Ref {
	taken := map[intern.Ref]int{}
	for _, r := range b.kept {
		taken[r]++
	}
	r := intern.Ref{Sum: crc.Of(s)}
	for taken[r] > 0 {
		r.N++
	}
	return r
}

// takes: how many pages the tree takes for a new key.
func (b *bed) takes(r intern.Ref, value string) int {
	b.t.Helper()
	p, e := pages.Open(b.disk.Clone(), b.p.Half(), b.p.Next())
	if e != api.OK {
		b.t.Fatal(e)
	}
	if e := tree.Open(p, b.tree.Root()).Put(r.Key(), value); e != api.OK {
		b.t.Fatal(e)
	}
	return p.Next() - b.p.Next()
}

// adds: a text that must be kept now, on just the pages that it needs.
func (b *bed) adds(s string) {
	b.t.Helper()
	want, count, next := b.place(s), b.tree.Root().Count, b.p.Next()
	value, cost := "i"+s, 0
	if len(s) > 31 {
		cost = blob.Cost(len(s))
		value = "b" + varint.Num(uint64(next+cost-1)) + varint.Num(uint64(len(s)))
	}
	all := cost + b.takes(want, value)
	r, added, e := intern.Put(b.tree, b.p, s)
	if r != want || !added || e != api.OK {
		b.t.Fatalf("P14.1: Put of %d bytes: %v, %v (%d), not %v", len(s), r, added, e, want)
	}
	if b.p.Next() != next+all || b.tree.Root().Count != count+1 {
		b.t.Fatalf("P14.1: Put of %d bytes: %d pages, not %d; %d keys", len(s), b.p.Next()-next, all, b.tree.Root().Count)
	}
	if v, is, e := b.tree.Get(r.Key()); v != value || !is || e != api.OK {
		b.t.Fatalf("P14.1: the value of %d bytes: %x, %v (%d), not %x", len(s), v, is, e, value)
	}
	b.kept[s] = r
	b.has(s)
}

// has: a text that is kept must be found, and another Put of it takes nothing.
func (b *bed) has(s string) {
	b.t.Helper()
	root, next, writes := b.tree.Root(), b.p.Next(), b.disk.Writes()
	if x, e := intern.Get(b.tree, b.p, b.kept[s]); x != s || e != api.OK {
		b.t.Fatalf("P14.1: Get of %v: %d bytes (%d), not the %d", b.kept[s], len(x), e, len(s))
	}
	if r, added, e := intern.Put(b.tree, b.p, s); r != b.kept[s] || added || e != api.OK {
		b.t.Fatalf("P14.2: Put once more: %v, %v (%d), not %v", r, added, e, b.kept[s])
	}
	if b.tree.Root() != root || b.p.Next() != next || b.disk.Writes() != writes {
		b.t.Fatalf("P14.2: a Put of a text that is kept wrote")
	}
}

// same: all that is kept is there, each text once.
func (b *bed) same() {
	b.t.Helper()
	if n := b.tree.Root().Count; n != len(b.kept) {
		b.t.Fatalf("P14.2: %d keys of %d texts", n, len(b.kept))
	}
	seen := map[intern.Ref]string{}
	for s, r := range b.kept {
		if other, is := seen[r]; is {
			b.t.Fatalf("P14.2: %q and %q are both %v", s, other, r)
		}
		seen[r] = s
		b.has(s)
	}
}

// refused: what a Put must be told; nothing changes.
func (b *bed) refused(s string, want api.Errno) {
	b.t.Helper()
	root, next := b.tree.Root(), b.p.Next()
	if r, added, e := intern.Put(b.tree, b.p, s); r != (intern.Ref{}) || added || e != want {
		b.t.Fatalf("P14.1: Put of %d bytes: %v, %v (%d), not %d", len(s), r, added, e, want)
	}
	if b.tree.Root() != root || b.p.Next() != next {
		b.t.Fatalf("P14.1: a Put that was refused (%d): %v, %d pages, not %v, %d", want, b.tree.Root(), b.p.Next(), root, next)
	}
}

// notGot: what a Get must be told.
func (b *bed) notGot(r intern.Ref, want api.Errno) {
	b.t.Helper()
	if s, e := intern.Get(b.tree, b.p, r); s != "" || e != want {
		b.t.Fatalf("P14.1: Get of %v: %q (%d), not %d", r, s, e, want)
	}
}

// drops deletes a text.
func (b *bed) drops(s string) {
	b.t.Helper()
	if was, e := b.tree.Delete(b.kept[s].Key()); !was || e != api.OK {
		b.t.Fatalf("Delete: %v (%d)", was, e)
	}
	b.notGot(b.kept[s], api.ErrNone)
	delete(b.kept, s)
}

// goDown brings the disk down.
func (b *bed) goDown() {
	b.t.Helper()
	b.disk.Halt(0)
	if b.disk.Flush() != api.ErrDown {
		b.t.Fatal("the disk isn't down")
	}
}

func TestExample(t *testing.T) {
	b := newBed(t, 20)
	b.adds("")
	b.adds("a")
	b.has("")
	if b.kept[""] != (intern.Ref{Sum: 0xFFFFFFFF}) || b.kept["a"] != (intern.Ref{Sum: crc.Of("a")}) {
		t.Errorf("P14.1: %v", b.kept)
	}
	b.same()
}

func TestLengths(t *testing.T) {
	b := newBed(t, 2000)
	for _, n := range []int{0, 1, 2, 30, 31, 32, 33, 234, 235, 236, 470, 471, 65330, 65331, 65535, 65536} {
		b.adds(text(n))
	}
	for _, s := range []string{strings.Repeat("\x00", 31), strings.Repeat("\x00", 32), strings.Repeat("\x00", 65536), "i", "b", "b\x00\x20"} {
		b.adds(s)
	}
	b.same()
}

func TestTooLong(t *testing.T) {
	b := newBed(t, 600)
	full := newBed(t, 2)
	full.adds("a")
	full.adds("b")
	for _, n := range []int{65537, 65538, 65565, 65566, 100000} {
		b.refused(text(n), api.ErrArg)
		b.refused(noughtSum(text(n)), api.ErrArg)
		full.refused(text(n), api.ErrArg) // ahead of ErrFull
	}
	if b.disk.Writes() != 0 {
		t.Errorf("P14.1: %d writes", b.disk.Writes())
	}
	b.adds("a")
	b.goDown()
	b.refused(text(65537), api.ErrArg) // ahead of ErrDown
}

// 256 texts of one sum, on many leaves, among texts of other sums; and one
// more.
func TestTextsOfOneSum(t *testing.T) {
	b := newBed(t, 6000)
	for i := range 100 {
		b.adds(text(i))
	}
	l := alike(257)
	for i, s := range l[:256] {
		b.adds(s)
		if want := (intern.Ref{Sum: crc.Of(l[0]), N: i}); b.kept[s] != want {
			t.Fatalf("P14.3: %v, not %v", b.kept[s], want)
		}
		b.has(l[i/2])
	}
	b.refused(l[256], api.ErrBig)
	b.adds(noughtSum("of another sum"))
	b.same()
	full := b.beside(b.p.Next())
	full.refused(l[256], api.ErrBig) // ahead of ErrFull
	full.refused("new", api.ErrFull)
	full.same()
	b.drops(l[77])
	b.adds(l[256])
	b.refused(l[77], api.ErrBig)
	b.same()
}

// Texts of one sum that are alike in all but a few bytes, or in their lengths,
// short and long ones beside one another.
func TestTextsOfOneSumAreToldApart(t *testing.T) {
	for _, n := range []int{0, 20, 27, 28, 231, 232, 1000, 65532} {
		b := newBed(t, 3000)
		a, z := noughtSum(strings.Repeat("a", n)), noughtSum("z"+strings.Repeat("a", max(n-1, 0)))
		b.adds(a)
		b.adds(z)
		b.adds(noughtSum(a[:len(a)/2]))
		b.adds("a beginning of its own")
		b.same()
		if b.kept[a].N != 0 || b.kept[z] != (intern.Ref{N: 1}) {
			t.Errorf("P14.3: %v, %v", b.kept[a], b.kept[z])
		}
	}
}

// Where texts of a sum have been deleted, those behind them are kept still,
// and not once more; a new one goes where there is room first.
func TestTextsBehindDeletedOnes(t *testing.T) {
	b := newBed(t, 3000)
	l := alike(100)
	for _, s := range l[:90] {
		b.adds(s)
	}
	for i := range 90 {
		if i%3 != 1 {
			b.drops(l[i])
		}
	}
	b.same()
	for _, i := range []int{90, 91, 0, 89, 92} {
		b.adds(l[i]) // at 0, 2, 3, 5, 6
		b.same()
	}
	if r := b.kept[l[92]]; r.N != 6 {
		t.Errorf("P14.3: %v", r)
	}
	c := newBed(t, 3000)
	c.adds(l[0])
	c.adds(l[1])
	c.drops(l[0])
	c.has(l[1])
	c.drops(l[1])
	c.adds(l[2])
	if r := c.kept[l[2]]; r.N != 0 {
		t.Errorf("P14.3: %v", r)
	}
}

// The last number alone is taken, the last one alone is free.
func TestEdgesOfNumbers(t *testing.T) {
	b := newBed(t, 4000)
	l := alike(257)
	for _, s := range l[:256] {
		b.adds(s)
	}
	for _, s := range l[:255] {
		b.drops(s)
	}
	b.has(l[255])
	b.adds(l[3])
	b.same()
	c := newBed(t, 4000)
	for _, s := range l[:255] {
		c.adds(s)
	}
	c.adds(l[256])
	c.refused(l[255], api.ErrBig)
	c.drops(l[0])
	c.adds(l[255])
	if c.kept[l[255]].N != 0 || c.kept[l[256]].N != 255 {
		t.Errorf("P14.3: %v, %v", c.kept[l[255]], c.kept[l[256]])
	}
}

// Keys in the tree that are near those of texts, but aren't any: they aren't
// looked at, whatever their values are.
func TestOtherKeys(t *testing.T) {
	for _, n := range []int{0, 200} {
		b := newBed(t, 3000)
		l := alike(40)
		sum := crc.Four(crc.Of(l[0]))
		others := []string{"s" + sum, "s" + sum + "\x00\x00", "s" + sum + "\x01a", "s" + sum + "\xff\xff", "s" + sum[:3], "t" + sum + "\x00", "r" + sum + "\x00", "s", "n", "p\x00\x00\x00\x01"}
		for i := range n {
			others = append(others, "s"+sum+"\x00"+strconv.Itoa(i))
		}
		for _, k := range others {
			if e := b.tree.Put(k, "says nothing"); e != api.OK {
				t.Fatal(e)
			}
		}
		for i, s := range l {
			b.adds(s)
			if b.kept[s].N != i {
				t.Fatalf("P14.1: %v", b.kept[s])
			}
		}
		for _, s := range l {
			b.has(s)
		}
	}
}

func TestKeys(t *testing.T) {
	for r, want := range map[intern.Ref]string{
		{}:                             "s\x00\x00\x00\x00\x00",
		{Sum: 0x01020304, N: 5}:        "s\x01\x02\x03\x04\x05",
		{Sum: 0xFEDCBA98, N: 128}:      "s\xfe\xdc\xba\x98\x80",
		{Sum: math.MaxUint32, N: 255}:  "s\xff\xff\xff\xff\xff",
		{Sum: 0x80000000}:              "s\x80\x00\x00\x00\x00",
		{N: 255}:                       "s\x00\x00\x00\x00\xff",
		{Sum: 1, N: 256}:               "",
		{Sum: 1, N: -1}:                "",
		{Sum: 1, N: math.MaxInt}:       "",
		{Sum: 1, N: math.MinInt}:       "",
		{Sum: 1, N: math.MaxInt - 255}: "",
	} {
		if k := r.Key(); k != want {
			t.Errorf("P14.1: the key of %v: %x, not %x", r, k, want)
		}
		if back, is := intern.Of(want); is != (want != "") || is && back != r {
			t.Errorf("P14.1: Of %x: %v, %v, not %v", want, back, is, r)
		}
	}
	g := random(14)
	for n := range 256 {
		r := intern.Ref{Sum: uint32(g.pick(1<<16)<<16 + g.pick(1<<16)), N: n}
		if back, is := intern.Of(r.Key()); back != r || !is || len(r.Key()) != 6 {
			t.Errorf("P14.1: %v: %v, %v", r, back, is)
		}
	}
}

func TestWhatIsNoKey(t *testing.T) {
	l := []string{"", "s", "n", "ss", "sssss", "sssssss", "S\x00\x00\x00\x00\x00", "\x00\x00\x00\x00\x00\x00", "ssssss ", " sssss", "psssss", "fsssss", "rsssss", "tsssss"}
	for n := range 40 {
		if n != 6 {
			l = append(l, strings.Repeat("s", n))
		}
	}
	for _, k := range l {
		if r, is := intern.Of(k); is || r != (intern.Ref{}) {
			t.Errorf("P14.1: Of %q: %v, %v", k, r, is)
		}
	}
	for letter := range 256 {
		k := string([]byte{byte(letter)}) + "\x01\x02\x03\x04\x05"
		if _, is := intern.Of(k); is != (letter == 's') {
			t.Errorf("P14.1: Of %q: %v", k, is)
		}
	}
}

func TestGetOfWhatIsNotThere(t *testing.T) {
	b := newBed(t, 500)
	ask := func() {
		for _, r := range []intern.Ref{{}, {Sum: 1}, {Sum: crc.Of("a"), N: 1}, {Sum: crc.Of("a"), N: 255}} {
			b.notGot(r, api.ErrNone)
		}
		for _, n := range []int{-1, -256, 256, 257, 512, math.MinInt, math.MaxInt} {
			b.notGot(intern.Ref{Sum: crc.Of("a"), N: n}, api.ErrNone)
			b.notGot(intern.Ref{N: n}, api.ErrNone)
		}
	}
	ask()
	b.adds("a")
	ask()
	for i := range 60 {
		b.adds(text(i + 2))
	}
	ask()
	b.drops("a")
	b.notGot(intern.Ref{Sum: crc.Of("a")}, api.ErrNone)
	ask()
}

// TestAnyCalls: Puts and Deletes of texts of some sums, picked by a fixed
// rule, as of a list of texts.
func TestAnyCalls(t *testing.T) {
	for seed := range 4 {
		r := random(seed)
		b := newBed(t, 30000)
		var l []string
		for i := range 60 {
			s := text(r.pick(60) + i)
			switch i % 4 {
			case 0:
				s = noughtSum(s)
			case 1:
				s = noughtSum(s) + "another sum"
			}
			l = append(l, s)
		}
		for range 400 {
			s := l[r.pick(len(l))]
			_, is := b.kept[s]
			switch {
			case !is:
				b.adds(s)
			case r.pick(2) == 0:
				b.has(s)
			default:
				b.drops(s)
			}
		}
		b.same()
		for s, ref := range b.kept {
			if !slices.Contains(l, s) || ref.Sum != crc.Of(s) {
				t.Fatalf("P14.2: %q is %v", s, ref)
			}
		}
	}
}
