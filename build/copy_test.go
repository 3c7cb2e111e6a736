package build_test

import (
	"slices"
	"strings"
	"testing"

	"dowser/api"
	"dowser/build"
	"dowser/disk"
	"dowser/node"
	"dowser/pages"
	"dowser/tree"
)

func same(_, value string) (string, api.Errno) { return value, api.OK }

// opened: pages of a half, of which none is in use.
func opened(t *testing.T, d *disk.Disk, half int) *pages.Pages {
	t.Helper()
	p, e := pages.Open(d, half, 0)
	if e != api.OK {
		t.Fatal(e)
	}
	return p
}

// grown: a tree of pairs, which were put one by one; its root.
func (b *bed) grown(l []build.Pair) tree.Root {
	b.t.Helper()
	x := tree.Open(b.p, tree.Empty())
	for i := range l {
		p := l[i*37%len(l)]
		if e := x.Put(p.Key, p.Value); e != api.OK {
			b.t.Fatal(e)
		}
	}
	return x.Root()
}

// copies: a Copy to other pages, which must go well.
func (b *bed) copies(r tree.Root, to *bed, value func(k, v string) (string, api.Errno), want []build.Pair) {
	b.t.Helper()
	before, here := to.p.Next(), b.p.Next()
	pages, levels := model(want, before)
	got, e := build.Copy(b.p, r, to.p, value)
	root := tree.Root{Page: before + len(pages) - 1, Count: len(want), Height: levels}
	if len(want) == 0 {
		root = tree.Empty()
	}
	if got != root || e != api.OK || to.p.Next() != before+len(pages) {
		b.t.Fatalf("P12.1: Copy: %v (%d), %d pages, not %v", got, e, to.p.Next()-before, root)
	}
	for i, w := range pages {
		if kind, s, e := to.p.Read(before + i); string([]byte{byte(kind)})+s != w || e != api.OK {
			b.t.Fatalf("P12.1: Copy: page %d: %d, %q (%d), not %q", before+i, kind, s, e, w)
		}
	}
	if b.p != to.p && b.p.Next() != here {
		b.t.Fatalf("P12.1: Copy: %d pages are in use where it came from, not %d", b.p.Next(), here)
	}
	to.isTree(got, want, before)
}

func TestCopy(t *testing.T) {
	for _, l := range append(lists(), nil) {
		b := newBed(t, 9000, 2)
		r := tree.Empty()
		if len(l) > 0 {
			r = b.grown(l)
		}
		b.copies(r, &bed{t, b.disk, b.p.Other()}, same, l)
		b.copies(r, newBed(t, 200, 5), same, l) // another disk
		b.copies(r, b, same, l)                 // the same pages
		b.isTree(r, l, -1)
	}
}

// Each value is what value tells of the key and of the value it had, asked key
// by key as they rise.
func TestCopyOfOtherValues(t *testing.T) {
	l := mixed(200, 5)
	b := newBed(t, 9000, 0)
	r := b.grown(l)
	var want, asked []build.Pair
	for _, p := range l {
		want = append(want, build.Pair{Key: p.Key, Value: p.Key + p.Value[:min(len(p.Value), 16)]})
	}
	b.copies(r, newBed(t, 300, 0), func(k, v string) (string, api.Errno) {
		asked = append(asked, build.Pair{Key: k, Value: v})
		return k + v[:min(len(v), 16)], api.OK
	}, want)
	if !slices.Equal(asked, l) {
		t.Errorf("P12.1: value was asked with %v, not with %v", asked, l)
	}
}

// What value appends lies ahead of the tree's pages.
func TestCopyWithPagesOfValues(t *testing.T) {
	l := mixed(40, 6)
	b := newBed(t, 9000, 0)
	r := b.grown(l)
	to := &bed{t, b.disk, b.p.Other()}
	append1 := func(k, v string) (string, api.Errno) {
		n, e := to.p.Append(3, k)
		return string([]byte{byte(n)}), e
	}
	var want []build.Pair
	for i, p := range l {
		want = append(want, build.Pair{Key: p.Key, Value: string([]byte{byte(i)})})
	}
	got, e := build.Copy(b.p, r, to.p, append1)
	if n, _, _ := build.Plan(want); e != api.OK || to.p.Next() != len(l)+n || got.Page != to.p.Next()-1 {
		t.Fatalf("P12.1: %v (%d), %d pages", got, e, to.p.Next())
	}
	to.isTree(got, want, len(l))
	for i, p := range l {
		if kind, s, e := to.p.Read(i); kind != 3 || s != p.Key || e != api.OK {
			t.Errorf("P12.1: page %d: %d, %q (%d)", i, kind, s, e)
		}
	}
}

// notCopied: a Copy that is told an error, with so many pages appended by
// value, each of which stays.
func (b *bed) notCopied(r tree.Root, to *bed, value func(k, v string) (string, api.Errno), want api.Errno, stays int) {
	b.t.Helper()
	before := to.p.Next()
	got, e := build.Copy(b.p, r, to.p, func(k, v string) (string, api.Errno) {
		if n, e := to.p.Append(3, k); e != api.OK || n < 0 {
			b.t.Fatalf("%d", e)
		}
		return value(k, v)
	})
	if got != (tree.Root{}) || e != want || to.p.Next() != before+stays {
		b.t.Fatalf("P12.1: Copy: %v (%d), %d pages stay; not %d, %d", got, e, to.p.Next()-before, want, stays)
	}
}

// The first error of value: it isn't asked any more behind that.
func TestErrorOfValue(t *testing.T) {
	l := mixed(60, 7)
	b := newBed(t, 9000, 0)
	r := b.grown(l)
	for i := range l {
		for _, want := range []api.Errno{api.ErrArg, api.ErrDown, api.ErrKind, -5, 77} {
			b.notCopied(r, newBed(t, 300, 1), func(k, v string) (string, api.Errno) {
				if k >= l[i].Key {
					return "beside an error", want
				}
				return v, api.OK
			}, want, i+1)
		}
	}
}

// A tree that can't be read from a leaf on: what is ahead of it is asked for,
// and the error is the first, of the tree or of value.
func TestErrorOfTheTree(t *testing.T) {
	b := newBed(t, 100, 0)
	x := b.lay(node.Node{Kind: node.Leaf, Keys: []string{"a", "b"}, Vals: []string{"x", "y"}})
	y := b.lay(node.Node{Kind: node.Leaf, Keys: []string{"c"}, Vals: []string{"z"}})
	r := tree.Root{Page: b.lay(node.Node{Kind: node.Branch, Keys: []string{"a", "c"}, Kids: []int{x, y}}), Count: 3, Height: 2}
	b.notCopied(r, newBed(t, 9, 0), same, api.ErrBad, 2)
	b.notCopied(r, newBed(t, 9, 0), func(k, v string) (string, api.Errno) {
		return strings.Repeat(v, 33), api.OK // Make's error would come behind the tree's
	}, api.ErrBad, 2)
	b.notCopied(r, newBed(t, 9, 0), func(k, v string) (string, api.Errno) {
		if k == "b" {
			return "", api.ErrKind
		}
		return v, api.OK
	}, api.ErrKind, 2)
	for _, none := range []tree.Root{{}, {Page: 99, Count: 1, Height: 1}, {Page: x, Count: 2, Height: -1}, {Page: r.Page, Count: 3, Height: 1}} {
		b.notCopied(none, newBed(t, 9, 0), same, api.ErrBad, 0)
	}
	b.disk.Halt(0)
	b.disk.Flush()
	b.notCopied(r, newBed(t, 9, 0), same, api.ErrDown, 0)
	if got, e := build.Copy(b.p, tree.Empty(), opened(t, disk.New(0), 0), same); got != tree.Empty() || e != api.OK {
		t.Errorf("P12.1: %v (%d) of no keys", got, e)
	}
}

// lay appends a node as it is; its page.
func (b *bed) lay(n node.Node) int {
	b.t.Helper()
	page, e := b.p.Append(n.Kind, n.Pack())
	if e != api.OK {
		b.t.Fatal(e)
	}
	return page
}

// Make's errors: values that may not be, no room, a disk that is down.
func TestErrorOfMake(t *testing.T) {
	l := mixed(60, 8)
	b := newBed(t, 9000, 0)
	r := b.grown(l)
	n, _, _ := build.Plan(l)
	long := func(k, v string) (string, api.Errno) {
		if k == l[59].Key {
			return strings.Repeat("v", 33), api.OK
		}
		return v, api.OK
	}
	b.notCopied(r, newBed(t, 300, 1), long, api.ErrArg, 60)
	b.notCopied(r, newBed(t, 60, 0), long, api.ErrArg, 60)
	for free := range n {
		b.notCopied(r, newBed(t, 2+60+free, 2), same, api.ErrFull, 60)
	}
	for at := range n {
		to := newBed(t, 300, 1)
		to.disk.Halt(60 + at)
		b.notCopied(r, to, same, api.ErrDown, 60)
		to.disk.Crash()
		if to.p.Next() != 61 {
			t.Errorf("P12.1: %d pages stay", to.p.Next())
		}
	}
	just := newBed(t, 5+n, 5)
	b.copies(r, just, same, l)
	b.isTree(r, l, -1)
}
