package intern_test

import (
	"testing"

	"dowser/api"
	"dowser/blob"
	"dowser/crc"
	"dowser/intern"
)

// grown: beds with some texts, some of one sum, and texts to be put there.
func grown(t *testing.T) ([]*bed, []string) {
	var l []*bed
	some := alike(12)
	for _, n := range []int{0, 1, 5, 40} {
		b := newBed(t, 1000)
		for i := range n {
			b.adds(text(7 * i))
			if i < 9 {
				b.adds(some[i])
			}
		}
		l = append(l, b)
	}
	return l, []string{"", "new", text(31), text(32), text(700), some[10], some[11], "new " + text(236)}
}

// As many pages free as a Put takes, and less: no room for the blob, and room
// for it, but none for the tree's Put.
func TestRoom(t *testing.T) {
	beds, texts := grown(t)
	for _, b := range beds {
		for _, s := range texts {
			if _, is := b.kept[s]; is {
				continue
			}
			wide := b.beside(b.p.Next() + 50)
			wide.adds(s)
			takes := wide.p.Next() - b.p.Next()
			just := b.beside(wide.p.Next())
			just.adds(s)
			if just.p.Free() != 0 || just.tree.Root() != wide.tree.Root() {
				t.Fatalf("P14.1: %d pages are free", just.p.Free())
			}
			for free := range takes {
				tight := b.beside(b.p.Next() + free)
				tight.refused(s, api.ErrFull)
				tight.same()
			}
		}
	}
}

// Behind a Put that found no room there is just as much as before.
func TestRoomIsLeftAsItWas(t *testing.T) {
	b := newBed(t, 7)
	b.adds("a")
	for range 3 {
		b.refused(text(235*5+1), api.ErrFull) // six pages, and one for the tree
	}
	b.adds(text(235*4 + 1))
	b.refused("b", api.ErrFull)
	b.refused(text(235), api.ErrFull)
	b.same()
}

// A text that is kept needs no room.
func TestKeptWithoutRoom(t *testing.T) {
	b := newBed(t, 300)
	for i := range 40 {
		b.adds(text(10 * i))
	}
	full := b.beside(b.p.Next())
	full.same()
	full.refused("new", api.ErrFull)
	full.same()
}

// A disk that goes down at each write of a Put.
func TestDownAtEachWrite(t *testing.T) {
	beds, texts := grown(t)
	for _, b := range beds {
		b := b.beside(b.p.Next() + 50)
		if e := b.disk.Flush(); e != api.OK {
			t.Fatal(e)
		}
		for _, s := range texts {
			if _, is := b.kept[s]; is {
				continue
			}
			wide := b.beside(b.p.Next() + 50)
			wide.adds(s)
			for at := range wide.p.Next() - b.p.Next() {
				b.disk.Halt(at)
				b.refused(s, api.ErrDown)
				b.refused(s, api.ErrDown)
				b.disk.Crash(100, 256, 7, 0)
				b.same()
				if b.p.Free() != 50 {
					t.Fatalf("P14.1: %d pages are free", b.p.Free())
				}
			}
		}
	}
}

func TestDown(t *testing.T) {
	b := newBed(t, 50)
	b.goDown()
	b.refused("a", api.ErrDown)
	b.refused(text(500), api.ErrDown)
	b.refused(text(65536), api.ErrFull) // it can't be there: no page is looked at
	b.disk.Crash()
	b.adds("a")
	b.adds(text(500))
	b.disk.Flush()
	b.goDown()
	for s, r := range b.kept {
		b.refused(s, api.ErrDown)
		b.notGot(r, api.ErrDown)
	}
	b.refused("new", api.ErrDown)
	b.notGot(intern.Ref{Sum: 9}, api.ErrDown)
	b.disk.Crash()
	b.same()
}

// says puts a value under the key of a text, as if it were that's.
func (b *bed) says(s, value string) intern.Ref {
	b.t.Helper()
	r := intern.Ref{Sum: crc.Of(s)}
	if e := b.tree.Put(r.Key(), value); e != api.OK {
		b.t.Fatal(e)
	}
	return r
}

// Values that say nothing, and those that name blobs that aren't what they
// say: of a text itself, and of another one of its sum.
func TestValuesThatSayNothing(t *testing.T) {
	b := newBed(t, 300)
	page, e := blob.Write(b.p, text(300))
	if e != api.OK {
		t.Fatal(e)
	}
	for _, x := range []struct {
		value string
		want  api.Errno
	}{
		{"", api.ErrBad}, {"x", api.ErrBad}, {"I", api.ErrBad}, {"b", api.ErrBad}, {"b\x00", api.ErrBad},
		{intern.Beside(page, 300) + "\x00", api.ErrBad}, {"b\x81\x00\xac\x02", api.ErrBad},
		{intern.Beside(page, 299), api.ErrBad}, {intern.Beside(page, 301), api.ErrBad}, {intern.Beside(page, 0), api.ErrBad},
		{intern.Beside(page, 65536), api.ErrBad}, {intern.Beside(page, 65537), api.ErrBad},
		{intern.Beside(page-1, 300), api.ErrBad}, // its second part alone
		{intern.Beside(page+1, 300), api.ErrBad}, // a page of the tree
		{intern.Beside(1<<31-1, 300), api.ErrArg}, {intern.Beside(1<<31, 300), api.ErrBad},
	} {
		for _, s := range []string{text(300), noughtSum("a"), noughtSum(text(300))} {
			r := b.says(s, x.value)
			b.notGot(r, x.want)
			b.refused(s, x.want)
		}
		b.refused(noughtSum("another"), x.want)
		b.refused(noughtSum(text(301)), x.want)
	}
	b.adds("of its own sum")
	b.has("of its own sum")
}

// Values that Value doesn't make, but Load takes: of short texts that stand
// beside them.
func TestShortTextsBesideTheirValues(t *testing.T) {
	b := newBed(t, 300)
	for _, s := range []string{"", text(9), text(31)} {
		page, e := blob.Write(b.p, s)
		if e != api.OK {
			t.Fatal(e)
		}
		b.kept[s] = b.says(s, intern.Beside(page, len(s)))
	}
	b.same()
}

// A page of a blob, or of the tree, that isn't what was written.
func TestSpoiltPages(t *testing.T) {
	b := newBed(t, 1000)
	for _, s := range alike(60) {
		b.adds(s)
	}
	long := text(900)
	b.adds(long)
	b.adds("other")
	first := 2 + b.p.Half()*1000
	for n := range b.p.Next() {
		good, _ := b.disk.Read(first + n)
		b.disk.Write(first+n, good[:9]+string([]byte{good[9] ^ 1})+good[10:])
		for s, r := range b.kept {
			next := b.p.Next()
			x, e := intern.Get(b.tree, b.p, r)
			if e != api.ErrBad && (e != api.OK || x != s) || e != api.OK && x != "" {
				t.Fatalf("P14.1: page %d spoilt: Get: %q (%d)", n, x, e)
			}
			ref, added, e := intern.Put(b.tree, b.p, s)
			if added || e != api.ErrBad && (e != api.OK || ref != r) || e != api.OK && ref != (intern.Ref{}) || b.p.Next() != next {
				t.Fatalf("P14.1: page %d spoilt: Put: %v, %v (%d)", n, ref, added, e)
			}
		}
		b.disk.Write(first+n, good)
	}
	b.same()
}
