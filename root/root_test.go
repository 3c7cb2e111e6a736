package root_test

import (
	"encoding/binary"
	"math"
	"slices"
	"strings"
	"testing"

	"dowser/api"
	"dowser/crc"
	"dowser/disk"
	"dowser/root"
)

const most = 1<<31 - 1

// raw is a slot's parts, of any values; rest is what is behind them.
type raw struct {
	first                     uint64
	half                      byte
	page, next, count, height uint32 // page: the page and 1
	wrong                     uint32 // by how much the sum is another one
	last                      uint64
	rest                      string
}

func (w raw) bytes() string {
	b := binary.BigEndian.AppendUint64(nil, w.first)
	b = append(b, w.half)
	for _, x := range []uint32{w.page, w.next, w.count, w.height} {
		b = binary.BigEndian.AppendUint32(b, x)
	}
	b = binary.BigEndian.AppendUint32(b, crc.Of(string(b))+w.wrong)
	b = binary.BigEndian.AppendUint64(b, w.last)
	return string(b) + w.rest
}

// slot: a slot that has r.
func slot(r root.Root) string {
	return raw{first: r.Epoch, half: byte(r.Half), page: uint32(r.Page + 1), next: uint32(r.Next), count: uint32(r.Count), height: uint32(r.Height), last: r.Epoch}.bytes()
}

// with: a disk of so many sectors as there are texts, flushed.
func with(t *testing.T, texts ...string) *disk.Disk {
	t.Helper()
	d := disk.New(len(texts))
	for i, s := range texts {
		if e := d.Write(i, s); e != api.OK {
			t.Fatal(e)
		}
	}
	if e := d.Flush(); e != api.OK {
		t.Fatal(e)
	}
	return d
}

// finds: what Open must find.
func finds(t *testing.T, promise string, d *disk.Disk, want root.Root, wantIs bool) *root.Slots {
	t.Helper()
	writes, loose := d.Writes(), d.Loose()
	s, r, is, e := root.Open(d)
	if s == nil || e != api.OK || r != want || is != wantIs {
		t.Fatalf("%s: Open finds %v, %v (%d), not %v, %v", promise, r, is, e, want, wantIs)
	}
	if d.Writes() != writes || !slices.Equal(d.Loose(), loose) {
		t.Fatalf("%s: Open wrote", promise)
	}
	return s
}

func publish(t *testing.T, s *root.Slots, r root.Root, epoch uint64) root.Root {
	t.Helper()
	got, e := s.Publish(r)
	r.Epoch = epoch
	if e != api.OK || got != r {
		t.Fatalf("P6.1: Publish: %v (%d), not %v", got, e, r)
	}
	return got
}

// stands: what a sector must be.
func stands(t *testing.T, d *disk.Disk, i int, want string) {
	t.Helper()
	got, e := d.Read(i)
	if e != api.OK || strings.TrimRight(got, "\x00") != strings.TrimRight(want, "\x00") {
		t.Errorf("P6.1: sector %d is %x (%d), not %x", i, got, e, want)
	}
}

func TestBytesOfASlot(t *testing.T) {
	d := disk.New(2)
	s := finds(t, "P6.1", d, root.Root{}, false)
	publish(t, s, root.Root{Half: 1, Page: 0x01020304, Next: 0x05060708, Count: 0x090a0b0c, Height: 0x0d0e0f10}, 1)
	fields := "\x00\x00\x00\x00\x00\x00\x00\x01" + "\x01" + "\x01\x02\x03\x05" + "\x05\x06\x07\x08" + "\x09\x0a\x0b\x0c" + "\x0d\x0e\x0f\x10"
	stands(t, d, 0, fields+crc.Four(crc.Of(fields))+"\x00\x00\x00\x00\x00\x00\x00\x01")
	stands(t, d, 1, "")
}

func TestPublishByTurns(t *testing.T) {
	d := disk.New(3)
	s := finds(t, "P6.1", d, root.Root{}, false)
	for i := range 600 {
		r := root.Root{Half: i % 2, Page: i - 1, Next: 2 * i, Count: 3 * i, Height: i % 7}
		r = publish(t, s, r, uint64(i+1))
		stands(t, d, i%2, slot(r))
		if i > 0 {
			x, _ := d.Read(1 - i%2)
			if x[7] != byte(i) {
				t.Fatalf("P6.1: Publish %d: the other slot is %x", i, x[:40])
			}
		}
		again := finds(t, "P6.1", d, r, true)
		if i%3 == 0 {
			s = again
		}
	}
	if d.Writes() != 3*600 {
		t.Errorf("P6.1: %d writes: a Publish is two Flushes and a Write", d.Writes())
	}
}

func TestAnyDiskIsEnough(t *testing.T) {
	for _, n := range []int{0, 2, 3, 65536} {
		d := disk.New(n)
		r := publish(t, finds(t, "P6.1", d, root.Root{}, false), root.Root{Page: -1}, 1)
		finds(t, "P6.1", d, r, true)
	}
}

// Two Slots of one disk: each goes by what stands there.
func TestTwoSlotsOfOneDisk(t *testing.T) {
	d := disk.New(2)
	a, b := finds(t, "P6.1", d, root.Root{}, false), finds(t, "P6.1", d, root.Root{}, false)
	publish(t, a, root.Root{Next: 1}, 1)
	publish(t, b, root.Root{Next: 2}, 2)
	last := publish(t, a, root.Root{Next: 3}, 3)
	finds(t, "P6.1", d, last, true)
	stands(t, d, 1, slot(root.Root{Epoch: 2, Next: 2}))
}

func TestWhichSlot(t *testing.T) {
	low, high := root.Root{Epoch: 4, Page: 3, Next: 9, Count: 1, Height: 1}, root.Root{Epoch: 261, Half: 1, Page: -1, Next: 5}
	same := root.Root{Epoch: 4, Half: 1, Page: 8}
	torn := slot(high)[:20]
	for _, x := range []struct {
		texts [2]string
		want  root.Root
		is    bool
		epoch uint64 // of the next one
		to    int    // its slot
	}{
		{[2]string{"", ""}, root.Root{}, false, 1, 0},
		{[2]string{torn, ""}, root.Root{}, false, 262, 0},
		{[2]string{"", torn}, root.Root{}, false, 262, 0},
		{[2]string{torn, torn}, root.Root{}, false, 262, 0},
		{[2]string{slot(low), ""}, low, true, 5, 1},
		{[2]string{"", slot(low)}, low, true, 5, 0},
		{[2]string{slot(low), torn}, low, true, 262, 1},
		{[2]string{torn, slot(low)}, low, true, 262, 0},
		{[2]string{slot(low), slot(high)}, high, true, 262, 0},
		{[2]string{slot(high), slot(low)}, high, true, 262, 1},
		{[2]string{slot(low), slot(same)}, low, true, 5, 1},
		{[2]string{slot(same), slot(low)}, same, true, 5, 1},
		{[2]string{slot(low), slot(low)}, low, true, 5, 1},
	} {
		d := with(t, x.texts[0], x.texts[1])
		s := finds(t, "P6.1", d, x.want, x.is)
		r := publish(t, s, root.Root{Half: 1, Page: 77, Next: 78, Count: 79, Height: 80}, x.epoch)
		stands(t, d, x.to, slot(r))
		stands(t, d, 1-x.to, x.texts[1-x.to])
		finds(t, "P6.1", d, r, true)
	}
}

// A slot of which any one byte is another one has no Root.
func TestAnotherByteAnywhere(t *testing.T) {
	good := root.Root{Epoch: 9, Half: 0, Page: 2, Next: 3, Count: 4, Height: 5}
	older := root.Root{Epoch: 3, Half: 1, Page: -1}
	full := slot(good) + strings.Repeat("\x00", api.Sector-len(slot(good)))
	for i := range full {
		for x := 1; x < 256; x++ {
			b := []byte(full)
			b[i] ^= byte(x)
			finds(t, "P6.1", with(t, string(b), ""), root.Root{}, false)
			if x < 4 {
				finds(t, "P6.1", with(t, string(b), slot(older)), older, true)
				finds(t, "P6.1", with(t, slot(older), string(b)), older, true)
			}
		}
	}
}

// Slots whose sums are right, but not all of what they have.
func TestSlotsThatHaveWhatMayNotBe(t *testing.T) {
	well := raw{first: 6, half: 1, page: 7, next: 8, count: 9, height: 10, last: 6}
	change := func(by func(w *raw)) raw {
		w := well
		by(&w)
		return w
	}
	for i, w := range []raw{
		change(func(w *raw) { w.first, w.last = 0, 0 }),
		change(func(w *raw) { w.first = 7 }),
		change(func(w *raw) { w.last = 7 }),
		change(func(w *raw) { w.first = 0 }),
		change(func(w *raw) { w.last = 0 }),
		change(func(w *raw) { w.half = 2 }),
		change(func(w *raw) { w.half = 255 }),
		change(func(w *raw) { w.page = 1<<31 + 1 }),
		change(func(w *raw) { w.page = math.MaxUint32 }),
		change(func(w *raw) { w.next = 1 << 31 }),
		change(func(w *raw) { w.next = math.MaxUint32 }),
		change(func(w *raw) { w.count = 1 << 31 }),
		change(func(w *raw) { w.count = math.MaxUint32 }),
		change(func(w *raw) { w.height = 1 << 31 }),
		change(func(w *raw) { w.height = math.MaxUint32 }),
		change(func(w *raw) { w.wrong = 1 }),
		change(func(w *raw) { w.wrong = 1 << 31 }),
		change(func(w *raw) { w.rest = "\x01" }),
		change(func(w *raw) { w.rest = strings.Repeat("\x00", 218) + "\x80" }),
	} {
		d := with(t, w.bytes(), "")
		if _, r, is, e := root.Open(d); is || r != (root.Root{}) || e != api.OK {
			t.Errorf("P6.1: slot %d: %v, %v (%d)", i, r, is, e)
		}
		low := root.Root{Epoch: 1, Page: -1}
		finds(t, "P6.1", with(t, slot(low), w.bytes()), low, true)
	}
	finds(t, "P6.1", with(t, well.bytes()), root.Root{Epoch: 6, Half: 1, Page: 6, Next: 8, Count: 9, Height: 10}, true)
	finds(t, "P6.1", with(t, raw{first: 1, page: 1 << 31, next: most, count: most, height: most, last: 1}.bytes()), root.Root{Epoch: 1, Page: most, Next: most, Count: most, Height: most}, true)
	finds(t, "P6.1", with(t, raw{first: 1<<62 - 1, last: 1<<62 - 1}.bytes()), root.Root{Epoch: 1<<62 - 1, Page: -1}, true)
}

func TestWhatMayBePublished(t *testing.T) {
	for _, r := range []root.Root{
		{}, {Page: -1}, {Half: 1}, {Page: most}, {Next: most}, {Count: most}, {Height: most},
		{Half: 1, Page: most, Next: most, Count: most, Height: most},
		{Epoch: 5}, {Epoch: math.MaxUint64}, // its Epoch isn't asked
	} {
		d := disk.New(2)
		got := publish(t, finds(t, "P6.1", d, root.Root{}, false), r, 1)
		finds(t, "P6.1", d, got, true)
	}
}

func TestWhatMayNotBePublished(t *testing.T) {
	wrong := []root.Root{
		{Half: -1}, {Half: 2}, {Half: 256}, {Half: math.MinInt}, {Half: math.MaxInt},
		{Page: -2}, {Page: most + 1}, {Page: math.MinInt}, {Page: math.MaxInt}, {Page: 1 << 32},
	}
	for _, x := range []int{-1, math.MinInt, most + 1, 1 << 32, math.MaxInt} {
		wrong = append(wrong, root.Root{Next: x}, root.Root{Count: x}, root.Root{Height: x})
	}
	d := disk.New(4)
	s := finds(t, "P6.1", d, root.Root{}, false)
	there := publish(t, s, root.Root{Half: 1, Page: 5}, 1)
	if e := d.Write(3, "loose"); e != api.OK {
		t.Fatal(e)
	}
	writes := d.Writes()
	refuse := func() {
		for _, r := range wrong {
			for _, r.Epoch = range []uint64{0, 1, 2, math.MaxUint64} {
				if got, e := s.Publish(r); e != api.ErrArg || got != (root.Root{}) {
					t.Errorf("P6.1: Publish(%v): %v (%d)", r, got, e)
				}
			}
		}
	}
	refuse()
	if d.Writes() != writes || !slices.Equal(d.Loose(), []int{3}) {
		t.Errorf("P6.1: what was refused wrote: %d, %v", d.Writes(), d.Loose())
	}
	finds(t, "P6.1", d, there, true)
	publish(t, s, root.Root{Page: 6}, 2)
	d.Halt(0)
	refuse()
	finds(t, "P6.1", d, root.Root{Epoch: 2, Page: 6}, true) // not even down
	d.Flush()
	refuse() // down: the least error all the same
}

// The next Epoch is beyond all that stand where Epochs do, whatever stands
// around them.
func TestEpochsOfTornSlots(t *testing.T) {
	for _, around := range []string{"\x00", "\x01", "\xff"} {
		fill := strings.Repeat(around, 21)
		eight := func(x uint64) string { return string(binary.BigEndian.AppendUint64(nil, x)) }
		for _, x := range [][4]uint64{
			{500, 1, 2, 3}, {1, 500, 2, 3}, {1, 2, 500, 3}, {1, 2, 3, 500},
			{500, 0, 0, 0}, {0, 500, 0, 0}, {0, 0, 500, 0}, {0, 0, 0, 500},
			{500, 500, 499, 500}, {255, 256, 499, 500}, {1<<32 + 1, 1 << 32, 5, 6}, {7, 6, 1<<61 - 1, 1<<61 - 2},
		} {
			d := with(t, eight(x[0])+fill+eight(x[1]), eight(x[2])+fill+eight(x[3]))
			s := finds(t, "P6.1", d, root.Root{}, false)
			r := publish(t, s, root.Root{Page: 2}, slices.Max(x[:])+1)
			stands(t, d, 0, slot(r))
			finds(t, "P6.1", d, r, true)
			there := root.Root{Epoch: 44, Page: -1}
			for i, texts := range [][2]string{{slot(there), eight(x[2]) + fill + eight(x[3])}, {eight(x[0]) + fill + eight(x[1]), slot(there)}} {
				d := with(t, texts[0], texts[1])
				s := finds(t, "P6.1", d, there, true)
				far := max(there.Epoch, x[2-2*i], x[3-2*i])
				r := publish(t, s, root.Root{Page: 2}, far+1)
				stands(t, d, 1-i, slot(r))
				stands(t, d, i, slot(there))
			}
		}
	}
}

// Only these eight bytes behind the sum stand for an Epoch, and the first
// eight: what is beside them doesn't count.
func TestOtherBytesAreNoEpochs(t *testing.T) {
	other := strings.Repeat("\x00", 8) + strings.Repeat("\xff", 21) + strings.Repeat("\x00", 8) + strings.Repeat("\xff", 219)
	d := with(t, other, other)
	publish(t, finds(t, "P6.1", d, root.Root{}, false), root.Root{}, 1)
}

func TestDiskThatIsDown(t *testing.T) {
	d := disk.New(2)
	s := finds(t, "P6.1", d, root.Root{}, false)
	r := publish(t, s, root.Root{Half: 1, Page: 3}, 1)
	d.Halt(0)
	finds(t, "P6.1", d, r, true) // to be down, but not yet
	if got, e := s.Publish(root.Root{}); e != api.ErrDown || got != (root.Root{}) {
		t.Errorf("P6.1: Publish: %v (%d)", got, e)
	}
	if got, e := s.Publish(root.Root{}); e != api.ErrDown || got != (root.Root{}) {
		t.Errorf("P6.1: Publish: %v (%d)", got, e)
	}
	s, got, is, e := root.Open(d)
	if s != nil || got != (root.Root{}) || is || e != api.ErrDown {
		t.Errorf("P6.1: Open: %v, %v, %v (%d)", s, got, is, e)
	}
	d.Crash()
	finds(t, "P6.2", d, r, true)
}

// breakOff publishes r, goes down behind n writes, and crashes by these
// choices; what is there then is old or r, whole: which one.
func breakOff(t *testing.T, d *disk.Disk, old, r root.Root, n int, choice ...int) root.Root {
	t.Helper()
	s, _, _, e := root.Open(d)
	if e != api.OK {
		t.Fatal(e)
	}
	d.Halt(n)
	got, e := s.Publish(r)
	if ended := n > 2; ended != (e == api.OK) || !ended && (e != api.ErrDown || got != root.Root{}) {
		t.Fatalf("P6.1: Publish, with %d writes: %v (%d)", n, got, e)
	}
	d.Crash(choice...)
	_, found, is, e := root.Open(d)
	if e != api.OK || is != (found.Epoch > 0) {
		t.Fatalf("P6.2: Open: %v, %v (%d)", found, is, e)
	}
	if n > 2 && found != got {
		t.Fatalf("P6.2: %v was published, %v is there", got, found)
	}
	if found == old {
		return found
	}
	r.Epoch = found.Epoch
	if found != r || found.Epoch <= old.Epoch {
		t.Fatalf("P6.2: %d writes, choice %v: %v is there, neither %v nor %v", n, choice, found, old, r)
	}
	return found
}

// Epochs at which a beginning of the next one and an end of this one make one
// that is greater than both.
var turns = []uint64{0, 1, 2, 254, 255, 256, 65534, 65535, 65536, 1<<32 - 2, 1<<32 - 1, 1 << 40, 1<<61 - 1}

// starts: disks with no Root, with one, with two.
func starts(t *testing.T) ([]*disk.Disk, []root.Root) {
	var disks []*disk.Disk
	var roots []root.Root
	for _, x := range turns {
		r := root.Root{Epoch: x, Half: 1, Page: 0xfffe, Next: 0xffff, Count: 0xff00, Height: 2}
		if x == 0 {
			disks, roots = append(disks, disk.New(2)), append(roots, root.Root{})
			continue
		}
		disks = append(disks, with(t, slot(r), ""), with(t, "", slot(r)))
		roots = append(roots, r, r)
		if x > 1 {
			before := root.Root{Epoch: x - 1, Page: 1, Next: 0xff, Count: 3}
			disks = append(disks, with(t, slot(before), slot(r)), with(t, slot(r), slot(before)))
			roots = append(roots, r, r)
		}
	}
	return disks, roots
}

func TestBrokenOffOnce(t *testing.T) {
	disks, roots := starts(t)
	for i, start := range disks {
		for n := range 5 {
			for c := range 258 {
				d := start.Clone()
				next := root.Root{Half: 0, Page: 0x10000, Next: 0x10001, Count: 0xff01, Height: 3}
				found := breakOff(t, d, roots[i], next, n, c)
				if whole := n == 2 && c >= 37 || n > 2; whole && found == roots[i] {
					t.Fatalf("P6.2: %d writes, choice %d: what was written whole isn't there", n, c)
				}
				if n < 2 && found != roots[i] {
					t.Fatalf("P6.2: %d writes: %v is there", n, found)
				}
			}
		}
	}
}

// Two that are broken off, with each choice of what stays of each; then one
// that isn't.
func TestBrokenOffTwice(t *testing.T) {
	disks, roots := starts(t)
	for _, i := range []int{0, 6, 14, 26} {
		for a := range 257 {
			d := disks[i].Clone()
			found := breakOff(t, d, roots[i], root.Root{Page: 0x01ff, Next: 8, Count: 7, Height: 1}, 2, a)
			for b := range 257 {
				c := d.Clone()
				last := breakOff(t, c, found, root.Root{Half: 1, Page: 0x0200, Next: 0x0900}, 2, b)
				if b%8 == 0 {
					breakOff(t, c, last, root.Root{Page: 3}, 3)
				}
			}
		}
	}
}

// Several ones, each broken off at each of its writes, or not, at each place
// where one part of a slot ends.
func TestBrokenOffManyTimes(t *testing.T) {
	ends := []int{0, 1, 7, 8, 9, 13, 24, 25, 28, 29, 30, 36, 37, 256}
	disks, roots := starts(t)
	var further func(d *disk.Disk, old root.Root, depth int)
	further = func(d *disk.Disk, old root.Root, depth int) {
		if depth == 4 {
			return
		}
		next := root.Root{Half: depth % 2, Page: 0xff - depth, Next: 0xff + depth, Count: depth << 16, Height: depth}
		for n := range 4 {
			for k, c := range ends {
				if n != 2 && k > 0 {
					break // nothing of a slot is loose
				}
				e := d.Clone()
				further(e, breakOff(t, e, old, next, n, c), depth+1)
			}
		}
	}
	for _, i := range []int{0, 2, 14} {
		further(disks[i], roots[i], 0)
	}
}

// A slot in which a Root was, of the same fields: what a torn write of the
// same Root again leaves isn't taken for it.
func TestSameRootAgain(t *testing.T) {
	same := root.Root{Half: 1, Page: 4, Next: 5, Count: 6, Height: 1}
	d := disk.New(2)
	found := root.Root{}
	for c := range 257 {
		for n := range 4 {
			found = breakOff(t, d, found, same, n, c)
		}
	}
}

func TestWrittenAheadIsFlushed(t *testing.T) {
	d := disk.New(8)
	s := finds(t, "P6.3", d, root.Root{}, false)
	for i := range 5 {
		text := strings.Repeat(string(rune('a'+i)), api.Sector)
		for k := 2; k < 8; k++ {
			if e := d.Write(k, text); e != api.OK {
				t.Fatal(e)
			}
		}
		r := publish(t, s, root.Root{Next: i}, uint64(i+1))
		if len(d.Loose()) != 0 {
			t.Errorf("P6.3: %v is loose behind a Publish", d.Loose())
		}
		d.Crash()
		for k := 2; k < 8; k++ {
			if x, e := d.Read(k); x != text || e != api.OK {
				t.Errorf("P6.3: sector %d is %q (%d)", k, x, e)
			}
		}
		finds(t, "P6.3", d, r, true)
	}
}

// A Root that is there has all that was written ahead of it, also where its
// Publish was broken off.
func TestWhatARootSpeaksOfIsThere(t *testing.T) {
	for n := range 4 {
		for c := range 257 {
			d := disk.New(4)
			if e := d.Write(3, "spoken of"); e != api.OK {
				t.Fatal(e)
			}
			s := finds(t, "P6.2", d, root.Root{}, false)
			d.Halt(n)
			s.Publish(root.Root{Page: 1})
			d.Crash(c) // of the slot, where it is loose: it is the first loose sector
			_, _, is, _ := root.Open(d)
			x, _ := d.Read(3)
			if is && !strings.HasPrefix(x, "spoken of\x00") {
				t.Errorf("P6.3: %d writes, choice %d: the Root is there, but not what was written ahead of it", n, c)
			}
			if n > 0 && !strings.HasPrefix(x, "spoken of\x00") {
				t.Errorf("P6.1: %d writes: what was written ahead isn't flushed", n)
			}
		}
	}
}
