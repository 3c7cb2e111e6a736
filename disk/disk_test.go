package disk_test

import (
	"math"
	"slices"
	"strings"
	"testing"

	"dowser/api"
	"dowser/disk"
)

// sector: s, and noughts behind it.
func sector(s string) string { return s + strings.Repeat("\x00", api.Sector-len(s)) }

func full(s string) string { return strings.Repeat(s, api.Sector) }

// is: what a sector must be.
func is(t *testing.T, promise string, d *disk.Disk, i int, want string) {
	t.Helper()
	if got, e := d.Read(i); got != want || e != api.OK {
		t.Errorf("%s: sector %d is %q (%d), not %q", promise, i, got, e, want)
	}
}

// refused: what a call must be told.
func refused(t *testing.T, promise, what string, got, want api.Errno) {
	t.Helper()
	if got != want {
		t.Errorf("%s: %s: %d, not %d", promise, what, got, want)
	}
}

// fine: calls that must go well.
func fine(t *testing.T, l ...api.Errno) {
	t.Helper()
	for i, e := range l {
		if e != api.OK {
			t.Fatalf("P5.1: call %d: %d", i, e)
		}
	}
}

func TestHowManySectors(t *testing.T) {
	for n, want := range map[int]int{
		math.MinInt: 2, -1: 2, 0: 2, 1: 2, 2: 2, 3: 3, 300: 300,
		65535: 65535, 65536: 65536, 65537: 65536, math.MaxInt: 65536,
	} {
		d := disk.New(n)
		if d.Size() != want {
			t.Errorf("P5.1: New(%d) has %d sectors, not %d", n, d.Size(), want)
		}
		is(t, "P5.1", d, 0, sector(""))
		is(t, "P5.1", d, want-1, sector(""))
		fine(t, d.Write(want-1, "end"))
		is(t, "P5.1", d, want-1, sector("end"))
		_, e := d.Read(want)
		refused(t, "P5.1", "Read behind the end", e, api.ErrRange)
	}
}

func TestNewDisk(t *testing.T) {
	d := disk.New(5)
	if d.Writes() != 0 || len(d.Loose()) != 0 {
		t.Errorf("P5.1: a new disk has %d writes, and %v is loose", d.Writes(), d.Loose())
	}
	for i := range 5 {
		is(t, "P5.1", d, i, sector(""))
	}
}

func TestNoSuchSector(t *testing.T) {
	d := disk.New(4)
	for _, i := range []int{math.MinInt, -65536, -1, 4, 5, 65536, math.MaxInt} {
		s, e := d.Read(i)
		if s != "" {
			t.Errorf("P5.1: %q beside an error", s)
		}
		refused(t, "P5.1", "Read", e, api.ErrRange)
		refused(t, "P5.1", "Write", d.Write(i, "x"), api.ErrRange)
		refused(t, "P5.1", "Write, of too much", d.Write(i, full("x")+"x"), api.ErrRange)
	}
	if d.Writes() != 0 || len(d.Loose()) != 0 {
		t.Errorf("P5.1: what was refused counts: %d, %v", d.Writes(), d.Loose())
	}
}

func TestTextsOfAnyLength(t *testing.T) {
	for _, s := range []string{"", "a", "\x00\x00", "a\x00b", "\xff\xfe", full("c")[:255], full("d")} {
		d := disk.New(2)
		fine(t, d.Write(1, full("z")), d.Flush(), d.Write(1, s))
		is(t, "P5.1", d, 1, sector(s))
		is(t, "P5.1", d, 0, sector(""))
	}
	d := disk.New(2)
	fine(t, d.Write(1, "kept"), d.Flush())
	for _, n := range []int{257, 512, 100000} {
		refused(t, "P5.1", "Write of too much", d.Write(1, strings.Repeat("x", n)), api.ErrArg)
	}
	is(t, "P5.1", d, 1, sector("kept"))
	if d.Writes() != 2 || len(d.Loose()) != 0 {
		t.Errorf("P5.1: what was refused counts: %d, %v", d.Writes(), d.Loose())
	}
}

func TestLooseRisesAndIsFlushed(t *testing.T) {
	d := disk.New(20)
	for _, i := range []int{7, 19, 0, 7, 3, 0} {
		fine(t, d.Write(i, "x"))
	}
	if !slices.Equal(d.Loose(), []int{0, 3, 7, 19}) {
		t.Errorf("P5.1: %v is loose", d.Loose())
	}
	fine(t, d.Flush())
	if len(d.Loose()) != 0 {
		t.Errorf("P5.1: %v is loose behind a Flush", d.Loose())
	}
	fine(t, d.Write(3, "x")) // the same as was there: loose all the same
	if !slices.Equal(d.Loose(), []int{3}) {
		t.Errorf("P5.1: %v is loose", d.Loose())
	}
	d.Crash()
	if len(d.Loose()) != 0 {
		t.Errorf("P5.1: %v is loose behind a crash", d.Loose())
	}
}

func TestWritesCountWhatWentWell(t *testing.T) {
	d := disk.New(3)
	fine(t, d.Write(0, ""), d.Flush(), d.Flush(), d.Write(2, "x"))
	d.Read(0)
	d.Read(9)
	d.Write(9, "")
	d.Write(0, full("x")+"x")
	if d.Writes() != 4 {
		t.Errorf("P5.1: %d writes, not 4", d.Writes())
	}
	d.Halt(1)
	fine(t, d.Flush())
	d.Flush()
	d.Write(0, "")
	if d.Writes() != 5 {
		t.Errorf("P5.1: %d writes, not 5", d.Writes())
	}
	d.Crash(1, 2, 3)
	if d.Writes() != 5 {
		t.Errorf("P5.1: %d writes behind a crash, not 5", d.Writes())
	}
	fine(t, d.Write(1, ""))
	if d.Writes() != 6 {
		t.Errorf("P5.1: %d writes, not 6", d.Writes())
	}
}

// Each choice, of a sector that was written once, and of one that was written
// twice: the first text of the two is nowhere to be found.
func TestCrashKeepsABeginning(t *testing.T) {
	for _, twice := range []bool{false, true} {
		for c := -1100; c <= 1100; c++ {
			d := disk.New(2)
			fine(t, d.Write(1, full("a")), d.Flush())
			if twice {
				fine(t, d.Write(1, full("b")))
			}
			fine(t, d.Write(1, full("c")))
			d.Crash(c)
			stay := ((c % 512) + 512) % 512
			if stay > 256 {
				stay = 256
			}
			is(t, "P5.1", d, 1, full("c")[:stay]+full("a")[stay:])
		}
	}
}

func TestCrashKeepsTheNoughtsOfAShortText(t *testing.T) {
	d := disk.New(2)
	fine(t, d.Write(0, full("a")), d.Flush(), d.Write(0, "xy"))
	d.Crash(4)
	is(t, "P5.1", d, 0, "xy\x00\x00"+full("a")[4:])
}

func TestExample(t *testing.T) {
	d := disk.New(2)
	fine(t, d.Write(1, "abc"))
	d.Crash(2)
	is(t, "P5.1", d, 1, sector("ab"))
}

func TestCrashWithChoicesFewAndMany(t *testing.T) {
	for _, x := range []struct {
		choice []int
		stay   [3]int // of sectors 1, 4, 5
	}{
		{nil, [3]int{0, 0, 0}},
		{[]int{}, [3]int{0, 0, 0}},
		{[]int{10}, [3]int{10, 0, 0}},
		{[]int{0, 256}, [3]int{0, 256, 0}},
		{[]int{1, 2, 3}, [3]int{1, 2, 3}},
		{[]int{1, 2, 3, 4, 5}, [3]int{1, 2, 3}},
		{[]int{-1, 511, 512}, [3]int{256, 256, 0}},
		{[]int{-512, -511, -256}, [3]int{0, 1, 256}},
		{[]int{257, 512 + 7, math.MaxInt}, [3]int{256, 7, 256}},
		{[]int{math.MinInt, math.MinInt + 9, 255}, [3]int{0, 9, 255}},
	} {
		d := disk.New(6)
		fine(t, d.Write(1, full("1")), d.Write(4, full("4")), d.Write(5, full("5")), d.Write(2, full("2")), d.Flush())
		fine(t, d.Write(5, full("r")), d.Write(1, full("p")), d.Write(4, full("q")))
		d.Crash(x.choice...)
		for k, i := range []int{1, 4, 5} {
			stay := x.stay[k]
			is(t, "P5.1", d, i, full("pqr"[k : k+1])[:stay]+full("145"[k : k+1])[stay:])
		}
		is(t, "P5.2", d, 2, full("2"))
		is(t, "P5.1", d, 0, sector(""))
	}
}

func TestCrashOfWhatIsNotLoose(t *testing.T) {
	d := disk.New(3)
	fine(t, d.Write(0, "a"), d.Flush(), d.Write(1, "b"))
	d.Crash(256)
	d.Crash(0, 0, 0)
	is(t, "P5.2", d, 0, sector("a"))
	is(t, "P5.2", d, 1, sector("b")) // not loose any more: it is there behind the next one
}

func TestFlushedStaysTillWrittenOver(t *testing.T) {
	d := disk.New(4)
	for i := range 4 {
		fine(t, d.Write(i, full(string(rune('a'+i)))))
	}
	fine(t, d.Flush())
	for c := range 300 {
		fine(t, d.Write(2, full("x")), d.Write(2, full("y")))
		d.Crash() // nothing of 2 stays: it was never flushed
		for i := range 4 {
			is(t, "P5.2", d, i, full(string(rune('a'+i))))
		}
		fine(t, d.Write(3, full("d")))
		d.Halt(0)
		d.Flush()
		d.Crash(c)
		is(t, "P5.2", d, 3, full("d"))
	}
	fine(t, d.Write(1, full("x")), d.Flush())
	d.Crash()
	is(t, "P5.2", d, 1, full("x"))
}

// A Flush that is told that the disk is down has flushed nothing.
func TestFlushThatDidNotGoWell(t *testing.T) {
	d := disk.New(2)
	fine(t, d.Write(0, full("a")), d.Flush(), d.Write(0, full("b")))
	d.Halt(0)
	refused(t, "P5.1", "Flush", d.Flush(), api.ErrDown)
	if !slices.Equal(d.Loose(), []int{0}) {
		t.Errorf("P5.3: %v is loose", d.Loose())
	}
	d.Crash(1)
	is(t, "P5.1", d, 0, "b"+full("a")[1:])
}

func TestHalt(t *testing.T) {
	for n := range 6 {
		for _, flushes := range []bool{false, true} {
			d := disk.New(2)
			call := func() api.Errno {
				if flushes {
					return d.Flush()
				}
				return d.Write(1, "x")
			}
			d.Halt(n)
			for range n {
				fine(t, call())
			}
			is(t, "P5.1", d, 0, sector("")) // it is down by the write that finds it so
			refused(t, "P5.1", "behind Halt", call(), api.ErrDown)
			_, e := d.Read(0)
			refused(t, "P5.3", "Read", e, api.ErrDown)
			refused(t, "P5.3", "Write", d.Write(0, ""), api.ErrDown)
			refused(t, "P5.3", "Flush", d.Flush(), api.ErrDown)
			if d.Writes() != n {
				t.Errorf("P5.1: Halt(%d): %d writes", n, d.Writes())
			}
			d.Crash()
			for range 20 {
				fine(t, d.Write(0, "y"), d.Flush())
			}
		}
	}
}

func TestHaltBelowNought(t *testing.T) {
	for _, n := range []int{-1, -2, -513, math.MinInt} {
		d := disk.New(2)
		d.Halt(n)
		for range 100 {
			fine(t, d.Write(0, "x"), d.Flush())
		}
	}
	d := disk.New(2)
	d.Halt(math.MaxInt)
	fine(t, d.Write(0, "x"), d.Flush())
}

func TestHaltOfWhatWasHalted(t *testing.T) {
	d := disk.New(2)
	d.Halt(0)
	d.Halt(2)
	fine(t, d.Flush(), d.Flush())
	d.Halt(1) // it was to be down by now, but isn't yet
	fine(t, d.Flush())
	d.Halt(-1)
	fine(t, d.Flush(), d.Flush(), d.Flush())
	d.Halt(5)
	d.Halt(0)
	refused(t, "P5.1", "Flush", d.Flush(), api.ErrDown)
	for _, n := range []int{3, 0, -1, math.MinInt, math.MaxInt} {
		d.Halt(n) // it is down: only a crash ends that
		_, e := d.Read(0)
		refused(t, "P5.3", "Read", e, api.ErrDown)
		refused(t, "P5.3", "Write", d.Write(0, ""), api.ErrDown)
		refused(t, "P5.3", "Flush", d.Flush(), api.ErrDown)
	}
	d.Halt(1)
	d.Crash()
	fine(t, d.Flush(), d.Flush(), d.Flush()) // behind a crash it won't be down by itself
	d.Halt(0)
	d.Crash() // of what isn't down yet
	fine(t, d.Flush(), d.Flush(), d.Flush())
}

func TestWhichErrorIsFirst(t *testing.T) {
	d := disk.New(3)
	long := full("x") + "x"
	d.Halt(0)
	// To be down comes last; what is refused ahead of it doesn't bring it down.
	refused(t, "P5.1", "no such sector, too long", d.Write(3, long), api.ErrRange)
	refused(t, "P5.1", "no such sector", d.Write(-1, "x"), api.ErrRange)
	refused(t, "P5.1", "too long", d.Write(0, long), api.ErrArg)
	is(t, "P5.1", d, 0, sector(""))
	_, e := d.Read(3)
	refused(t, "P5.1", "Read", e, api.ErrRange)
	refused(t, "P5.1", "to be down", d.Write(0, "x"), api.ErrDown)
	// It is down: that comes first.
	refused(t, "P5.1", "down, too long", d.Write(0, long), api.ErrDown)
	refused(t, "P5.1", "down, no such sector", d.Write(3, long), api.ErrDown)
	s, e := d.Read(3)
	refused(t, "P5.1", "down, no such sector", e, api.ErrDown)
	if s != "" {
		t.Errorf("P5.1: %q beside an error", s)
	}
	if s, _ := d.Read(0); s != "" {
		t.Errorf("P5.1: %q beside an error", s)
	}
	d.Crash()
	is(t, "P5.1", d, 0, sector("")) // the write that found it down wrote nothing
}

// A write that is refused doesn't use up one of those that Halt leaves.
func TestHaltCountsWhatWentWell(t *testing.T) {
	d := disk.New(2)
	d.Halt(2)
	d.Write(2, "")
	d.Write(0, full("x")+"x")
	d.Read(0)
	d.Read(-1)
	fine(t, d.Write(0, ""), d.Flush())
	refused(t, "P5.1", "Flush", d.Flush(), api.ErrDown)
}

func TestNothingChangesWhileDown(t *testing.T) {
	d := disk.New(4)
	fine(t, d.Write(0, full("a")), d.Write(1, full("b")), d.Flush(), d.Write(1, full("c")), d.Write(3, full("d")))
	d.Halt(0)
	d.Write(2, "e")
	for _, s := range []string{"", "f", full("g"), full("h") + "h"} {
		for i := -1; i < 5; i++ {
			refused(t, "P5.3", "Write", d.Write(i, s), api.ErrDown)
			_, e := d.Read(i)
			refused(t, "P5.3", "Read", e, api.ErrDown)
			refused(t, "P5.3", "Flush", d.Flush(), api.ErrDown)
			d.Halt(i)
		}
	}
	if d.Size() != 4 || d.Writes() != 5 || !slices.Equal(d.Loose(), []int{1, 3}) {
		t.Errorf("P5.3: %d sectors, %d writes, %v is loose", d.Size(), d.Writes(), d.Loose())
	}
	d.Crash(7, 256)
	for i, want := range []string{full("a"), full("c")[:7] + full("b")[7:], sector(""), full("d")} {
		is(t, "P5.3", d, i, want)
	}
}

func TestCloneSharesNothing(t *testing.T) {
	d := disk.New(3)
	fine(t, d.Write(0, full("a")), d.Write(1, full("b")), d.Flush(), d.Write(0, full("c")))
	c, e := d.Clone(), d.Clone()
	fine(t, d.Write(1, full("d")), d.Write(0, full("e")), d.Flush())
	d.Halt(0)
	d.Flush()
	if c.Size() != 3 || c.Writes() != 4 || !slices.Equal(c.Loose(), []int{0}) {
		t.Errorf("P5.1: a clone has %d sectors, %d writes, loose %v", c.Size(), c.Writes(), c.Loose())
	}
	is(t, "P5.1", c, 0, full("c"))
	is(t, "P5.1", c, 1, full("b"))
	c.Crash()
	is(t, "P5.1", c, 0, full("a"))
	fine(t, e.Write(2, full("f")))
	d.Crash()
	is(t, "P5.1", d, 0, full("e"))
	is(t, "P5.1", d, 1, full("d"))
	is(t, "P5.1", d, 2, sector(""))
	if !slices.Equal(e.Loose(), []int{0, 2}) || len(d.Loose()) != 0 || len(c.Loose()) != 0 {
		t.Errorf("P5.1: loose: %v, %v, %v", d.Loose(), c.Loose(), e.Loose())
	}
}

func TestCloneOfWhatIsHalted(t *testing.T) {
	d := disk.New(2)
	d.Halt(2)
	fine(t, d.Flush())
	c := d.Clone()
	fine(t, d.Flush(), c.Flush())
	refused(t, "P5.1", "Flush of a clone", c.Flush(), api.ErrDown)
	is(t, "P5.1", d, 0, sector(""))
	down := c.Clone()
	_, e := down.Read(0)
	refused(t, "P5.1", "Read of a clone", e, api.ErrDown)
	down.Crash()
	fine(t, down.Flush())
	refused(t, "P5.1", "Flush", c.Flush(), api.ErrDown)
}

func TestListsAreNewMemory(t *testing.T) {
	d := disk.New(5)
	fine(t, d.Write(1, "x"), d.Write(3, "y"))
	l := append(d.Loose(), 9)
	clear(l)
	if !slices.Equal(d.Loose(), []int{1, 3}) {
		t.Errorf("P5.1: %v is loose", d.Loose())
	}
	room := []int{-1, 600, 3, 77, 78}
	d.Crash(room[:3]...)
	if !slices.Equal(room, []int{-1, 600, 3, 77, 78}) {
		t.Errorf("P5.1: the choices are %v", room)
	}
}

// plain is a disk as the chapter tells it: each sector as it is read, and as
// it was when it was last not loose.
type plain struct {
	now, was map[int]string
	loose    map[int]bool
	size     int
	writes   int
	left     int // below 0: never down
	down     bool
}

// newPlain: each sector is noughts.
func newPlain(size int) *plain {
	p := &plain{now: map[int]string{}, was: map[int]string{}, size: size, left: -1}
	for i := range size {
		p.now[i] = sector("")
	}
	p.settle()
	return p
}

func (p *plain) read(i int) (string, api.Errno) {
	switch {
	case p.down:
		return "", api.ErrDown
	case i < 0 || i >= p.size:
		return "", api.ErrRange
	}
	return p.now[i], api.OK
}

func (p *plain) write(i int, s string) api.Errno {
	_, e := p.read(i)
	switch {
	case e != api.OK:
		return e
	case len(s) > 256:
		return api.ErrArg
	case p.left == 0:
		p.down = true
		return api.ErrDown
	}
	p.left--
	p.writes++
	p.now[i] = sector(s)
	p.loose[i] = true
	return api.OK
}

func (p *plain) flush() api.Errno {
	if p.down || p.left == 0 {
		p.down = true
		return api.ErrDown
	}
	p.left--
	p.writes++
	p.settle()
	return api.OK
}

// settle: what is there now is what a crash brings back.
func (p *plain) settle() {
	p.loose = map[int]bool{}
	for i := range p.size {
		p.was[i] = p.now[i]
	}
}

func (p *plain) crash(choice []int) {
	for i := range p.size {
		if !p.loose[i] {
			continue
		}
		stay := 0
		if len(choice) > 0 {
			stay = min(choice[0]&511, 256)
			choice = choice[1:]
		}
		p.now[i] = p.now[i][:stay] + p.was[i][stay:]
	}
	p.settle()
	p.left, p.down = -1, false
}

func (p *plain) same(t *testing.T, step int, d *disk.Disk) {
	t.Helper()
	var loose []int
	for i := -1; i <= p.size; i++ {
		want, e := p.read(i)
		if got, f := d.Read(i); got != want || f != e {
			t.Fatalf("P5.1: step %d: sector %d is %q (%d), not %q (%d)", step, i, got, f, want, e)
		}
		if p.loose[i] {
			loose = append(loose, i)
		}
	}
	if d.Size() != p.size || d.Writes() != p.writes || !slices.Equal(d.Loose(), loose) {
		t.Fatalf("P5.1: step %d: %d sectors, %d writes, loose %v, not %d, %d, %v", step, d.Size(), d.Writes(), d.Loose(), p.size, p.writes, loose)
	}
}

// TestAnyCalls: many calls, picked by a fixed rule, on a disk and on a plain
// one; now and then the disk is gone on with by its clone.
func TestAnyCalls(t *testing.T) {
	const size = 5
	d := disk.New(size)
	p := newPlain(size)
	x := uint64(5)
	pick := func(n int) int {
		x = x*6364136223846793005 + 1442695040888963407
		return int(x >> 33 % uint64(n))
	}
	for step := range 20000 {
		switch pick(12) {
		case 0, 1, 2, 3, 4, 5:
			i, s := pick(size+2)-1, strings.Repeat(string(rune('a'+pick(26))), pick(260))
			refused(t, "P5.1", "Write", d.Write(i, s), p.write(i, s))
		case 6, 7:
			refused(t, "P5.1", "Flush", d.Flush(), p.flush())
		case 8:
			n := pick(8) - 2
			d.Halt(n)
			p.left = n
		case 9, 10:
			choice := make([]int, pick(size+2))
			for i := range choice {
				choice[i] = pick(1200) - 600
			}
			d.Crash(choice...)
			p.crash(choice)
		default:
			old := d
			d = old.Clone()
			old.Crash(3, 3, 3)
			old.Write(0, "no more")
			old.Flush()
		}
		p.same(t, step, d)
	}
}
