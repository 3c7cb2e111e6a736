package wire_test

import (
	"math"
	"strings"
	"testing"

	"dowser/api"
	"dowser/program"
	"dowser/varint"
	"dowser/wire"
)

// long: 1 in more bytes than it needs.
const long = "\x81\x00"

// field is one number of a program's bytes, or the eight bytes of a heat.
type field struct {
	bytes string
	kind  bool
	heat  bool
}

// fields: those of the whole program, of which each is spoiled.
func fields() []field {
	var l []field
	plain := func(numbers ...int) {
		for _, x := range numbers {
			l = append(l, field{bytes: nums(x)})
		}
	}
	op := func(kind int, numbers ...int) {
		l = append(l, field{bytes: nums(kind), kind: true})
		plain(numbers...)
	}
	heat := func(bits uint64) { l = append(l, field{bytes: eight(bits), heat: true}) }
	plain(200, 60, 6, 2, 0, 0, 2, 150, 151, 4, 2, 0, 1, 7)
	op(program.Alloc, 1, 2, 3)
	op(program.Copy, 0, 130, 5)
	op(program.Load, 1, 4, 3, 2)
	op(program.Store, 1, 4, 3, 5)
	op(program.Addr, 0, 9, 1)
	op(program.Call, 1, 10, 1, 3, 3, 2, 1)
	heat(math.Float64bits(0.1))
	op(program.Via, 1, 200, 199, 1, 199)
	heat(0x7ff8000000000001)
	return l
}

// joined: the fields' bytes, of which some are others.
func joined(l []field, other map[int]string) string {
	var s string
	for i, f := range l {
		if o, is := other[i]; is {
			s += o
		} else {
			s += f.bytes
		}
	}
	return s
}

// wrongs: how a field may be wrong, and what is told of it.
func wrongs(f field) map[string]api.Errno {
	if f.heat {
		return map[string]api.Errno{eight(0x7ff8000000000000): api.ErrForm, eight(math.MaxUint64): api.ErrForm}
	}
	all := map[string]api.Errno{
		long: api.ErrForm, "\x80\x00": api.ErrForm, f.bytes[:len(f.bytes)-1] + string([]byte{f.bytes[len(f.bytes)-1] | 128, 0}): api.ErrForm,
		nums(65536): api.ErrBig, nums(1 << 32): api.ErrBig, nums(1<<32 + 1): api.ErrBig, varint.Num(math.MaxUint64): api.ErrBig,
		strings.Repeat("\xff", 9) + "\x02": api.ErrForm,
	}
	if f.kind {
		for _, x := range []int{0, 8, 9, 127, 128, 255, 256 + program.Alloc, 65535} {
			all[nums(x)] = api.ErrForm
		}
	}
	return all
}

func TestEachFieldWrong(t *testing.T) {
	l := fields()
	encodes(t, whole(), joined(l, nil))
	for i, f := range l {
		for bytes, want := range wrongs(f) {
			s := joined(l, map[int]string{i: bytes})
			notDecoded(t, s, want)
			notDecoded(t, s+"\x00", want)                 // bytes are left
			notDecoded(t, joined(l[:i], nil)+bytes, want) // all behind it is wanting
		}
	}
}

// Of two fields that are wrong the first one is told, and either of them ahead
// of what Check tells.
func TestTwoFieldsWrong(t *testing.T) {
	l := fields()
	for j, second := range l {
		for bytes, later := range wrongs(second) {
			for i, first := range l[:j] {
				wrong, want := nums(65536), api.ErrBig
				switch {
				case first.heat:
					wrong, want = eight(math.MaxUint64), api.ErrForm
				case first.kind:
					wrong, want = nums(9), api.ErrForm
				}
				notDecoded(t, joined(l, map[int]string{i: wrong, j: bytes}), want)
			}
			if j > 1 {
				notDecoded(t, joined(l, map[int]string{0: nums(201), j: bytes}), later)
				notDecoded(t, joined(l, map[int]string{1: nums(0), j: bytes}), later)
			}
		}
	}
}

// Bytes that say something, but of no program that may be.
func TestDecodeOfWhatMayNotBe(t *testing.T) {
	for s, want := range map[string]api.Errno{
		nums(201, 0, 0, 0, 0, 0): api.ErrBig, nums(0, 61, 0, 0, 0, 0): api.ErrBig, nums(0, 0, 7, 0, 0, 0): api.ErrBig,
		nums(65535, 0, 0, 0, 0, 0): api.ErrBig, nums(0, 65535, 65535, 0, 0, 0): api.ErrBig,
		nums(0, 0, 0, 31) + strings.Repeat("\x00\x00", 31) + nums(0, 0):             api.ErrBig,
		nums(0, 0, 0, 0, 31) + strings.Repeat("\x00", 31) + nums(0):                 api.ErrBig,
		nums(1, 0, 0, 1, 7, 0, 0, 0, 0, 0, 0, 0, 0, 0, 0):                           api.ErrBig,
		nums(1, 0, 0, 1, 0, 0, 0, 301) + strings.Repeat("\x02\x00\x00\x00", 301):    api.ErrBig,
		nums(1, 0, 0, 1, 0, 0, 0, 1, 6, 0, 0, 0, 7, 0, 0, 0, 0, 0, 0, 0) + eight(0): api.ErrBig,
		nums(0, 0, 0, 0, 1, 0, 0):                                                   api.ErrProgram, // Entry of what there isn't
		nums(0, 0, 0, 2, 0, 0, 0, 0, 2, 1, 0, 0):                                    api.ErrProgram, // it falls
		nums(0, 0, 0, 2, 0, 0, 0, 0, 2, 1, 1, 0):                                    api.ErrProgram, // a number twice
		nums(0, 0, 0, 1, 0, 1, 0, 0):                                                api.ErrProgram, // Ret
		nums(0, 0, 0, 1, 0, 65535, 0, 0):                                            api.ErrProgram,
		nums(0, 0, 0, 1, 1, 0, 0, 0, 0):                                             api.ErrProgram, // a parameter
		nums(1, 0, 0, 0, 0, 1, 2, 0, 0, 0):                                          api.ErrProgram, // In
		nums(1, 0, 0, 1, 0, 0, 0, 1, 2, 65535, 0, 0):                                api.ErrProgram,
		nums(1, 0, 0, 1, 0, 0, 0, 1, 2, 0, 1, 0):                                    api.ErrProgram, // A
		nums(1, 0, 0, 1, 0, 0, 0, 1, 1, 0, 0, 0):                                    api.ErrProgram, // B
		nums(1, 0, 0, 1, 0, 0, 0, 1, 3, 0, 0, 0, 0):                                 api.ErrProgram, // C
		nums(1, 0, 0, 1, 0, 0, 0, 1, 6, 0, 2, 0, 0) + eight(0):                      api.ErrProgram,
		nums(1, 0, 0, 1, 0, 0, 0, 1, 6, 0, 0, 0, 1, 1) + eight(0):                   api.ErrProgram, // an argument
		nums(201, 0, 0, 0, 1, 0, 0):                                                 api.ErrBig,     // Check's least
		nums(201, 0, 0, 0, 0, 0, 0):                                                 api.ErrForm,    // bytes that are left ahead of Check
		nums(0, 0, 0, 0, 1, 0, 0, 0):                                                api.ErrForm,
		nums(201, 0, 0, 0, 0):                                                       api.ErrEnd,
		nums(201, 65536, 0):                                                         api.ErrBig,
		nums(201) + long:                                                            api.ErrForm,
		nums(1, 0, 0, 1, 0, 0, 0, 1, 9):                                             api.ErrForm, // a Kind that there isn't, ahead of the end
		nums(1, 0, 0, 1, 0, 0, 0, 1, 9, 65536):                                      api.ErrForm,
		nums(1, 0, 0, 1, 0, 0, 0, 1, 0, 0, 0, 0):                                    api.ErrForm,
		nums(1, 0, 0, 1, 0, 0, 0, 1, 6, 0, 0, 0, 0) + eight(0)[1:]:                  api.ErrEnd,
		nums(1, 0, 0, 1, 0, 0, 0, 2, 6, 0, 0, 0, 0) + eight(1<<63-1):                api.ErrForm, // a heat of none, ahead of the end
		"": api.ErrEnd, "\x80": api.ErrEnd, "\x00": api.ErrEnd,
	} {
		notDecoded(t, s, want)
	}
}

// Far more may be told than there are bytes: no room is made ahead for it.
func TestManyToldFewThere(t *testing.T) {
	for _, n := range []int{1, 300, 65535} {
		for _, s := range []string{
			nums(200, 60, 6, n), nums(200, 60, 6, n, n), nums(200, 60, 6, n, 1, 1), nums(200, 60, 6, n, 0, n),
			nums(200, 60, 6, 0, n), nums(200, 60, 6, 0, 0, n), nums(200, 60, 6, 1, n), nums(200, 60, 6, 0, 0, n, 6, 0, 0, 0, n),
		} {
			notDecoded(t, s, api.ErrEnd)
			notDecoded(t, s+"\x80", api.ErrEnd)
			notDecoded(t, s+long, api.ErrForm)
		}
	}
	few := nums(65535, 65535, 65535, 65535)
	if n := testing.AllocsPerRun(10, func() { wire.Decode(few) }); n > 20 {
		t.Errorf("P16.1: Decode of %x makes room %g times", few, n)
	}
	// As many as are told are there, but may not be.
	notDecoded(t, nums(0, 0, 0, 65535)+strings.Repeat("\x00\x00", 65535)+nums(0, 0), api.ErrBig)
	notDecoded(t, nums(0, 0, 0, 65535)+strings.Repeat("\x00\x00", 65535)+nums(0), api.ErrEnd)
	notDecoded(t, nums(0, 0, 0, 0, 65535)+strings.Repeat("\x01", 65536), api.ErrEnd)
	notDecoded(t, nums(0, 0, 0, 0, 65535)+strings.Repeat("\x01", 65535)+nums(0), api.ErrBig)
	notDecoded(t, nums(0, 0, 0, 0, 0, 65535)+strings.Repeat("\x02\x00\x00\x00", 65535), api.ErrBig)
	notDecoded(t, nums(0, 0, 0, 0, 0, 65535)+strings.Repeat("\x02\x00\x00\x00", 65536), api.ErrForm)
	notDecoded(t, nums(0, 0, 0, 0, 0, 65535)+strings.Repeat("\x02\x00\x00\x00", 65534)+"\x09", api.ErrForm)
}

// parser is what the chapter says of bytes, word by word: the first thing that
// is wrong breaks it off.
type parser struct{ rest string }

type wrong struct{ e api.Errno }

func (p *parser) num() int {
	x := 0
	for i := 0; ; i++ {
		if i == len(p.rest) {
			panic(wrong{api.ErrEnd})
		}
		b := p.rest[i]
		if i > 0 && b == 0 || i == 9 && b > 1 {
			panic(wrong{api.ErrForm})
		}
		if i < 5 {
			x += int(b&127) << (7 * i)
		} else if b&127 > 0 {
			x = math.MaxInt // the number is far above what may be
		}
		if b < 128 {
			p.rest = p.rest[i+1:]
			break
		}
	}
	if x > 65535 {
		panic(wrong{api.ErrBig})
	}
	return x
}

func (p *parser) list() []int {
	var l []int
	for range p.num() {
		l = append(l, p.num())
	}
	return l
}

func (p *parser) heat() float64 {
	if len(p.rest) < 8 {
		panic(wrong{api.ErrEnd})
	}
	var bits uint64
	for i := range 8 {
		bits = bits*256 + uint64(p.rest[i])
	}
	p.rest = p.rest[8:]
	x := math.Float64frombits(bits)
	if math.IsNaN(x) && bits != 0x7ff8000000000001 {
		panic(wrong{api.ErrForm})
	}
	return x
}

func (p *parser) op() program.Op {
	o := program.Op{Kind: p.num()}
	if o.Kind < 1 || o.Kind > 7 {
		panic(wrong{api.ErrForm})
	}
	o.In, o.A = p.num(), p.num()
	o.B = p.num()
	switch o.Kind {
	case program.Load, program.Store:
		o.C = p.num()
	case program.Call, program.Via:
		o.A--
		o.Args = p.list()
		o.Heat = p.heat()
	}
	return o
}

func plainDecode(s string) (q program.Program, e api.Errno) {
	defer func() {
		if w, is := recover().(wrong); is {
			q, e = program.Program{}, w.e
		}
	}()
	p := parser{s}
	q.Vars, q.Objs, q.Fields = p.num(), p.num(), p.num()
	for range p.num() {
		params := p.list()
		q.Funcs = append(q.Funcs, program.Func{Params: params, Ret: p.num() - 1})
	}
	q.Entry = p.list()
	for range p.num() {
		q.Ops = append(q.Ops, p.op())
	}
	if p.rest != "" {
		return program.Program{}, api.ErrForm
	}
	if e := q.Check(); e != api.OK {
		return program.Program{}, e
	}
	return q, api.OK
}

// asked: of any bytes what the chapter says; and of a program just one text is
// its bytes.
func asked(t *testing.T, s string) api.Errno {
	t.Helper()
	want, e := plainDecode(s)
	p, f := wire.Decode(s)
	if f != e || !program.Same(p, want) || f != api.OK && !isZero(p) {
		t.Fatalf("P16.1: Decode of %x: %v (%d), not %v (%d)", s, p, f, want, e)
	}
	if f != api.OK {
		return f
	}
	if back, e := wire.Encode(p); back != s || e != api.OK || wire.Size(p) != len(s) {
		t.Fatalf("P16.2: %x is %v, which is %x (%d)", s, p, back, e)
	}
	return f
}

// All of at most so many bytes out of a few, alone, and behind a program's
// first numbers.
func TestDecodeOfAnyBytes(t *testing.T) {
	var grow func(s string, more int)
	grow = func(s string, more int) {
		asked(t, s)
		if more == 0 {
			return
		}
		for _, b := range "\x00\x01\x02\x03" {
			grow(s+string(b), more-1)
		}
		grow(s+"\x80", more-1)
	}
	grow("", 8)
	grow(nums(2, 2, 2, 1, 0, 0, 0), 7)
	grow(nums(2, 2, 2, 1, 0, 0, 0, 1), 7)
	grow(nums(2, 2, 2, 1, 0, 0, 0, 1, 6), 7)
	grow(nums(2, 2, 2, 1, 0, 0, 0, 1, 7, 0, 0, 0, 0)+"\x7f\xf8\x00\x00\x00", 4)
}

// A program's bytes, of which some are others, too many, or wanting.
func TestDecodeOfSpoiledBytes(t *testing.T) {
	r := random(61)
	seen := map[api.Errno]int{}
	for range 60000 {
		s := []byte(plainBytes(anyProgram(&r)))
		for range r.pick(3) {
			at := r.pick(len(s))
			switch r.pick(4) {
			case 0:
				s[at] = byte(r.pick(256))
			case 1:
				s[at] = byte(r.pick(9))
			case 2:
				s = append(s[:at:at], s[at+r.pick(2):]...)
			case 3:
				s = append(s[:at:at], append([]byte{byte(r.pick(256))}, s[at:]...)...)
			}
		}
		seen[asked(t, string(s))]++
	}
	for _, e := range []api.Errno{api.OK, api.ErrEnd, api.ErrForm, api.ErrBig, api.ErrProgram} {
		if seen[e] < 100 {
			t.Errorf("P16.1: too few answered %d: %v", e, seen)
		}
	}
}
