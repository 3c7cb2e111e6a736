package crc_test

import (
	"hash/crc32"
	"math/bits"
	"strings"
	"testing"

	"dowser/crc"
)

// texts: none, single bytes, long ones.
func texts() []string {
	l := []string{"", "123456789", "dowser", strings.Repeat("\x00", 40), strings.Repeat("\xff", 40), strings.Repeat("sector ", 37)}
	for b := range 256 {
		l = append(l, string([]byte{byte(b)}), string([]byte{byte(b), 0, byte(255 - b)}))
	}
	return l
}

// mirrored: the same sum, as the library reckons it from the other end of
// every byte.
func mirrored(s string) uint32 {
	b := []byte(s)
	for i := range b {
		b[i] = bits.Reverse8(b[i])
	}
	return bits.Reverse32(^crc32.ChecksumIEEE(b))
}

func TestOf(t *testing.T) {
	for s, want := range map[string]uint32{"": 0xFFFFFFFF, "123456789": 0x0376E6E7, "\x00": 0x4E08BFB4, "\xff\xff\xff\xff": 0} {
		if got := crc.Of(s); got != want {
			t.Errorf("P2.1: the sum of %q is %08X, not %08X", s, got, want)
		}
	}
	for _, s := range texts() {
		if got, want := crc.Of(s), mirrored(s); got != want {
			t.Errorf("P2.1: the sum of %q is %08X, not %08X", s, got, want)
		}
	}
}

func TestNoText(t *testing.T) {
	if crc.Of() != 0xFFFFFFFF || crc.Of([]string{}...) != 0xFFFFFFFF || crc.Of("", "", "") != 0xFFFFFFFF {
		t.Errorf("P2.1: %08X of nothing", crc.Of())
	}
}

func TestOn(t *testing.T) {
	for _, sum := range []uint32{0, 1, 0x80000000, 0xFFFFFFFF} {
		if got := crc.On(sum, ""); got != sum {
			t.Errorf("P2.1: %08X, and nothing behind it, is %08X", sum, got)
		}
	}
	for _, c := range []struct {
		sum  uint32
		s    string
		want uint32
	}{
		{0, "\x00\x00", 0},
		{0, "\x01", 0x04C11DB7},
		{0, "\x02", 0x09823B6E},
		{1 << 23, "\x00", 1 << 31},
		{1 << 24, "\x00", 0x04C11DB7},
		{1 << 24, "\x01", 0},
	} {
		if got := crc.On(c.sum, c.s); got != c.want {
			t.Errorf("P2.1: %08X, and %x behind it, is %08X, not %08X", c.sum, c.s, got, c.want)
		}
	}
}

func TestFour(t *testing.T) {
	for x, want := range map[uint32]string{0: "\x00\x00\x00\x00", 1: "\x00\x00\x00\x01", 0x01020304: "\x01\x02\x03\x04", 0x80FF00FE: "\x80\xff\x00\xfe", 0xFFFFFFFF: "\xff\xff\xff\xff"} {
		if got := crc.Four(x); got != want {
			t.Errorf("P2.1: the bytes of %08X are %x", x, got)
		}
	}
}

func TestInAnyParts(t *testing.T) {
	for _, s := range texts() {
		want := crc.Of(s)
		for i := range len(s) + 1 {
			if crc.Of(s[:i], s[i:]) != want || crc.Of("", s[:i], "", s[i:], "") != want || crc.On(crc.Of(s[:i]), s[i:]) != want {
				t.Errorf("P2.2: %q in parts, the first of %d bytes", s, i)
			}
		}
		if crc.Of(strings.Split(s, "")...) != want && len(s) == len([]rune(s)) {
			t.Errorf("P2.2: %q letter by letter", s)
		}
		one := crc.Of()
		for i := range len(s) {
			one = crc.On(one, s[i:i+1])
		}
		if one != want {
			t.Errorf("P2.2: %q byte by byte", s)
		}
	}
}

func TestOwnSumBehind(t *testing.T) {
	for _, s := range texts() {
		if got := crc.Of(s, crc.Four(crc.Of(s))); got != 0 {
			t.Errorf("P2.3: %q with its sum behind it: %08X", s, got)
		}
	}
	for _, sum := range []uint32{0, 1, 0xDEADBEEF, 0xFFFFFFFF} {
		if got := crc.On(sum, crc.Four(sum)); got != 0 {
			t.Errorf("P2.3: %08X and its bytes: %08X", sum, got)
		}
	}
}

// flip: s, of which from bit at on (the highest of the first byte is bit 0)
// those bits are others that are 1 in mask, the highest first.
func flip(s string, at int, mask uint32) string {
	b := []byte(s)
	for i := range 32 {
		if mask>>(31-i)&1 == 1 {
			b[(at+i)/8] ^= 128 >> ((at + i) % 8)
		}
	}
	return string(b)
}

func TestOtherBits(t *testing.T) {
	masks := []uint32{0x80000001, 0x04C11DB7, 0x82608EDB, 0xAAAAAAAA, 0xDEADBEEF}
	for i := range 32 {
		masks = append(masks, 1<<i, 1<<31|1<<i, 0xFFFFFFFF<<i, 0x04C11DB7<<i)
	}
	for _, s := range []string{"\x00\x00\x00\x00", "1234", "what points to what", strings.Repeat("\xff", 33)} {
		sum := crc.Of(s)
		for at := range 8*len(s) - 31 {
			for _, m := range masks {
				if crc.Of(flip(s, at, m)) == sum {
					t.Fatalf("P2.4: %q, with the bits %08X from %d on, has the same sum", s, m, at)
				}
			}
		}
	}
}

// All texts of one byte, and of two: 32 bits hold them apart.
func TestShortTextsHaveUnlikeSums(t *testing.T) {
	seen := map[uint32]int{}
	for x := range 1 << 16 {
		sum := crc.Of(string([]byte{byte(x >> 8), byte(x)}))
		if y, ok := seen[sum]; ok {
			t.Fatalf("P2.4: %04x and %04x have the same sum", x, y)
		}
		seen[sum] = x
	}
}
