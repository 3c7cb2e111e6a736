// Package crc is layer 2: sums of bytes.
package crc

const (
	start = 0xFFFFFFFF
	poly  = 0x04C11DB7
)

// Of: the sum of all bytes of the texts, one behind the other.
func Of(l ...string) uint32 {
	sum := uint32(start)
	for _, s := range l {
		sum = On(sum, s)
	}
	return sum
}

// On: the sum of bytes whose sum is given, and s behind them.
func On(sum uint32, s string) uint32 {
	for i := range len(s) {
		sum = onByte(sum, s[i])
	}
	return sum
}

// Four: a number's four bytes, the highest first. In this order they bring
// their own sum to 0.
func Four(x uint32) string {
	return string([]byte{byte(x >> 24), byte(x >> 16), byte(x >> 8), byte(x)})
}

func onByte(sum uint32, b byte) uint32 {
	for range 8 {
		out := sum>>31 ^ uint32(b>>7)
		sum <<= 1
		b <<= 1
		if out == 1 {
			sum ^= poly
		}
	}
	return sum
}
