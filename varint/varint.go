// Package varint is layer 1: numbers and texts as bytes, each in one way alone.
package varint

import "dowser/api"

// longest is how many bytes 2^64 - 1 has: nine times seven bits, and one more.
const longest = 10

// Num: a number's bytes.
func Num(x uint64) string {
	var b []byte
	for ; x > 127; x >>= 7 {
		b = append(b, byte(x)|128)
	}
	return string(append(b, byte(x)))
}

// Text: a text's bytes.
func Text(s string) string { return Num(uint64(len(s))) + s }

// In is bytes to be taken. Behind an error rest is empty, so that no later
// call finds anything.
type In struct {
	rest string
	err  api.Errno
}

// Of: the bytes of s are to be taken.
func Of(s string) *In { return &In{rest: s} }

// Num takes a number that is at most most.
func (in *In) Num(most uint64) uint64 {
	x, n, e := first(in.rest)
	if e == api.OK && x > most {
		e = api.ErrBig
	}
	if e != api.OK {
		in.Fail(e)
		return 0
	}
	in.rest = in.rest[n:]
	return x
}

// Text takes a text of at most most bytes.
func (in *In) Text(most int) string {
	// Behind an error the number is 0: Raw then takes nothing and tells nothing.
	return in.Raw(int(in.Num(uint64(max(most, 0)))))
}

// Raw takes n bytes.
func (in *In) Raw(n int) string {
	n = max(n, 0)
	if n > len(in.rest) {
		in.Fail(api.ErrEnd)
		return ""
	}
	s := in.rest[:n]
	in.rest = in.rest[n:]
	return s
}

// Left: how many bytes are left.
func (in *In) Left() int { return len(in.rest) }

// Err: the first error.
func (in *In) Err() api.Errno { return in.err }

// End: the first error, or ErrForm if bytes are left.
func (in *In) End() api.Errno {
	if in.err == api.OK && in.rest != "" {
		return api.ErrForm
	}
	return in.err
}

// Fail makes e the first error, if there was none.
func (in *In) Fail(e api.Errno) {
	if e == api.OK || in.err != api.OK {
		return
	}
	in.err = e
	in.rest = ""
}

// first: the number with which s begins, and how many bytes it has there.
func first(s string) (uint64, int, api.Errno) {
	var x uint64
	for i := range longest {
		if i == len(s) {
			return 0, 0, api.ErrEnd
		}
		b := s[i]
		if i > 0 && b == 0 || i == longest-1 && b > 1 {
			return 0, 0, api.ErrForm
		}
		x |= uint64(b&127) << (7 * i)
		if b < 128 {
			return x, i + 1, api.OK
		}
	}
	// Not come to: a tenth byte that isn't refused is the last one.
	return 0, 0, api.ErrForm
}
