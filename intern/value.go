package intern

import (
	"strings"

	"dowser/api"
	"dowser/blob"
	"dowser/pages"
	"dowser/varint"
)

// What values begin with: that of a text that stands in it, and of one that
// stands beside it, as a blob.
const (
	inside = "i"
	beside = "b"
)

// mostInside is how many bytes a text in a value has at most.
const mostInside = api.MaxValue - len(inside)

// mostPage is the greatest number of a page.
const mostPage = 1<<31 - 1

// Value: a text's.
func Value(p *pages.Pages, s string) (string, api.Errno) {
	if len(s) <= mostInside {
		return inside + s, api.OK
	}
	page, e := blob.Write(p, s)
	if e != api.OK {
		return "", e
	}
	return Beside(page, len(s)), api.OK
}

// Beside: the value of a text that is a blob; "", which is no value, where
// there can't be one.
func Beside(page, size int) string {
	if page < 0 || size < 0 {
		return ""
	}
	return beside + varint.Num(uint64(page)) + varint.Num(uint64(size))
}

// Page: the page of a value's blob.
func Page(value string) (int, bool) {
	page, _, is := named(value)
	return page, is
}

// Load: a value's text.
func Load(p *pages.Pages, value string) (string, api.Errno) {
	if text, is := strings.CutPrefix(value, inside); is {
		return text, api.OK
	}
	page, size, is := named(value)
	if !is {
		return "", api.ErrBad
	}
	text, e := blob.Read(p, page)
	if e != api.OK {
		return "", e
	}
	if len(text) != size {
		return "", api.ErrBad
	}
	return text, api.OK
}

// Move: a value over other pages.
func Move(from, to *pages.Pages, value string) (string, api.Errno) {
	text, e := Load(from, value)
	if e != api.OK {
		return "", e
	}
	return Value(to, text)
}

// Cost: how many pages a value takes.
func Cost(n int) int {
	if n <= mostInside {
		return 0
	}
	return blob.Cost(n)
}

// named: the page and the bytes of a blob that a value names.
func named(value string) (int, int, bool) {
	rest, is := strings.CutPrefix(value, beside)
	if !is {
		return 0, 0, false
	}
	in := varint.Of(rest)
	page, size := int(in.Num(mostPage)), int(in.Num(api.MaxBlob))
	if in.End() != api.OK {
		return 0, 0, false
	}
	return page, size, true
}
