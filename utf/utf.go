// Package utf is layer 1: it decodes UTF-8 byte by byte and encodes code points. See shared/doc/01-utf.md.
package utf

import (
	"iter"
	"slices"
)

// replacement stands for malformed input and for numbers that are no code points.
const replacement = 0xFFFD

// marks holds, by the length of an encoding, what its first byte adds to the highest bits of the code point.
var marks = [5]int{0, 0, 0xC0, 0xE0, 0xF0}

// Check reports whether cp is a code point.
func Check(cp int) bool {
	return 0 <= cp && cp <= 0x10FFFF && (cp < 0xD800 || cp > 0xDFFF)
}

// Put returns the encoding of cp, or that of FFFD if cp is not a code point.
func Put(cp int) string {
	return string(add(nil, cp))
}

// Text returns the encodings of all codes, one after the other.
func Text(codes []int) string {
	var out []byte
	for _, cp := range codes {
		out = add(out, cp)
	}
	return string(out)
}

// Right reports whether pending is empty or a prefix.
func Right(pending []byte) bool {
	return len(pending) == 0 || prefix(pending)
}

// Step decodes the byte b after the pending bytes of an encoding that is not complete yet.
func Step(pending []byte, b byte) (rest []byte, codes []int) {
	if prefix(pending) {
		// A clone, because append must not write into the spare capacity of an argument.
		head := append(slices.Clone(pending), b)
		if begins(head) {
			return take(head)
		}
		codes = []int{replacement}
	}
	head := []byte{b}
	if !begins(head) {
		return nil, append(codes, replacement)
	}
	rest, more := take(head)
	return rest, append(codes, more...)
}

// Flush returns what the pending bytes stand for if no byte follows them.
func Flush(pending []byte) []int {
	if prefix(pending) {
		return []int{replacement}
	}
	return nil
}

// Codes decodes all of s.
func Codes(s string) []int {
	var codes []int
	for more := range steps(s) {
		codes = append(codes, more...)
	}
	return codes
}

// steps yields what each byte of s decodes to, and at last what its end does.
func steps(s string) iter.Seq[[]int] {
	return func(yield func([]int) bool) {
		var rest []byte
		for i := range len(s) {
			var codes []int
			rest, codes = Step(rest, s[i])
			if !yield(codes) {
				return
			}
		}
		yield(Flush(rest))
	}
}

// add appends the encoding of cp to out.
func add(out []byte, cp int) []byte {
	if !Check(cp) {
		cp = replacement
	}
	n := codeLength(cp)
	shift := 6 * (n - 1)
	out = append(out, byte(marks[n]|cp>>shift))
	for shift > 0 {
		shift -= 6
		out = append(out, byte(0x80|cp>>shift&0x3F))
	}
	return out
}

// prefix reports whether head is a prefix in the chapter's sense: neither empty nor complete.
func prefix(head []byte) bool {
	return len(head) > 0 && len(head) < firstLength(head[0]) && begins(head)
}

// take returns head, which must begin an encoding, as rest or, if it is complete, as its code point.
func take(head []byte) (rest []byte, codes []int) {
	n := firstLength(head[0])
	if len(head) < n {
		return head, nil
	}
	cp, _ := span(head, n)
	return nil, []int{cp}
}

// begins reports whether head is an encoding or a prefix. It must have a first byte, and no more bytes than that one announces.
func begins(head []byte) bool {
	if slices.ContainsFunc(head[1:], notContinuation) {
		return false
	}
	n := firstLength(head[0])
	// The ends tell enough: neither the lengths nor the surrogates leave code points only in the middle of a span.
	low, high := span(head, n)
	return fits(low, n) || fits(high, n)
}

// span returns the least and the greatest number that head, followed by continuation bytes up to the length n, can stand for.
func span(head []byte, n int) (low, high int) {
	low = int(head[0]) - marks[n]
	for _, b := range head[1:] {
		low = low<<6 | int(b&0x3F)
	}
	open := 6 * (n - len(head))
	low <<= open
	return low, low | (1<<open - 1)
}

// fits reports whether x is a code point whose encoding has n bytes; a longer form than needed is malformed.
func fits(x, n int) bool {
	return Check(x) && codeLength(x) == n
}

func notContinuation(b byte) bool {
	return b&0xC0 != 0x80
}

// codeLength returns the length of the encoding of cp.
func codeLength(cp int) int {
	return length(cp, 0x80, 0x800, 0x10000)
}

// firstLength returns the length that an encoding with this first byte would have; bytes that begin none fail in fits.
func firstLength(first byte) int {
	return length(int(first), 0xC0, 0xE0, 0xF0)
}

// length returns the length of an encoding by x, its code point or first byte, and the least such x of two, three and four bytes.
func length(x, two, three, four int) int {
	n := 1
	switch {
	case x >= four:
		n++
		fallthrough
	case x >= three:
		n++
		fallthrough
	case x >= two:
		n++
	}
	return n
}
