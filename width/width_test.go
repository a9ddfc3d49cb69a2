package width_test

import (
	"math"
	"strconv"
	"strings"
	"testing"
	"unicode/utf8"

	"fenestra/utf"
	"fenestra/width"
)

// The ranges as the chapter writes them, for the widths -1, 0 and 2.
const (
	controls = "0 to 1F, 7F to 9F"
	zeros    = "300 to 36F, 483 to 489, 591 to 5BD, 610 to 61A, 64B to 65F, 1AB0 to 1AFF, 1DC0 to 1DFF, 200B to 200F, 20D0 to 20FF, FE00 to FE0F, FE20 to FE2F"
	twos     = "1100 to 115F, 2E80 to 303E, 3041 to 33FF, 3400 to 4DBF, 4E00 to 9FFF, A000 to A4CF, AC00 to D7A3, F900 to FAFF, FE30 to FE6F, FF00 to FF60, FFE0 to FFE6, 1F300 to 1F64F, 1F680 to 1F6FF, 1F900 to 1F9FF, 20000 to 3FFFD"
)

// wrong are numbers that are no code points.
var wrong = []int{-1, -0x41, -0x4E2D, math.MinInt, math.MinInt32, 0xD800, 0xDBFF, 0xDC00, 0xDFFF, 0x110000, 0x110301, 0x1FFFFF, math.MaxInt32, math.MaxUint32, 1<<32 + 0x41, 1<<32 + 0x4E2D, math.MaxInt}

// pieces has encodings of all widths, malformed bytes, and bytes that are malformed or not by what follows them.
var pieces = []string{"a", "\u0301", "\u4e2d", "\x1b", "\u0085", "\U0001f600", "\xff", "\xe4\xb8", "\xad"}

// ranges reads ranges as the chapter writes them.
func ranges(t *testing.T, text string) (all [][2]int) {
	t.Helper()
	number := func(s string) int {
		n, err := strconv.ParseInt(s, 16, 0)
		if err != nil {
			t.Fatal(err)
		}
		return int(n)
	}
	for _, part := range strings.Split(text, ", ") {
		first, last, _ := strings.Cut(part, " to ")
		all = append(all, [2]int{number(first), number(last)})
	}
	return all
}

// widths returns the width of every code point, laid out range by range; the ranges that come first in the chapter are laid last.
func widths(t *testing.T) []int {
	t.Helper()
	all := make([]int, 0x110000)
	for cp := range all {
		all[cp] = 1
	}
	fill := func(text string, w int) {
		for _, r := range ranges(t, text) {
			for cp := r[0]; cp <= r[1]; cp++ {
				all[cp] = w
			}
		}
	}
	fill(twos, 2)
	fill(zeros, 0)
	fill(controls+", D800 to DFFF", -1)
	return all
}

// sum is the width of a sequence of code points, by the widths of the chapter.
func sum(known []int, codes []int) (total int) {
	for _, cp := range codes {
		if known[cp] > 0 {
			total += known[cp]
		}
	}
	return total
}

// words calls use with all strings of up to n pieces.
func words(n int, use func(string)) {
	var extend func(s string, n int)
	extend = func(s string, n int) {
		use(s)
		if n == 0 {
			return
		}
		for _, piece := range pieces {
			extend(s+piece, n-1)
		}
	}
	extend("", n)
}

func TestOfAll(t *testing.T) { // P2.1, every code point and every surrogate
	for cp, want := range widths(t) {
		if got := width.Of(cp); got != want {
			t.Errorf("Of(%X) = %d, not %d", cp, got, want)
		}
	}
}

func TestOfLimits(t *testing.T) { // P2.1, both limits of every range and their neighbours
	for _, x := range []struct {
		text string
		w    int
	}{{controls, -1}, {zeros, 0}, {twos, 2}} {
		for _, r := range ranges(t, x.text) {
			for _, cp := range r {
				if got := width.Of(cp); got != x.w {
					t.Errorf("Of(%X) = %d, not %d", cp, got, x.w)
				}
			}
		}
	}
	// The neighbours that are in no range; the others are limits themselves.
	for _, cp := range []int{
		0x20, 0x7E, 0xA0, 0x2FF, 0x370, 0x482, 0x48A, 0x590, 0x5BE, 0x60F, 0x61B, 0x64A, 0x660, 0x10FF, 0x1160, 0x1AAF, 0x1B00,
		0x1DBF, 0x1E00, 0x200A, 0x2010, 0x20CF, 0x2100, 0x2E7F, 0x303F, 0x3040, 0x4DC0, 0x4DFF, 0xA4D0, 0xABFF, 0xD7A4, 0xD7FF,
		0xE000, 0xF8FF, 0xFB00, 0xFDFF, 0xFE10, 0xFE1F, 0xFE70, 0xFEFF, 0xFF61, 0xFFDF, 0xFFE7, 0xFFFD, 0x1F2FF, 0x1F650,
		0x1F67F, 0x1F700, 0x1F8FF, 0x1FA00, 0x1FFFF, 0x3FFFE, 0x3FFFF, 0x40000, 0x10FFFF,
	} {
		if got := width.Of(cp); got != 1 {
			t.Errorf("Of(%X) = %d, not 1", cp, got)
		}
	}
}

func TestOfWrong(t *testing.T) { // P2.1
	for _, cp := range wrong {
		if got := width.Of(cp); got != -1 {
			t.Errorf("Of(%X) = %d, not -1", cp, got)
		}
	}
	for cp := 0x110000; cp < 0x240000; cp++ {
		if got := width.Of(cp); got != -1 {
			t.Fatalf("Of(%X) = %d, not -1", cp, got)
		}
		if got := width.Of(-cp); got != -1 {
			t.Fatalf("Of(-%X) = %d, not -1", cp, got)
		}
	}
}

func TestText(t *testing.T) { // P2.1
	for s, want := range map[string]int{
		"":                         0,
		"abc":                      3,
		"\u4e2d\u6587":             4,
		"\u0301":                   0,
		"a\u0301\u0302":            1,
		"\x00\x1b\n\x7f":           0,
		"\u0080\u009f":             0,
		"a\x1bb":                   2,
		"\x1b\x1b\x1b\u4e2d":       2,
		"\u303f\u3040":             2,
		"\U0001f600\U0001f64f":     4,
		"\xff":                     1,
		"\xe4\xb8":                 1,
		"\xe4\xb8a":                2,
		"\xc0\xaf":                 2,
		"\xed\xa0\x80":             3,
		"\xf4\x90\x80\x80":         4,
		"\ufffd":                   1,
		strings.Repeat("a", 5000):  5000,
		strings.Repeat("中", 5000):  10000,
		strings.Repeat("\a", 5000): 0,
	} {
		if got := width.Text(s); got != want {
			t.Errorf("Text(%q) = %d, not %d", s, got, want)
		}
	}
}

func TestTextAll(t *testing.T) { // P2.1, all short strings of pieces, and each code point alone
	known := widths(t)
	words(4, func(s string) {
		if got, want := width.Text(s), sum(known, utf.Codes(s)); got != want {
			t.Fatalf("Text(%q) = %d, not %d", s, got, want)
		}
	})
	for cp, w := range known {
		if utf8.ValidRune(rune(cp)) && width.Text(string(rune(cp))) != max(w, 0) {
			t.Fatalf("the text of %X has the width %d", cp, width.Text(string(rune(cp))))
		}
	}
}

func TestCut(t *testing.T) { // P2.2
	for _, x := range []struct {
		s           string
		cols        int
		front, rest string
	}{
		{"", 0, "", ""},
		{"", 5, "", ""},
		{"", -1, "", ""},
		{"abc", 0, "", "abc"},
		{"abc", 2, "ab", "c"},
		{"abc", 3, "abc", ""},
		{"abc", 4, "abc", ""},
		{"abc", -1, "", "abc"},
		{"abc", math.MaxInt, "abc", ""},
		{"abc", math.MinInt, "", "abc"},
		// A wide character fits as a whole or not at all.
		{"a\u4e2db", 1, "a", "\u4e2db"},
		{"a\u4e2db", 2, "a", "\u4e2db"},
		{"a\u4e2db", 3, "a\u4e2d", "b"},
		{"\u4e2d", 1, "", "\u4e2d"},
		{"\u4e2d", 2, "\u4e2d", ""},
		// What has no width of its own always goes with what stands before it.
		{"a\u0301\u0302b", 1, "a\u0301\u0302", "b"},
		{"\u0301\x1ba", 0, "\u0301\x1b", "a"},
		{"\u0301\x1ba", -1, "", "\u0301\x1ba"},
		{"a\x00\u0085\u200db", 1, "a\x00\u0085\u200d", "b"},
		{"ab\u0301", 2, "ab\u0301", ""},
		{"\u0301\x07", 0, "\u0301\x07", ""},
		{"\u0301\x07", -1, "", "\u0301\x07"},
		// Malformed bytes come back as FFFD, on both sides.
		{"\xff\xe4\xb8a\xc0", 0, "", "\ufffd\ufffda\ufffd"},
		{"\xff\xe4\xb8a\xc0", 1, "\ufffd", "\ufffda\ufffd"},
		{"\xff\xe4\xb8a\xc0", 3, "\ufffd\ufffda", "\ufffd"},
		{"\xff\xe4\xb8a\xc0", 4, "\ufffd\ufffda\ufffd", ""},
		{"\xff\xe4\xb8a\xc0", -7, "", "\ufffd\ufffda\ufffd"},
	} {
		if front, rest := width.Cut(x.s, x.cols); front != x.front || rest != x.rest {
			t.Errorf("Cut(%q, %d) = %q, %q", x.s, x.cols, front, rest)
		}
	}
	long := strings.Repeat("a中", 3000)
	if front, rest := width.Cut(long, 8999); len(front) != 4*2999+1 || front+rest != long {
		t.Errorf("Cut of a long text takes %d bytes", len(front))
	}
}

// longest is what Cut must return by P2.2: it tries all prefixes, from the longest on.
func longest(known []int, s string, cols int) (front, rest string) {
	codes := utf.Codes(s)
	for n := len(codes); n > 0 && cols >= 0; n-- {
		if sum(known, codes[:n]) <= cols {
			return utf.Text(codes[:n]), utf.Text(codes[n:])
		}
	}
	return "", utf.Text(codes)
}

func TestCutAll(t *testing.T) { // P2.2, all short strings of pieces with all widths that matter
	known := widths(t)
	words(4, func(s string) {
		for cols := -2; cols <= 9; cols++ {
			front, rest := width.Cut(s, cols)
			wantFront, wantRest := longest(known, s, cols)
			if front != wantFront || rest != wantRest {
				t.Fatalf("Cut(%q, %d) = %q, %q, not %q, %q", s, cols, front, rest, wantFront, wantRest)
			}
		}
	})
}

func TestConcatenation(t *testing.T) { // P2.3
	var all []string
	words(2, func(s string) { all = append(all, s) })
	for _, a := range all {
		for _, b := range all {
			if r, n := utf8.DecodeRuneInString(b); r == utf8.RuneError && n <= 1 {
				continue
			}
			if got, want := width.Text(a+b), width.Text(a)+width.Text(b); got != want {
				t.Fatalf("%q before %q has the width %d, not %d", a, b, got, want)
			}
		}
	}
	// Without that condition the parts may form a code point together.
	if got := width.Text("\xe4\xb8" + "\xad"); got != 2 || width.Text("\xe4\xb8")+width.Text("\xad") != 2 {
		t.Errorf("a wide character of two parts has the width %d", got)
	}
	if got := width.Text("\xcc" + "\x81"); got != 0 || width.Text("\xcc")+width.Text("\x81") != 2 {
		t.Errorf("a mark of two parts has the width %d", got)
	}
}

func TestCutValid(t *testing.T) { // P2.3
	words(4, func(s string) {
		for cols := -2; utf8.ValidString(s) && cols <= 9; cols++ {
			front, rest := width.Cut(s, cols)
			if front+rest != s {
				t.Fatalf("Cut(%q, %d) = %q, %q", s, cols, front, rest)
			}
			// With negative cols nothing is taken, whatever stands first.
			if cols >= 0 && rest != "" && width.Of(utf.Codes(rest)[0]) <= 0 {
				t.Fatalf("Cut(%q, %d) leaves %q", s, cols, rest)
			}
			if front != "" && width.Text(front) > cols {
				t.Fatalf("Cut(%q, %d) takes %q", s, cols, front)
			}
		}
	})
}

func TestExamples(t *testing.T) { // the chapter's table of examples
	for cp, want := range map[int]int{0x41: 1, 0x301: 0, 0x4E2D: 2, 7: -1, 0x1F600: 2, 0xA9: 1, 0x303F: 1, 0x110000: -1} {
		if got := width.Of(cp); got != want {
			t.Errorf("Of(%X) = %d, not %d", cp, got, want)
		}
	}
	if got := width.Text("a\u0301\u4e2d"); got != 3 {
		t.Errorf("Text = %d, not 3", got)
	}
	for cols, want := range map[int][2]string{
		2:  {"a\u0301", "\u4e2db"},
		1:  {"a\u0301", "\u4e2db"},
		3:  {"a\u0301\u4e2d", "b"},
		-1: {"", "a\u0301\u4e2db"},
	} {
		if front, rest := width.Cut("a\u0301\u4e2db", cols); [2]string{front, rest} != want {
			t.Errorf("Cut with cols %d = %q, %q", cols, front, rest)
		}
	}
}
