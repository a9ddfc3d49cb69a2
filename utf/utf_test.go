package utf_test

import (
	"bytes"
	"math"
	"slices"
	"strings"
	"testing"
	"unicode/utf8"

	"fenestra/utf"
)

const bad = 0xFFFD

// edges are the code points at the limits of the ranges and of the lengths of their encodings.
var edges = []int{0, 1, 0x41, 0x7F, 0x80, 0x81, 0xBF, 0xC0, 0xFF, 0x7FF, 0x800, 0xFFF, 0x1000, 0xD7FF, 0xE000, 0xFFFC, 0xFFFD, 0xFFFE, 0xFFFF, 0x10000, 0x3FFFF, 0x40000, 0xFFFFF, 0x100000, 0x10FFFF}

// wrong are numbers that are no code points.
var wrong = []int{-1, -0x41, math.MinInt, math.MinInt32, 0xD800, 0xDBFF, 0xDC00, 0xDFFF, 0x110000, 0x13FFFF, 0x1FFFFF, 0x200000, math.MaxInt32, math.MaxUint32, 1<<32 + 0x41, math.MaxInt}

// prefixes returns all prefixes of all encodings, in order, found by the library's encoder and not by the package.
func prefixes() []string {
	found := map[string]bool{}
	for cp := range rune(0x110000) {
		if !utf8.ValidRune(cp) {
			continue
		}
		s := string(cp)
		for n := 1; n < len(s); n++ {
			found[s[:n]] = true
		}
	}
	var all []string
	for s := range found {
		all = append(all, s)
	}
	slices.Sort(all)
	return all
}

// alone is what the byte b must decode to when nothing is pending.
func alone(known map[string]bool, b byte) (rest string, codes []int) {
	switch {
	case b < 0x80:
		return "", []int{int(b)}
	case known[string([]byte{b})]:
		return string([]byte{b}), nil
	}
	return "", []int{bad}
}

// stepped is what Step must return by P1.3, with the encodings of the library.
func stepped(known map[string]bool, pending string, b byte) (rest string, codes []int) {
	if !known[pending] {
		return alone(known, b)
	}
	head := pending + string([]byte{b})
	if r, n := utf8.DecodeRuneInString(head); n == len(head) && utf8.ValidString(head) {
		return "", []int{int(r)}
	}
	if known[head] {
		return head, nil
	}
	rest, codes = alone(known, b)
	return rest, append([]int{bad}, codes...)
}

func set(words []string) map[string]bool {
	known := map[string]bool{}
	for _, s := range words {
		known[s] = true
	}
	return known
}

// feed decodes all parts in order through Step and Flush alone.
func feed(parts ...string) []int {
	var rest []byte
	var all []int
	for _, part := range parts {
		for i := range len(part) {
			var codes []int
			rest, codes = utf.Step(rest, part[i])
			all = append(all, codes...)
		}
	}
	return append(all, utf.Flush(rest)...)
}

// words calls use with all strings of the letters up to the length n.
func words(letters string, n int, use func(string)) {
	var extend func(s string)
	extend = func(s string) {
		use(s)
		if len(s) == n {
			return
		}
		for i := range len(letters) {
			extend(s + letters[i:i+1])
		}
	}
	extend("")
}

// kinds has one byte at each limit of the kinds of bytes that encodings are made of.
const kinds = "\x00A\x7f\x80\x8f\x90\x9f\xa0\xbf\xc0\xc1\xc2\xdf\xe0\xe1\xed\xee\xef\xf0\xf1\xf3\xf4\xf5\xf8\xff"

func TestCheck(t *testing.T) { // P1.1
	for _, cp := range edges {
		if !utf.Check(cp) {
			t.Errorf("Check(%X) = false", cp)
		}
	}
	for _, cp := range wrong {
		if utf.Check(cp) {
			t.Errorf("Check(%X) = true", cp)
		}
	}
	for cp := range 0x120000 {
		if got, want := utf.Check(cp), utf8.ValidRune(rune(cp)); got != want {
			t.Fatalf("Check(%X) = %v", cp, got)
		}
	}
}

func TestPut(t *testing.T) { // P1.1
	for cp, want := range map[int]string{
		0: "\x00", 0x7F: "\x7f", 0x80: "\xc2\x80", 0x7FF: "\xdf\xbf", 0x800: "\xe0\xa0\x80", 0xD7FF: "\xed\x9f\xbf",
		0xE000: "\xee\x80\x80", 0xFFFF: "\xef\xbf\xbf", 0x10000: "\xf0\x90\x80\x80", 0x10FFFF: "\xf4\x8f\xbf\xbf",
	} {
		if got := utf.Put(cp); got != want {
			t.Errorf("Put(%X) = % X", cp, got)
		}
	}
	for _, cp := range wrong {
		if got := utf.Put(cp); got != "\xef\xbf\xbd" {
			t.Errorf("Put(%X) = % X", cp, got)
		}
	}
	for cp := range 0x120000 {
		if got, want := utf.Put(cp), string(rune(cp)); got != want {
			t.Fatalf("Put(%X) = % X, not % X", cp, got, want)
		}
	}
}

func TestText(t *testing.T) { // P1.1
	for _, none := range [][]int{nil, {}} {
		if got := utf.Text(none); got != "" {
			t.Errorf("Text of nothing = %q", got)
		}
	}
	codes := slices.Concat(edges, wrong, edges)
	var want strings.Builder
	for _, cp := range codes {
		want.WriteString(utf.Put(cp))
	}
	if got := utf.Text(codes); got != want.String() {
		t.Errorf("Text = % X", got)
	}
	if got := utf.Text([]int{'a', 0xD800, 0xE9, -1}); got != "a\xef\xbf\xbd\xc3\xa9\xef\xbf\xbd" {
		t.Errorf("Text = % X", got)
	}
}

func TestRight(t *testing.T) { // P1.2
	if !utf.Right(nil) || !utf.Right([]byte{}) {
		t.Error("an empty slice is Right")
	}
	for s, want := range map[string]bool{
		"\x00": false, "A": false, "\x7f": false, "\x80": false, "\xbf": false, "\xc0": false, "\xc1": false, "\xc2": true,
		"\xdf": true, "\xe0": true, "\xef": true, "\xf0": true, "\xf4": true, "\xf5": false, "\xf8": false, "\xff": false,
		"\xc3\xa9": false, "\xe0\x9f": false, "\xe0\xa0": true, "\xed\x9f": true, "\xed\xa0": false, "\xf0\x8f": false,
		"\xf0\x90": true, "\xf4\x8f": true, "\xf4\x90": false, "\xe2\x82\xac": false, "\xf8\x90\x80": false,
		"\xf0\x9f\x98": true, "\xf0\x9f\x98\x80": false, "\xf0\x9f\x41": false, "\xe2\x41": false, "\xe2\xc2": false,
		"A\xc2": false, "\xf0\x9f\x98\x80\x80": false,
	} {
		if got := utf.Right([]byte(s)); got != want {
			t.Errorf("Right(% X) = %v", s, got)
		}
	}
	if utf.Right(bytes.Repeat([]byte{0xF0}, 5000)) {
		t.Error("no encoding is that long")
	}
}

func TestRightAll(t *testing.T) { // P1.2, all sequences of up to three bytes
	known := map[[4]byte]bool{}
	for _, s := range prefixes() {
		known[key([]byte(s))] = true
	}
	for n := 1; n <= 3; n++ {
		s := make([]byte, n)
		for x := range 1 << (8 * n) {
			for i := range s {
				s[i] = byte(x >> (8 * i))
			}
			if got := utf.Right(s); got != known[key(s)] {
				t.Fatalf("Right(% X) = %v", s, got)
			}
		}
	}
	words(kinds, 4, func(s string) {
		if len(s) == 4 && utf.Right([]byte(s)) {
			t.Fatalf("Right(% X) = true", s)
		}
	})
}

// key makes a short sequence comparable without allocating; the first byte tells its length.
func key(s []byte) (k [4]byte) {
	k[0] = byte(len(s))
	copy(k[1:], s)
	return k
}

func TestStep(t *testing.T) { // P1.3, every prefix with every byte
	all := prefixes()
	known := set(all)
	for _, pending := range append(all, "") {
		for b := range 256 {
			checkStep(t, known, pending, byte(b))
		}
	}
}

func TestStepWrong(t *testing.T) { // P1.3, pending values that are not Right are empty ones
	known := set(prefixes())
	words(kinds, 3, func(s string) {
		if !known[s] {
			for i := range len(kinds) {
				checkStep(t, known, s, kinds[i])
			}
		}
	})
	for _, s := range []string{"\xf0\x9f\x98\x80", "\xf0\x9f\x98\x80\x80", strings.Repeat("\xe2", 5000), "abc\xe2\x82"} {
		for b := range 256 {
			checkStep(t, known, s, byte(b))
		}
	}
}

func checkStep(t *testing.T, known map[string]bool, pending string, b byte) {
	t.Helper()
	rest, codes := utf.Step([]byte(pending), b)
	wantRest, wantCodes := stepped(known, pending, b)
	if string(rest) != wantRest || !slices.Equal(codes, wantCodes) {
		t.Fatalf("Step(% X, %X) = % X, %X, not % X, %X", pending, b, rest, codes, wantRest, wantCodes)
	}
}

func TestFlush(t *testing.T) { // P1.3
	for _, s := range prefixes() {
		if got := utf.Flush([]byte(s)); !slices.Equal(got, []int{bad}) {
			t.Fatalf("Flush(% X) = %X", s, got)
		}
	}
	for _, s := range []string{"", "A", "\x80", "\xc0", "\xc3\xa9", "\xe0\x80", "\xed\xa0", "\xf4\x90", "\xf5", "\xff", "\xf0\x9f\x98\x80", "A\xe2", strings.Repeat("\xe2", 5000)} {
		if got := utf.Flush([]byte(s)); len(got) != 0 {
			t.Errorf("Flush(% X) = %X", s, got)
		}
	}
	if got := utf.Flush(nil); len(got) != 0 {
		t.Errorf("Flush(nil) = %X", got)
	}
}

func TestCodes(t *testing.T) { // P1.4
	for s, want := range map[string][]int{
		"":                         nil,
		"abc":                      {'a', 'b', 'c'},
		"\xe2\x82":                 {bad},
		"\xe2\x82\xe2\x82\xac":     {bad, 0x20AC},
		"\xc0\xaf":                 {bad, bad},
		"\xe0\x80\x80":             {bad, bad, bad},
		"\xf4\x90\x80\x80":         {bad, bad, bad, bad},
		"\xf8\x90\x80\x80":         {bad, bad, bad, bad},
		"\xf0\x9f\x98\x80\x80":     {0x1F600, bad},
		"\xf0\x9f\x98\xf0\x9f\x98": {bad, bad},
		"\xf0\xf0\xf0":             {bad, bad, bad},
		"\xef\xbf\xbd":             {bad},
	} {
		if got := utf.Codes(s); !slices.Equal(got, want) {
			t.Errorf("Codes(% X) = %X", s, got)
		}
	}
	words(kinds, 4, func(s string) {
		if got, want := utf.Codes(s), feed(s); !slices.Equal(got, want) {
			t.Fatalf("Codes(% X) = %X, not %X", s, got, want)
		}
	})
	long := strings.Repeat("\xe4\xb8\xada\xff", 20000)
	if got := utf.Codes(long); len(got) != 60000 || got[59998] != 'a' || got[59999] != bad {
		t.Errorf("Codes of a long text has %d code points", len(got))
	}
}

func TestRoundTrip(t *testing.T) { // P1.5
	var all []int
	for cp := range 0x110000 {
		if utf.Check(cp) {
			all = append(all, cp)
		}
	}
	if !slices.Equal(utf.Codes(utf.Text(all)), all) {
		t.Error("the code points do not come back")
	}
	slices.Reverse(all)
	if !slices.Equal(utf.Codes(utf.Text(all)), all) {
		t.Error("the code points do not come back in reverse")
	}
	for _, a := range edges {
		for _, b := range edges {
			if got := utf.Codes(utf.Put(a) + utf.Put(b)); !slices.Equal(got, []int{a, b}) {
				t.Errorf("%X, %X come back as %X", a, b, got)
			}
		}
	}
}

func TestSplit(t *testing.T) { // P1.5
	s := "a\xc3\xa9\xe2\x82\xac\xf0\x9f\x98\x80\xed\xa0\x80\xf0\x9f\xe2b\xff\xc0\xaf\xf0\x9f\x98"
	want := utf.Codes(s)
	for i := range len(s) + 1 {
		for j := i; j <= len(s); j++ {
			if got := feed(s[:i], s[i:j], s[j:]); !slices.Equal(got, want) {
				t.Errorf("split at %d and %d: %X", i, j, got)
			}
		}
	}
}

func TestResynchronize(t *testing.T) { // P1.5
	words(kinds, 3, func(junk string) {
		before := utf.Codes(junk)
		for _, cp := range edges {
			if got := utf.Codes(junk + utf.Put(cp)); !slices.Equal(got, append(before[:len(before):len(before)], cp)) {
				t.Fatalf("% X before %X: %X", junk, cp, got)
			}
		}
	})
}

func TestArgumentsStay(t *testing.T) { // R3, R5: neither the elements nor the spare capacity of an argument are written
	words(kinds, 3, func(s string) {
		room := append([]byte(s), "spare"...)
		kept := slices.Clone(room)
		pending := room[:len(s)]
		for i := range len(kinds) {
			rest, codes := utf.Step(pending, kinds[i])
			for j := range rest {
				rest[j] = '!'
			}
			for j := range codes {
				codes[j] = '!'
			}
			again, same := utf.Step(pending, kinds[i])
			fresh, known := utf.Step([]byte(s), kinds[i])
			if !bytes.Equal(again, fresh) || !slices.Equal(same, known) {
				t.Fatalf("Step(% X, %X) changes", s, kinds[i])
			}
		}
		utf.Right(pending)
		utf.Flush(pending)
		if !bytes.Equal(room, kept) {
			t.Fatalf("% X was written to", s)
		}
	})
	codes := []int{'a', -1, 0xD800}
	utf.Text(codes)
	if !slices.Equal(codes, []int{'a', -1, 0xD800}) {
		t.Error("Text writes to its argument")
	}
}

func TestEmptyIsNil(t *testing.T) { // R4
	for b := range 256 {
		r1, c1 := utf.Step(nil, byte(b))
		r2, c2 := utf.Step([]byte{}, byte(b))
		if !bytes.Equal(r1, r2) || !slices.Equal(c1, c2) {
			t.Errorf("Step with nil and with an empty slice differ for %X", b)
		}
	}
}

func TestExamples(t *testing.T) { // the chapter's table of examples
	for cp, want := range map[int]string{0xE9: "\xc3\xa9", 0x20AC: "\xe2\x82\xac", 0x1F600: "\xf0\x9f\x98\x80", 0xD800: "\xef\xbf\xbd", -1: "\xef\xbf\xbd"} {
		if got := utf.Put(cp); got != want {
			t.Errorf("Put(%X) = % X", cp, got)
		}
	}
	for _, x := range []struct {
		pending string
		b       byte
		rest    string
		codes   []int
	}{
		{"\xe2\x82", 0xAC, "", []int{0x20AC}},
		{"\xe2", 0x41, "", []int{bad, 0x41}},
		{"", 0xC0, "", []int{bad}},
		{"\xe0", 0x80, "", []int{bad, bad}},
		{"", 0xF4, "\xf4", nil},
	} {
		rest, codes := utf.Step([]byte(x.pending), x.b)
		if string(rest) != x.rest || !slices.Equal(codes, x.codes) {
			t.Errorf("Step(% X, %X) = % X, %X", x.pending, x.b, rest, codes)
		}
	}
	for s, want := range map[string][]int{"a\xf0\x9fb": {0x61, bad, 0x62}, "\xed\xa0\x80": {bad, bad, bad}} {
		if got := utf.Codes(s); !slices.Equal(got, want) {
			t.Errorf("Codes(% X) = %X", s, got)
		}
	}
	for s, want := range map[string][]int{"\xc3": {bad}, "": nil, "A": nil} {
		if got := utf.Flush([]byte(s)); !slices.Equal(got, want) {
			t.Errorf("Flush(% X) = %X", s, got)
		}
	}
}
