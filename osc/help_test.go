package osc_test

import (
	"encoding/base64"
	"fmt"
	"math/rand"
	"regexp"
	"strconv"
	"strings"
	"testing"
	"unicode"
	"unicode/utf8"

	"fenestra/api"
	"fenestra/osc"
)

func titleAction(text string) api.Action { return api.Action{Kind: api.AcTitle, Text: text} }

func clipAction(text string) api.Action { return api.Action{Kind: api.AcClip, Text: text} }

func rgbColor(n int) api.Color { return api.Color{Kind: api.ClRgb, N: n} }

func paletteAction(n, rgb int) api.Action {
	return api.Action{Kind: api.AcPalette, N: n, Color: rgbColor(rgb)}
}

// titled reports whether s is a title, by the library: its controls are the code points below 20 and from 7F to 9F.
func titled(s string) bool {
	return len(s) <= 510 && utf8.ValidString(s) && strings.IndexFunc(s, unicode.IsControl) < 0
}

var (
	paletteForm = regexp.MustCompile(`^4;([0-9]{1,3});rgb:([0-9a-fA-F]{2})/([0-9a-fA-F]{2})/([0-9a-fA-F]{2})$`)
	clipForm    = regexp.MustCompile(`^52;c;([A-Za-z0-9+/]*)(={0,2})$`)
)

// read returns what Parse should, by patterns and the library.
func read(s string) (api.Action, bool) {
	if len(s) > 512 {
		return api.Action{}, false
	}
	if (strings.HasPrefix(s, "0;") || strings.HasPrefix(s, "2;")) && titled(s[2:]) {
		return titleAction(s[2:]), true
	}
	if m := paletteForm.FindStringSubmatch(s); m != nil {
		n, _ := strconv.Atoi(m[1])
		rgb, _ := strconv.ParseInt(m[2]+m[3]+m[4], 16, 32)
		if n < 256 {
			return paletteAction(n, int(rgb)), true
		}
	}
	if m := clipForm.FindStringSubmatch(s); m != nil {
		form := base64.RawStdEncoding
		if m[2] != "" {
			form = base64.StdEncoding
		}
		if text, err := form.Strict().DecodeString(m[1] + m[2]); err == nil && len(text) <= 378 {
			return clipAction(string(text)), true
		}
	}
	return api.Action{}, false
}

// written returns what Print should, by the fields one by one and the library.
func written(a api.Action) (string, api.Errno) {
	n, c, m, text := a.N, a.Color, a.M, a.Text
	switch {
	case a.Kind == api.AcTitle && n == 0 && m == 0 && c.Kind == 0 && c.N == 0 && titled(text):
		return fmt.Sprintf("2;%s", text), api.OK
	case a.Kind == api.AcPalette && n >= 0 && n < 256 && m == 0 && c.Kind == 2 && c.N >= 0 && c.N < 1<<24 && text == "":
		return fmt.Sprintf("4;%d;rgb:%02x/%02x/%02x", n, c.N/65536, c.N/256%256, c.N%256), api.OK
	case a.Kind == api.AcClip && n == 0 && m == 0 && c.Kind == 0 && c.N == 0 && len(text) < 379:
		return fmt.Sprintf("52;c;%s", base64.StdEncoding.EncodeToString([]byte(text))), api.OK
	}
	return "", api.ErrArg
}

func wantPrint(t *testing.T, a api.Action, want string) {
	t.Helper()
	if got, e := osc.Print(a); got != want || e != api.OK {
		t.Fatalf("Print(%v) = %q, %d, not %q", a, got, e, want)
	}
}

func wantNoText(t *testing.T, a api.Action) {
	t.Helper()
	if got, e := osc.Print(a); got != "" || e != api.ErrArg {
		t.Fatalf("Print(%v) = %q, %d, not ErrArg", a, got, e)
	}
}

// wantWritten holds Print of a against written.
func wantWritten(t *testing.T, a api.Action) {
	t.Helper()
	want, wantErr := written(a)
	if got, e := osc.Print(a); got != want || e != wantErr {
		t.Fatalf("Print(%v) = %q, %d, not %q, %d", a, got, e, want, wantErr)
	}
}

func wantParse(t *testing.T, s string, want api.Action) {
	t.Helper()
	if got, is := osc.Parse(s); got != want || !is {
		t.Fatalf("Parse(%q) = %v, %t, not %v", s, got, is, want)
	}
}

func wantNone(t *testing.T, s string) {
	t.Helper()
	if got, is := osc.Parse(s); got != (api.Action{}) || is {
		t.Fatalf("Parse(%q) = %v, %t, not false", s, got, is)
	}
}

// wantRead holds Parse of s against read.
func wantRead(t *testing.T, s string) {
	t.Helper()
	if want, is := read(s); is {
		wantParse(t, s, want)
	} else {
		wantNone(t, s)
	}
}

// words returns all strings of up to most bytes of set.
func words(set string, most int) []string {
	all := []string{""}
	last := all
	for range most {
		var next []string
		for _, w := range last {
			for i := range len(set) {
				next = append(next, w+set[i:i+1])
			}
		}
		all = append(all, next...)
		last = next
	}
	return all
}

// noise returns n bytes that depend on n and seed alone.
func noise(n int, seed int64) string {
	b := make([]byte, n)
	rand.New(rand.NewSource(seed*10007 + int64(n))).Read(b)
	return string(b)
}

// fill returns n bytes: as many repetitions of piece as fit, and x for the rest.
func fill(piece string, n int) string {
	count := n / len(piece)
	return strings.Repeat(piece, count) + strings.Repeat("x", n-count*len(piece))
}

// encoded returns the base64 of s, by the library.
func encoded(s string) string { return base64.StdEncoding.EncodeToString([]byte(s)) }

// wide are characters of one to four bytes.
var wide = []string{"a", "é", "中", "😀"}

// badUtf are strings that are not valid UTF-8: bytes that occur nowhere in it, continuation bytes alone, encodings that are cut off or too long, surrogates, and numbers above 10FFFF.
var badUtf = []string{
	"\x80", "\x9b", "\x9f", "\xa0", "\xbf", "\xc0", "\xc1", "\xf5", "\xfe", "\xff", "\xc3", "\xe4", "\xe4\xb8", "\xf0", "\xf0\x9f", "\xf0\x9f\x98",
	"\xc0\x80", "\xc1\xbf", "\xe0\x80\x80", "\xe0\x9f\xbf", "\xf0\x80\x80\x80", "\xf0\x8f\xbf\xbf",
	"\xed\xa0\x80", "\xed\xaf\xbf", "\xed\xb0\x80", "\xed\xbf\xbf", "\xed\xa0\xbd\xed\xb8\x80", "\xf4\x90\x80\x80", "\xf7\xbf\xbf\xbf", "\xef\xbf",
}
