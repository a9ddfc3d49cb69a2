package base64_test

import (
	"fmt"
	"math/rand"
	"strconv"
	"strings"
	"testing"

	"fenestra/api"
	"fenestra/base64"
)

// characters are the alphabet, character by character in the order of the values.
const characters = "ABCDEFGHIJKLMNOPQRSTUVWXYZ" + "abcdefghijklmnopqrstuvwxyz" + "0123456789" + "+/"

// wrong are bytes that are not in the alphabet: neighbours of its ranges, what other alphabets and line breaks have, and bytes whose lower bits are those of a character.
const wrong = "-_.,:;*@[`{~!# \t\r\n\x00\x7f\x80\xc1\xe1\xff"

// unpadded returns the unpadded encoding of s by the bits of s as text.
func unpadded(s string) string {
	var bits strings.Builder
	for _, b := range []byte(s) {
		fmt.Fprintf(&bits, "%08b", b)
	}
	for bits.Len()%6 != 0 {
		bits.WriteByte('0')
	}
	var text strings.Builder
	for all := bits.String(); all != ""; all = all[6:] {
		n, _ := strconv.ParseUint(all[:6], 2, 8)
		text.WriteByte(characters[n])
	}
	return text.String()
}

// padded returns the encoding of s.
func padded(s string) string {
	text := unpadded(s)
	for len(text)%4 != 0 {
		text += "="
	}
	return text
}

// source returns the string whose encoding or unpadded encoding is s: it takes the only one that can be, and encodes it.
func source(s string) (string, bool) {
	var bits strings.Builder
	for _, b := range []byte(s) {
		if n := strings.IndexByte(characters, b); n >= 0 {
			fmt.Fprintf(&bits, "%06b", n)
		}
	}
	var text []byte
	for all := bits.String(); len(all) >= 8; all = all[8:] {
		n, _ := strconv.ParseUint(all[:8], 2, 8)
		text = append(text, byte(n))
	}
	if found := string(text); s == unpadded(found) || s == padded(found) {
		return found, true
	}
	return "", false
}

// words returns all strings of up to most bytes of set.
func words(set string, most int) []string {
	all := []string{""}
	last := all
	for range most {
		var next []string
		for _, w := range last {
			for i := range len(set) {
				next = append(next, w+set[i:i+1])
			}
		}
		all = append(all, next...)
		last = next
	}
	return all
}

// noise returns n bytes that depend on n and seed alone.
func noise(n int, seed int64) string {
	b := make([]byte, n)
	rand.New(rand.NewSource(seed*10007 + int64(n))).Read(b)
	return string(b)
}

// every returns a string with all 256 bytes.
func every() string {
	b := make([]byte, 256)
	for i := range b {
		b[i] = byte(i)
	}
	return string(b)
}

func wantEncode(t *testing.T, s, want string, wantErr api.Errno) {
	t.Helper()
	if got, e := base64.Encode(s); got != want || e != wantErr {
		t.Fatalf("Encode(%q) = %q, %d, not %q, %d", s, got, e, want, wantErr)
	}
}

func wantDecode(t *testing.T, s, want string, wantErr api.Errno) {
	t.Helper()
	if got, e := base64.Decode(s); got != want || e != wantErr {
		t.Fatalf("Decode(%q) = %q, %d, not %q, %d", s, got, e, want, wantErr)
	}
}

// wantSource holds Decode of s, which must have at most 8192 bytes, against source.
func wantSource(t *testing.T, s string) {
	t.Helper()
	want, is := source(s)
	if is {
		wantDecode(t, s, want, api.OK)
	} else {
		wantDecode(t, s, "", api.ErrForm)
	}
}
