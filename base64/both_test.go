package base64_test

import (
	"strings"
	"testing"

	"fenestra/api"
	"fenestra/base64"
)

// wantInverse decodes the encoding of s, which must have at most MaxBatch bytes, with and without its padding.
func wantInverse(t *testing.T, s string) {
	t.Helper()
	text, e := base64.Encode(s)
	if e != api.OK {
		t.Fatalf("Encode(%q) returns %d", s, e)
	}
	wantDecode(t, text, s, api.OK)
	wantDecode(t, strings.TrimRight(text, "="), s, api.OK)
}

func TestInverse(t *testing.T) { // P7.3
	for _, s := range words(every(), 2) {
		wantInverse(t, s)
	}
	for n := range 4097 {
		wantInverse(t, noise(n, 7))
	}
	for seed := range int64(20000) {
		wantInverse(t, noise(3, seed))
	}
	for _, fill := range []string{"\x00", "\xff", "="} {
		wantInverse(t, strings.Repeat(fill, 4096))
	}
	for n := 254; n <= 258; n++ {
		wantInverse(t, strings.Repeat(every(), 2)[:n])
	}
}

func TestPartOfPadding(t *testing.T) { // P7.3, with the padding or without it, but not with a part of it
	for n := 1; n < 300; n += 3 {
		text, _ := base64.Encode(noise(n, 8))
		wantDecode(t, text[:len(text)-1], "", api.ErrForm)
	}
}

func TestConcatenation(t *testing.T) { // P7.3
	for n := range 40 {
		for m := range 40 {
			front, back := noise(n, 9), noise(m, 10)
			a, _ := base64.Encode(front)
			b, _ := base64.Encode(back)
			switch {
			case n%3 == 0:
				wantEncode(t, front+back, a+b, api.OK)
				wantDecode(t, a+b, front+back, api.OK)
			case m > 0:
				// The first part ends with padding, so that together they are no encoding.
				wantDecode(t, a+b, "", api.ErrForm)
			}
		}
	}
}

func TestConcatenationLimit(t *testing.T) { // P7.3, parts that make up MaxBatch bytes, and one more
	for n := 0; n <= 4096; n += 93 {
		front, back := noise(n, 11), noise(4096-n, 12)
		a, _ := base64.Encode(front)
		b, _ := base64.Encode(back)
		wantEncode(t, front+back, a+b, api.OK)
		wantEncode(t, front+back+"x", "", api.ErrLong)
	}
}

func TestAgain(t *testing.T) { // R5: no call leaves anything behind for the next one
	for n := range 20 {
		s := noise(n, 13)
		text := padded(s)
		for _, bad := range []string{"Z", "Zm9=", "Zm9", "Zm8==", "-", strings.Repeat("A", 8193)} {
			if _, e := base64.Decode(bad); e == api.OK {
				t.Fatalf("Decode accepts %q", bad)
			}
			wantDecode(t, text, s, api.OK)
			wantEncode(t, s, text, api.OK)
		}
	}
}
