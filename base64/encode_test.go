package base64_test

import (
	std "encoding/base64"
	"math"
	"strings"
	"testing"

	"fenestra/api"
	"fenestra/base64"
)

func TestEncodeExamples(t *testing.T) { // P7.1, the table of examples
	for s, want := range map[string]string{"": "", "f": "Zg==", "fo": "Zm8=", "foo": "Zm9v", "foob": "Zm9vYg=="} {
		wantEncode(t, s, want, api.OK)
	}
}

func TestEncodeVectors(t *testing.T) { // P7.1
	for s, want := range map[string]string{
		"fooba": "Zm9vYmE=", "foobar": "Zm9vYmFy", "hello": "aGVsbG8=",
		"\x00": "AA==", "\x00\x00": "AAA=", "\x00\x00\x00": "AAAA", "\x00\x00\x00\x00": "AAAAAA==",
		"\xff": "/w==", "\xff\xff": "//8=", "\xff\xff\xff": "////", "\xff\xff\xff\xff": "/////w==",
		"\xfb\xef\xbe": "++++", "\x01": "AQ==", "\x80": "gA==", "\x00\x01": "AAE=", "\x80\x00": "gAA=",
		"中": "5Lit", "=": "PQ==", "\n": "Cg==",
	} {
		wantEncode(t, s, want, api.OK)
	}
}

func TestEncodeAlphabet(t *testing.T) { // P7.1, every character at every place of a group
	for n := range 64 {
		for place := range 4 {
			bits := n << (6 * place)
			text := []byte("AAAA")
			text[3-place] = characters[n]
			wantEncode(t, string([]byte{byte(bits >> 16), byte(bits >> 8), byte(bits)}), string(text), api.OK)
		}
	}
}

func TestEncodeShort(t *testing.T) { // P7.1, all strings of up to two bytes
	for _, s := range words(every(), 2) {
		wantEncode(t, s, padded(s), api.OK)
	}
}

func TestEncodeBytes(t *testing.T) { // P7.1, every byte at every place of strings of every length modulo 3
	for n := 1; n <= 9; n++ {
		for i := range n {
			for b := range 256 {
				text := []byte(noise(n, int64(b)))
				text[i] = byte(b)
				wantEncode(t, string(text), padded(string(text)), api.OK)
			}
		}
	}
}

func TestEncodeLengths(t *testing.T) { // P7.1, every length that is allowed, against the library
	for n := range 4097 {
		s := noise(n, 1)
		wantEncode(t, s, std.StdEncoding.EncodeToString([]byte(s)), api.OK)
	}
	for n := range 300 {
		s := noise(n, 2)
		wantEncode(t, s, padded(s), api.OK)
	}
}

func TestEncodeLimit(t *testing.T) { // P7.1, MaxBatch and its neighbours
	for _, fill := range []string{"\x00", "a", "\xff", "="} {
		for _, n := range []int{4094, 4095, 4096} {
			s := strings.Repeat(fill, n)
			wantEncode(t, s, padded(s), api.OK)
		}
		for _, n := range []int{4097, 4098, 4099, 4100, 8191, 8192, 8193, 1 << 16, 1<<16 + 4096, 1 << 20} {
			wantEncode(t, strings.Repeat(fill, n), "", api.ErrLong)
		}
	}
}

func TestSize(t *testing.T) { // P7.1, the lengths of encodings, and the edges of n
	for n, want := range map[int]int{
		0: 0, 1: 4, 2: 4, 3: 4, 4: 8, 5: 8, 6: 8, 7: 12, 4095: 5460, 4096: 5464, 4097: 5464, 6144: 8192,
		-1: 0, -2: 0, -3: 0, -4: 0, -4096: 0, -1 << 40: 0, math.MinInt32: 0, math.MinInt + 1: 0, math.MinInt: 0,
		math.MaxInt32: 2863311532, 1 << 32: 5726623064,
		1<<40 - 3: 1466015503700, 1<<40 - 2: 1466015503700, 1<<40 - 1: 1466015503700,
		1 << 40: 1466015503704, 1<<40 + 1: 1466015503704, 1<<40 + 2: 1466015503704, 1<<40 + 3: 1466015503704, 1<<40 + 4: 1466015503704,
		1 << 41: 1466015503704, 1 << 62: 1466015503704, math.MaxInt - 1: 1466015503704, math.MaxInt: 1466015503704,
	} {
		if got := base64.Size(n); got != want {
			t.Errorf("Size(%d) = %d, not %d", n, got, want)
		}
	}
}

func TestSizeOfEncodings(t *testing.T) { // P7.1
	for n := range 4097 {
		text, e := base64.Encode(strings.Repeat("x", n))
		if got := base64.Size(n); got != len(text) || e != api.OK {
			t.Fatalf("Size(%d) = %d, but Encode returns %d bytes and %d", n, got, len(text), e)
		}
	}
	for n := range 20000 {
		if got, want := base64.Size(n), std.StdEncoding.EncodedLen(n); got != want {
			t.Fatalf("Size(%d) = %d, not %d", n, got, want)
		}
	}
}
