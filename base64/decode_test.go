package base64_test

import (
	std "encoding/base64"
	"strings"
	"testing"

	"fenestra/api"
	"fenestra/base64"
)

func TestDecodeExamples(t *testing.T) { // P7.2, the table of examples
	wantDecode(t, "Zm8=", "fo", api.OK)
	wantDecode(t, "Zm8", "fo", api.OK)
	for _, s := range []string{"Zm8==", "Zm9", "Z", "Zm9v=", "Zm-v", "=", "Zg="} {
		wantDecode(t, s, "", api.ErrForm)
	}
}

func TestDecodeVectors(t *testing.T) { // P7.2
	for s, want := range map[string]string{
		"": "", "Zg==": "f", "Zg": "f", "Zm9v": "foo", "Zm9vYg==": "foob", "Zm9vYg": "foob", "Zm9vYmE=": "fooba", "Zm9vYmE": "fooba", "Zm9vYmFy": "foobar",
		"AA": "\x00", "AAA": "\x00\x00", "AAAA": "\x00\x00\x00", "/w": "\xff", "//8": "\xff\xff", "////": "\xff\xff\xff", "++++": "\xfb\xef\xbe", "5Lit": "中",
	} {
		wantDecode(t, s, want, api.OK)
	}
}

func TestDecodeAlphabet(t *testing.T) { // P7.2, every character at every place of a group
	for n := range 64 {
		for place := range 4 {
			bits := n << (6 * place)
			text := []byte("AAAA")
			text[3-place] = characters[n]
			wantDecode(t, string(text), string([]byte{byte(bits >> 16), byte(bits >> 8), byte(bits)}), api.OK)
		}
	}
}

func TestDecodePairs(t *testing.T) { // P7.2, all strings of up to two bytes
	right := 0
	for _, s := range words(every(), 2) {
		wantSource(t, s)
		if _, is := source(s); is {
			right++
		}
	}
	if want := 1 + 256; right != want {
		t.Errorf("%d strings are encodings, not %d", right, want)
	}
}

func TestDecodeWords(t *testing.T) { // P7.2, all short strings of few characters: some with unused bits, some that are wrong, and padding anywhere
	for _, s := range words("AQgwEI8=/-", 4) {
		wantSource(t, s)
	}
	for _, s := range words("Aw8=", 7) {
		wantSource(t, s)
	}
	for _, s := range words("A=", 12) {
		wantSource(t, s)
	}
}

func TestDecodeUnused(t *testing.T) { // P7.2, every last character: of all of them only those whose unused bits are zero
	for _, front := range []string{"", "Zm9v", "////AAAA"} {
		for _, pair := range words(characters, 2) {
			if len(pair) < 2 {
				continue
			}
			wantSource(t, front+pair)
			wantSource(t, front+pair+"==")
			wantSource(t, front+"/"+pair)
			wantSource(t, front+"/"+pair+"=")
		}
		for n, last := range characters {
			two, three := api.ErrForm, api.ErrForm
			if n%16 == 0 {
				two = api.OK
			}
			if n%4 == 0 {
				three = api.OK
			}
			for s, want := range map[string]api.Errno{
				front + "A" + string(last):         two,
				front + "A" + string(last) + "==":  two,
				front + "AA" + string(last):        three,
				front + "AA" + string(last) + "=":  three,
				front + "AAA" + string(last):       api.OK,
				front + "AAA" + string(last) + "=": api.ErrForm,
			} {
				if _, e := base64.Decode(s); e != want {
					t.Errorf("Decode(%q) returns %d, not %d", s, e, want)
				}
			}
		}
	}
}

func TestDecodeWrongBytes(t *testing.T) { // P7.2, every byte at every place
	for n := range 10 {
		for _, s := range []string{unpadded(noise(n, 3)), padded(noise(n, 3))} {
			for i := range len(s) {
				for b := range 256 {
					text := []byte(s)
					text[i] = byte(b)
					wantSource(t, string(text))
					if b != '=' && !strings.Contains(characters, string(text[i:i+1])) {
						wantDecode(t, string(text), "", api.ErrForm)
					}
				}
			}
		}
	}
}

func TestDecodeWrongMore(t *testing.T) { // P7.2, bytes that are not in the alphabet before, within and behind an encoding
	for n := range 8 {
		for _, s := range []string{unpadded(noise(n, 4)), padded(noise(n, 4))} {
			for i := range len(s) + 1 {
				for j := range len(wrong) {
					for count := 1; count <= 4; count++ {
						wantDecode(t, s[:i]+strings.Repeat(wrong[j:j+1], count)+s[i:], "", api.ErrForm)
					}
				}
			}
		}
	}
	for _, s := range []string{"Zm9vł", "łm9v", "Zm9vＡ", "Ł", "ŁŁ", "Zm9v\u00a0"} {
		wantDecode(t, s, "", api.ErrForm)
	}
}

func TestDecodePadding(t *testing.T) { // P7.2, every number of = behind strings of every length
	for n := range 20 {
		plain := strings.Repeat("A", n)
		for count := range 12 {
			want := api.ErrForm
			if n%4 != 1 && (count == 0 || count < 3 && (n+count)%4 == 0) {
				want = api.OK
			}
			if _, e := base64.Decode(plain + strings.Repeat("=", count)); e != want {
				t.Errorf("Decode of %d characters and %d = returns %d, not %d", n, count, e, want)
			}
		}
	}
}

func TestDecodePaddingPlace(t *testing.T) { // P7.2, padding that is not at the end, or is that of another part
	for _, s := range []string{
		"=", "==", "===", "====", "=====", "========", "=Zg=", "Z=g=", "Z=g", "=Zg", "==Zg", "=Zm8", "Zm=8", "Zm9=v", "=Zm9v", "Zm9v====",
		"Zg==Zg==", "Zg==Zg", "Zg=Zg==", "Zm8=Zm8=", "Zm8=Zm9v", "Zg==Zm9v", "Zg===", "Zg====", "Zg======", "Zm8=====", "Z===", "Z==", "Z=", "Zm9vY===", "Zm9vYg=", "Zm9vYg===", "Zm9vYmE==",
	} {
		wantDecode(t, s, "", api.ErrForm)
	}
	for n := range 9 {
		s := unpadded(noise(n, 5))
		for i := range len(s) {
			for count := 1; count <= 8; count++ {
				wantDecode(t, s[:i]+strings.Repeat("=", count)+s[i:], "", api.ErrForm)
			}
		}
	}
}

func TestDecodeAllLengths(t *testing.T) { // P7.2, encodings of every length that is allowed, by the library
	for n := range 6145 {
		s := noise(n, 14)
		wantDecode(t, std.StdEncoding.EncodeToString([]byte(s)), s, api.OK)
		wantDecode(t, std.RawStdEncoding.EncodeToString([]byte(s)), s, api.OK)
	}
}

func TestDecodeLengths(t *testing.T) { // P7.2, lengths that no encoding has
	for n := 1; n <= 8192; n += 4 {
		s := strings.Repeat("A", n)
		wantDecode(t, s, "", api.ErrForm)
		if n+3 <= 8192 {
			wantDecode(t, s+"===", "", api.ErrForm)
		}
	}
}

func TestDecodeLimit(t *testing.T) { // P7.2, 8192 bytes and their neighbours
	for _, n := range []int{8188, 8190, 8191, 8192} {
		wantDecode(t, strings.Repeat("A", n), strings.Repeat("\x00", n*3/4), api.OK)
		wantDecode(t, strings.Repeat("/", n-n%4), strings.Repeat("\xff", n/4*3), api.OK)
	}
	for _, n := range []int{6142, 6143, 6144} {
		s := noise(n, 6)
		wantDecode(t, padded(s), s, api.OK)
		wantDecode(t, unpadded(s), s, api.OK)
	}
	wantDecode(t, strings.Repeat("A", 8191)+"-", "", api.ErrForm)
	wantDecode(t, strings.Repeat("A", 8189)+"===", "", api.ErrForm)
	wantDecode(t, strings.Repeat("=", 8192), "", api.ErrForm)
	for _, fill := range []string{"A", "/", "=", "-", "\x00", "\xff"} {
		for _, n := range []int{8193, 8194, 8195, 8196, 10000, 1 << 16, 1<<16 + 8192, 1 << 20} {
			wantDecode(t, strings.Repeat(fill, n), "", api.ErrLong)
		}
	}
	wantDecode(t, padded(noise(6145, 6)), "", api.ErrLong)
	wantDecode(t, unpadded(noise(6145, 6)), "", api.ErrLong)
}

func TestDecodeRandom(t *testing.T) { // P7.2, encodings with one change each, against the library
	for seed := range int64(20000) {
		s := noise(int(seed%40), seed)
		text := padded(s)
		if seed%2 == 1 {
			text = unpadded(s)
		}
		if i := int(seed * 31 % 997); i < len(text) {
			text = text[:i] + string(characters[seed%64]) + text[i+int(seed/64%2):]
		}
		wantSource(t, text)
		enc := std.StdEncoding.Strict()
		if !strings.HasSuffix(text, "=") && len(text)%4 != 0 {
			enc = std.RawStdEncoding.Strict()
		}
		if want, err := enc.DecodeString(text); err == nil {
			wantDecode(t, text, string(want), api.OK)
		} else {
			wantDecode(t, text, "", api.ErrForm)
		}
	}
}

func TestDecodeOnlyEncodings(t *testing.T) { // P7.2, of all strings of three characters those are right that encode two bytes
	right := map[string]string{}
	for _, s := range words(every(), 2) {
		if len(s) == 2 {
			right[unpadded(s)] = s
		}
	}
	if len(right) != 1<<16 {
		t.Fatalf("%d encodings", len(right))
	}
	for _, text := range words(characters, 3) {
		if len(text) < 3 {
			continue
		}
		s, is := right[text]
		want := api.ErrForm
		if is {
			want = api.OK
		}
		wantDecode(t, text, s, want)
	}
}
