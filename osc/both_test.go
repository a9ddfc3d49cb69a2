package osc_test

import (
	"math/rand"
	"strings"
	"testing"

	"fenestra/api"
	"fenestra/osc"
)

// wantInverse parses the text of a, which must have one.
func wantInverse(t *testing.T, a api.Action) {
	t.Helper()
	s, e := osc.Print(a)
	if e != api.OK || len(s) > api.MaxText {
		t.Fatalf("Print(%v) = %q of %d bytes, %d", a, s, len(s), e)
	}
	wantParse(t, s, a)
}

func TestInverse(t *testing.T) { // P8.3, actions of each kind
	for n := range 256 {
		for shift := range 24 {
			wantInverse(t, paletteAction(n, 1<<shift))
			wantInverse(t, paletteAction(n, 0xFFFFFF>>shift))
		}
	}
	for seed := range int64(20) {
		for n := range 379 {
			wantInverse(t, clipAction(noise(n, seed)))
		}
	}
	for n := range 511 {
		for _, piece := range append([]string{";", "2;", "52;c;", "\ufffd", "\u00a0"}, wide...) {
			wantInverse(t, titleAction(fill(piece, n)))
		}
	}
	for _, s := range right {
		wantInverse(t, titleAction(s))
		wantInverse(t, clipAction(s))
	}
}

func TestLongest(t *testing.T) { // P8.3, the longest text of each kind
	for _, c := range []struct {
		a    api.Action
		want int
	}{
		{titleAction(strings.Repeat("x", 510)), 512},
		{titleAction(strings.Repeat("中", 170)), 512},
		{clipAction(strings.Repeat("\xff", 378)), 509},
		{clipAction(strings.Repeat("\xff", 377)), 509},
		{paletteAction(255, 0xFFFFFF), 18},
	} {
		wantInverse(t, c.a)
		if s, _ := osc.Print(c.a); len(s) != c.want {
			t.Errorf("the text %q has %d bytes, not %d", s, len(s), c.want)
		}
	}
}

func TestCanonical(t *testing.T) { // P8.3, the text of an action that Parse returns, whatever the form it was read from
	for s, want := range map[string]string{
		"0;a": "2;a", "2;a": "2;a", "0;": "2;", "0;0;a": "2;0;a",
		"4;007;rgb:FF/00/80": "4;7;rgb:ff/00/80", "4;00;rgb:Aa/Bb/cC": "4;0;rgb:aa/bb/cc", "4;255;rgb:01/02/03": "4;255;rgb:01/02/03",
		"52;c;Zg": "52;c;Zg==", "52;c;Zm8": "52;c;Zm8=", "52;c;Zg==": "52;c;Zg==", "52;c;": "52;c;",
	} {
		a, is := osc.Parse(s)
		if !is {
			t.Fatalf("Parse(%q) returns false", s)
		}
		wantPrint(t, a, want)
		wantParse(t, want, a)
	}
	for _, s := range words("0245;cA=", 6) {
		if a, is := osc.Parse(s); is {
			wantInverse(t, a)
		}
	}
}

// someText returns a string that is made of parts of texts and of wrong ones, up to about twice MaxText long.
func someText(r *rand.Rand) string {
	parts := []string{"0;", "2;", "4;", "52;", "c;", "4;7;rgb:", "ff/", "00/", "80", ";", "rgb:", "1", "255", "256", "Zg", "==", "Zm9v", "AA", "x", "中", "é", "😀", "\x1f", "\x7f", "\u009f", "\xff", "\xe4\xb8"}
	heads := []string{"", "0;", "2;", "4;", "4;7;rgb:", "4;012;rgb:AB/cd/", "52;c;"}
	s := heads[r.Intn(len(heads))]
	for range r.Intn(8) {
		s += strings.Repeat(parts[r.Intn(len(parts))], 1+r.Intn(3)*r.Intn(2)*r.Intn(60))
	}
	return s
}

func TestRandomTexts(t *testing.T) { // P8.2, P8.3
	r := rand.New(rand.NewSource(8))
	count := map[int]int{}
	for range 200000 {
		s := someText(r)
		wantRead(t, s)
		a, is := osc.Parse(s)
		if is {
			wantInverse(t, a)
		}
		count[a.Kind]++
	}
	for _, kind := range []int{0, api.AcTitle, api.AcPalette, api.AcClip} {
		if count[kind] < 100 {
			t.Errorf("only %d texts of kind %d", count[kind], kind)
		}
	}
}

func TestRandomActions(t *testing.T) { // P8.1, P8.3
	r := rand.New(rand.NewSource(9))
	numbers := []int{-1, 0, 0, 0, 0, 1, 7, 255, 256}
	colors := []api.Color{{}, {}, {Kind: api.ClIndex, N: 3}, rgbColor(0), rgbColor(0xFF0080), rgbColor(0x1000000)}
	kinds := []int{api.AcTitle, api.AcPalette, api.AcClip, api.AcPrint, 0}
	texts := []string{"", "", "a", "中", "a;b", "\x1f", "\xff", strings.Repeat("x", 378), strings.Repeat("x", 379), strings.Repeat("x", 510), strings.Repeat("x", 511)}
	count := map[int]int{}
	for range 200000 {
		a := api.Action{
			Kind:  kinds[r.Intn(len(kinds))],
			N:     numbers[r.Intn(len(numbers))],
			M:     numbers[r.Intn(len(numbers))],
			Color: colors[r.Intn(len(colors))],
			Text:  texts[r.Intn(len(texts))],
		}
		wantWritten(t, a)
		if _, e := osc.Print(a); e == api.OK {
			wantInverse(t, a)
			count[a.Kind]++
		}
	}
	if len(count) != 3 {
		t.Errorf("texts of %d kinds, not 3", len(count))
	}
}

func TestParseAgain(t *testing.T) { // R5: a string that was abandoned leaves nothing behind for the next one
	for _, s := range right {
		want, _ := read(s)
		for _, wrong := range []string{"", "0", "9;", "2;\xff", "4;7", "4;x;rgb:00/00/00", "4;1;rgb:", "52;p;Zg", "52;c;Z", strings.Repeat(";", 513)} {
			wantNone(t, wrong)
			wantParse(t, s, want)
		}
	}
}
