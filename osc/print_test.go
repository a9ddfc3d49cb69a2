package osc_test

import (
	"math"
	"strconv"
	"strings"
	"testing"

	"fenestra/api"
	"fenestra/osc"
)

func TestPrintExamples(t *testing.T) { // P8.1, the table of examples
	wantPrint(t, titleAction("hi"), "2;hi")
	wantPrint(t, paletteAction(7, 0xFF0080), "4;7;rgb:ff/00/80")
	wantPrint(t, clipAction("f"), "52;c;Zg==")
	wantNoText(t, titleAction("\xff"))
	wantNoText(t, api.Action{Kind: api.AcPalette, Color: api.Color{Kind: api.ClIndex, N: 1}})
}

func TestPrintEach(t *testing.T) { // P8.1
	for a, want := range map[api.Action]string{
		titleAction(""):                "2;",
		titleAction(" "):               "2; ",
		titleAction(";"):               "2;;",
		titleAction("a;b"):             "2;a;b",
		titleAction("2;a"):             "2;2;a",
		titleAction("中文 é 😀"):          "2;中文 é 😀",
		titleAction("e\u0301"):         "2;e\u0301",
		titleAction("\ufffd"):          "2;\ufffd",
		titleAction("\ufeffa\u200b"):   "2;\ufeffa\u200b",
		paletteAction(0, 0):            "4;0;rgb:00/00/00",
		paletteAction(10, 0xABCDEF):    "4;10;rgb:ab/cd/ef",
		paletteAction(100, 0x10):       "4;100;rgb:00/00/10",
		paletteAction(255, 0xFFFFFF):   "4;255;rgb:ff/ff/ff",
		clipAction(""):                 "52;c;",
		clipAction("fo"):               "52;c;Zm8=",
		clipAction("foo"):              "52;c;Zm9v",
		clipAction("\x00"):             "52;c;AA==",
		clipAction("\xff\xff\xff"):     "52;c;////",
		clipAction("\xfb\xef\xbe;\n"):  "52;c;++++Owo=",
		clipAction("a\x1b\x07\x80;c;"): "52;c;YRsHgDtjOw==",
	} {
		wantPrint(t, a, want)
	}
}

func TestPrintTitleCodes(t *testing.T) { // P8.1, every code point in a title
	for cp := range 0x110000 {
		if cp >= 0xD800 && cp < 0xE000 {
			continue // no code point, and string would make it FFFD
		}
		s := "a" + string(rune(cp)) + ";"
		if cp < 0x20 || cp >= 0x7F && cp <= 0x9F {
			wantNoText(t, titleAction(s))
		} else {
			wantPrint(t, titleAction(s), "2;"+s)
		}
	}
}

func TestPrintTitleEdges(t *testing.T) { // P8.1, both ends of the ranges that a title may not have, at every place
	for _, front := range []string{"", "x", "中", "é;"} {
		for _, back := range []string{"", "x", "😀"} {
			for _, right := range []string{"\x20", "\x21", "\x7d", "\x7e", "\u00a0", "\u00a1", "\ud7ff", "\ue000", "\ufffe", "\uffff", "\U00010000", "\U0010ffff"} {
				s := front + right + back
				wantPrint(t, titleAction(s), "2;"+s)
			}
			for _, wrong := range []string{"\x00", "\x01", "\a", "\t", "\n", "\r", "\x1b", "\x1e", "\x1f", "\x7f", "\u0080", "\u0081", "\u009c", "\u009e", "\u009f"} {
				wantNoText(t, titleAction(front+wrong+back))
			}
		}
	}
}

func TestPrintTitleLimit(t *testing.T) { // P8.1, 510 bytes and their neighbours, whatever the number of code points
	for _, piece := range append([]string{";", "\ufffd"}, wide...) {
		for _, n := range []int{508, 509, 510} {
			s := fill(piece, n)
			wantPrint(t, titleAction(s), "2;"+s)
		}
		for _, n := range []int{511, 512, 513, 514, 1020, 1 << 12, 1 << 16, 1<<16 + 510, 1 << 20} {
			wantNoText(t, titleAction(fill(piece, n)))
		}
	}
	for _, wrong := range []string{"\x1f", "\x7f", "\u0080", "\u009f", "\xff", "\xc3"} {
		long := fill("x", 510-len(wrong))
		wantNoText(t, titleAction(long+wrong))
		wantNoText(t, titleAction(wrong+long))
	}
}

func TestPrintTitleWrongBytes(t *testing.T) { // P8.1, titles that are not valid UTF-8
	for _, wrong := range badUtf {
		for _, front := range append([]string{"", ";", "\ufffd"}, wide...) {
			for _, back := range append([]string{"", ";", "\ufffd"}, wide...) {
				wantNoText(t, titleAction(front+wrong+back))
			}
		}
	}
	for b := range 256 {
		for _, front := range []string{"", "a", "\xc2", "\xe4\xb8", "\xf0\x9f\x98"} {
			wantWritten(t, titleAction(front+string([]byte{byte(b)})))
			wantWritten(t, titleAction(front+string([]byte{byte(b)})+"z"))
		}
	}
	for _, s := range words("\x1f \x7e\x7f\x80\x9f\xa0\xbf\xc2\xc3\xe0\xed\xef\xf0\xf4\xff", 4) {
		wantWritten(t, titleAction(s))
	}
}

func TestPrintPalette(t *testing.T) { // P8.1, every entry, and numbers that are none
	for n := range 256 {
		for _, c := range []int{0, 1, 0xFF, 0x100, 0xFF00, 0x10000, 0xFF0000, 0xFEDCBA, 0xFFFFFF} {
			wantWritten(t, paletteAction(n, c))
		}
		wantPrint(t, paletteAction(n, n*0x10101), "4;"+strconv.Itoa(n)+";rgb:"+strings.Repeat(strconv.FormatInt(int64(n+256), 16)[1:]+"/", 2)+strconv.FormatInt(int64(n+256), 16)[1:])
	}
	for _, n := range []int{-1, -2, -255, -256, 256, 257, 999, 1000, 1 << 16, 1 << 32, 1<<32 + 1, math.MinInt32, math.MaxInt32, math.MinInt, math.MaxInt} {
		wantNoText(t, paletteAction(n, 0))
		wantNoText(t, paletteAction(n, 0xFFFFFF))
	}
}

func TestPrintPaletteColors(t *testing.T) { // P8.1, colors that are no valid ClRgb
	for _, n := range []int{0, 7, 255} {
		for _, c := range []api.Color{
			{}, {Kind: api.ClNone, N: 1}, {Kind: api.ClNone, N: -1}, {Kind: api.ClNone, N: 0xFFFFFF},
			{Kind: api.ClIndex}, {Kind: api.ClIndex, N: 1}, {Kind: api.ClIndex, N: 255}, {Kind: api.ClIndex, N: 256}, {Kind: api.ClIndex, N: -1},
			rgbColor(-1), rgbColor(-2), rgbColor(0x1000000), rgbColor(0x1000001), rgbColor(1 << 32), rgbColor(math.MinInt), rgbColor(math.MaxInt),
			{Kind: 3}, {Kind: 3, N: 5}, {Kind: -1}, {Kind: -1, N: 5}, {Kind: math.MinInt}, {Kind: math.MaxInt},
		} {
			wantNoText(t, api.Action{Kind: api.AcPalette, N: n, Color: c})
		}
	}
	for shift := range 24 {
		wantWritten(t, paletteAction(1, 1<<shift))
		wantWritten(t, paletteAction(1, 0xFFFFFF^1<<shift))
	}
}

func TestPrintClip(t *testing.T) { // P8.1, every length and every byte
	for n := range 379 {
		s := noise(n, 1)
		wantPrint(t, clipAction(s), "52;c;"+encoded(s))
	}
	for b := range 256 {
		for _, s := range []string{string([]byte{byte(b)}), "a" + string([]byte{byte(b)}), "ab" + string([]byte{byte(b)}) + "c"} {
			wantPrint(t, clipAction(s), "52;c;"+encoded(s))
		}
	}
}

func TestPrintClipLimit(t *testing.T) { // P8.1, 378 bytes and their neighbours
	for _, piece := range []string{"a", "\x00", "\xff", "é", "中"} {
		for _, n := range []int{376, 377, 378} {
			s := fill(piece, n)
			wantPrint(t, clipAction(s), "52;c;"+encoded(s))
		}
		for _, n := range []int{379, 380, 381, 382, 510, 512, 756, 4096, 4097, 1 << 16, 1<<16 + 378, 1 << 20} {
			wantNoText(t, clipAction(fill(piece, n)))
		}
	}
}

func TestPrintOtherFields(t *testing.T) { // P8.1, a field that must be zero and is not
	numbers := []int{-1, 1, 2, 7, 255, 256, math.MinInt, math.MaxInt}
	for _, text := range []string{"", "a", "rgb:00/00/00"} {
		for _, a := range []api.Action{titleAction(text), clipAction(text)} {
			for _, n := range numbers {
				wrong := a
				wrong.N = n
				wantNoText(t, wrong)
				wrong = a
				wrong.M = n
				wantNoText(t, wrong)
				wrong = a
				wrong.Color.N = n
				wantNoText(t, wrong)
				wrong = a
				wrong.Color.Kind = n
				wantNoText(t, wrong)
			}
			a.Color = rgbColor(0xFF0000)
			wantNoText(t, a)
		}
	}
	for _, entry := range []int{0, 1, 255} {
		a := paletteAction(entry, 0x123456)
		for _, n := range numbers {
			a.M = n
			wantNoText(t, a)
		}
		a.M = 0
		for _, text := range []string{"a", " ", "\x00", "rgb:12/34/56", strings.Repeat("x", 1000)} {
			a.Text = text
			wantNoText(t, a)
		}
	}
}

func TestPrintOtherKinds(t *testing.T) { // P8.1, actions of another kind
	kinds := []int{math.MinInt, math.MaxInt, 1 << 32, 1<<32 + api.AcTitle}
	for kind := -3; kind < 70; kind++ {
		kinds = append(kinds, kind)
	}
	for _, kind := range kinds {
		for _, a := range []api.Action{{}, titleAction("hi"), paletteAction(7, 0xFF0080), clipAction("f"), {N: 1}, {N: 1, M: 1}} {
			a.Kind = kind
			if kind != api.AcTitle && kind != api.AcPalette && kind != api.AcClip {
				wantNoText(t, a)
			}
			wantWritten(t, a)
		}
	}
}

func TestPrintAgain(t *testing.T) { // R5: no call leaves anything behind for the next one
	for _, wrong := range []api.Action{{}, titleAction("\xff"), paletteAction(256, 0), clipAction(strings.Repeat("a", 379))} {
		for _, a := range []api.Action{titleAction("hi"), paletteAction(7, 0xFF0080), clipAction("f")} {
			first, _ := osc.Print(a)
			wantNoText(t, wrong)
			wantPrint(t, a, first)
		}
	}
}
