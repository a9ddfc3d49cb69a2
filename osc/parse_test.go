package osc_test

import (
	"fmt"
	"strconv"
	"strings"
	"testing"

	"fenestra/api"
)

// right are texts of every form that Parse takes.
var right = []string{
	"0;", "2;", "0;a", "2;a", "0;a;b", "2;;", "2;hi there", "0;中é😀", "2;4;7;rgb:ff/00/80", "0;52;c;Zg==",
	"4;0;rgb:00/00/00", "4;7;rgb:ff/00/80", "4;007;rgb:FF/00/80", "4;42;rgb:aB/cD/eF", "4;255;rgb:ff/ff/ff",
	"52;c;", "52;c;Zg", "52;c;Zg==", "52;c;Zm8", "52;c;Zm8=", "52;c;Zm9v", "52;c;+/+/",
}

func TestParseExamples(t *testing.T) { // P8.2, the table of examples
	wantParse(t, "0;a;b", titleAction("a;b"))
	wantParse(t, "2;", titleAction(""))
	wantParse(t, "4;007;rgb:FF/00/80", paletteAction(7, 0xFF0080))
	wantNone(t, "4;256;rgb:00/00/00")
	wantNone(t, "4;;rgb:00/00/00")
	wantParse(t, "52;c;Zg", clipAction("f"))
	wantNone(t, "52;p;Zg")
	wantNone(t, "1;x")
	wantNone(t, "0")
}

func TestParseEach(t *testing.T) { // P8.2
	for s, want := range map[string]api.Action{
		"0;":                    titleAction(""),
		"0;x":                   titleAction("x"),
		"2;x":                   titleAction("x"),
		"0; ":                   titleAction(" "),
		"0;;":                   titleAction(";"),
		"2;0;x":                 titleAction("0;x"),
		"0;~\u00a0\ufffd中é😀":    titleAction("~\u00a0\ufffd中é😀"),
		"4;0;rgb:01/02/03":      paletteAction(0, 0x010203),
		"4;00;rgb:01/02/03":     paletteAction(0, 0x010203),
		"4;000;rgb:01/02/03":    paletteAction(0, 0x010203),
		"4;9;rgb:Ab/cD/EF":      paletteAction(9, 0xABCDEF),
		"4;010;rgb:00/00/00":    paletteAction(10, 0),
		"4;255;rgb:ff/FF/fF":    paletteAction(255, 0xFFFFFF),
		"52;c;":                 clipAction(""),
		"52;c;AA==":             clipAction("\x00"),
		"52;c;AA":               clipAction("\x00"),
		"52;c;////":             clipAction("\xff\xff\xff"),
		"52;c;Zm8=":             clipAction("fo"),
		"52;c;YRsHgDtjOw":       clipAction("a\x1b\x07\x80;c;"),
		"52;c;4pSALCDkuK3wn5iA": clipAction("─, 中😀"),
	} {
		wantParse(t, s, want)
	}
}

func TestParseTitleCodes(t *testing.T) { // P8.2, every code point in a title
	for cp := range 0x110000 {
		if cp >= 0xD800 && cp < 0xE000 {
			continue // no code point, and string would make it FFFD
		}
		s := "a" + string(rune(cp)) + ";"
		if cp < 0x20 || cp >= 0x7F && cp <= 0x9F {
			wantNone(t, "0;"+s)
			wantNone(t, "2;"+s)
		} else {
			wantParse(t, "0;"+s, titleAction(s))
			wantParse(t, "2;"+s, titleAction(s))
		}
	}
}

func TestParseTitleLimit(t *testing.T) { // P8.2, titles of 510 bytes, strings of 512 bytes, and their neighbours
	for _, head := range []string{"0;", "2;"} {
		for _, piece := range append([]string{";", "\ufffd"}, wide...) {
			for _, n := range []int{508, 509, 510} {
				s := fill(piece, n)
				wantParse(t, head+s, titleAction(s))
			}
			for _, n := range []int{511, 512, 513, 514, 1022, 1024, 1 << 16, 1<<16 + 510, 1 << 20} {
				wantNone(t, head+fill(piece, n))
			}
		}
	}
}

func TestParseTitleWrongBytes(t *testing.T) { // P8.2, titles that are not valid UTF-8
	for _, head := range []string{"0;", "2;"} {
		for _, wrong := range badUtf {
			for _, front := range append([]string{"", ";", "\ufffd"}, wide...) {
				for _, back := range append([]string{"", ";", "\ufffd"}, wide...) {
					wantNone(t, head+front+wrong+back)
				}
			}
		}
		for _, s := range words("\x1f \x7e\x7f\x80\x9f\xa0\xbf\xc2\xc3\xe0\xed\xef\xf0\xf4\xff", 3) {
			wantRead(t, head+s)
		}
	}
}

func TestParsePaletteNumbers(t *testing.T) { // P8.2, every number of one to three digits, and of four
	for n := range 1000 {
		for _, digits := range []string{strconv.Itoa(n), fmt.Sprintf("%02d", n), fmt.Sprintf("%03d", n)} {
			s := "4;" + digits + ";rgb:12/34/56"
			if n < 256 {
				wantParse(t, s, paletteAction(n, 0x123456))
			} else {
				wantNone(t, s)
			}
		}
	}
	for n := range 10000 {
		wantNone(t, fmt.Sprintf("4;%04d;rgb:12/34/56", n))
		wantNone(t, fmt.Sprintf("4;%05d;rgb:12/34/56", n))
	}
	for _, digits := range []string{
		"", " ", "+", "-", "+1", "-1", "-0", "1 ", " 1", "1.", "0x1", "1e1", "1_0", "a", "1a", "a1", "/", ":", "1:", "/1", "\x00", "1\x00", "٣", "１",
		strings.Repeat("0", 100), strings.Repeat("0", 400), "18446744073709551616", "18446744073709551617", "4294967297", "65537",
	} {
		wantNone(t, "4;"+digits+";rgb:12/34/56")
	}
	for b := range 256 {
		for _, digits := range []string{"", "1", "12"} {
			for i := range len(digits) + 1 {
				wantRead(t, "4;"+digits[:i]+string([]byte{byte(b)})+digits[i:]+";rgb:12/34/56")
			}
		}
	}
}

func TestParsePaletteColors(t *testing.T) { // P8.2, colors that their layer accepts, and others
	for n := range 256 {
		low, high := fmt.Sprintf("%02x", n), fmt.Sprintf("%02X", n)
		wantParse(t, "4;1;rgb:"+low+"/00/00", paletteAction(1, n<<16))
		wantParse(t, "4;1;rgb:00/"+high+"/00", paletteAction(1, n<<8))
		wantParse(t, "4;1;rgb:00/00/"+low, paletteAction(1, n))
		wantParse(t, "4;1;rgb:"+high+"/"+low+"/"+high, paletteAction(1, n*0x10101))
	}
	for _, text := range []string{
		"", "?", "rgb", "rgb:", "rgb:ff", "rgb:ff/00", "rgb:ff/00/", "rgb:ff/00/8", "rgb:ff/00/800", "rgb:ff/00/80/", "rgb:ff/00/80;", "rgb:ff/00/80 ", " rgb:ff/00/80",
		"RGB:ff/00/80", "Rgb:ff/00/80", "rgb;ff/00/80", "rgb:ff;00;80", "rgb:gg/00/80", "rgb:f/0/8", "rgb:fff/000/888", "rgb:ffff/0000/8080",
		"rgba:ff/00/80", "rgba:ff/00/80/ff", "#ff0080", "red", "rgb:-1/00/80", "rgb:ff/00/80;8;rgb:ff/00/80", ";rgb:ff/00/80", "1;rgb:ff/00/80", "rgb:ff/00/80\x00", "rgb:ff/00/8\xff",
	} {
		for _, digits := range []string{"0", "7", "007", "255"} {
			wantNone(t, "4;"+digits+";"+text)
		}
	}
}

func TestParseClip(t *testing.T) { // P8.2, clips of every length, with the padding and without it, and longer ones
	for n := range 379 {
		s := noise(n, 2)
		wantParse(t, "52;c;"+encoded(s), clipAction(s))
		wantParse(t, "52;c;"+strings.TrimRight(encoded(s), "="), clipAction(s))
	}
	for n := 379; n < 700; n++ {
		s := noise(n, 3)
		wantNone(t, "52;c;"+encoded(s))
		wantNone(t, "52;c;"+strings.TrimRight(encoded(s), "="))
	}
	for _, n := range []int{4096, 6144, 6145, 1 << 16, 1 << 20} {
		wantNone(t, "52;c;"+encoded(strings.Repeat("\x00", n)))
	}
	for b := range 256 {
		s := string([]byte{byte(b)})
		wantParse(t, "52;c;"+encoded(s), clipAction(s))
		wantParse(t, "52;c;"+encoded("ab"+s), clipAction("ab"+s))
	}
}

func TestParseClipWrong(t *testing.T) { // P8.2, base64 that its layer refuses, and other selections
	for _, code := range []string{
		"Z", "Zm9", "Zh", "Zg=", "Zg===", "Zm8==", "Zm9v=", "=", "==", "====", "Zm-v", "Zm_v", "Zm9v\n", "Zm9v\r\n", " Zm9v", "Zm9v ", "Zg==Zg==", "Zm9v;", ";Zm9v", "Zm;9v", "?", "!", "Zm9\x80", "Zm9v中",
	} {
		wantNone(t, "52;c;"+code)
	}
	for _, selection := range []string{"", "p", "q", "s", "0", "7", "C", "cc", "cp", "pc", "c ", " c", "ç", "c\x00", "52"} {
		for _, code := range []string{"", "Zg", "Zg==", "Zm9v"} {
			wantNone(t, "52;"+selection+";"+code)
		}
	}
	for b := range 256 {
		wantRead(t, "52;"+string([]byte{byte(b)})+";Zg==")
		wantRead(t, "52;c;Z"+string([]byte{byte(b)}))
		wantRead(t, "52;c;Zm"+string([]byte{byte(b)})+"v")
		wantRead(t, "52;c;Zm9"+string([]byte{byte(b)}))
	}
	for _, code := range words("AQw8=-", 6) {
		wantRead(t, "52;c;"+code)
	}
}

func TestParseOtherNumbers(t *testing.T) { // P8.2, numbers without a form, and other ways to write those with one
	for n := range 10000 {
		if n == 0 || n == 2 || n == 4 || n == 52 {
			continue
		}
		for _, rest := range []string{"", "x", "7;rgb:ff/00/80", "c;Zg=="} {
			wantNone(t, strconv.Itoa(n)+";"+rest)
		}
	}
	for _, number := range []string{
		"", " ", "-0", "+0", "-2", "+2", "+4", "+52", "00", "02", "002", "04", "052", "0052", "2 ", " 2", "0 ", " 0", "4 ", " 4", "52 ", " 52", "2.0", "0x2", "a", "x2", "2x", "c", "l", "L", "٢", "２", "\x002", "2\x00", "5", "25", "20", "22", "44", "5252", "4294967298", "18446744073709551618",
	} {
		for _, rest := range []string{"", "x", "7;rgb:ff/00/80", "c;Zg=="} {
			wantNone(t, number+";"+rest)
		}
	}
	for b := range 256 {
		for _, rest := range []string{"", "x", "7;rgb:ff/00/80", "c;Zg=="} {
			wantRead(t, string([]byte{byte(b)})+";"+rest)
			wantRead(t, "5"+string([]byte{byte(b)})+";"+rest)
			wantRead(t, string([]byte{byte(b)})+"2;"+rest)
		}
	}
}

func TestParseSemicolons(t *testing.T) { // P8.2, a missing semicolon at every place, and one too many
	for _, s := range []string{"", "0", "2", "4", "52", "52c", "4;7", "4;", "4;;", "52;", "52;c", "52;cZg", "52c;Zg", "52cZg", "47;rgb:ff/00/80", "4;7rgb:ff/00/80", "47rgb:ff/00/80", "0a", "2a", "2 a", "0:a", "2:a", "4:7:rgb:ff/00/80", "52:c:Zg"} {
		wantNone(t, s)
	}
	for _, s := range []string{"4;;7;rgb:ff/00/80", "4;7;;rgb:ff/00/80", "4;7;rgb:ff/00/80;", ";4;7;rgb:ff/00/80", "52;;c;Zg", "52;c;;Zg", "52;c;Zg;", ";52;c;Zg", ";0;a", ";2;a", ";", ";;", ";;;"} {
		wantNone(t, s)
	}
	for _, s := range right {
		for i := range len(s) {
			if s[i] == ';' {
				wantRead(t, s[:i]+s[i+1:])
			}
			wantRead(t, s[:i]+";"+s[i:])
		}
	}
}

func TestParseChanged(t *testing.T) { // P8.2, every form with one byte changed, left out or put in, and every part of one
	for _, s := range right {
		if _, is := read(s); !is {
			t.Fatalf("%q has none of the forms", s)
		}
		wantRead(t, s)
		for i := range len(s) + 1 {
			wantRead(t, s[:i])
			wantRead(t, s[i:])
			for b := range 256 {
				piece := string([]byte{byte(b)})
				wantRead(t, s[:i]+piece+s[i:])
				if i < len(s) {
					wantRead(t, s[:i]+piece+s[i+1:])
				}
			}
			if i < len(s) {
				wantRead(t, s[:i]+s[i+1:])
			}
		}
	}
}

func TestParseShort(t *testing.T) { // P8.2, all short strings of few characters
	for _, s := range words("0245;cA=", 6) {
		wantRead(t, s)
	}
}

func TestParseLong(t *testing.T) { // P8.2, strings of 512 and 513 bytes, and longer ones
	wantParse(t, "0;"+strings.Repeat("x", 510), titleAction(strings.Repeat("x", 510)))
	wantNone(t, "0;"+strings.Repeat("x", 511))
	for _, n := range []int{506, 507, 508} {
		// These have up to 513 bytes and are base64 of 379 bytes and more.
		wantNone(t, "52;c;"+strings.Repeat("A", n))
	}
	wantParse(t, "52;c;"+strings.Repeat("A", 504), clipAction(strings.Repeat("\x00", 378)))
	for _, s := range right {
		for _, n := range []int{512, 513, 514, 4096, 4097, 1 << 20} {
			for _, piece := range []string{" ", "0", ";", "=", "A", "\x00", "\xff"} {
				wantRead(t, s+strings.Repeat(piece, n-len(s)))
				wantRead(t, strings.Repeat(piece, n-len(s))+s)
			}
		}
	}
}
