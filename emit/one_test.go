package emit_test

import (
	"math"
	"strings"
	"testing"

	"fenestra/action"
	"fenestra/api"
	"fenestra/emit"
	"fenestra/style"
	"fenestra/width"
)

func TestNumbers(t *testing.T) { // the numbers and names that the tests write out are those of api and of the chapter
	if api.MaxParam != 9999 || api.MaxParams != 16 || api.MaxActions != 131072 || api.ErrLong != 3 || api.ErrAction != 200 || api.SetAscii != 0 || api.SetLines != 1 {
		t.Error("limits or errors differ")
	}
	seen := map[int]bool{api.AcPrint: true, api.AcPen: true, api.AcTitle: true, api.AcPalette: true, api.AcClip: true}
	for name, kind := range kinds {
		if seen[kind] || rowsByKind[kind] == nil {
			t.Errorf("the kind %s is twice or not in the table", name)
		}
		seen[kind] = true
	}
	if len(seen) != api.AcClip || len(rowsByKind) != len(kinds) {
		t.Errorf("the tables have %d kinds of %d", len(seen), api.AcClip)
	}
	have := map[int]bool{}
	for _, a := range someActions() {
		if action.Check(a) != api.OK {
			t.Errorf("%+v is not valid", a)
		}
		have[a.Kind] = true
	}
	if len(have) != api.AcClip {
		t.Errorf("the actions are of %d kinds", len(have))
	}
}

func TestOneSimple(t *testing.T) { // P11.1, controls and escapes
	for _, x := range []struct {
		a    api.Action
		want string
	}{
		{act(api.AcPrint, 'a'), "a"}, {act(api.AcPrint, ' '), " "}, {act(api.AcPrint, 0xE9), "\xC3\xA9"}, {act(api.AcPrint, 0x301), "\xCC\x81"}, {act(api.AcPrint, 0x4E2D), "\xE4\xB8\xAD"}, {act(api.AcPrint, 0x1F600), "\xF0\x9F\x98\x80"}, {act(api.AcPrint, 0xFFFD), "\xEF\xBF\xBD"},
		{act(api.AcBell), "\x07"}, {act(api.AcBack), "\x08"}, {act(api.AcTab), "\x09"}, {act(api.AcFeed), "\x0A"}, {act(api.AcReturn), "\x0D"},
		{act(api.AcLock, 0), "\x0F"}, {act(api.AcLock, 1), "\x0E"},
		{act(api.AcIndex), "\x1BD"}, {act(api.AcNext), "\x1BE"}, {act(api.AcSetTab), "\x1BH"}, {act(api.AcReverse), "\x1BM"}, {act(api.AcSave), "\x1B7"}, {act(api.AcRestore), "\x1B8"}, {act(api.AcReset), "\x1Bc"},
		{act(api.AcKeypad, 0), "\x1B>"}, {act(api.AcKeypad, 1), "\x1B="}, {act(api.AcAlign), "\x1B#8"},
		{act(api.AcSet, 0, api.SetAscii), "\x1B(B"}, {act(api.AcSet, 1, api.SetAscii), "\x1B)B"}, {act(api.AcSet, 2, api.SetAscii), "\x1B*B"}, {act(api.AcSet, 3, api.SetAscii), "\x1B+B"},
		{act(api.AcSet, 0, api.SetLines), "\x1B(0"}, {act(api.AcSet, 1, api.SetLines), "\x1B)0"}, {act(api.AcSet, 2, api.SetLines), "\x1B*0"}, {act(api.AcSet, 3, api.SetLines), "\x1B+0"},
		{act(api.AcSingle, 2), "\x1BN"}, {act(api.AcSingle, 3), "\x1BO"},
		{act(api.AcAsk, 0), "\x1B[c"}, {act(api.AcAsk, 1), "\x1B[>c"},
	} {
		wantOne(t, x.a, x.want)
	}
}

func TestOneCounts(t *testing.T) { // P11.1, counts: 1 is omitted
	for kind, final := range map[int]string{api.AcColumn: "G", api.AcRow: "d", api.AcTabs: "I", api.AcBackTabs: "Z", api.AcInsert: "@", api.AcDelete: "P", api.AcBlank: "X", api.AcInsertLines: "L", api.AcDeleteLines: "M", api.AcRepeat: "b"} {
		wantOne(t, act(kind, 1), "\x1B["+final)
		wantOne(t, act(kind, 2), "\x1B[2"+final)
		wantOne(t, act(kind, 10), "\x1B[10"+final)
		wantOne(t, act(kind, 9999), "\x1B[9999"+final)
	}
	for kind, finals := range map[int]string{api.AcMove: "ABCD", api.AcLine: "EF", api.AcScroll: "ST"} {
		for n, final := range strings.Split(finals, "") {
			wantOne(t, act(kind, n, 1), "\x1B["+final)
			wantOne(t, act(kind, n, 2), "\x1B[2"+final)
			wantOne(t, act(kind, n, 7), "\x1B[7"+final)
			wantOne(t, act(kind, n, 9999), "\x1B[9999"+final)
		}
	}
	wantOne(t, act(api.AcCursor, 1, 1), "\x1B[H")
	wantOne(t, act(api.AcCursor, 5, 1), "\x1B[5H")
	wantOne(t, act(api.AcCursor, 1, 5), "\x1B[;5H")
	wantOne(t, act(api.AcCursor, 2, 3), "\x1B[2;3H")
	wantOne(t, act(api.AcCursor, 2, 2), "\x1B[2;2H")
	wantOne(t, act(api.AcCursor, 9999, 1), "\x1B[9999H")
	wantOne(t, act(api.AcCursor, 1, 9999), "\x1B[;9999H")
	wantOne(t, act(api.AcCursor, 9999, 9999), "\x1B[9999;9999H")
}

func TestOneChoices(t *testing.T) { // P11.1, choices: 0 is omitted, 1 is not
	for kind, end := range map[int]string{api.AcErase: "J", api.AcEraseLine: "K", api.AcClearTab: "g", api.AcShape: " q"} {
		wantOne(t, act(kind, 0), "\x1B["+end)
	}
	wantOne(t, act(api.AcErase, 1), "\x1B[1J")
	wantOne(t, act(api.AcErase, 2), "\x1B[2J")
	wantOne(t, act(api.AcErase, 3), "\x1B[3J")
	wantOne(t, act(api.AcEraseLine, 1), "\x1B[1K")
	wantOne(t, act(api.AcEraseLine, 2), "\x1B[2K")
	wantOne(t, act(api.AcClearTab, 3), "\x1B[3g")
	wantOne(t, act(api.AcShape, 1), "\x1B[1 q")
	wantOne(t, act(api.AcShape, 6), "\x1B[6 q")
	wantOne(t, act(api.AcMargins, 0, 0), "\x1B[r")
	wantOne(t, act(api.AcMargins, 0, 4), "\x1B[;4r")
	wantOne(t, act(api.AcMargins, 4, 0), "\x1B[4r")
	wantOne(t, act(api.AcMargins, 1, 1), "\x1B[1;1r")
	wantOne(t, act(api.AcMargins, 1, 0), "\x1B[1r")
	wantOne(t, act(api.AcMargins, 0, 1), "\x1B[;1r")
	wantOne(t, act(api.AcMargins, 9999, 9999), "\x1B[9999;9999r")
}

func TestOneAlways(t *testing.T) { // P11.1, numbers that are always written, 0 and 1 too
	for n, text := range map[int]string{0: "0", 1: "1", 4: "4", 25: "25", 2004: "2004", 9999: "9999"} {
		wantOne(t, act(api.AcMode, n, 1), "\x1B["+text+"h")
		wantOne(t, act(api.AcMode, n, 0), "\x1B["+text+"l")
		wantOne(t, act(api.AcDec, n, 1), "\x1B[?"+text+"h")
		wantOne(t, act(api.AcDec, n, 0), "\x1B[?"+text+"l")
		wantOne(t, act(api.AcAskMode, n, 0), "\x1B["+text+"$p")
		wantOne(t, act(api.AcAskMode, n, 1), "\x1B[?"+text+"$p")
	}
	wantOne(t, act(api.AcReport, 5), "\x1B[5n")
	wantOne(t, act(api.AcReport, 6), "\x1B[6n")
}

func TestOnePens(t *testing.T) { // P11.1, a pen is one parameter, and a reset is written out
	for _, x := range []struct {
		a    api.Action
		want string
	}{
		{pen(api.PnReset, 0), "0"}, {pen(api.PnSet, api.AtBold), "1"}, {pen(api.PnSet, api.AtBlink), "5"}, {pen(api.PnSet, api.AtOver), "53"},
		{pen(api.PnClear, api.AtBold|api.AtDim), "22"}, {pen(api.PnClear, api.AtOver), "55"},
		{pen(api.PnUnder, 0), "24"}, {pen(api.PnUnder, 1), "4"}, {pen(api.PnUnder, 2), "4:2"}, {pen(api.PnUnder, 5), "4:5"},
		{pen(api.PnFore, 0), "39"}, {pen(api.PnBack, 0), "49"}, {pen(api.PnLine, 0), "59"},
		{index(api.PnFore, 1), "31"}, {index(api.PnFore, 15), "97"}, {index(api.PnBack, 8), "100"}, {index(api.PnBack, 16), "48:5:16"}, {index(api.PnLine, 1), "58:5:1"},
		{rgb(api.PnFore, 0xFF8000), "38:2::255:128:0"}, {rgb(api.PnBack, 0x010203), "48:2::1:2:3"}, {rgb(api.PnLine, 0), "58:2::0:0:0"},
	} {
		wantOne(t, x.a, "\x1B["+x.want+"m")
	}
}

func TestOneTexts(t *testing.T) { // P11.1, actions that have a text
	wantOne(t, title(""), "\x1B]2;\x1B\\")
	wantOne(t, title("t"), "\x1B]2;t\x1B\\")
	wantOne(t, title("a;\xE4\xB8\xAD"), "\x1B]2;a;\xE4\xB8\xAD\x1B\\")
	wantOne(t, title(strings.Repeat("t", 510)), "\x1B]2;"+strings.Repeat("t", 510)+"\x1B\\")
	wantOne(t, palette(7, 0xFF0080), "\x1B]4;7;rgb:ff/00/80\x1B\\")
	wantOne(t, palette(255, 0), "\x1B]4;255;rgb:00/00/00\x1B\\")
	wantOne(t, palette(0, 0xFFFFFF), "\x1B]4;0;rgb:ff/ff/ff\x1B\\")
	wantOne(t, clip(""), "\x1B]52;c;\x1B\\")
	wantOne(t, clip("f"), "\x1B]52;c;Zg==\x1B\\")
	wantOne(t, clip("\x00\x1B\xFF"), "\x1B]52;c;ABv/\x1B\\")
	wantOne(t, clip(strings.Repeat("\x00", 378)), "\x1B]52;c;"+strings.Repeat("A", 504)+"\x1B\\")
}

func TestOneAll(t *testing.T) { // P11.1, actions of every kind against the table
	for _, a := range someActions() {
		wantOne(t, a, wanted(a))
	}
}

func TestOnePrint(t *testing.T) { // P11.1, every code point and what is none, and those that no action prints
	for n := -5; n < 0x110010; n++ {
		if n > 0x3000 && n < 0xD700 && n%29 > 0 || n > 0xE000 && n%113 > 0 && n&0xFFFF < 0xFFF0 {
			continue
		}
		if a := act(api.AcPrint, n); width.Of(n) >= 0 {
			wantOne(t, a, string(rune(n)))
		} else {
			wantNoOne(t, a)
		}
	}
	for _, n := range []int{math.MinInt, -1 << 32, 1<<32 + 'a', math.MaxInt} {
		wantNoOne(t, act(api.AcPrint, n))
	}
}

func TestOneEveryNumber(t *testing.T) { // P11.1, every number of each row of the table, in either place
	for _, r := range rows {
		for n := range 10001 {
			if n > 1000 && n < 9900 && n%37 > 0 {
				continue
			}
			for _, a := range []api.Action{act(r.kind, n, 0), act(r.kind, n, 1), act(r.kind, n, 3), act(r.kind, 0, n), act(r.kind, 1, n), act(r.kind, 3, n)} {
				if !matches(r.n, a.N) || !matches(r.m, a.M) {
					continue
				}
				if action.Check(a) == api.OK {
					wantOne(t, a, r.fill(a.N, a.M))
				} else {
					wantNoOne(t, a)
				}
			}
		}
	}
}

// wrongActions returns actions that are not valid: of every kind, with each field that may not be as it is.
func wrongActions() (all []api.Action) {
	for kind := -1; kind <= api.AcClip+2; kind++ {
		for _, n := range []int{math.MinInt, -1, 0, 1, 2, 4, 7, 10000, math.MaxInt} {
			for _, m := range []int{math.MinInt, -1, 0, 1, 2, 10000, math.MaxInt} {
				if a := act(kind, n, m); action.Check(a) != api.OK {
					all = append(all, a)
				}
			}
		}
	}
	for _, kind := range []int{math.MinInt, -1 << 32, 100, 255, 256, 1<<32 + 2, math.MaxInt} {
		all = append(all, act(kind), act(kind, 1), act(kind, 1, 1), api.Action{Kind: kind, Text: "t"})
	}
	for _, a := range []api.Action{act(api.AcPrint, 'a'), act(api.AcBell), act(api.AcCursor, 1, 1), act(api.AcMove, 0, 1), act(api.AcErase), act(api.AcMode, 4, 1), pen(api.PnReset, 0), pen(api.PnSet, api.AtBold), pen(api.PnUnder, 3), title("t"), clip("c")} {
		for _, c := range []api.Color{{Kind: api.ClIndex}, {Kind: api.ClRgb}, {N: 1}, {Kind: -1}} {
			b := a
			b.Color = c
			all = append(all, b)
		}
	}
	for _, a := range []api.Action{act(api.AcPrint, 'a'), act(api.AcBell), act(api.AcCursor, 1, 1), act(api.AcErase), pen(api.PnReset, 0), index(api.PnFore, 1), palette(1, 1)} {
		b := a
		b.Text = "t"
		all = append(all, b)
	}
	all = append(all, pen(api.PnSet, 3), pen(api.PnClear, api.AtBold), pen(api.PnUnder, 6), pen(7, 0), index(api.PnFore, 256), rgb(api.PnLine, 1<<24), rgb(api.PnBack, -1))
	all = append(all, title("\xFF"), title("a\x1B"), title("a\x07"), title("\u009C"), title(strings.Repeat("t", 511)), clip(strings.Repeat("c", 379)), palette(256, 0), palette(-1, 0), palette(1, 1<<24), api.Action{Kind: api.AcPalette, Color: api.Color{Kind: api.ClIndex, N: 1}})
	return all
}

func TestOneWrong(t *testing.T) { // P11.1, actions that are not valid
	for _, a := range []api.Action{{}, act(api.AcPrint, 7), act(api.AcPrint, 0x7F), act(api.AcPrint, 0xD800), act(api.AcBell, 1), act(api.AcLock, 2), act(api.AcSet, 4, 0), act(api.AcSet, 0, 2), act(api.AcSingle, 1), act(api.AcSingle, 4), act(api.AcCursor, 0, 1), act(api.AcCursor, 1, 10000), act(api.AcMove, 4, 1), act(api.AcMove, 0, 0), act(api.AcLine, 2, 1), act(api.AcScroll, 2, 1), act(api.AcErase, 4), act(api.AcEraseLine, 3), act(api.AcClearTab, 1), act(api.AcMode, 10000, 1), act(api.AcMode, 4, 2), act(api.AcMargins, -1, 0), act(api.AcShape, 7), act(api.AcReport, 4), act(api.AcAsk, 2), act(api.AcAskMode, 1, 2), act(api.AcClip+1, 0)} {
		wantNoOne(t, a)
	}
	all := wrongActions()
	for _, a := range all {
		wantNoOne(t, a)
		wantNoBytes(t, []api.Action{a}, api.ErrAction)
	}
	if len(all) < 2000 || style.CheckPen(pen(api.PnSet, 3)) == api.OK {
		t.Errorf("%d wrong actions", len(all))
	}
}

func TestOneIsBytes(t *testing.T) { // P11.1 and P11.2 agree on a single action
	for _, a := range someActions() {
		one, e := emit.One(a)
		if e != api.OK {
			t.Fatalf("One(%+v) returns %d", a, e)
		}
		wantBytes(t, []api.Action{a}, string(one))
	}
}
