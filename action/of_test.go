package action_test

import (
	"math"
	"math/rand"
	"slices"
	"strings"
	"testing"

	"fenestra/api"
	"fenestra/param"
)

// someLists are lists of parameters: none, missing numbers, numbers at the limits of every kind of action, parts, and full lists.
var someLists = [][]api.Param{
	nil, {}, row(0), row(1), row(2), row(3), row(4), row(5), row(6), row(7), row(25), row(1049), row(9999),
	row(-1, -1), row(-1, 7), row(7, -1), row(0, 0), row(0, 3), row(3, 0), row(1, 2), row(2, 1), row(9999, 9999), row(5, 8, 2), row(-1, -1, -1),
	{one(5, 3)}, {one(-1, 4)}, {one(0, 9), one(6, -1)}, {one(4, 3), one(38, 5, 200)}, {one(1, 2, 3, 4, 5, 6)},
	row(1, -1, 3, 0, 5, 6, 9999, 8, 7, 6, 5, 4, 3, 2, 1, 0),
	row(1, 31, 38, 5, 200, 48, 2, 1, 2, 3, 99, 7),
}

// someInters are intermediate characters: none, each of them alone, and more.
func someInters() []string {
	all := []string{"", "  ", "$ ", " $", "!!", "((", "(#", "#(", "$$", "\x00", "?", "!p", strings.Repeat("$", 600)}
	for c := byte(0x20); c < 0x30; c++ {
		all = append(all, string([]byte{c}))
	}
	return all
}

func TestPrint(t *testing.T) { // P10.2, every code point and what is none
	for n := -20; n < 0x110020; n++ {
		e := api.Event{Kind: api.EvPrint, Code: n}
		if n < 0x20 || n >= 0x7F && n < 0xA0 || n >= 0xD800 && n < 0xE000 || n > 0x10FFFF {
			wantNothing(t, e)
		} else {
			wantOf(t, e, act(api.AcPrint, n))
		}
	}
	for _, n := range []int{math.MinInt, 1<<32 + 'a', math.MaxInt} {
		wantNothing(t, api.Event{Kind: api.EvPrint, Code: n})
	}
}

func TestControl(t *testing.T) { // P10.2
	for code, want := range map[int]api.Action{
		7: act(api.AcBell), 8: act(api.AcBack), 9: act(api.AcTab), 10: act(api.AcFeed), 11: act(api.AcFeed), 12: act(api.AcFeed),
		13: act(api.AcReturn), 14: act(api.AcLock, 1), 15: act(api.AcLock, 0),
	} {
		wantOf(t, control(code), want)
	}
	for code := -300; code < 1000; code++ {
		if code < 7 || code > 15 {
			wantNothing(t, control(code))
		}
	}
	for _, code := range []int{math.MinInt, 1<<32 + 7, math.MaxInt} {
		wantNothing(t, control(code))
	}
}

func TestEscape(t *testing.T) { // P10.2
	for text, want := range map[string]api.Action{
		"D": act(api.AcIndex), "E": act(api.AcNext), "H": act(api.AcSetTab), "M": act(api.AcReverse), "N": act(api.AcSingle, 2), "O": act(api.AcSingle, 3),
		"7": act(api.AcSave), "8": act(api.AcRestore), "=": act(api.AcKeypad, 1), ">": act(api.AcKeypad, 0), "c": act(api.AcReset), "#8": act(api.AcAlign),
		"(B": act(api.AcSet, 0, api.SetAscii), ")B": act(api.AcSet, 1, api.SetAscii), "*B": act(api.AcSet, 2, api.SetAscii), "+B": act(api.AcSet, 3, api.SetAscii),
		"(0": act(api.AcSet, 0, api.SetLines), ")0": act(api.AcSet, 1, api.SetLines), "*0": act(api.AcSet, 2, api.SetLines), "+0": act(api.AcSet, 3, api.SetLines),
	} {
		last := len(text) - 1
		wantOf(t, esc(text[:last], text[last]), want)
	}
}

func TestAllEscapes(t *testing.T) { // P10.2, every final byte behind all sorts of intermediate characters; 20 of them have an action
	count := 0
	for _, inter := range someInters() {
		for final := range 256 {
			e := esc(inter, byte(final))
			want := wanted(e)
			wantOf(t, e, want...)
			count += len(want)
		}
	}
	if count != 20 {
		t.Errorf("%d escapes have an action", count)
	}
}

func TestSequences(t *testing.T) { // P10.2, each row with no, with small and with great numbers
	for final, kind := range map[byte]int{'G': api.AcColumn, '`': api.AcColumn, 'd': api.AcRow, 'I': api.AcTabs, 'Z': api.AcBackTabs, '@': api.AcInsert, 'P': api.AcDelete, 'X': api.AcBlank, 'L': api.AcInsertLines, 'M': api.AcDeleteLines, 'b': api.AcRepeat} {
		wantOf(t, csi("", "", final), act(kind, 1))
		wantOf(t, csi("", "", final, row(0)...), act(kind, 1))
		wantOf(t, csi("", "", final, row(-1, 5)...), act(kind, 1))
		wantOf(t, csi("", "", final, row(7)...), act(kind, 7))
		wantOf(t, csi("", "", final, row(9999, 3)...), act(kind, 9999))
		wantOf(t, csi("", "", final, one(7, 8, 9)), act(kind, 7))
	}
	for _, final := range []byte("Hf") {
		wantOf(t, csi("", "", final), act(api.AcCursor, 1, 1))
		wantOf(t, csi("", "", final, row(0, 0)...), act(api.AcCursor, 1, 1))
		wantOf(t, csi("", "", final, row(5)...), act(api.AcCursor, 5, 1))
		wantOf(t, csi("", "", final, row(-1, 5)...), act(api.AcCursor, 1, 5))
		wantOf(t, csi("", "", final, row(9999, 9998, 3)...), act(api.AcCursor, 9999, 9998))
	}
	for finals, kind := range map[string]int{"ABCD": api.AcMove, "EF": api.AcLine, "ST": api.AcScroll} {
		for i := range len(finals) {
			wantOf(t, csi("", "", finals[i]), act(kind, i, 1))
			wantOf(t, csi("", "", finals[i], row(0)...), act(kind, i, 1))
			wantOf(t, csi("", "", finals[i], row(12, 3)...), act(kind, i, 12))
			wantOf(t, csi("", "", finals[i], row(9999)...), act(kind, i, 9999))
		}
	}
	for n := range 10000 { // where only some numbers make valid actions
		wantOf(t, csi("", "", 'J', one(n)), some(n <= 3, act(api.AcErase, n))...)
		wantOf(t, csi("", "", 'K', one(n)), some(n <= 2, act(api.AcEraseLine, n))...)
		wantOf(t, csi("", "", 'g', one(n)), some(n == 0 || n == 3, act(api.AcClearTab, n))...)
		wantOf(t, csi("", "", 'n', one(n)), some(n == 5 || n == 6, act(api.AcReport, n))...)
		wantOf(t, csi("", " ", 'q', one(n)), some(n <= 6, act(api.AcShape, n))...)
		wantOf(t, csi("", "", 'c', one(n)), some(n == 0, act(api.AcAsk, 0))...)
		wantOf(t, csi(">", "", 'c', one(n)), some(n == 0, act(api.AcAsk, 1))...)
	}
	for _, l := range [][]api.Param{nil, row(-1, 9), {one(-1, 9)}} { // numbers that are not there
		wantOf(t, csi("", "", 'J', l...), act(api.AcErase, 0))
		wantOf(t, csi("", "", 'K', l...), act(api.AcEraseLine, 0))
		wantOf(t, csi("", "", 'g', l...), act(api.AcClearTab, 0))
		wantNothing(t, csi("", "", 'n', l...))
		wantOf(t, csi("", " ", 'q', l...), act(api.AcShape, 0))
		wantOf(t, csi("", "", 'c', l...), act(api.AcAsk, 0))
		wantOf(t, csi(">", "", 'c', l...), act(api.AcAsk, 1))
	}
	for _, l := range someLists {
		wantOf(t, csi("", "", 's', l...), act(api.AcSave))
		wantOf(t, csi("", "", 'u', l...), act(api.AcRestore))
		wantOf(t, csi("", "!", 'p', l...), act(api.AcReset))
	}
	wantOf(t, csi("", "", 'r'), act(api.AcMargins, 0, 0))
	wantOf(t, csi("", "", 'r', row(-1, 5)...), act(api.AcMargins, 0, 5))
	wantOf(t, csi("", "", 'r', row(5)...), act(api.AcMargins, 5, 0))
	wantOf(t, csi("", "", 'r', row(9999, 9999, 1)...), act(api.AcMargins, 9999, 9999))
	for n, private := range []string{"", "?"} {
		wantOf(t, csi(private, "$", 'p'), act(api.AcAskMode, 0, n))
		wantOf(t, csi(private, "$", 'p', row(-1, 4)...), act(api.AcAskMode, 0, n))
		wantOf(t, csi(private, "$", 'p', row(2026, 4)...), act(api.AcAskMode, 2026, n))
		wantOf(t, csi(private, "$", 'p', row(9999)...), act(api.AcAskMode, 9999, n))
	}
}

// some returns a if it is there.
func some(is bool, a api.Action) []api.Action {
	if is {
		return []api.Action{a}
	}
	return nil
}

func TestModes(t *testing.T) { // P10.2, one action a parameter
	for private, kind := range map[string]int{"": api.AcMode, "?": api.AcDec} {
		for m, final := range []byte("lh") {
			wantOf(t, csi(private, "", final), act(kind, 0, m))
			wantOf(t, csi(private, "", final, row(0)...), act(kind, 0, m))
			wantOf(t, csi(private, "", final, row(-1, -1)...), act(kind, 0, m), act(kind, 0, m))
			wantOf(t, csi(private, "", final, row(9999, -1, 4)...), act(kind, 9999, m), act(kind, 0, m), act(kind, 4, m))
			wantOf(t, csi(private, "", final, one(7, 8), one(-1, 9)), act(kind, 7, m), act(kind, 0, m))
			for n := range 17 {
				var l []api.Param
				want := []api.Action{}
				for i := range n {
					l = append(l, one(1000+i))
					want = append(want, act(kind, 1000+i, m))
				}
				if n > 0 {
					wantOf(t, csi(private, "", final, l...), want...)
				}
			}
		}
	}
}

func TestPens(t *testing.T) { // P10.2
	reset, bold := pen(api.PnReset, 0), pen(api.PnSet, api.AtBold)
	red := penColor(api.PnFore, api.ClIndex, 1)
	wantOf(t, csi("", "", 'm'), reset)
	wantOf(t, csi("", "", 'm', row(0)...), reset)
	wantOf(t, csi("", "", 'm', row(1, 31)...), bold, red)
	wantOf(t, csi("", "", 'm', row(31, 1)...), red, bold)
	wantOf(t, csi("", "", 'm', one(4, 3), one(38, 2, -1, 1, 2, 3)), pen(api.PnUnder, 3), penColor(api.PnFore, api.ClRgb, 0x010203))
	wantOf(t, csi("", "", 'm', row(38, 5, 256, 1)...), bold)
	wantNothing(t, csi("", "", 'm', row(99)...))
	wantNothing(t, csi("?", "", 'm', row(1)...))
	wantNothing(t, csi(">", "", 'm', row(1)...))
	wantNothing(t, csi("", " ", 'm', row(1)...))
	for n := range 17 {
		want := slices.Repeat([]api.Action{bold}, max(n, 1))
		if n == 0 {
			want[0] = reset
		}
		wantOf(t, csi("", "", 'm', slices.Repeat(row(1), n)...), want...)
	}
}

func TestAllSequences(t *testing.T) { // P10.2, every final byte behind all sorts of markers and intermediate characters
	type end struct {
		private, final byte
		inter          string
	}
	found := map[end]bool{}
	for _, private := range []byte{0, '?', '>', '<', '=', '!', '0', ' ', 1, 255} {
		for _, inter := range someInters() {
			for final := range 256 {
				for i, l := range someLists[:3] {
					e := api.Event{Kind: api.EvCsi, Private: private, Inter: inter, Final: byte(final), Params: l}
					if inter != "" && private != 0 && i > 0 && final%5 > 0 {
						continue
					}
					want := wanted(e)
					wantOf(t, e, want...)
					if len(want) > 0 {
						found[end{private, byte(final), inter}] = true
					}
				}
			}
		}
	}
	if len(found) != 38 { // all but CSI n, which has no action for such parameters
		t.Errorf("%d sequences have an action", len(found))
	}
}

func TestAllLists(t *testing.T) { // P10.2, every sequence of the table with all sorts of parameters
	for final := range 128 {
		for _, start := range []string{"", "?", ">", "_ ", "_!", "_$", "?$", "> "} {
			private, inter := "", ""
			if start != "" {
				private, inter = strings.Replace(start[:1], "_", "", 1), start[1:]
			}
			for _, l := range someLists {
				e := csi(private, inter, byte(final), l...)
				wantOf(t, e, wanted(e)...)
			}
		}
	}
}

func TestStrings(t *testing.T) { // P10.2
	long := strings.Repeat("t", 510)
	for text, want := range map[string]api.Action{
		"0;t": title("t"), "2;t": title("t"), "2;": title(""), "2;a;b": title("a;b"), "2;" + long: title(long),
		"4;7;rgb:FF/00/80": palette(7, 0xFF0080), "4;255;rgb:00/00/00": palette(255, 0),
		"52;c;Zg==": clip("f"), "52;c;Zg": clip("f"), "52;c;": clip(""),
	} {
		wantOf(t, oscText(text), want)
	}
	for _, text := range []string{"", "2", "1;t", "3;t", "2;" + long + "t", "2;\x07", "2;\xFF", "2;\u0080", "4;256;rgb:00/00/00", "4;1;red", "52;p;Zg==", "52;c;Z", "t", strings.Repeat("x", 5000)} {
		wantNothing(t, oscText(text))
	}
}

func TestDevice(t *testing.T) { // P10.2, nothing comes of a device control string
	for final := range 256 {
		wantNothing(t, api.Event{Kind: api.EvDcs, Final: byte(final)})
		wantNothing(t, api.Event{Kind: api.EvDcs, Final: byte(final), Code: 'a', Text: "2;t", Params: row(1)})
		wantNothing(t, api.Event{Kind: api.EvDcs, Final: byte(final), Code: 7, Private: '?', Inter: "$", Text: "t"})
		wantNothing(t, api.Event{Kind: api.EvDcs, Final: byte(final), Inter: "("})
	}
}

func TestIgnored(t *testing.T) { // P10.2, fields that a row does not mention make no difference
	for _, code := range []int{0, 'a', 7, 10, 15, 0x9F, 0x301, -1} {
		for _, private := range []byte{0, '?', '>'} {
			for _, inter := range []string{"", "#", "(", " ", "!", "$"} {
				for _, final := range []byte("m78BHJcphq\x00") {
					for _, l := range [][]api.Param{nil, row(5), row(0, 3)} {
						for _, text := range []string{"", "2;t", "4;1;rgb:01/02/03", strings.Repeat("x", 600)} {
							for kind := api.EvPrint; kind <= api.EvDcs; kind++ {
								e := api.Event{Kind: kind, Code: code, Private: private, Inter: inter, Final: final, Params: l, Text: text}
								wantOf(t, e, wanted(mentioned(e))...)
							}
						}
					}
				}
			}
		}
	}
}

// mentioned returns e without the fields that no row of its kind mentions.
func mentioned(e api.Event) api.Event {
	f := api.Event{Kind: e.Kind}
	switch e.Kind {
	case api.EvPrint, api.EvControl:
		f.Code = e.Code
	case api.EvEsc:
		f.Inter, f.Final = e.Inter, e.Final
	case api.EvCsi:
		f.Private, f.Params, f.Inter, f.Final = e.Private, e.Params, e.Inter, e.Final
	case api.EvOsc:
		f.Text = e.Text
	}
	return f
}

// someParams returns random valid parameters.
func someParams(r *rand.Rand) []api.Param {
	for {
		var l []api.Param
		for range r.Intn(17) {
			p := api.Param{}
			for range 1 + max(0, r.Intn(10)-4) {
				p.Subs = append(p.Subs, []int{-1, 0, 1, 2, 3, 5, 6, 38, 48, r.Intn(10), r.Intn(120), r.Intn(10000)}[r.Intn(12)])
			}
			l = append(l, p)
		}
		if param.Check(l) == api.OK {
			return l
		}
	}
}

// someEvent returns a random valid event that is likely to have actions.
func someEvent(r *rand.Rand) api.Event {
	private := []byte{0, 0, 0, 0, '?', '?', '>', '<'}[r.Intn(8)]
	inter := []string{"", "", "", "", " ", "!", "$", "#", "(", ")", "*", "+"}[r.Intn(12)]
	text := []string{"2;t", "0;", "4;1;rgb:01/02/03", "52;c;Zg==", "t"}[r.Intn(5)]
	final := byte(0x30 + r.Intn(0x4F))
	if known := "@ABCDEFGHIJKLMNOPSTXZ\x60bcdfghlmnpqrsu0789=>"; r.Intn(3) > 0 {
		final = known[r.Intn(len(known))]
	}
	return api.Event{Kind: api.EvPrint + r.Intn(6), Code: r.Intn(400), Private: private, Inter: inter, Final: final, Params: someParams(r), Text: text}
}

func TestRandom(t *testing.T) { // P10.2 and P10.3
	r := rand.New(rand.NewSource(21))
	count := map[int]int{}
	for range 200000 {
		e := someEvent(r)
		want := wanted(e)
		wantOf(t, e, want...)
		for _, a := range want {
			count[a.Kind]++
		}
	}
	for kind := api.AcPrint; kind <= api.AcClip; kind++ {
		if count[kind] < 10 {
			t.Errorf("only %d actions of kind %d", count[kind], kind)
		}
	}
}
