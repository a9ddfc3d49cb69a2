package emit_test

import (
	"encoding/base64"
	"fmt"
	"math/rand"
	"slices"
	"strconv"
	"strings"
	"testing"

	"fenestra/action"
	"fenestra/api"
	"fenestra/emit"
)

// byteRows is the chapter's table of the kinds that have numbers only: kind, N, M, and the bytes. In these, ^[ is ESC and _ a space; (n), (m) and (n;m) are numbers that are left out where they are usual: 1 as a count, in braces, and 0 as a choice, in parentheses; <n> is a number that is always written. A * stands for every number.
const byteRows = `
Bell 0 0 ^G
Back 0 0 ^H
Tab 0 0 ^I
Feed 0 0 ^J
Return 0 0 ^M
Lock 0 0 ^O
Lock 1 0 ^N
Index 0 0 ^[D
Next 0 0 ^[E
SetTab 0 0 ^[H
Reverse 0 0 ^[M
Save 0 0 ^[7
Restore 0 0 ^[8
Reset 0 0 ^[c
Keypad 0 0 ^[>
Keypad 1 0 ^[=
Align 0 0 ^[#8
Set 0 0 ^[(B
Set 0 1 ^[(0
Set 1 0 ^[)B
Set 1 1 ^[)0
Set 2 0 ^[*B
Set 2 1 ^[*0
Set 3 0 ^[+B
Set 3 1 ^[+0
Single 2 0 ^[N
Single 3 0 ^[O
Move 0 * ^[[{m}A
Move 1 * ^[[{m}B
Move 2 * ^[[{m}C
Move 3 * ^[[{m}D
Line 0 * ^[[{m}E
Line 1 * ^[[{m}F
Scroll 0 * ^[[{m}S
Scroll 1 * ^[[{m}T
Cursor * * ^[[{n;m}H
Column * 0 ^[[{n}G
Row * 0 ^[[{n}d
Tabs * 0 ^[[{n}I
BackTabs * 0 ^[[{n}Z
Insert * 0 ^[[{n}@
Delete * 0 ^[[{n}P
Blank * 0 ^[[{n}X
InsertLines * 0 ^[[{n}L
DeleteLines * 0 ^[[{n}M
Repeat * 0 ^[[{n}b
Erase * 0 ^[[(n)J
EraseLine * 0 ^[[(n)K
ClearTab * 0 ^[[(n)g
Mode * 1 ^[[<n>h
Mode * 0 ^[[<n>l
Dec * 1 ^[[?<n>h
Dec * 0 ^[[?<n>l
Margins * * ^[[(n;m)r
Shape * 0 ^[[(n)_q
Report * 0 ^[[<n>n
Ask 0 0 ^[[c
Ask 1 0 ^[[>c
AskMode * 0 ^[[<n>$p
AskMode * 1 ^[[?<n>$p
`

// kinds are the names of the kinds of actions in the table.
var kinds = map[string]int{
	"Bell": api.AcBell, "Back": api.AcBack, "Tab": api.AcTab, "Feed": api.AcFeed, "Return": api.AcReturn, "Lock": api.AcLock,
	"Index": api.AcIndex, "Next": api.AcNext, "SetTab": api.AcSetTab, "Reverse": api.AcReverse, "Save": api.AcSave, "Restore": api.AcRestore,
	"Keypad": api.AcKeypad, "Reset": api.AcReset, "Align": api.AcAlign, "Set": api.AcSet, "Single": api.AcSingle, "Cursor": api.AcCursor,
	"Move": api.AcMove, "Line": api.AcLine, "Column": api.AcColumn, "Row": api.AcRow, "Tabs": api.AcTabs, "BackTabs": api.AcBackTabs,
	"Erase": api.AcErase, "EraseLine": api.AcEraseLine, "Insert": api.AcInsert, "Delete": api.AcDelete, "Blank": api.AcBlank,
	"InsertLines": api.AcInsertLines, "DeleteLines": api.AcDeleteLines, "Scroll": api.AcScroll, "Repeat": api.AcRepeat,
	"ClearTab": api.AcClearTab, "Mode": api.AcMode, "Dec": api.AcDec, "Margins": api.AcMargins, "Shape": api.AcShape,
	"Report": api.AcReport, "Ask": api.AcAsk, "AskMode": api.AcAskMode,
}

// byteRow is a row of byteRows.
type byteRow struct {
	kind        int
	n, m, bytes string
}

var (
	rows       = readRows()
	rowsByKind = byKind(rows)
)

func readRows() (all []byteRow) {
	controls := strings.NewReplacer("^[", "\x1b", "_", " ", "^G", "\x07", "^H", "\x08", "^I", "\x09", "^J", "\x0A", "^M", "\x0D", "^N", "\x0E", "^O", "\x0F")
	for _, line := range strings.Split(strings.TrimSpace(byteRows), "\n") {
		f := strings.Fields(line)
		all = append(all, byteRow{kinds[f[0]], f[1], f[2], controls.Replace(f[3])})
	}
	return all
}

func byKind(rows []byteRow) map[int][]byteRow {
	all := map[int][]byteRow{}
	for _, r := range rows {
		all[r.kind] = append(all[r.kind], r)
	}
	return all
}

// matches tells whether a word of a row stands for the number.
func matches(word string, number int) bool { return word == "*" || word == strconv.Itoa(number) }

// shortened returns numbers with semicolons between them, where the usual one is not written; nothing is behind the last one written.
func shortened(usual int, numbers ...int) string {
	var texts []string
	for _, n := range numbers {
		text := strconv.Itoa(n)
		if n == usual {
			text = ""
		}
		texts = append(texts, text)
	}
	return strings.TrimRight(strings.Join(texts, ";"), ";")
}

// fill returns the bytes of the row with the numbers in place.
func (r byteRow) fill(n, m int) string {
	return strings.NewReplacer(
		"{n}", shortened(1, n), "{m}", shortened(1, m), "{n;m}", shortened(1, n, m),
		"(n)", shortened(0, n), "(n;m)", shortened(0, n, m),
		"<n>", strconv.Itoa(n),
	).Replace(r.bytes)
}

// penText returns what stands between CSI and m for a valid pen.
func penText(a api.Action) string {
	c := a.Color.N
	letters := map[int]string{api.PnFore: "3", api.PnBack: "4", api.PnLine: "5"}[a.N]
	bright := map[int]string{api.PnFore: "9", api.PnBack: "10"}[a.N]
	sets := map[int]string{api.AtBold: "1", api.AtDim: "2", api.AtItalic: "3", api.AtBlink: "5", api.AtInverse: "7", api.AtHidden: "8", api.AtStrike: "9", api.AtOver: "53"}
	clears := map[int]string{api.AtBold | api.AtDim: "22", api.AtItalic: "23", api.AtBlink: "25", api.AtInverse: "27", api.AtHidden: "28", api.AtStrike: "29", api.AtOver: "55"}
	switch {
	case a.N == api.PnReset:
		return "0"
	case a.N == api.PnSet:
		return sets[a.M]
	case a.N == api.PnClear:
		return clears[a.M]
	case a.N == api.PnUnder:
		return []string{"24", "4", "4:2", "4:3", "4:4", "4:5"}[a.M]
	case a.Color.Kind == api.ClNone:
		return letters + "9"
	case a.Color.Kind == api.ClRgb:
		return fmt.Sprintf("%s8:2::%d:%d:%d", letters, c/65536, c/256%256, c%256)
	case a.N == api.PnLine || c > 15:
		return fmt.Sprintf("%s8:5:%d", letters, c)
	case c > 7:
		return bright + strconv.Itoa(c-8)
	}
	return letters + strconv.Itoa(c)
}

// wanted returns the bytes of a valid action.
func wanted(a api.Action) string {
	c := a.Color.N
	switch a.Kind {
	case api.AcPrint:
		return string(rune(a.N))
	case api.AcPen:
		return "\x1b[" + penText(a) + "m"
	case api.AcTitle:
		return "\x1b]2;" + a.Text + "\x1b\\"
	case api.AcPalette:
		return fmt.Sprintf("\x1b]4;%d;rgb:%02x/%02x/%02x\x1b\\", a.N, c/65536, c/256%256, c%256)
	case api.AcClip:
		return "\x1b]52;c;" + base64.StdEncoding.EncodeToString([]byte(a.Text)) + "\x1b\\"
	}
	for _, r := range rowsByKind[a.Kind] {
		if matches(r.n, a.N) && matches(r.m, a.M) {
			return r.fill(a.N, a.M)
		}
	}
	return "no row"
}

// wantedAll returns the bytes of valid actions: what a sequence of pens holds is joined where another pen follows it, until it holds sixteen.
func wantedAll(l []api.Action) string {
	var all strings.Builder
	open := 0
	for i, a := range l {
		switch {
		case a.Kind != api.AcPen:
			all.WriteString(wanted(a))
			continue
		case open == 0:
			all.WriteString("\x1b[")
		default:
			all.WriteString(";")
		}
		all.WriteString(penText(a))
		open++
		if open == 16 || i+1 == len(l) || l[i+1].Kind != api.AcPen {
			all.WriteString("m")
			open = 0
		}
	}
	return all.String()
}

func act(kind int, numbers ...int) api.Action {
	n := append(numbers, 0, 0)
	return api.Action{Kind: kind, N: n[0], M: n[1]}
}

func title(s string) api.Action { return api.Action{Kind: api.AcTitle, Text: s} }

func clip(s string) api.Action { return api.Action{Kind: api.AcClip, Text: s} }

func palette(n, rgb int) api.Action {
	return api.Action{Kind: api.AcPalette, N: n, Color: api.Color{Kind: api.ClRgb, N: rgb}}
}

func pen(n, m int) api.Action { return api.Action{Kind: api.AcPen, N: n, M: m} }

func index(n, i int) api.Action {
	return api.Action{Kind: api.AcPen, N: n, Color: api.Color{Kind: api.ClIndex, N: i}}
}

func rgb(n, c int) api.Action {
	return api.Action{Kind: api.AcPen, N: n, Color: api.Color{Kind: api.ClRgb, N: c}}
}

// prints returns the actions that print a text.
func prints(text string) (l []api.Action) {
	for _, r := range text {
		l = append(l, act(api.AcPrint, int(r)))
	}
	return l
}

// numbers are at all limits, and at numbers of every length.
var numbers = []int{0, 1, 2, 3, 4, 5, 6, 7, 9, 10, 11, 80, 99, 100, 256, 999, 1000, 1049, 2004, 9998, 9999}

// plainActions returns all valid actions of the kinds that have numbers only, with these numbers.
func plainActions(numbers []int) (all []api.Action) {
	for kind := api.AcPrint; kind <= api.AcClip; kind++ {
		for _, n := range numbers {
			for _, m := range numbers {
				if a := act(kind, n, m); rowsByKind[kind] != nil && action.Check(a) == api.OK {
					all = append(all, a)
				}
			}
		}
	}
	return all
}

// somePens returns all valid pens but those with a ClRgb, and of these some.
func somePens() (all []api.Action) {
	all = append(all, pen(api.PnReset, 0), pen(api.PnClear, api.AtBold|api.AtDim))
	for m := api.AtBold; m <= api.AtAll; m <<= 1 {
		all = append(all, pen(api.PnSet, m))
		if m > api.AtDim {
			all = append(all, pen(api.PnClear, m))
		}
	}
	for m := range 6 {
		all = append(all, pen(api.PnUnder, m))
	}
	for n := api.PnFore; n <= api.PnLine; n++ {
		all = append(all, pen(n, 0))
		for i := range 256 {
			all = append(all, index(n, i))
		}
		for _, c := range []int{0, 1, 255, 256, 0xFF00, 0xFF0000, 0x010203, 0x0A141E, 0xFFFE80, 0xFFFFFF} {
			all = append(all, rgb(n, c))
		}
	}
	return all
}

// someTexts returns actions that have a text, the longest ones among them.
func someTexts() (all []api.Action) {
	for _, s := range []string{"", "t", "a title", ";", "2;t", "中é\U0001F600", "\\", "]", "[31m", strings.Repeat("t", 510), strings.Repeat("é", 255)} {
		all = append(all, title(s))
	}
	for _, s := range []string{"", "f", "fo", "foo", "\x00", "\x1b\\", "\xFF\xFE", "\x07\x18\x1a\x9c", strings.Repeat("c", 377), strings.Repeat("\x1b", 378)} {
		all = append(all, clip(s))
	}
	for _, n := range []int{0, 1, 9, 10, 99, 100, 255} {
		for _, c := range []int{0, 1, 0x0A0B0C, 0xFF0080, 0xFFFFFF} {
			all = append(all, palette(n, c))
		}
	}
	return all
}

// somePrints returns actions that print: at the limits of all lengths of encodings, wide ones and marks.
func somePrints() []api.Action {
	return prints(" !09;:?@AZ[\\]^_az{|}~\u00A0\u00AD\u00E9\u0301\u07FF\u0800\u4E2D\uD7FF\uE000\uFEFF\uFFFD\uFFFE\uFFFF\U00010000\U0001F600\U0010FFFF")
}

// someActions returns valid actions of all kinds.
func someActions() []api.Action {
	return slices.Concat(plainActions(numbers), somePens(), someTexts(), somePrints())
}

// someList returns up to most of all; pens stand together more often than others.
func someList(r *rand.Rand, all, pens []api.Action, most int) (l []api.Action) {
	for n := r.Intn(most + 1); len(l) < n; {
		if r.Intn(3) == 0 {
			for range min(1+r.Intn(40), n-len(l)) {
				l = append(l, pens[r.Intn(len(pens))])
			}
			continue
		}
		l = append(l, all[r.Intn(len(all))])
	}
	return l
}

// wantOne asks that One and Bytes return these bytes for a, and that wanted does.
func wantOne(t *testing.T, a api.Action, want string) {
	t.Helper()
	if b, e := emit.One(a); e != api.OK || string(b) != want {
		t.Fatalf("One(%+v) = %q, %d, not %q", a, b, e, want)
	}
	if s := wanted(a); s != want {
		t.Fatalf("the table has %q for %+v, not %q", s, a, want)
	}
}

// wantBytes asks that Bytes returns these bytes for l.
func wantBytes(t *testing.T, l []api.Action, want string) {
	t.Helper()
	b, e := emit.Bytes(l)
	if e != api.OK || string(b) != want {
		at := 0
		for at < min(len(b), len(want)) && b[at] == want[at] {
			at++
		}
		t.Fatalf("Bytes of %d actions returns %d and %d bytes, not %d; from byte %d: %.60q, not %.60q", len(l), e, len(b), len(want), at, b[at:], want[at:])
	}
}

// wantListed asks that Bytes returns for l what the table has.
func wantListed(t *testing.T, l []api.Action) {
	t.Helper()
	wantBytes(t, l, wantedAll(l))
}

func wantNoOne(t *testing.T, a api.Action) {
	t.Helper()
	if b, e := emit.One(a); len(b) != 0 || e != api.ErrAction {
		t.Fatalf("One(%+v) = %q, %d, not ErrAction", a, b, e)
	}
}

func wantNoBytes(t *testing.T, l []api.Action, want api.Errno) {
	t.Helper()
	if b, e := emit.Bytes(l); len(b) != 0 || e != want {
		t.Fatalf("Bytes of %d actions returns %d and %d bytes, not %d", len(l), e, len(b), want)
	}
}
