package action_test

import (
	"math"
	"slices"
	"strconv"
	"strings"
	"testing"

	"fenestra/action"
	"fenestra/api"
	"fenestra/osc"
	"fenestra/style"
	"fenestra/width"
)

// limitRows is the chapter's table of the actions that have numbers only: kinds, the numbers that N may be, and those that M may be. A row with one set of numbers leaves M zero.
const limitRows = `
Bell Back Tab Feed Return Index Next SetTab Reverse Save Restore Reset Align | 0
Lock Keypad Ask | 0 1
Set | 0 1 2 3 | 0 1
Single | 2 3
Cursor | count | count
Move | 0 1 2 3 | count
Line Scroll | 0 1 | count
Column Row Tabs BackTabs Insert Delete Blank InsertLines DeleteLines Repeat | count
Erase | 0 1 2 3
EraseLine | 0 1 2
ClearTab | 0 3
Mode Dec AskMode | any | 0 1
Margins | any | any
Shape | 0 1 2 3 4 5 6
Report | 5 6
`

// eventRows is the chapter's table of the actions of events but for those that print, for strings and for pens: the kind of event, the private marker, the intermediate characters, the codes or final bytes, and the actions: their kind, N and M. In these, i is the place of the final byte in its row, and v the value of each parameter; ~ stands for what is not there, and _ for a space.
const eventRows = `
control ~ ~ 7 Bell
control ~ ~ 8 Back
control ~ ~ 9 Tab
control ~ ~ 10 Feed
control ~ ~ 11 Feed
control ~ ~ 12 Feed
control ~ ~ 13 Return
control ~ ~ 14 Lock 1
control ~ ~ 15 Lock 0
esc ~ ~ D Index
esc ~ ~ E Next
esc ~ ~ H SetTab
esc ~ ~ M Reverse
esc ~ ~ N Single 2
esc ~ ~ O Single 3
esc ~ ~ 7 Save
esc ~ ~ 8 Restore
esc ~ ~ >= Keypad i
esc ~ ~ c Reset
esc ~ # 8 Align
esc ~ ( B0 Set 0 i
esc ~ ) B0 Set 1 i
esc ~ * B0 Set 2 i
esc ~ + B0 Set 3 i
csi ~ ~ H Cursor c1 c2
csi ~ ~ f Cursor c1 c2
csi ~ ~ ABCD Move i c1
csi ~ ~ EF Line i c1
csi ~ ~ G Column c1
csi ~ ~ ~ Column c1
csi ~ ~ d Row c1
csi ~ ~ I Tabs c1
csi ~ ~ Z BackTabs c1
csi ~ ~ J Erase p1
csi ~ ~ K EraseLine p1
csi ~ ~ @ Insert c1
csi ~ ~ P Delete c1
csi ~ ~ X Blank c1
csi ~ ~ L InsertLines c1
csi ~ ~ M DeleteLines c1
csi ~ ~ b Repeat c1
csi ~ ~ ST Scroll i c1
csi ~ ~ g ClearTab p1
csi ~ ~ lh Mode v i
csi ~ ~ r Margins p1 p2
csi ~ ~ n Report p1
csi ~ ~ c Ask asked 0
csi ~ ~ s Save
csi ~ ~ u Restore
csi ? ~ lh Dec v i
csi > ~ c Ask asked 1
csi ~ _ q Shape p1
csi ~ ! p Reset
csi ~ $ p AskMode p1 0
csi ? $ p AskMode p1 1
`

// kinds are the names of the kinds of actions in the tables.
var kinds = map[string]int{
	"Bell": api.AcBell, "Back": api.AcBack, "Tab": api.AcTab, "Feed": api.AcFeed, "Return": api.AcReturn, "Lock": api.AcLock,
	"Index": api.AcIndex, "Next": api.AcNext, "SetTab": api.AcSetTab, "Reverse": api.AcReverse, "Save": api.AcSave, "Restore": api.AcRestore,
	"Keypad": api.AcKeypad, "Reset": api.AcReset, "Align": api.AcAlign, "Set": api.AcSet, "Single": api.AcSingle, "Cursor": api.AcCursor,
	"Move": api.AcMove, "Line": api.AcLine, "Column": api.AcColumn, "Row": api.AcRow, "Tabs": api.AcTabs, "BackTabs": api.AcBackTabs,
	"Erase": api.AcErase, "EraseLine": api.AcEraseLine, "Insert": api.AcInsert, "Delete": api.AcDelete, "Blank": api.AcBlank,
	"InsertLines": api.AcInsertLines, "DeleteLines": api.AcDeleteLines, "Scroll": api.AcScroll, "Repeat": api.AcRepeat,
	"ClearTab": api.AcClearTab, "Mode": api.AcMode, "Dec": api.AcDec, "Margins": api.AcMargins, "Shape": api.AcShape,
	"Report": api.AcReport, "Ask": api.AcAsk, "AskMode": api.AcAskMode,
}

// numbers are around all limits, and far away from them.
var numbers = []int{math.MinInt, -1 << 32, -9999, -2, -1, 0, 1, 2, 3, 4, 5, 6, 7, 8, 15, 16, 80, 100, 255, 256, 1049, 9998, 9999, 10000, 10001, 1 << 16, 1 << 32, 1<<32 + 1, 1<<32 + 5, math.MaxInt}

// limitSets are the sets of numbers of each kind in limitRows.
var limitSets = readLimits()

func readLimits() map[int][2]string {
	all := map[int][2]string{}
	for _, line := range strings.Split(strings.TrimSpace(limitRows), "\n") {
		parts := strings.Split(line+" | 0", "|")
		for _, name := range strings.Fields(parts[0]) {
			all[kinds[name]] = [2]string{strings.TrimSpace(parts[1]), strings.TrimSpace(parts[2])}
		}
	}
	return all
}

// in tells whether a set of limitRows has n.
func in(set string, n int) bool {
	switch set {
	case "count":
		return n >= 1 && n <= 9999
	case "any":
		return n >= 0 && n <= 9999
	}
	return slices.Contains(strings.Fields(set), strconv.Itoa(n))
}

// allowed tells whether a should be valid.
func allowed(a api.Action) bool {
	switch a.Kind {
	case api.AcPrint:
		return a.M == 0 && a.Color.Kind == 0 && a.Color.N == 0 && a.Text == "" && width.Of(a.N) != -1
	case api.AcPen:
		return style.CheckPen(a) == api.OK
	case api.AcTitle, api.AcPalette, api.AcClip:
		_, e := osc.Print(a)
		return e == api.OK
	}
	sets, is := limitSets[a.Kind]
	return is && a.Color.Kind == 0 && a.Color.N == 0 && a.Text == "" && in(sets[0], a.N) && in(sets[1], a.M)
}

func act(kind int, numbers ...int) api.Action {
	n := append(numbers, 0, 0)
	return api.Action{Kind: kind, N: n[0], M: n[1]}
}

func title(s string) api.Action { return api.Action{Kind: api.AcTitle, Text: s} }

func clip(s string) api.Action { return api.Action{Kind: api.AcClip, Text: s} }

func palette(n, rgb int) api.Action {
	return api.Action{Kind: api.AcPalette, N: n, Color: api.Color{Kind: api.ClRgb, N: rgb}}
}

func pen(n, m int) api.Action { return api.Action{Kind: api.AcPen, N: n, M: m} }

func penColor(n, kind, c int) api.Action {
	return api.Action{Kind: api.AcPen, N: n, Color: api.Color{Kind: kind, N: c}}
}

// one returns a parameter with these parts.
func one(subs ...int) api.Param { return api.Param{Subs: subs} }

// row returns parameters with one part each.
func row(numbers ...int) (l []api.Param) {
	for _, n := range numbers {
		l = append(l, one(n))
	}
	return l
}

func control(code int) api.Event { return api.Event{Kind: api.EvControl, Code: code} }

func esc(inter string, final byte) api.Event {
	return api.Event{Kind: api.EvEsc, Inter: inter, Final: final}
}

// csi returns a control sequence; private is "" or one character.
func csi(private, inter string, final byte, l ...api.Param) api.Event {
	e := api.Event{Kind: api.EvCsi, Inter: inter, Final: final, Params: l}
	if private != "" {
		e.Private = private[0]
	}
	return e
}

func oscText(s string) api.Event { return api.Event{Kind: api.EvOsc, Text: s} }

// wantCheck asks that Check tells whether a is valid as allowed does, and as right does.
func wantCheck(t *testing.T, a api.Action, right bool) {
	t.Helper()
	want := api.ErrAction
	if right {
		want = api.OK
	}
	if got := action.Check(a); got != want || allowed(a) != right {
		t.Fatalf("Check(%+v) = %d, not %d", a, got, want)
	}
}

// wantOf asks that the actions of e are these.
func wantOf(t *testing.T, e api.Event, want ...api.Action) {
	t.Helper()
	got, code := action.Of(e)
	if code != api.OK || !slices.Equal(got, want) {
		t.Fatalf("Of(%+v) = %+v, %d, not %+v", e, got, code, want)
	}
	for _, a := range got {
		if !allowed(a) || action.Check(a) != api.OK {
			t.Fatalf("Of(%+v) has %+v, which is not valid", e, a)
		}
	}
	if len(got) > 16 {
		t.Fatalf("Of(%+v) has %d actions", e, len(got))
	}
}

func wantNothing(t *testing.T, e api.Event) {
	t.Helper()
	wantOf(t, e)
}

// wantWrong asks that e is not valid.
func wantWrong(t *testing.T, e api.Event) {
	t.Helper()
	if got := action.CheckEvent(e); got != api.ErrEvent {
		t.Fatalf("CheckEvent(%+v) = %d", e, got)
	}
	if got, code := action.Of(e); len(got) != 0 || code != api.ErrEvent {
		t.Fatalf("Of(%+v) = %+v, %d", e, got, code)
	}
}
