package action_test

import (
	"math"
	"strings"
	"testing"

	"fenestra/action"
	"fenestra/api"
)

func TestNumbers(t *testing.T) { // the numbers that the tests write out are those of api and of the chapter
	if api.MaxParam != 9999 || api.MaxParams != 16 || api.MaxSubs != 6 || api.ErrAction != 200 || api.ErrEvent != 201 || api.SetAscii != 0 || api.SetLines != 1 {
		t.Error("limits or errors differ")
	}
	seen := map[int]bool{api.AcPrint: true, api.AcPen: true, api.AcTitle: true, api.AcPalette: true, api.AcClip: true}
	for name, kind := range kinds {
		if _, is := limitSets[kind]; !is || seen[kind] {
			t.Errorf("the kind %s is twice or not in the table", name)
		}
		seen[kind] = true
	}
	if len(seen) != api.AcClip || len(limitSets) != len(kinds) {
		t.Errorf("the tables have %d kinds of %d", len(seen), api.AcClip)
	}
}

func TestCheckNumbers(t *testing.T) { // P10.1, every kind with all pairs of numbers around the limits
	for kind := range limitSets {
		count := 0
		for _, n := range numbers {
			for _, m := range numbers {
				a := act(kind, n, m)
				wantCheck(t, a, allowed(a))
				if allowed(a) {
					count++
				}
			}
		}
		if count == 0 || count == len(numbers)*len(numbers) {
			t.Errorf("of kind %d, %d actions are valid", kind, count)
		}
	}
}

func TestCheckEach(t *testing.T) { // P10.1, every kind with every small number, in either place
	for kind := range limitSets {
		for n := -300; n < 10300; n++ {
			for _, a := range []api.Action{act(kind, n, 0), act(kind, n, 1), act(kind, 0, n), act(kind, 1, n), act(kind, 3, n)} {
				if n > 20 && n < 9980 && n%61 > 0 {
					continue
				}
				wantCheck(t, a, allowed(a))
			}
		}
	}
}

func TestCheckTable(t *testing.T) { // P10.1, the rows of the table one by one, at their limits
	for _, kind := range []int{api.AcBell, api.AcBack, api.AcTab, api.AcFeed, api.AcReturn, api.AcIndex, api.AcNext, api.AcSetTab, api.AcReverse, api.AcSave, api.AcRestore, api.AcReset, api.AcAlign} {
		wantCheck(t, act(kind), true)
		wantCheck(t, act(kind, 1), false)
		wantCheck(t, act(kind, -1), false)
		wantCheck(t, act(kind, 0, 1), false)
	}
	for _, kind := range []int{api.AcColumn, api.AcRow, api.AcTabs, api.AcBackTabs, api.AcInsert, api.AcDelete, api.AcBlank, api.AcInsertLines, api.AcDeleteLines, api.AcRepeat} {
		wantCheck(t, act(kind, 1), true)
		wantCheck(t, act(kind, 9999), true)
		wantCheck(t, act(kind, 0), false)
		wantCheck(t, act(kind, 10000), false)
		wantCheck(t, act(kind, 1, 1), false)
	}
	for _, kind := range []int{api.AcMode, api.AcDec, api.AcAskMode} {
		wantCheck(t, act(kind, 0, 0), true)
		wantCheck(t, act(kind, 9999, 1), true)
		wantCheck(t, act(kind, 9999, 2), false)
		wantCheck(t, act(kind, 10000, 1), false)
		wantCheck(t, act(kind, -1, 1), false)
	}
	for _, kind := range []int{api.AcLock, api.AcKeypad, api.AcAsk} {
		wantCheck(t, act(kind, 0), true)
		wantCheck(t, act(kind, 1), true)
		wantCheck(t, act(kind, 2), false)
		wantCheck(t, act(kind, 1, 1), false)
	}
	for _, x := range []struct {
		a    api.Action
		want bool
	}{
		{act(api.AcSet, 0, 0), true}, {act(api.AcSet, 3, 1), true}, {act(api.AcSet, 4, 1), false}, {act(api.AcSet, 3, 2), false}, {act(api.AcSet, -1, 0), false},
		{act(api.AcSingle, 2), true}, {act(api.AcSingle, 3), true}, {act(api.AcSingle, 1), false}, {act(api.AcSingle, 4), false}, {act(api.AcSingle, 0), false},
		{act(api.AcCursor, 1, 1), true}, {act(api.AcCursor, 9999, 9999), true}, {act(api.AcCursor, 0, 1), false}, {act(api.AcCursor, 1, 0), false}, {act(api.AcCursor, 10000, 1), false}, {act(api.AcCursor, 1, 10000), false},
		{act(api.AcMove, 0, 1), true}, {act(api.AcMove, 3, 9999), true}, {act(api.AcMove, 4, 1), false}, {act(api.AcMove, 0, 0), false}, {act(api.AcMove, 3, 10000), false},
		{act(api.AcLine, 0, 1), true}, {act(api.AcLine, 1, 9999), true}, {act(api.AcLine, 2, 1), false}, {act(api.AcLine, 0, 0), false},
		{act(api.AcScroll, 0, 1), true}, {act(api.AcScroll, 1, 9999), true}, {act(api.AcScroll, 2, 1), false}, {act(api.AcScroll, 1, 0), false},
		{act(api.AcErase, 0), true}, {act(api.AcErase, 3), true}, {act(api.AcErase, 4), false}, {act(api.AcErase, -1), false},
		{act(api.AcEraseLine, 0), true}, {act(api.AcEraseLine, 2), true}, {act(api.AcEraseLine, 3), false},
		{act(api.AcClearTab, 0), true}, {act(api.AcClearTab, 3), true}, {act(api.AcClearTab, 1), false}, {act(api.AcClearTab, 2), false}, {act(api.AcClearTab, 4), false},
		{act(api.AcMargins, 0, 0), true}, {act(api.AcMargins, 9999, 9999), true}, {act(api.AcMargins, 10000, 0), false}, {act(api.AcMargins, 0, 10000), false}, {act(api.AcMargins, -1, 0), false}, {act(api.AcMargins, 0, -1), false}, {act(api.AcMargins, 7, 3), true},
		{act(api.AcShape, 0), true}, {act(api.AcShape, 6), true}, {act(api.AcShape, 7), false}, {act(api.AcShape, -1), false},
		{act(api.AcReport, 5), true}, {act(api.AcReport, 6), true}, {act(api.AcReport, 4), false}, {act(api.AcReport, 7), false}, {act(api.AcReport, 0), false},
	} {
		wantCheck(t, x.a, x.want)
	}
}

func TestCheckPrint(t *testing.T) { // P10.1, every code point and what is none
	for n := -20; n < 0x110020; n++ {
		control := n < 0x20 || n >= 0x7F && n < 0xA0
		surrogate := n >= 0xD800 && n < 0xE000
		wantCheck(t, act(api.AcPrint, n), !control && !surrogate && n < 0x110000)
	}
	for _, n := range []int{math.MinInt, -1 << 32, 1<<32 + 'a', math.MaxInt} {
		wantCheck(t, act(api.AcPrint, n), false)
	}
	for _, n := range []int{'a', 0x301, 0x4E2D} {
		for _, m := range []int{1, 2, -1, math.MinInt} {
			wantCheck(t, act(api.AcPrint, n, m), false)
		}
	}
}

func TestCheckPens(t *testing.T) { // P10.1, pens of every kind, right and wrong
	for n := -1; n <= 7; n++ {
		for m := -2; m <= 520; m++ {
			wantCheck(t, pen(n, m), allowed(pen(n, m)))
		}
		for kind := -1; kind <= 3; kind++ {
			for _, c := range []int{-1, 0, 1, 255, 256, 1<<24 - 1, 1 << 24} {
				wantCheck(t, penColor(n, kind, c), allowed(penColor(n, kind, c)))
			}
		}
	}
	for _, a := range []api.Action{pen(api.PnReset, 0), pen(api.PnSet, api.AtOver), pen(api.PnClear, api.AtBold|api.AtDim), pen(api.PnUnder, 5), penColor(api.PnFore, api.ClIndex, 255), penColor(api.PnLine, api.ClRgb, 0xFFFFFF), penColor(api.PnBack, api.ClNone, 0)} {
		wantCheck(t, a, true)
		a.Text = "x"
		wantCheck(t, a, false)
	}
	for _, a := range []api.Action{pen(api.PnReset, 1), pen(api.PnSet, 3), pen(api.PnClear, api.AtBold), pen(api.PnUnder, 6), penColor(api.PnFore, api.ClIndex, 256), penColor(api.PnLine, api.ClRgb, 1<<24), pen(7, 0)} {
		wantCheck(t, a, false)
	}
}

func TestCheckTexts(t *testing.T) { // P10.1, actions that have a text, at their limits
	for _, x := range []struct {
		a    api.Action
		want bool
	}{
		{title(""), true}, {title("t"), true}, {title("a;中"), true}, {title(strings.Repeat("t", 510)), true}, {title(strings.Repeat("t", 511)), false}, {title("\xFF"), false}, {title("a\x07"), false}, {title("\u009f"), false},
		{palette(0, 0), true}, {palette(255, 0xFFFFFF), true}, {palette(256, 0), false}, {palette(-1, 0), false}, {palette(1, 1<<24), false}, {palette(1, -1), false},
		{clip(""), true}, {clip("\x00\xFF"), true}, {clip(strings.Repeat("c", 378)), true}, {clip(strings.Repeat("c", 379)), false},
		{act(api.AcPalette), false}, {act(api.AcPalette, 1), false},
	} {
		wantCheck(t, x.a, x.want)
	}
	for _, a := range []api.Action{title("t"), title(""), palette(1, 1), clip("c"), clip("")} {
		wantCheck(t, a, true)
		b := a
		b.M = 1
		wantCheck(t, b, false)
		if a.Kind != api.AcPalette {
			b = a
			b.N = 1
			wantCheck(t, b, false)
			b = a
			b.Color.Kind = api.ClIndex
			wantCheck(t, b, false)
			continue
		}
		b = a
		b.Text = "t"
		wantCheck(t, b, false)
		b = a
		b.Color.Kind = api.ClIndex
		wantCheck(t, b, false)
	}
}

func TestCheckFields(t *testing.T) { // P10.1, fields that are not mentioned must be zero
	right := []api.Action{act(api.AcPrint, 'a')}
	for kind := range limitSets {
		for _, n := range numbers {
			for _, m := range numbers {
				if a := act(kind, n, m); allowed(a) {
					right = append(right, a)
				}
			}
		}
	}
	for _, a := range right {
		for _, c := range []api.Color{{Kind: api.ClIndex}, {Kind: api.ClRgb}, {N: 1}, {Kind: api.ClIndex, N: 1}, {Kind: -1}, {N: -1}} {
			b := a
			b.Color = c
			wantCheck(t, b, false)
		}
		for _, s := range []string{"t", "\x00", strings.Repeat("x", 600)} {
			b := a
			b.Text = s
			wantCheck(t, b, false)
		}
	}
}

func TestCheckKinds(t *testing.T) { // P10.1, kinds that are none
	for _, kind := range []int{math.MinInt, -1 << 32, -2, -1, 0, api.AcClip + 1, api.AcClip + 2, 100, 255, 256, 1<<32 + 2, math.MaxInt} {
		for _, a := range []api.Action{act(kind), act(kind, 1), act(kind, 1, 1), act(kind, 'a'), {Kind: kind, Text: "t"}, {Kind: kind, Color: api.Color{Kind: api.ClRgb}}} {
			wantCheck(t, a, false)
		}
	}
}

func TestCheckEvent(t *testing.T) { // P10.1, every kind of event, whatever its other fields are
	for kind := api.EvPrint; kind <= api.EvDcs; kind++ {
		for _, e := range []api.Event{
			{},
			{Code: math.MinInt}, {Code: math.MaxInt}, {Private: 255, Final: 255},
			{Inter: "\xFF\x00 and more than two"}, {Text: strings.Repeat("x", 5000)},
			{Params: []api.Param{}}, {Params: row(0)}, {Params: row(9999)}, {Params: row(-1, -1)}, {Params: []api.Param{one(-1, -1)}},
			{Params: row(-1, 1, 2, 3, 4, 5, 6, 7, 8, 9, 10, 11, 12, 13, 14, 15)}, {Params: []api.Param{one(1, 2, 3, 4, 5, 6)}},
		} {
			e.Kind = kind
			if got := action.CheckEvent(e); got != api.OK {
				t.Errorf("CheckEvent(%+v) = %d", e, got)
			}
			wantOf(t, e, wanted(e)...)
		}
	}
}

// wrongParams are parameters that are not valid.
var wrongParams = [][]api.Param{
	row(-1), {one()}, {one(1), one()}, {one(), one(1)}, {{Subs: []int{}}},
	row(-2), row(1, -2), row(10000), row(1, 10000), {one(1, 10000)}, {one(1, 2, 3, 4, 5, -2)}, row(math.MinInt), row(math.MaxInt), row(1 << 32),
	{one(1, 2, 3, 4, 5, 6, 7)}, {one(1), one(1, 2, 3, 4, 5, 6, 7)},
	row(1, 2, 3, 4, 5, 6, 7, 8, 9, 10, 11, 12, 13, 14, 15, 16, 17),
}

func TestCheckEventWrong(t *testing.T) { // P10.1 and P10.2, wrong kinds, and wrong parameters in every kind, also where they are ignored
	for _, kind := range []int{math.MinInt, -1, 0, 7, 8, 255, 1<<32 + 1, math.MaxInt} {
		for _, e := range []api.Event{{}, {Code: 'a'}, {Code: 7}, {Final: 'H'}, {Text: "2;t"}, {Params: row(1)}, {Params: row(-1)}} {
			e.Kind = kind
			wantWrong(t, e)
		}
	}
	for kind := api.EvPrint; kind <= api.EvDcs; kind++ {
		for _, l := range wrongParams {
			for _, e := range []api.Event{{}, {Code: 'a'}, {Code: 7}, {Final: '7'}, {Final: 'H'}, {Final: 'm'}, {Private: '?', Final: 'h'}, {Text: "2;t"}} {
				e.Kind = kind
				e.Params = l
				wantWrong(t, e)
			}
		}
	}
}
