package action_test

import (
	"math/rand"
	"reflect"
	"slices"
	"strings"
	"testing"

	"fenestra/action"
	"fenestra/api"
	"fenestra/state"
)

func TestExamples(t *testing.T) { // the chapter's table
	wantOf(t, csi("", "", 'H', row(5, 0)...), act(api.AcCursor, 5, 1))
	wantOf(t, csi("", "", 'H'), act(api.AcCursor, 1, 1))
	wantOf(t, csi("?", "", 'l', row(25, 7)...), act(api.AcDec, 25, 0), act(api.AcDec, 7, 0))
	wantNothing(t, csi("", "", 'K', row(3)...))
	wantOf(t, csi("", "", 'K', row(2)...), act(api.AcEraseLine, 2))
	wantOf(t, esc(")", '0'), act(api.AcSet, 1, api.SetLines))
	wantNothing(t, esc("(", 'A'))
	wantOf(t, csi("?", "$", 'p', row(6)...), act(api.AcAskMode, 6, 1))
	wantOf(t, csi("", " ", 'q', row(4)...), act(api.AcShape, 4))
	wantOf(t, oscText("2;t"), title("t"))
	wantNothing(t, control(5))
	wantNothing(t, api.Event{Kind: api.EvPrint, Code: 0x9F})
}

// wantRead asks that the bytes of text, as they arrive at a terminal, stand for these actions.
func wantRead(t *testing.T, text string, want ...api.Action) {
	t.Helper()
	_, events, code := state.Feed(api.Parse{}, []byte(text))
	if code != api.OK {
		t.Fatalf("Feed(%q) returns %d", text, code)
	}
	var got []api.Action
	for _, e := range events {
		l, code := action.Of(e)
		if code != api.OK || action.CheckEvent(e) != api.OK {
			t.Fatalf("Of(%+v) returns %d", e, code)
		}
		got = append(got, l...)
	}
	if !slices.Equal(got, want) {
		t.Fatalf("%q stands for %+v, not %+v", text, got, want)
	}
}

func TestBytes(t *testing.T) { // P10.2, from the bytes of programs
	wantRead(t, "é中\x1b[2J\x1b[;5H\r\n", act(api.AcPrint, 0xE9), act(api.AcPrint, 0x4E2D), act(api.AcErase, 2), act(api.AcCursor, 1, 5), act(api.AcReturn), act(api.AcFeed))
	wantRead(t, "\x1b[?1049h\x1b[?25;2004l\x1b[4h", act(api.AcDec, 1049, 1), act(api.AcDec, 25, 0), act(api.AcDec, 2004, 0), act(api.AcMode, 4, 1))
	wantRead(t, "\x1b[1;31ma\x1b[m", pen(api.PnSet, api.AtBold), penColor(api.PnFore, api.ClIndex, 1), act(api.AcPrint, 'a'), pen(api.PnReset, 0))
	wantRead(t, "\x1b(0q\x0f\x0e\x1bNa\x1b)B", act(api.AcSet, 0, 1), act(api.AcPrint, 'q'), act(api.AcLock, 0), act(api.AcLock, 1), act(api.AcSingle, 2), act(api.AcPrint, 'a'), act(api.AcSet, 1, 0))
	wantRead(t, "\x1b]2;hi\x07\x1b]4;1;rgb:01/02/03\x1b\\\x1b]52;c;Zg==\x07", title("hi"), palette(1, 0x010203), clip("f"))
	wantRead(t, "\x1b[c\x1b[>c\x1b[5n\x1b[?6$p\x1b[20$p", act(api.AcAsk, 0), act(api.AcAsk, 1), act(api.AcReport, 5), act(api.AcAskMode, 6, 1), act(api.AcAskMode, 20, 0))
	wantRead(t, "\x1b[3 q\x1b[!p\x1bc\x1b#8\x1b=\x1b>\x1b7\x1b8", act(api.AcShape, 3), act(api.AcReset), act(api.AcReset), act(api.AcAlign), act(api.AcKeypad, 1), act(api.AcKeypad, 0), act(api.AcSave), act(api.AcRestore))
	wantRead(t, "\x1b[>1c\x1b[?n\x1b[9z\x1bP2;t\x1b\\\x1b]1;x\x07\x05\x1b[7 q\x1b[1g")
}

func TestValid(t *testing.T) { // P10.3, of random bytes; wantOf asks the same of all other events
	r := rand.New(rand.NewSource(31))
	parts := strings.Split("\x1b[|\x1b[?|\x1b[>|\x1b|\x1b]|\x1bP|1|2|;|;|:|38|5|h|l|m|H|J|$p| q|!p|(|0|B|a|中|\x07|\x0e|\x1b\\|2;t|rgb:00/00/00|99999", "|")
	for range 3000 {
		var b []byte
		for range r.Intn(60) {
			b = append(b, parts[r.Intn(len(parts))]...)
		}
		_, events, _ := state.Feed(api.Parse{}, b)
		for _, e := range events {
			if action.CheckEvent(e) != api.OK {
				t.Fatalf("Feed(%q) has %+v", b, e)
			}
			wantOf(t, e, wanted(e)...)
		}
	}
}

func TestKept(t *testing.T) { // R3 and R5: no call writes to its argument, nor to its spare capacity
	const mark = 4711
	r := rand.New(rand.NewSource(32))
	for range 5000 {
		e := someEvent(r)
		memory := append(slices.Clone(e.Params), one(mark), one(mark))
		for i := range memory {
			memory[i].Subs = append(slices.Clone(memory[i].Subs), mark)[:len(memory[i].Subs)]
		}
		before := make([][]int, len(memory))
		for i, p := range memory {
			before[i] = slices.Clone(p.Subs[:len(p.Subs)+1])
		}
		e.Params = memory[:len(e.Params)]
		want := wanted(e)
		action.CheckEvent(e)
		wantOf(t, e, want...)
		for i, p := range memory {
			if !slices.Equal(p.Subs[:cap(p.Subs)][:len(before[i])], before[i]) {
				t.Fatalf("a call changed %v to %v", before[i], p.Subs)
			}
		}
	}
}

func TestApart(t *testing.T) { // R5: what is done to a result changes no other one, and calls repeated answer the same
	for _, e := range []api.Event{csi("", "", 'm', row(1, 31, 4)...), csi("?", "", 'h', row(25, 7)...), csi("", "", 'H'), esc("", 'c'), oscText("2;t"), control(7), {Kind: api.EvPrint, Code: 'a'}} {
		want := wanted(e)
		for range 3 {
			got, code := action.Of(e)
			if code != api.OK || !reflect.DeepEqual(got, want) {
				t.Fatalf("Of(%+v) = %+v, %d", e, got, code)
			}
			for i := range got {
				got[i] = api.Action{Kind: 99, N: 99, Text: "changed"}
			}
			_ = append(got, got...)
		}
	}
}
