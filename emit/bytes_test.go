package emit_test

import (
	"math/rand"
	"slices"
	"strings"
	"testing"

	"fenestra/api"
	"fenestra/emit"
)

func TestExamples(t *testing.T) { // the chapter's table
	wantBytes(t, []api.Action{act(api.AcCursor, 1, 1), act(api.AcCursor, 5, 1), act(api.AcCursor, 1, 5), act(api.AcCursor, 2, 3)}, "\x1B[H\x1B[5H\x1B[;5H\x1B[2;3H")
	wantBytes(t, []api.Action{act(api.AcMove, 2, 1), act(api.AcMove, 2, 7), act(api.AcErase, 0), act(api.AcErase, 2)}, "\x1B[C\x1B[7C\x1B[J\x1B[2J")
	wantBytes(t, []api.Action{pen(api.PnSet, api.AtBold), index(api.PnFore, 1), act(api.AcPrint, 'a'), pen(api.PnReset, 0)}, "\x1B[1;31ma\x1B[0m")
	wantBytes(t, []api.Action{act(api.AcDec, 25, 1), act(api.AcAskMode, 0, 0), act(api.AcMargins, 0, 4), act(api.AcShape, 0)}, "\x1B[?25h\x1B[0$p\x1B[;4r\x1B[ q")
	wantBytes(t, []api.Action{title("t"), act(api.AcSet, 3, 1), act(api.AcLock, 1)}, "\x1B]2;t\x1B\\\x1B+0\x0E")
}

func TestEmpty(t *testing.T) { // P11.2, no actions
	wantBytes(t, nil, "")
	wantBytes(t, []api.Action{}, "")
}

func TestJoined(t *testing.T) { // P11.2, only pens are joined, and only those that follow each other
	wantBytes(t, prints("a中é"), "a中é")
	wantBytes(t, []api.Action{act(api.AcMove, 2, 1), act(api.AcMove, 2, 1)}, "\x1B[C\x1B[C")
	wantBytes(t, []api.Action{act(api.AcDec, 25, 1), act(api.AcDec, 7, 1), act(api.AcMode, 4, 1), act(api.AcMode, 20, 1)}, "\x1B[?25h\x1B[?7h\x1B[4h\x1B[20h")
	wantBytes(t, []api.Action{pen(api.PnReset, 0), pen(api.PnReset, 0)}, "\x1B[0;0m")
	wantBytes(t, []api.Action{pen(api.PnUnder, 1), pen(api.PnUnder, 3), rgb(api.PnLine, 0x010203), index(api.PnBack, 200)}, "\x1B[4;4:3;58:2::1:2:3;48:5:200m")
	for _, a := range slices.Concat(plainActions([]int{0, 1, 2, 3, 5}), someTexts(), prints("a中\u0301")) {
		wantBytes(t, []api.Action{pen(api.PnSet, api.AtBold), a, pen(api.PnSet, api.AtItalic), index(api.PnFore, 1), a, a, pen(api.PnReset, 0)}, "\x1B[1m"+wanted(a)+"\x1B[3;31m"+wanted(a)+wanted(a)+"\x1B[0m")
	}
}

func TestGroups(t *testing.T) { // P11.2, runs of pens are split from the start into groups of sixteen
	bold, dim := pen(api.PnSet, api.AtBold), pen(api.PnSet, api.AtDim)
	sixteen := "\x1B[1;1;1;1;1;1;1;1;1;1;1;1;1;1;1;2m"
	group := append(slices.Repeat([]api.Action{bold}, 15), dim)
	wantBytes(t, group, sixteen)
	wantBytes(t, append(slices.Clip(group), dim), sixteen+"\x1B[2m")
	wantBytes(t, slices.Concat(group, group), sixteen+sixteen)
	wantBytes(t, slices.Concat(group, group, []api.Action{bold, dim}), sixteen+sixteen+"\x1B[1;2m")
	wantBytes(t, slices.Concat([]api.Action{bold}, group), "\x1B[1;1;1;1;1;1;1;1;1;1;1;1;1;1;1;1m\x1B[2m")
	wantBytes(t, slices.Concat(group, prints("a"), group), sixteen+"a"+sixteen)
	wantBytes(t, slices.Concat([]api.Action{dim}, prints("a"), group, []api.Action{dim}), "\x1B[2ma"+sixteen+"\x1B[2m")
}

func TestRuns(t *testing.T) { // P11.2, runs of every length up to seventy, between other actions and without them
	pens := somePens()
	for n := range 71 {
		for from := 0; from+n <= len(pens); from += 7 {
			run := pens[from : from+n]
			wantListed(t, run)
			wantListed(t, slices.Concat(prints("a"), run))
			wantListed(t, slices.Concat(run, prints("b")))
			wantListed(t, slices.Concat(run, []api.Action{act(api.AcBell)}, run, []api.Action{title("t")}, run))
		}
	}
}

func TestLongest(t *testing.T) { // P11.2, MaxActions actions, and more, also where some are not valid
	for _, a := range []api.Action{act(api.AcPrint, 'a'), pen(api.PnReset, 0), act(api.AcCursor, 9999, 9999)} {
		l := slices.Repeat([]api.Action{a}, 131072)
		wantListed(t, l)
		for _, wrong := range []int{0, 70000, 131071} {
			m := slices.Clone(l)
			m[wrong] = act(api.AcPrint, 7)
			wantNoBytes(t, m, api.ErrAction)
			wantNoBytes(t, append(m, a), api.ErrLong)
		}
		l = append(l, a)
		wantNoBytes(t, l, api.ErrLong)
		l[131072] = api.Action{}
		wantNoBytes(t, l, api.ErrLong)
	}
	wantNoBytes(t, make([]api.Action, 131073), api.ErrLong)
	wantNoBytes(t, make([]api.Action, 131072), api.ErrAction)
	wantNoBytes(t, make([]api.Action, 300000), api.ErrLong)
}

func TestLongTexts(t *testing.T) { // P11.2, many bytes
	a := title(strings.Repeat("t", 510))
	wantBytes(t, slices.Repeat([]api.Action{a}, 20000), strings.Repeat(wanted(a), 20000))
}

func TestWrongAnywhere(t *testing.T) { // P11.2, an action that is not valid at each place, among pens and among others
	wrong := wrongActions()
	for i, a := range wrong {
		for _, around := range []api.Action{act(api.AcPrint, 'a'), pen(api.PnSet, api.AtBold)} {
			l := slices.Repeat([]api.Action{around}, 20)
			l[i%20] = a
			wantNoBytes(t, l, api.ErrAction)
			l[(i+7)%20] = wrong[(i+1)%len(wrong)]
			wantNoBytes(t, l, api.ErrAction)
		}
	}
}

func TestEveryCode(t *testing.T) { // P11.2, every code point that an action prints, by way of long lists
	var codes []rune
	for n := rune(0x20); n < 0x110000; n++ {
		if n < 0x7F || n > 0x9F && n < 0xD800 || n > 0xDFFF {
			codes = append(codes, n)
		}
	}
	for part := range slices.Chunk(codes, api.MaxActions) {
		wantBytes(t, prints(string(part)), string(part))
	}
}

func TestLists(t *testing.T) { // P11.2, random lists against the table
	r := rand.New(rand.NewSource(11))
	all, pens := someActions(), somePens()
	for range 3000 {
		wantListed(t, someList(r, all, pens, 120))
	}
}

func TestListsWrong(t *testing.T) { // P11.2, random lists that are not valid
	r := rand.New(rand.NewSource(12))
	all, pens, wrong := someActions(), somePens(), wrongActions()
	for range 2000 {
		l := append(someList(r, all, pens, 60), all[0])
		l[r.Intn(len(l))] = wrong[r.Intn(len(wrong))]
		wantNoBytes(t, l, api.ErrAction)
	}
}

func TestKept(t *testing.T) { // R3 and R5: no call writes to its argument, nor to its spare capacity
	r := rand.New(rand.NewSource(13))
	all, pens := someActions(), somePens()
	for range 500 {
		memory := append(someList(r, all, pens, 60), act(api.AcBell), act(api.AcTab))
		before := slices.Clone(memory)
		l := memory[:len(memory)-2]
		wantListed(t, l)
		emit.One(memory[0])
		if !slices.Equal(memory, before) {
			t.Fatalf("a call changed its argument to %+v", memory)
		}
	}
}

func TestApart(t *testing.T) { // R5: what is done to a result changes no other one, and calls repeated answer the same
	for _, l := range [][]api.Action{prints("ab"), {act(api.AcBell)}, {act(api.AcMove, 2, 7)}, {pen(api.PnReset, 0), pen(api.PnUnder, 3)}, {title("t")}, {clip("c"), act(api.AcAsk, 1)}} {
		for range 3 {
			one, _ := emit.One(l[0])
			b, e := emit.Bytes(l)
			if e != api.OK || string(b) != wantedAll(l) || string(one) != wanted(l[0]) {
				t.Fatalf("Bytes(%+v) = %q, One = %q", l, b, one)
			}
			for i := range b {
				b[i] = 'x'
			}
			for i := range one {
				one[i] = 'y'
			}
			_, _ = append(b, b...), append(one, one...)
		}
	}
}
