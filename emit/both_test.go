package emit_test

import (
	"math/rand"
	"slices"
	"testing"

	"fenestra/action"
	"fenestra/api"
	"fenestra/emit"
	"fenestra/state"
)

// read returns the actions of bytes that arrive in pieces of up to most bytes at a parser in its initial state, which must be in that state again behind them.
func read(t *testing.T, b []byte, most int) (all []api.Action) {
	t.Helper()
	var p api.Parse
	for piece := range slices.Chunk(b, most) {
		var events []api.Event
		var e api.Errno
		if p, events, e = state.Feed(p, piece); e != api.OK {
			t.Fatalf("Feed(%q) returns %d", piece, e)
		}
		for _, event := range events {
			l, e := action.Of(event)
			if e != api.OK {
				t.Fatalf("Of(%+v) returns %d", event, e)
			}
			all = append(all, l...)
		}
	}
	if !state.Same(p, api.Parse{}) {
		t.Fatalf("behind %q the parse is %+v", b, p)
	}
	return all
}

// wantBack asks that the bytes of l are read back as l.
func wantBack(t *testing.T, l []api.Action, most int) {
	t.Helper()
	b, e := emit.Bytes(l)
	if e != api.OK {
		t.Fatalf("Bytes(%+v) returns %d", l, e)
	}
	if got := read(t, b, most); !slices.Equal(got, l) {
		t.Fatalf("%.300q is read back as %+v, not as %+v", b, got, l)
	}
}

func TestBackEach(t *testing.T) { // P11.3, every action on its own
	for _, a := range someActions() {
		wantBack(t, []api.Action{a}, 4096)
		wantBack(t, []api.Action{a, a}, 4096)
	}
}

func TestBackPrints(t *testing.T) { // P11.3, every code point that an action prints
	var l []api.Action
	for n := range 0x110000 {
		if a := act(api.AcPrint, n); action.Check(a) == api.OK {
			l = append(l, a)
		}
	}
	for part := range slices.Chunk(l, api.MaxActions) {
		wantBack(t, part, 4096)
	}
}

// fewActions returns at least one action of each form.
func fewActions() []api.Action {
	return slices.Concat(plainActions([]int{0, 1, 2, 3, 6, 9999}), prints("a\\中\u0301[m0;"), []api.Action{
		pen(api.PnReset, 0), pen(api.PnSet, api.AtBold), pen(api.PnUnder, 1), pen(api.PnUnder, 2), pen(api.PnClear, api.AtItalic), pen(api.PnLine, 0), index(api.PnFore, 2), index(api.PnFore, 5), index(api.PnBack, 255), rgb(api.PnLine, 0x010203), rgb(api.PnFore, 0),
		title(""), title("t"), title("\\"), clip(""), clip("c"), palette(5, 0x050505),
	})
}

func TestBackPairs(t *testing.T) { // P11.3, every action behind every other one; none of the sequences of up to two have the same bytes
	all := fewActions()
	seen := map[string]bool{"": true}
	use := func(l ...api.Action) {
		wantBack(t, l, 4096)
		b, _ := emit.Bytes(l)
		if seen[string(b)] {
			t.Fatalf("%q is also what another sequence than %+v has", b, l)
		}
		seen[string(b)] = true
	}
	for _, a := range all {
		use(a)
		for _, b := range all {
			use(a, b)
		}
	}
}

func TestBackPens(t *testing.T) { // P11.3, runs of pens of every length up to a hundred
	pens := somePens()
	for n := range 101 {
		for from := 0; from+n <= len(pens); from += 29 {
			wantBack(t, pens[from:from+n], 4096)
			wantBack(t, slices.Concat(prints("a"), pens[from:from+n], prints("b")), 4096)
		}
	}
}

func TestBackLists(t *testing.T) { // P11.3, random lists, in pieces of all sizes
	r := rand.New(rand.NewSource(14))
	all, pens := someActions(), somePens()
	for range 2000 {
		wantBack(t, someList(r, all, pens, 120), 1+r.Intn(1<<r.Intn(13)))
	}
}

func TestConcatenation(t *testing.T) { // P11.2, the bytes of two lists follow each other, unless their pens meet
	r := rand.New(rand.NewSource(15))
	all, pens := someActions(), somePens()
	met := 0
	for range 2000 {
		a, b := someList(r, all, pens, 40), someList(r, all, pens, 40)
		first, _ := emit.Bytes(a)
		second, _ := emit.Bytes(b)
		if len(a) > 0 && len(b) > 0 && a[len(a)-1].Kind == api.AcPen && b[0].Kind == api.AcPen {
			met++
			wantListed(t, slices.Concat(a, b))
			continue
		}
		wantBytes(t, slices.Concat(a, b), string(first)+string(second))
	}
	if met == 0 {
		t.Error("no pens met")
	}
}
