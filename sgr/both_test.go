package sgr_test

import (
	"math/rand"
	"reflect"
	"slices"
	"testing"

	"fenestra/api"
	"fenestra/param"
	"fenestra/sgr"
	"fenestra/style"
)

// wantInverse reads the parameters of l, which must be up to sixteen valid pens.
func wantInverse(t *testing.T, l []api.Action) {
	t.Helper()
	params, e := sgr.Params(l)
	if e != api.OK {
		t.Fatalf("Params(%v) returns %d", l, e)
	}
	if len(l) == 0 {
		wantPens(t, params, plain(api.PnReset, 0))
		return
	}
	wantPens(t, params, l...)
	text, e := param.Print(params)
	again, e2 := param.Parse(text)
	if e != api.OK || e2 != api.OK {
		t.Fatalf("the text of %v is %q, %d, %d", params, text, e, e2)
	}
	wantPens(t, again, l...)
}

func TestInverse(t *testing.T) { // P9.3, each pen alone, and lists of every length, also by way of their text
	wantInverse(t, nil)
	wantInverse(t, []api.Action{})
	all := somePens()
	for _, a := range all {
		wantInverse(t, []api.Action{a})
	}
	for n := 1; n <= 16; n++ {
		for from := 0; from+n <= len(all); from += 17 {
			wantInverse(t, all[from:from+n])
		}
	}
}

func TestPairs(t *testing.T) { // P9.3, every two pens of those that have a value of their own, and colors between them
	var few []api.Action
	for i, a := range somePens() {
		if p := parameter(a); len(p.Subs) < 3 || i%101 == 0 {
			few = append(few, a)
		}
	}
	for _, a := range few {
		for _, b := range few {
			wantInverse(t, []api.Action{a, b})
			wantInverse(t, []api.Action{a, b, a})
		}
	}
}

func TestRandomInverse(t *testing.T) { // P9.3
	r := rand.New(rand.NewSource(11))
	all := somePens()
	for range 10000 {
		var l []api.Action
		for range r.Intn(17) {
			a := all[r.Intn(len(all))]
			if a.Color.Kind == api.ClRgb {
				a.Color.N = r.Intn(1 << 24)
			}
			l = append(l, a)
		}
		wantInverse(t, l)
	}
}

func TestValidPens(t *testing.T) { // P9.3, whatever the parameters are; and these pens are read from their own parameters
	r := rand.New(rand.NewSource(12))
	count := map[int]int{}
	for range 30000 {
		l := someParams(r)
		got, e := sgr.Pens(l)
		if e != api.OK || len(got) > max(len(l), 1) {
			t.Fatalf("Pens(%v) = %v, %d", l, got, e)
		}
		for _, a := range got {
			if style.CheckPen(a) != api.OK {
				t.Fatalf("Pens(%v) has %v, which is no valid pen", l, a)
			}
			count[a.N]++
		}
		wantInverse(t, got)
	}
	for n := api.PnReset; n <= api.PnLine; n++ {
		if count[n] < 1000 {
			t.Errorf("only %d pens of kind %d", count[n], n)
		}
	}
}

func TestExamples(t *testing.T) { // the chapter's table
	reset, bold := plain(api.PnReset, 0), set(api.AtBold)
	for text, want := range map[string][]api.Action{
		"":             {reset},
		"0":            {reset},
		";":            {reset, reset},
		"1;31;4:3":     {bold, index(api.PnFore, 1), under(3)},
		"38;5;200;7":   {index(api.PnFore, 200), set(api.AtInverse)},
		"48:2::1:2:3":  {rgb(api.PnBack, 0x010203)},
		"58:2:1:2:3":   {rgb(api.PnLine, 0x010203)},
		"38;5;256;1":   {bold},
		"38;2;1;2":     nil,
		"38;1":         {bold},
		"97;104;21;99": {index(api.PnFore, 15), index(api.PnBack, 12), under(2)},
	} {
		l, e := param.Parse(text)
		if e != api.OK {
			t.Fatalf("Parse(%q) returns %d", text, e)
		}
		wantPens(t, l, want...)
	}
	l, e := sgr.Params([]api.Action{clears(api.AtBold | api.AtDim), index(api.PnBack, 9), under(1)})
	if text, _ := param.Print(l); text != "22;101;4" || e != api.OK {
		t.Errorf("Params = %q, %d", text, e)
	}
}

func TestPensKept(t *testing.T) { // R3 and R5: neither call writes to its arguments, nor to their spare capacity
	const mark = 4711
	r := rand.New(rand.NewSource(13))
	for range 2000 {
		memory := someParams(r)
		for i := range memory {
			memory[i].Subs = append(memory[i].Subs, mark)[:len(memory[i].Subs)]
		}
		memory = append(memory, one(mark), one(mark))
		before := slices.Clone(memory)
		var parts [][]int
		for _, p := range memory {
			parts = append(parts, slices.Clone(p.Subs[:len(p.Subs)+min(1, cap(p.Subs)-len(p.Subs))]))
		}
		if l := memory[: len(memory)-2 : cap(memory)]; !isLone(l) {
			wantRead(t, l)
		}
		if !reflect.DeepEqual(memory, before) {
			t.Fatalf("Pens changed %v to %v", before, memory)
		}
		for i, p := range memory {
			if !slices.Equal(p.Subs[:len(parts[i])], parts[i]) {
				t.Fatalf("Pens changed the parts %v to %v", parts[i], p.Subs[:len(parts[i])])
			}
		}
	}
	pens := append(somePens()[:20:20], set(api.AtBold), set(api.AtDim))
	before := slices.Clone(pens)
	wantWritten(t, pens[:16])
	if !slices.Equal(pens, before) {
		t.Errorf("Params changed %v to %v", before, pens)
	}
}

func TestApartResults(t *testing.T) { // R5: what is done to a result changes no other one, and no two parameters share memory
	l := row(1, 38, 5, 7, 38, 5, 200)
	for range 3 {
		got, _ := sgr.Pens(l)
		for i := range got {
			got[i] = api.Action{Kind: 99, N: 99, M: 99}
		}
		_ = append(got, got...)
	}
	wantRead(t, l)
	pens := []api.Action{set(api.AtBold), under(3), under(3), rgb(api.PnFore, 0x010203), index(api.PnBack, 77), under(1)}
	for range 3 {
		got, _ := sgr.Params(pens)
		for i := range got {
			for j := range got[i].Subs {
				got[i].Subs[j] = 99
			}
			got[i].Subs = append(got[i].Subs, 98)
			for k := i + 1; k < len(got); k++ {
				if want := parameter(pens[k]); !slices.Equal(got[k].Subs, want.Subs) {
					t.Fatalf("a change of parameter %d made parameter %d %v", i, k, got[k].Subs)
				}
			}
		}
	}
	wantWritten(t, pens)
}
