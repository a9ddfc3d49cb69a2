package sgr_test

import (
	"math/rand"
	"slices"
	"testing"

	"fenestra/api"
	"fenestra/param"
	"fenestra/sgr"
	"fenestra/style"
)

func TestNoPens(t *testing.T) { // P9.2, no elements
	wantParams(t, nil)
	wantParams(t, []api.Action{})
}

func TestKinds(t *testing.T) { // P9.2, pens of each kind, and all attributes
	for _, c := range []struct {
		a    api.Action
		want api.Param
	}{
		{plain(api.PnReset, 0), one(0)},
		{set(api.AtBold), one(1)}, {set(api.AtDim), one(2)}, {set(api.AtItalic), one(3)}, {set(api.AtBlink), one(5)},
		{set(api.AtInverse), one(7)}, {set(api.AtHidden), one(8)}, {set(api.AtStrike), one(9)}, {set(api.AtOver), one(53)},
		{clears(api.AtBold | api.AtDim), one(22)}, {clears(api.AtItalic), one(23)}, {clears(api.AtBlink), one(25)},
		{clears(api.AtInverse), one(27)}, {clears(api.AtHidden), one(28)}, {clears(api.AtStrike), one(29)}, {clears(api.AtOver), one(55)},
		{under(0), one(24)}, {under(1), one(4)}, {under(2), one(4, 2)}, {under(3), one(4, 3)}, {under(4), one(4, 4)}, {under(5), one(4, 5)},
		{plain(api.PnFore, 0), one(39)}, {plain(api.PnBack, 0), one(49)}, {plain(api.PnLine, 0), one(59)},
		{index(api.PnFore, 0), one(30)}, {index(api.PnFore, 7), one(37)}, {index(api.PnFore, 8), one(90)}, {index(api.PnFore, 15), one(97)},
		{index(api.PnFore, 16), one(38, 5, 16)}, {index(api.PnFore, 255), one(38, 5, 255)},
		{index(api.PnBack, 0), one(40)}, {index(api.PnBack, 7), one(47)}, {index(api.PnBack, 8), one(100)}, {index(api.PnBack, 15), one(107)},
		{index(api.PnBack, 16), one(48, 5, 16)}, {index(api.PnBack, 255), one(48, 5, 255)},
		{index(api.PnLine, 0), one(58, 5, 0)}, {index(api.PnLine, 7), one(58, 5, 7)}, {index(api.PnLine, 8), one(58, 5, 8)}, {index(api.PnLine, 15), one(58, 5, 15)},
		{index(api.PnLine, 16), one(58, 5, 16)}, {index(api.PnLine, 255), one(58, 5, 255)},
		{rgb(api.PnFore, 0), one(38, 2, -1, 0, 0, 0)}, {rgb(api.PnFore, 0xFFFFFF), one(38, 2, -1, 255, 255, 255)},
		{rgb(api.PnBack, 0x010203), one(48, 2, -1, 1, 2, 3)}, {rgb(api.PnLine, 0x80FF00), one(58, 2, -1, 128, 255, 0)},
	} {
		wantParams(t, []api.Action{c.a}, c.want)
		wantParams(t, []api.Action{under(1), c.a, c.a}, one(4), c.want, c.want)
	}
}

func TestEveryPen(t *testing.T) { // P9.2, against a second reading
	for _, a := range somePens() {
		if style.CheckPen(a) != api.OK {
			t.Fatalf("%v is no valid pen", a)
		}
		wantWritten(t, []api.Action{a})
	}
}

func TestManyPens(t *testing.T) { // P9.2, every number of pens, in order
	all := somePens()
	for n := range 17 {
		for from := range len(all) - n {
			wantWritten(t, all[from:from+n])
		}
	}
}

func TestTooMany(t *testing.T) { // P9.2, sixteen pens, and more than sixteen
	for _, a := range []api.Action{plain(api.PnReset, 0), under(3), rgb(api.PnFore, 0xFF8000), index(api.PnLine, 1)} {
		wantParams(t, slices.Repeat([]api.Action{a}, 16), slices.Repeat([]api.Param{parameter(a)}, 16)...)
		for _, n := range []int{17, 18, 32, 100, 256, api.MaxActions, api.MaxActions + 1} {
			wantNoParams(t, slices.Repeat([]api.Action{a}, n), api.ErrLong)
		}
	}
}

func TestParamsWrong(t *testing.T) { // P9.2, pens that are not valid at each place of a list, also of more than sixteen
	for _, wrong := range wrongPens() {
		if style.CheckPen(wrong) != api.ErrPen {
			t.Fatalf("%v is a valid pen", wrong)
		}
		wantNoParams(t, []api.Action{wrong}, api.ErrPen)
		for _, n := range []int{2, 15, 16, 17, 18, 40} {
			for at := range n {
				l := slices.Repeat([]api.Action{set(api.AtBold)}, n)
				l[at] = wrong
				wantNoParams(t, l, api.ErrPen)
			}
		}
	}
	long := slices.Repeat([]api.Action{set(api.AtBold)}, api.MaxActions+1)
	long[len(long)-1] = api.Action{Kind: api.AcBell}
	wantNoParams(t, long, api.ErrPen)
}

func TestParamsValid(t *testing.T) { // P9.2, the parameters of up to sixteen pens are valid
	all := somePens()
	for from := 0; from+16 <= len(all); from += 16 {
		l, _ := sgr.Params(all[from : from+16])
		if param.Check(l) != api.OK || len(l) != 16 {
			t.Errorf("Params(%v) = %v", all[from:from+16], l)
		}
	}
}

func TestRandomPens(t *testing.T) { // P9.2, mixed pens, valid and not
	r := rand.New(rand.NewSource(10))
	right, wrong := somePens(), wrongPens()
	for range 50000 {
		var l []api.Action
		for range r.Intn(20) {
			l = append(l, right[r.Intn(len(right))])
		}
		switch {
		case len(l) > 0 && r.Intn(4) == 0:
			l[r.Intn(len(l))] = wrong[r.Intn(len(wrong))]
			wantNoParams(t, l, api.ErrPen)
		case len(l) > 16:
			wantNoParams(t, l, api.ErrLong)
		default:
			wantWritten(t, l)
		}
	}
}
