package sgr_test

import (
	"math"
	"math/rand"
	"slices"
	"testing"

	"fenestra/api"
	"fenestra/param"
	"fenestra/sgr"
)

func TestLimits(t *testing.T) { // the numbers that the tests write out are those of api
	if api.MaxParams != 16 || api.MaxSubs != 6 || api.MaxParam != 9999 || api.ErrLong != 3 || api.ErrPen != 141 || api.ErrParams != 150 {
		t.Error("limits or errors differ")
	}
}

func TestNone(t *testing.T) { // P9.1, no parameters
	wantPens(t, nil, plain(api.PnReset, 0))
	wantPens(t, []api.Param{}, plain(api.PnReset, 0))
}

func TestTable(t *testing.T) { // P9.1, every row of the table with one part, alone and among others
	if len(tableRows) != 1+7+2+1+2+1+6+32+3 {
		t.Fatalf("the table has %d values", len(tableRows))
	}
	for v, a := range tableRows {
		wantPens(t, row(v), a)
		wantPens(t, row(v, v), a, a)
		wantPens(t, row(1, v, 24), set(api.AtBold), a, under(0))
	}
}

func TestEveryValue(t *testing.T) { // P9.1, every value with one part, alone and before another parameter
	for v := range 10000 {
		a, is := tableRows[v]
		if is {
			wantPens(t, row(v), a)
			wantPens(t, row(v, 9), a, set(api.AtStrike))
		} else {
			wantPens(t, row(v))
			wantPens(t, row(v, 9), set(api.AtStrike))
		}
	}
}

func TestRanges(t *testing.T) { // P9.1, the limits of the ranges of colors, and the values on both sides of them
	for _, c := range []struct {
		v    int
		want []api.Action
	}{
		{29, []api.Action{clears(api.AtStrike)}}, {30, []api.Action{index(api.PnFore, 0)}}, {37, []api.Action{index(api.PnFore, 7)}}, {38, nil},
		{39, []api.Action{plain(api.PnFore, 0)}}, {40, []api.Action{index(api.PnBack, 0)}}, {47, []api.Action{index(api.PnBack, 7)}}, {48, nil},
		{49, []api.Action{plain(api.PnBack, 0)}}, {50, nil}, {57, nil}, {58, nil}, {59, []api.Action{plain(api.PnLine, 0)}}, {60, nil},
		{89, nil}, {90, []api.Action{index(api.PnFore, 8)}}, {97, []api.Action{index(api.PnFore, 15)}}, {98, nil},
		{99, nil}, {100, []api.Action{index(api.PnBack, 8)}}, {107, []api.Action{index(api.PnBack, 15)}}, {108, nil},
		{10, nil}, {20, nil}, {21, []api.Action{under(2)}}, {26, nil}, {52, nil}, {53, []api.Action{set(api.AtOver)}}, {54, nil}, {55, []api.Action{clears(api.AtOver)}}, {56, nil},
	} {
		wantPens(t, row(c.v), c.want...)
	}
}

func TestMissing(t *testing.T) { // P9.1, a first part of -1 has the value 0
	reset := plain(api.PnReset, 0)
	wantPens(t, row(-1, -1), reset, reset)
	wantPens(t, row(-1, 1), reset, set(api.AtBold))
	wantPens(t, row(1, -1), set(api.AtBold), reset)
	wantPens(t, row(38, -1), reset)
	wantPens(t, row(-1, 5, 3), reset, set(api.AtBlink), set(api.AtItalic))
	wantPens(t, slices.Repeat(row(-1), 16), slices.Repeat([]api.Action{reset}, 16)...)
	for _, p := range []api.Param{one(-1, -1), one(-1, 0), one(-1, 4), one(-1, 5, 1), one(-1, 2, 1, 2, 3), one(-1, 2, -1, 1, 2, 3)} {
		wantPens(t, []api.Param{p})
		wantPens(t, []api.Param{p, one(1)}, set(api.AtBold))
	}
}

func TestMoreParts(t *testing.T) { // P9.1, values with more parts than the table gives them denote none
	for v := -1; v < 10000; v++ {
		if v != 4 {
			wantPens(t, []api.Param{one(v, 1)})
			wantPens(t, []api.Param{one(v, -1), one(3)}, set(api.AtItalic))
		}
		if colorPens[v] == 0 {
			wantPens(t, []api.Param{one(v, 5, 1)})
			wantPens(t, []api.Param{one(v, 2, 1, 2)})
			wantPens(t, []api.Param{one(v, 2, 1, 2, 3)})
			wantPens(t, []api.Param{one(v, 2, -1, 1, 2, 3), one(3)}, set(api.AtItalic))
		}
	}
}

func TestUnder(t *testing.T) { // P9.1, the value 4 with every second part, and with more parts
	for n := -1; n < 10000; n++ {
		if 0 <= n && n <= 5 {
			wantPens(t, []api.Param{one(4, n)}, under(n))
			wantPens(t, []api.Param{one(4, n), one(4)}, under(n), under(1))
		} else {
			wantPens(t, []api.Param{one(4, n)})
			wantPens(t, []api.Param{one(4, n), one(4)}, under(1))
		}
	}
	for _, p := range []api.Param{one(4, 3, -1), one(4, 3, 0), one(4, 5, 1), one(4, 2, 1, 2), one(4, 2, 1, 2, 3), one(4, 2, 0, 1, 2, 3)} {
		wantPens(t, []api.Param{p})
	}
	wantPens(t, row(4, 3), under(1), set(api.AtItalic))
}

func TestIndex(t *testing.T) { // P9.1, an index in the parts of a parameter, and in several parameters
	for v, n := range colorPens {
		for i := range 256 {
			wantPens(t, []api.Param{one(v, 5, i)}, index(n, i))
			wantPens(t, row(v, 5, i), index(n, i))
			wantPens(t, append(row(v, 5, i), one(7)), index(n, i), set(api.AtInverse))
		}
		for _, i := range []int{256, 257, 511, 512, 9999} {
			wantPens(t, []api.Param{one(v, 5, i)})
			wantPens(t, []api.Param{one(v, 5, i), one(7)}, set(api.AtInverse))
			wantPens(t, row(v, 5, i))
			wantPens(t, row(v, 5, i, 7), set(api.AtInverse))
		}
	}
}

func TestMissingIndex(t *testing.T) { // P9.1, -1 is no index in parts, but a parameter of -1 has the value 0
	for v, n := range colorPens {
		wantPens(t, []api.Param{one(v, 5, -1)})
		wantPens(t, []api.Param{one(v, -1, 5)})
		wantPens(t, row(v, 5, -1), index(n, 0))
		wantPens(t, row(v, 5, -1, 7), index(n, 0), set(api.AtInverse))
		wantPens(t, row(v, -1, 5), plain(api.PnReset, 0), set(api.AtBlink))
	}
}

// threes are triples of numbers with 0, 255, and numbers between in each place.
func threes() (all [][]int) {
	for _, r := range []int{0, 1, 128, 254, 255} {
		for _, g := range []int{0, 2, 127, 255} {
			for _, b := range []int{0, 3, 200, 255} {
				all = append(all, []int{r, g, b})
			}
		}
	}
	for i := range 256 {
		all = append(all, []int{i, 1, 2}, []int{1, i, 2}, []int{1, 2, i})
	}
	return all
}

func TestRgb(t *testing.T) { // P9.1, each form of red, green and blue
	for v, n := range colorPens {
		for _, c := range threes() {
			want := rgb(n, c[0]<<16+c[1]<<8+c[2])
			wantPens(t, []api.Param{one(v, 2, c[0], c[1], c[2])}, want)
			wantPens(t, row(v, 2, c[0], c[1], c[2]), want)
			wantPens(t, append(row(v, 2, c[0], c[1], c[2]), one(7)), want, set(api.AtInverse))
			for _, space := range []int{-1, 0, 1, 255, 256, 9999} {
				wantPens(t, []api.Param{one(v, 2, space, c[0], c[1], c[2])}, want)
			}
		}
	}
	for space := -1; space < 10000; space++ {
		wantPens(t, []api.Param{one(58, 2, space, 1, 2, 3)}, rgb(api.PnLine, 0x010203))
	}
}

func TestRgbTooGreat(t *testing.T) { // P9.1, numbers above 255 in each place
	for v := range colorPens {
		for at := range 3 {
			for _, n := range []int{256, 257, 511, 512, 9999} {
				c := []int{1, 2, 3}
				c[at] = n
				wantPens(t, []api.Param{one(v, 2, c[0], c[1], c[2])})
				wantPens(t, []api.Param{one(v, 2, -1, c[0], c[1], c[2])})
				wantPens(t, []api.Param{one(v, 2, 0, c[0], c[1], c[2]), one(7)}, set(api.AtInverse))
				wantPens(t, row(v, 2, c[0], c[1], c[2]))
				wantPens(t, row(v, 2, c[0], c[1], c[2], 7), set(api.AtInverse))
			}
		}
	}
}

func TestMissingRgb(t *testing.T) { // P9.1, -1 is no number in parts, but a parameter of -1 has the value 0
	for v, n := range colorPens {
		for at, want := range []int{0x000203, 0x010003, 0x010200} {
			c := []int{1, 2, 3}
			c[at] = -1
			wantPens(t, []api.Param{one(v, 2, c[0], c[1], c[2])})
			wantPens(t, []api.Param{one(v, 2, 7, c[0], c[1], c[2])})
			wantPens(t, row(v, 2, c[0], c[1], c[2]), rgb(n, want))
			wantPens(t, row(v, 2, c[0], c[1], c[2], 7), rgb(n, want), set(api.AtInverse))
		}
		wantPens(t, []api.Param{one(v, -1, 1, 2, 3)})
		wantPens(t, []api.Param{one(v, -1, 2, 1, 2, 3)})
		wantPens(t, row(v, 2, -1, -1, -1), rgb(n, 0))
		wantPens(t, row(v, -1, 1, 2, 3), plain(api.PnReset, 0), set(api.AtBold), set(api.AtDim), set(api.AtItalic))
	}
}

func TestColorParts(t *testing.T) { // P9.1, colors with two to seven parts
	for v, n := range colorPens {
		for _, c := range []struct {
			p    api.Param
			want []api.Action
		}{
			{one(v, 5), nil}, {one(v, 2), nil}, {one(v, -1), nil},
			{one(v, 5, 9), []api.Action{index(n, 9)}}, {one(v, 2, 9), nil}, {one(v, 1, 9), nil},
			{one(v, 5, 9, 9), nil}, {one(v, 2, 9, 9), nil}, {one(v, 5, -1, 9), nil},
			{one(v, 5, 9, 9, 9), nil}, {one(v, 2, 9, 9, 9), []api.Action{rgb(n, 0x090909)}}, {one(v, 3, 9, 9, 9), nil},
			{one(v, 5, 9, 9, 9, 9), nil}, {one(v, 2, 9, 9, 9, 9), []api.Action{rgb(n, 0x090909)}}, {one(v, 1, 9, 9, 9, 9), nil},
			{one(v, 5, -1, 9, 9, 9), nil}, {one(v, 4, -1, 9, 9, 9), nil},
		} {
			wantPens(t, []api.Param{c.p}, c.want...)
			wantPens(t, []api.Param{c.p, one(7)}, append(c.want, set(api.AtInverse))...)
		}
		for _, kind := range []int{2, 5} {
			wantNoPens(t, []api.Param{one(v, kind, 9, 9, 9, 9, 9)})
			wantNoPens(t, []api.Param{one(1), one(v, kind, -1, 9, 9, 9, 9)})
		}
	}
}

func TestColorKinds(t *testing.T) { // P9.1, every second number but 5 and 2 starts no color, in any form
	for second := -1; second < 300; second++ {
		if second == 2 || second == 5 {
			continue
		}
		wantPens(t, []api.Param{one(38, second, 1)})
		wantPens(t, []api.Param{one(48, second, 1, 1, 1)})
		wantPens(t, []api.Param{one(58, second, -1, 1, 1, 1)})
		for v := range colorPens {
			l := row(v, second, 3, 1, 1)
			wantRead(t, l)
			if got, _ := sgr.Pens(l); len(got) < 3 {
				t.Errorf("Pens(%v) has %d pens", l, len(got))
			}
		}
	}
}

func TestIncomplete(t *testing.T) { // P9.1, a color that is cut off takes all parameters that are left, wherever it stands
	for v := range colorPens {
		for left := range 15 {
			front := slices.Repeat(row(1), left)
			want := slices.Repeat([]api.Action{set(api.AtBold)}, left)
			wantPens(t, append(slices.Clip(front), one(v)), want...)
			for _, l := range [][]api.Param{row(v, 5), row(v, 2), row(v, 2, 1), row(v, 2, 1, 3), {one(v), one(2), one(4, 3)}, {one(v), one(2), one(4, 3), one(4)}} {
				if left+len(l) <= 16 {
					wantPens(t, append(slices.Clip(front), l...), want...)
				}
			}
		}
	}
}

func TestTaken(t *testing.T) { // P9.1, three or five parameters are consumed where they denote no color
	for v := range colorPens {
		for more := range 12 {
			rest := slices.Repeat(row(1), more)
			want := slices.Repeat([]api.Action{set(api.AtBold)}, more)
			wantPens(t, append(row(v, 5, 256), rest...), want...)
			wantPens(t, append([]api.Param{one(v), one(5), one(4, 3)}, rest...), want...)
			wantPens(t, append([]api.Param{one(v), one(5), one(v, 5, 1)}, rest...), want...)
			wantPens(t, append(row(v, 2, 300, 4, 4), rest...), want...)
			for at := range 3 {
				l := row(v, 2, 1, 3, 4)
				l[2+at] = one(4, 3)
				wantPens(t, append(l, rest...), want...)
				l[2+at] = one(1, -1)
				wantPens(t, append(slices.Clip(l), rest...), want...)
			}
		}
	}
}

func TestApart(t *testing.T) { // P9.1, a color whose first or second parameter has more parts takes no others
	for v := range colorPens {
		wantPens(t, []api.Param{one(v, 5), one(5), one(1)}, set(api.AtBlink), set(api.AtBold))
		wantPens(t, []api.Param{one(v, -1), one(5), one(1)}, set(api.AtBlink), set(api.AtBold))
		wantPens(t, []api.Param{one(v, 2), one(2), one(1), one(3), one(4)}, set(api.AtDim), set(api.AtBold), set(api.AtItalic), under(1))
		wantPens(t, []api.Param{one(v), one(5, 1), one(1)}, set(api.AtBold))
		wantPens(t, []api.Param{one(v), one(5, -1), one(1)}, set(api.AtBold))
		wantPens(t, []api.Param{one(v), one(2, 1), one(1), one(3), one(4)}, set(api.AtBold), set(api.AtItalic), under(1))
		wantPens(t, []api.Param{one(v), one(4, 5), one(1)}, under(5), set(api.AtBold))
		wantPens(t, []api.Param{one(v), one(v, 5, 1), one(1)}, index(colorPens[v], 1), set(api.AtBold))
		wantPens(t, row(v, v, 5, 1), index(colorPens[v], 1))
		wantPens(t, row(v))
	}
}

func TestTogether(t *testing.T) { // P9.1, colors one behind the other, up to sixteen parameters
	wantPens(t, row(38, 5, 1, 48, 5, 2, 58, 5, 3, 38, 2, 1, 2, 3, 58, 5), index(api.PnFore, 1), index(api.PnBack, 2), index(api.PnLine, 3), rgb(api.PnFore, 0x010203))
	wantPens(t, row(38, 2, 1, 2, 3, 48, 2, 4, 5, 6, 58, 2, 7, 8, 9, 1), rgb(api.PnFore, 0x010203), rgb(api.PnBack, 0x040506), rgb(api.PnLine, 0x070809), set(api.AtBold))
	wantPens(t, row(38, 5, 38, 5, 38, 5), index(api.PnFore, 38), set(api.AtBlink))
	wantPens(t, row(38, 2, 38, 5, 38, 5, 38), rgb(api.PnFore, 0x260526), set(api.AtBlink))
	wantPens(t, []api.Param{one(38, 5, 1), one(5), one(2)}, index(api.PnFore, 1), set(api.AtBlink), set(api.AtDim))
}

func TestPensWrong(t *testing.T) { // P9.1, parameters that are not valid, with the error of their layer
	wrong := [][]api.Param{row(-1), {{}}, {{Subs: []int{}}}, row(-2), row(10000), {one(4, 10000)}, {one(1, 2, 3, 4, 5, 6, 7)}}
	for _, n := range []int{17, 18, 100, 5000} {
		wrong = append(wrong, slices.Repeat(row(1), n), slices.Repeat(row(-1), n))
	}
	for _, n := range []int{-2, -100, 10000, 1 << 32, 1<<32 + 1, math.MinInt, math.MaxInt} {
		for at := range 16 {
			l := slices.Repeat(row(1), 16)
			l[at] = one(n)
			wrong = append(wrong, slices.Clone(l))
			l[at] = one(38, 2, n, 1, 2, 3)
			wrong = append(wrong, slices.Clone(l))
		}
		wrong = append(wrong, row(38, 5, n), row(38, 2, 1, 2, n), []api.Param{one(38, 5, n)})
	}
	for at := range 16 {
		l := slices.Repeat(row(1), 16)
		l[at] = api.Param{}
		wrong = append(wrong, l)
	}
	for _, l := range wrong {
		if param.Check(l) != api.ErrParams {
			t.Fatalf("%v is valid", l)
		}
		wantNoPens(t, l)
	}
}

func TestAllShort(t *testing.T) { // P9.1, all lists of some parameters, against a second reading
	count := 0
	check := func(l []api.Param) {
		if !isLone(l) {
			wantRead(t, l)
			count++
		}
	}
	lists([]api.Param{one(-1), one(1), one(2), one(5), one(38), one(4, 3), one(256)}, 6, check)
	lists([]api.Param{one(0), one(4), one(2), one(5), one(48), one(58), one(99), one(255), one(38, 5), one(38, 5, 7), one(58, 2, 1, 2, 3), one(-1, -1)}, 4, check)
	if count < 100000 {
		t.Errorf("only %d lists", count)
	}
}

func TestAllParts(t *testing.T) { // P9.1, all single parameters of some parts, against a second reading
	parts := []int{-1, 2, 4, 5, 38, 255, 256}
	var grow func(p api.Param)
	grow = func(p api.Param) {
		if len(p.Subs) > 0 && !isLone([]api.Param{p}) {
			wantRead(t, []api.Param{p})
		}
		if len(p.Subs) < 6 {
			for _, n := range parts {
				grow(one(append(slices.Clip(p.Subs), n)...))
			}
		}
	}
	grow(api.Param{})
}

func TestRandomParams(t *testing.T) { // P9.1, against a second reading
	r := rand.New(rand.NewSource(9))
	for range 40000 {
		wantRead(t, someParams(r))
	}
}
