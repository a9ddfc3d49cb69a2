package style_test

import (
	"math"
	"math/rand"
	"slices"
	"testing"

	"fenestra/api"
	"fenestra/style"
)

// far are numbers that no field of a valid style or pen has, some of them right in their lowest bits.
var far = []int{-1, -2, -4, -255, -256, 256, 257, 260, 0x10000, 0x1000000, math.MinInt, math.MinInt + 1, math.MinInt32, math.MaxInt32, 1 << 31, 1 << 32, 1<<32 + 1, 1<<32 + 3, 1<<32 + 4, 1<<40 + 4, 1 << 62, math.MaxInt}

// attributes are the eight attributes, as the chapter's table of api numbers them.
var attributes = []int{1, 2, 4, 8, 16, 32, 64, 128}

// goodColors are valid colors, the limits of each Kind among them.
var goodColors = []api.Color{{}, {Kind: 1}, {Kind: 1, N: 1}, {Kind: 1, N: 255}, {Kind: 2}, {Kind: 2, N: 1}, {Kind: 2, N: 256}, {Kind: 2, N: 0xFFFFFF}}

// badColors are colors just beyond the limits of each Kind, and of no Kind.
var badColors = []api.Color{{N: 1}, {N: -1}, {N: 255}, {Kind: 1, N: -1}, {Kind: 1, N: 256}, {Kind: 2, N: -1}, {Kind: 2, N: 0x1000000}, {Kind: -1}, {Kind: 3}, {Kind: 3, N: 1}, {Kind: math.MinInt}, {Kind: 1 << 32}, {Kind: 1<<32 + 1, N: 1}}

func index(n int) api.Color { return api.Color{Kind: api.ClIndex, N: n} }

func pen(n, m int) api.Action { return api.Action{Kind: api.AcPen, N: n, M: m} }

func colored(n int, c api.Color) api.Action { return api.Action{Kind: api.AcPen, N: n, Color: c} }

// valid returns all pens of the chapter's table, row by row; of the colors, those of goodColors.
func valid() (all []api.Action) {
	all = append(all, pen(0, 0))
	for _, m := range attributes {
		all = append(all, pen(1, m))
	}
	for _, m := range []int{3, 4, 8, 16, 32, 64, 128} {
		all = append(all, pen(2, m))
	}
	for m := range 6 {
		all = append(all, pen(3, m))
	}
	for n := 4; n <= 6; n++ {
		for _, c := range goodColors {
			all = append(all, colored(n, c))
		}
	}
	return all
}

// invalid returns actions that are no pens, and pens that are not valid.
func invalid() (all []api.Action) {
	good := valid()
	for _, a := range good {
		for _, kind := range []int{0, 1, -1, api.AcPen - 1, api.AcPen + 1, api.AcClip, api.AcClip + 1, 1<<32 + api.AcPen, math.MinInt, math.MaxInt} {
			b := a
			b.Kind = kind
			all = append(all, b)
		}
		for _, text := range []string{"x", "\x00", " ", "\xff"} {
			b := a
			b.Text = text
			all = append(all, b)
		}
		for _, c := range slices.Concat(goodColors[1:], badColors) {
			if b := a; a.N < api.PnFore {
				b.Color = c
				all = append(all, b)
			}
		}
		for _, m := range []int{1, 2, 5, 255, -1, 1 << 32} {
			if b := a; a.N >= api.PnFore {
				b.M = m
				all = append(all, b)
			}
		}
		for _, n := range append([]int{7, 8, 255}, far...) {
			b := a
			b.N = n
			all = append(all, b)
		}
	}
	for n := range 7 {
		for _, m := range far {
			all = append(all, pen(n, m))
		}
		for m := -10; m < 520; m++ {
			if a := pen(n, m); !slices.Contains(good, a) {
				all = append(all, a)
			}
		}
	}
	for n := 4; n <= 6; n++ {
		for _, c := range badColors {
			all = append(all, colored(n, c))
		}
	}
	return all
}

// someStyles returns valid styles: all attributes and underlines with some colors, and all colors in all places.
func someStyles() (all []api.Style) {
	for attr := range 256 {
		for under := range 6 {
			at := attr*6 + under
			all = append(all, api.Style{Attr: attr, Under: under, Fore: goodColors[at%8], Back: goodColors[at/8%8], Line: goodColors[at/3%8]})
		}
	}
	for _, c := range goodColors {
		for _, d := range goodColors {
			all = append(all, api.Style{Fore: c, Back: d}, api.Style{Attr: 255, Back: c, Line: d}, api.Style{Under: 5, Fore: c, Line: d})
		}
	}
	return all
}

// badStyles returns styles that are not valid, and the error of each.
func badStyles() map[api.Style]api.Errno {
	all := map[api.Style]api.Errno{}
	for _, n := range append([]int{6, 7, 255}, far...) {
		for _, c := range append(badColors, goodColors...) {
			// Out of range comes first, whatever the colors are.
			all[api.Style{Under: n, Fore: c}] = api.ErrStyle
			all[api.Style{Under: n, Back: c, Attr: 255}] = api.ErrStyle
			all[api.Style{Under: n, Line: c, Attr: n}] = api.ErrStyle
		}
	}
	for _, n := range far {
		for _, c := range append(badColors, goodColors...) {
			all[api.Style{Attr: n, Fore: c}] = api.ErrStyle
			all[api.Style{Attr: n, Back: c, Under: 5}] = api.ErrStyle
			all[api.Style{Attr: n, Line: c}] = api.ErrStyle
		}
	}
	for _, c := range badColors {
		all[api.Style{Fore: c}] = api.ErrColor
		all[api.Style{Back: c}] = api.ErrColor
		all[api.Style{Line: c}] = api.ErrColor
		all[api.Style{Attr: 255, Under: 5, Fore: index(1), Back: c, Line: index(2)}] = api.ErrColor
		all[api.Style{Attr: 255, Under: 5, Fore: c, Back: c, Line: c}] = api.ErrColor
	}
	return all
}

// after returns the style after a valid pen, attribute by attribute, as the chapter's table says.
func after(s api.Style, a api.Action) api.Style {
	switch a.N {
	case 0:
		return api.Style{}
	case 1, 2:
		var on [8]bool
		for i, bit := range attributes {
			on[i] = s.Attr/bit%2 == 1
			if a.M/bit%2 == 1 {
				on[i] = a.N == 1
			}
		}
		s.Attr = 0
		for i, bit := range attributes {
			if on[i] {
				s.Attr += bit
			}
		}
	case 3:
		s.Under = a.M
	case 4:
		s.Fore = a.Color
	case 5:
		s.Back = a.Color
	case 6:
		s.Line = a.Color
	}
	return s
}

func TestNumbers(t *testing.T) { // the numbers that the tests write out are those of api
	for i, got := range []int{api.AtBold, api.AtDim, api.AtItalic, api.AtBlink, api.AtInverse, api.AtHidden, api.AtStrike, api.AtOver} {
		if got != attributes[i] {
			t.Errorf("attribute %d is %d", i, got)
		}
	}
	for want, got := range []int{api.PnReset, api.PnSet, api.PnClear, api.PnUnder, api.PnFore, api.PnBack, api.PnLine} {
		if got != want {
			t.Errorf("pen %d is %d", want, got)
		}
	}
}

func TestCheck(t *testing.T) { // P4.1, every Attr and Under, and their neighbours
	for attr := -300; attr < 600; attr++ {
		for under := -10; under < 20; under++ {
			want := api.OK
			if attr < 0 || attr > 255 || under < 0 || under > 5 {
				want = api.ErrStyle
			}
			if got := style.Check(api.Style{Attr: attr, Under: under}); got != want {
				t.Errorf("Check of Attr %d, Under %d = %d, not %d", attr, under, got, want)
			}
		}
	}
	for _, s := range someStyles() {
		if got := style.Check(s); got != api.OK {
			t.Errorf("Check(%v) = %d", s, got)
		}
	}
}

func TestCheckWrong(t *testing.T) { // P4.1, wrong numbers, wrong colors in each place, and which error comes first
	for s, want := range badStyles() {
		if got := style.Check(s); got != want {
			t.Errorf("Check(%v) = %d, not %d", s, got, want)
		}
	}
}

func TestCheckPen(t *testing.T) { // P4.1, each row of the table
	all := valid()
	if len(all) != 1+8+7+6+3*8 {
		t.Fatalf("%d pens", len(all))
	}
	for _, a := range all {
		if got := style.CheckPen(a); got != api.OK {
			t.Errorf("CheckPen(%v) = %d", a, got)
		}
	}
	for n := range 0x100 {
		for k := 4; k <= 6; k++ {
			if got := style.CheckPen(colored(k, index(n))); got != api.OK {
				t.Errorf("CheckPen of pen %d with index %d = %d", k, n, got)
			}
		}
	}
}

func TestCheckPenWrong(t *testing.T) { // P4.1, actions that are no pens, wrong M, wrong colors, other fields
	for _, a := range invalid() {
		if got := style.CheckPen(a); got != api.ErrPen {
			t.Errorf("CheckPen(%v) = %d", a, got)
		}
	}
	if got := style.CheckPen(api.Action{}); got != api.ErrPen {
		t.Errorf("CheckPen of the zero action = %d", got)
	}
}

func TestCheckPenWeight(t *testing.T) { // P4.1, AtBold and AtDim alone and together under PnClear
	for m, want := range map[int]api.Errno{
		api.AtBold:                              api.ErrPen,
		api.AtDim:                               api.ErrPen,
		api.AtBold + api.AtDim:                  api.OK,
		api.AtBold + api.AtItalic:               api.ErrPen,
		api.AtDim + api.AtItalic:                api.ErrPen,
		api.AtBold + api.AtDim + api.AtItalic:   api.ErrPen,
		api.AtItalic + api.AtBlink:              api.ErrPen,
		api.AtItalic:                            api.OK,
		api.AtOver:                              api.OK,
		api.AtOver * 2:                          api.ErrPen,
		api.AtAll:                               api.ErrPen,
		0:                                       api.ErrPen,
		-(api.AtBold + api.AtDim):               api.ErrPen,
		1<<32 + api.AtBold + api.AtDim:          api.ErrPen,
		math.MinInt + api.AtBold + api.AtDim:    api.ErrPen,
		math.MinInt | api.AtItalic:              api.ErrPen,
		api.AtAll + 1 + api.AtBold + api.AtDim:  api.ErrPen,
		api.AtAll - api.AtBold - api.AtDim:      api.ErrPen,
		api.AtStrike + api.AtBold + api.AtDim:   api.ErrPen,
		api.AtInverse:                           api.OK,
		api.AtInverse + api.AtHidden:            api.ErrPen,
		api.AtHidden + api.AtDim + api.AtStrike: api.ErrPen,
	} {
		if got := style.CheckPen(pen(api.PnClear, m)); got != want {
			t.Errorf("CheckPen of PnClear %d = %d, not %d", m, got, want)
		}
	}
}

func TestApply(t *testing.T) { // P4.2, every pen on styles of all attributes and underlines
	for _, s := range someStyles() {
		for _, a := range valid() {
			if got, e := style.Apply(s, a); got != after(s, a) || e != api.OK {
				t.Fatalf("Apply(%v, %v) = %v, %d, not %v", s, a, got, e, after(s, a))
			}
		}
	}
}

func TestApplyWrong(t *testing.T) { // P4.2, the error of the style comes ahead of that of the pen
	bad := []api.Action{{}, pen(1, 3), pen(2, 1), colored(4, index(256)), {Kind: api.AcBell}}
	for s, want := range badStyles() {
		for _, a := range append(bad, pen(0, 0), pen(1, 1), colored(5, index(1))) {
			if got, e := style.Apply(s, a); got != (api.Style{}) || e != want {
				t.Fatalf("Apply(%v, %v) = %v, %d, not %d", s, a, got, e, want)
			}
			for _, l := range [][]api.Action{nil, {}, {a}, {pen(0, 0), a}} {
				if got, e := style.Run(s, l); got != (api.Style{}) || e != want {
					t.Fatalf("Run(%v, %v) = %v, %d, not %d", s, l, got, e, want)
				}
			}
		}
	}
	s := api.Style{Attr: 255, Under: 5, Fore: index(1), Back: index(2), Line: index(3)}
	for _, a := range invalid() {
		if got, e := style.Apply(s, a); got != (api.Style{}) || e != api.ErrPen {
			t.Fatalf("Apply(%v, %v) = %v, %d", s, a, got, e)
		}
	}
}

func TestRun(t *testing.T) { // P4.2, lists of all lengths up to 40 and a long one
	r := rand.New(rand.NewSource(4))
	pens, styles := valid(), someStyles()
	list := func(n int) (l []api.Action) {
		for range n {
			l = append(l, pens[r.Intn(len(pens))])
		}
		return l
	}
	for n := range 41 {
		for range 50 {
			s, l := styles[r.Intn(len(styles))], list(n)
			want, kept := s, slices.Clone(l)
			for _, a := range l {
				want = after(want, a)
			}
			if got, e := style.Run(s, l); got != want || e != api.OK {
				t.Fatalf("Run(%v, %v) = %v, %d, not %v", s, l, got, e, want)
			}
			if !slices.Equal(l, kept) {
				t.Fatalf("Run changed its list to %v", l)
			}
		}
	}
	l := list(api.MaxActions)
	want := api.Style{}
	for _, a := range l {
		want = after(want, a)
	}
	if got, e := style.Run(api.Style{}, l); got != want || e != api.OK {
		t.Errorf("Run of a long list = %v, %d, not %v", got, e, want)
	}
}

func TestRunOrder(t *testing.T) { // P4.2, the pens are applied in order
	for _, x := range []struct {
		l    []api.Action
		want api.Style
	}{
		{nil, api.Style{Attr: api.AtBlink}},
		{[]api.Action{}, api.Style{Attr: api.AtBlink}},
		{[]api.Action{pen(1, 1), pen(0, 0)}, api.Style{}},
		{[]api.Action{pen(0, 0), pen(1, 1)}, api.Style{Attr: api.AtBold}},
		{[]api.Action{pen(1, 4), pen(2, 4)}, api.Style{Attr: api.AtBlink}},
		{[]api.Action{pen(2, 4), pen(1, 4)}, api.Style{Attr: api.AtBlink | api.AtItalic}},
		{[]api.Action{pen(3, 1), pen(3, 2)}, api.Style{Attr: api.AtBlink, Under: 2}},
		{[]api.Action{colored(4, index(1)), colored(4, index(2))}, api.Style{Attr: api.AtBlink, Fore: index(2)}},
		{[]api.Action{colored(4, index(1)), colored(5, index(2)), colored(6, index(3)), colored(4, api.Color{})}, api.Style{Attr: api.AtBlink, Back: index(2), Line: index(3)}},
	} {
		if got, e := style.Run(api.Style{Attr: api.AtBlink}, x.l); got != x.want || e != api.OK {
			t.Errorf("Run(%v) = %v, %d, not %v", x.l, got, e, x.want)
		}
	}
}

func TestRunWrong(t *testing.T) { // P4.2, a wrong pen at any place of the list
	good := []api.Action{pen(1, 1), pen(3, 3), colored(4, index(1)), pen(0, 0)}
	for _, a := range []api.Action{{}, pen(1, 3), pen(2, 1), pen(2, 2), pen(3, 6), pen(7, 0), colored(6, index(256)), {Kind: api.AcPen, Text: "x"}, {Kind: api.AcBell}} {
		for i := range len(good) + 1 {
			l := slices.Insert(slices.Clone(good), i, a)
			if got, e := style.Run(api.Style{Attr: 1}, l); got != (api.Style{}) || e != api.ErrPen {
				t.Errorf("Run(%v) = %v, %d", l, got, e)
			}
		}
	}
}

func TestInverse(t *testing.T) { // P4.3 and P4.4, for arbitrary styles
	all := someStyles()
	for s := range badStyles() {
		all = append(all, s)
	}
	for _, s := range all {
		got := style.Inverse(s)
		want := s
		if s.Attr&16 != 0 {
			want.Attr = s.Attr &^ 16
		} else {
			want.Attr = s.Attr | 16
		}
		if got != want || got == s {
			t.Errorf("Inverse(%v) = %v, not %v", s, got, want)
		}
		if got := style.Inverse(got); got != s {
			t.Errorf("Inverse twice of %v = %v", s, got)
		}
	}
	if got := style.Inverse(api.Style{}); got != (api.Style{Attr: api.AtInverse}) {
		t.Errorf("Inverse of the zero style = %v", got)
	}
}

func TestSeen(t *testing.T) { // P4.3, for arbitrary styles
	all := someStyles()
	for s := range badStyles() {
		all = append(all, s)
	}
	for attr := range 256 {
		all = append(all, api.Style{Attr: attr, Under: 1, Fore: index(1), Back: index(2), Line: index(3)})
	}
	for _, s := range all {
		wantFore, wantBack := s.Fore, s.Back
		switch {
		case s.Attr&16 != 0 && s.Attr&32 != 0:
			wantFore, wantBack = s.Fore, s.Fore
		case s.Attr&16 != 0:
			wantFore, wantBack = s.Back, s.Fore
		case s.Attr&32 != 0:
			wantFore, wantBack = s.Back, s.Back
		}
		if fore, back := style.Seen(s); fore != wantFore || back != wantBack {
			t.Errorf("Seen(%v) = %v, %v, not %v, %v", s, fore, back, wantFore, wantBack)
		}
	}
}

func TestValidStays(t *testing.T) { // P4.4, a valid pen makes a valid style, and once is as good as twice
	for _, s := range someStyles() {
		for _, a := range valid() {
			once, e := style.Apply(s, a)
			if e != api.OK || style.Check(once) != api.OK {
				t.Fatalf("Apply(%v, %v) = %v, %d", s, a, once, e)
			}
			if twice, e := style.Apply(once, a); twice != once || e != api.OK {
				t.Fatalf("Apply(%v, %v) = %v, %d, not the same again", once, a, twice, e)
			}
		}
	}
}

// properties returns what a pen affects: each attribute, the underline and each color has a bit of its own.
func properties(a api.Action) int {
	switch a.N {
	case 0:
		return 1<<12 - 1
	case 1, 2:
		return a.M
	}
	return 1 << (8 + a.N - 3)
}

func TestCommute(t *testing.T) { // P4.4, pens that affect different properties commute
	styles := someStyles()
	for i, a := range valid() {
		for j, b := range valid() {
			if properties(a)&properties(b) != 0 {
				continue
			}
			for k := range 20 {
				s := styles[(i*31+j*17+k*101)%len(styles)]
				one, e1 := style.Run(s, []api.Action{a, b})
				other, e2 := style.Run(s, []api.Action{b, a})
				if one != other || e1 != api.OK || e2 != api.OK {
					t.Fatalf("%v and %v on %v: %v, %d and %v, %d", a, b, s, one, e1, other, e2)
				}
			}
		}
	}
}

func TestReset(t *testing.T) { // P4.4, after a reset the previous style has no influence
	for i, s := range someStyles() {
		pens := valid()
		l := []api.Action{pen(0, 0), pens[i%len(pens)], pens[i/7%len(pens)]}
		want, _ := style.Run(api.Style{}, l[1:])
		if got, e := style.Run(s, l); got != want || e != api.OK {
			t.Fatalf("Run(%v, %v) = %v, %d, not %v", s, l, got, e, want)
		}
	}
}

func TestExamples(t *testing.T) { // the chapter's table of examples
	s, e := style.Run(api.Style{}, []api.Action{pen(api.PnSet, api.AtBold), pen(api.PnUnder, 3), colored(api.PnFore, index(1))})
	if s != (api.Style{Attr: 1, Under: 3, Fore: index(1)}) || e != api.OK {
		t.Errorf("set, under, fore: %v, %d", s, e)
	}
	cleared, e := style.Apply(s, pen(api.PnClear, api.AtBold+api.AtDim))
	if cleared != (api.Style{Under: 3, Fore: index(1)}) || e != api.OK {
		t.Errorf("clear: %v, %d", cleared, e)
	}
	for _, s := range []api.Style{s, cleared} {
		if reset, e := style.Apply(s, pen(api.PnReset, 0)); reset != (api.Style{}) || e != api.OK {
			t.Errorf("reset: %v, %d", reset, e)
		}
	}
	for _, a := range []api.Action{pen(api.PnSet, 3), pen(api.PnClear, api.AtBold), pen(api.PnUnder, 6), colored(api.PnFore, index(256)), {Kind: api.AcPen, N: api.PnSet, M: api.AtBold, Text: "x"}} {
		if e := style.CheckPen(a); e != api.ErrPen {
			t.Errorf("CheckPen(%v) = %d", a, e)
		}
	}
	both := api.Style{Attr: api.AtInverse, Fore: index(1), Back: index(2)}
	if fore, back := style.Seen(both); fore != index(2) || back != index(1) {
		t.Errorf("Seen(%v) = %v, %v", both, fore, back)
	}
	both.Attr |= api.AtHidden
	if fore, back := style.Seen(both); fore != index(1) || back != index(1) {
		t.Errorf("Seen(%v) = %v, %v", both, fore, back)
	}
}
