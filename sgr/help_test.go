package sgr_test

import (
	"math/rand"
	"reflect"
	"regexp"
	"slices"
	"strconv"
	"strings"
	"testing"

	"fenestra/api"
	"fenestra/sgr"
	"fenestra/style"
)

// one returns a parameter with these parts.
func one(subs ...int) api.Param { return api.Param{Subs: subs} }

// row returns parameters with one part each.
func row(numbers ...int) (l []api.Param) {
	for _, n := range numbers {
		l = append(l, one(n))
	}
	return l
}

func plain(n, m int) api.Action { return api.Action{Kind: api.AcPen, N: n, M: m} }

func set(m int) api.Action { return plain(api.PnSet, m) }

func clears(m int) api.Action { return plain(api.PnClear, m) }

func under(m int) api.Action { return plain(api.PnUnder, m) }

func index(n, i int) api.Action {
	return api.Action{Kind: api.AcPen, N: n, Color: api.Color{Kind: api.ClIndex, N: i}}
}

func rgb(n, c int) api.Action {
	return api.Action{Kind: api.AcPen, N: n, Color: api.Color{Kind: api.ClRgb, N: c}}
}

// The three colors of a style, by the values that start a color of each.
var (
	colorPens   = map[int]int{38: api.PnFore, 48: api.PnBack, 58: api.PnLine}
	colorValues = []int{38, 48, 58}
)

// table is the chapter's table of the values with one part, row by row.
func table() map[int]api.Action {
	all := map[int]api.Action{
		0: plain(api.PnReset, 0),
		1: set(api.AtBold), 2: set(api.AtDim), 3: set(api.AtItalic), 7: set(api.AtInverse), 8: set(api.AtHidden), 9: set(api.AtStrike), 53: set(api.AtOver),
		5: set(api.AtBlink), 6: set(api.AtBlink),
		4:  under(1),
		21: under(2), 24: under(0),
		22: clears(api.AtBold | api.AtDim),
		23: clears(api.AtItalic), 25: clears(api.AtBlink), 27: clears(api.AtInverse), 28: clears(api.AtHidden), 29: clears(api.AtStrike), 55: clears(api.AtOver),
		39: plain(api.PnFore, 0), 49: plain(api.PnBack, 0), 59: plain(api.PnLine, 0),
	}
	for i := range 8 {
		all[30+i], all[90+i] = index(api.PnFore, i), index(api.PnFore, i+8)
		all[40+i], all[100+i] = index(api.PnBack, i), index(api.PnBack, i+8)
	}
	return all
}

// write returns the text of parameters, with a semicolon behind each of them.
func write(l []api.Param) string {
	var b strings.Builder
	for _, p := range l {
		for i, n := range p.Subs {
			if i > 0 {
				b.WriteByte(':')
			}
			if n != -1 {
				b.WriteString(strconv.Itoa(n))
			}
		}
		b.WriteByte(';')
	}
	return b.String()
}

const number = `(\d{1,4})`

var (
	manyIndex = regexp.MustCompile(`^([345]8);5;(\d*);`)
	manyRgb   = regexp.MustCompile(`^([345]8);2;(\d*);(\d*);(\d*);`)
	lostIndex = regexp.MustCompile(`^[345]8;5;(?:[^;]*;){0,1}`)
	lostRgb   = regexp.MustCompile(`^[345]8;2;(?:[^;]*;){0,3}`)
	single    = regexp.MustCompile(`^([^;]*);`)
	underForm = regexp.MustCompile(`^4:([0-5])$`)
	indexForm = regexp.MustCompile(`^([345]8):5:` + number + `$`)
	rgbForm   = regexp.MustCompile(`^([345]8):2:` + number + `:` + number + `:` + number + `$`)
	spaceForm = regexp.MustCompile(`^([345]8):2:\d*:` + number + `:` + number + `:` + number + `$`)
	tableRows = table()
)

// atoi reads the number of a pattern, where no digits are 0.
func atoi(s string) int {
	n, _ := strconv.Atoi("0" + s)
	return n
}

// colorFound returns the pen of what a pattern of a color found: its value, and an index or three components.
func colorFound(found []string) (api.Action, bool) {
	if found == nil || slices.ContainsFunc(found[2:], func(s string) bool { return atoi(s) > 255 }) {
		return api.Action{}, false
	}
	pen := colorPens[atoi(found[1])]
	if len(found) == 3 {
		return index(pen, atoi(found[2])), true
	}
	return rgb(pen, atoi(found[2])*65536+atoi(found[3])*256+atoi(found[4])), true
}

// readOne returns the pen that the text of a single parameter denotes.
func readOne(s string) (api.Action, bool) {
	if !strings.Contains(s, ":") {
		a, is := tableRows[atoi(s)]
		return a, is
	}
	if m := underForm.FindStringSubmatch(s); m != nil {
		return under(atoi(m[1])), true
	}
	for _, form := range []*regexp.Regexp{indexForm, rgbForm, spaceForm} {
		if a, is := colorFound(form.FindStringSubmatch(s)); is {
			return a, true
		}
	}
	return api.Action{}, false
}

// read returns what Pens should for valid parameters, by patterns over their text.
func read(l []api.Param) (all []api.Action) {
	if len(l) == 0 {
		return []api.Action{plain(api.PnReset, 0)}
	}
	for s := write(l); s != ""; {
		a, is, used := api.Action{}, false, 0
		for _, form := range []*regexp.Regexp{manyIndex, manyRgb} {
			if m := form.FindStringSubmatch(s); m != nil && !is {
				a, is = colorFound(m)
				used = len(m[0])
			}
		}
		if !is {
			switch {
			case lostIndex.MatchString(s):
				used = len(lostIndex.FindString(s))
			case lostRgb.MatchString(s):
				used = len(lostRgb.FindString(s))
			default:
				m := single.FindStringSubmatch(s)
				a, is = readOne(m[1])
				used = len(m[0])
			}
		}
		if is {
			all = append(all, a)
		}
		s = s[used:]
	}
	return all
}

// parameter returns the parameter of a valid pen.
func parameter(a api.Action) api.Param {
	values := map[int]int{
		api.AtBold: 1, api.AtDim: 2, api.AtItalic: 3, api.AtBlink: 5, api.AtInverse: 7, api.AtHidden: 8, api.AtStrike: 9, api.AtOver: 53,
	}
	ends := map[int]int{
		api.AtBold | api.AtDim: 22, api.AtItalic: 23, api.AtBlink: 25, api.AtInverse: 27, api.AtHidden: 28, api.AtStrike: 29, api.AtOver: 55,
	}
	colors := map[int][4]int{ // the value of each pen: with an index below 8, from 8 to 15 less the index, with a longer color, without a color
		api.PnFore: {30, 82, 38, 39}, api.PnBack: {40, 92, 48, 49}, api.PnLine: {-1, -1, 58, 59},
	}
	c, v := a.Color.N, colors[a.N]
	switch {
	case a.N == api.PnReset:
		return one(0)
	case a.N == api.PnSet:
		return one(values[a.M])
	case a.N == api.PnClear:
		return one(ends[a.M])
	case a.N == api.PnUnder:
		return []api.Param{one(24), one(4), one(4, 2), one(4, 3), one(4, 4), one(4, 5)}[a.M]
	case a.Color.Kind == api.ClNone:
		return one(v[3])
	case a.Color.Kind == api.ClRgb:
		return one(v[2], 2, -1, c/65536, c/256%256, c%256)
	case a.N == api.PnLine || c > 15:
		return one(v[2], 5, c)
	case c < 8:
		return one(v[0] + c)
	}
	return one(v[1] + c)
}

// somePens returns all valid pens but those with a ClRgb, and of these some: each component with each value, and each bit.
func somePens() (all []api.Action) {
	all = append(all, plain(api.PnReset, 0), clears(api.AtBold|api.AtDim))
	for m := api.AtBold; m <= api.AtAll; m <<= 1 {
		all = append(all, set(m))
		if m > api.AtDim {
			all = append(all, clears(m))
		}
	}
	for m := range 6 {
		all = append(all, under(m))
	}
	for n := api.PnFore; n <= api.PnLine; n++ {
		all = append(all, plain(n, 0))
		for i := range 256 {
			all = append(all, index(n, i), rgb(n, i), rgb(n, i<<8), rgb(n, i<<16), rgb(n, 0xFFFFFF-i), rgb(n, i*0x10101))
		}
		for shift := range 24 {
			all = append(all, rgb(n, 1<<shift), rgb(n, 0xFFFFFF>>shift))
		}
		all = append(all, rgb(n, 0x010203), rgb(n, 0xFFFE80))
	}
	return all
}

// wrongPens returns actions that are no valid pens: other kinds, and every field that may not be as it is.
func wrongPens() (all []api.Action) {
	for kind := -1; kind <= api.AcClip+1; kind++ {
		if kind != api.AcPen {
			all = append(all, api.Action{Kind: kind}, api.Action{Kind: kind, N: api.PnSet, M: api.AtBold})
		}
	}
	red := api.Color{Kind: api.ClIndex, N: 1}
	for _, n := range []int{-1, 7, 8, 1 << 32} {
		all = append(all, plain(n, 0), plain(n, 1), index(n, 1))
	}
	for _, m := range []int{-1, 0, 3, 5, 255, 256, 257, 1 << 32} {
		all = append(all, set(m))
	}
	for _, m := range []int{-1, 0, api.AtBold, api.AtDim, 5, 6, 7, 12, 255, 256, 1 << 32} {
		all = append(all, clears(m))
	}
	for _, m := range []int{-1, 6, 7, 1<<32 + 1} {
		all = append(all, under(m))
	}
	all = append(all, plain(api.PnReset, 1), plain(api.PnReset, -1))
	for _, a := range []api.Action{plain(api.PnReset, 0), set(api.AtBold), clears(api.AtItalic), under(1), under(0)} {
		a.Color = red
		all = append(all, a)
	}
	for n := api.PnFore; n <= api.PnLine; n++ {
		all = append(all, plain(n, 1), index(n, -1), index(n, 256), rgb(n, -1), rgb(n, 1<<24), api.Action{Kind: api.AcPen, N: n, Color: api.Color{N: 1}}, api.Action{Kind: api.AcPen, N: n, Color: api.Color{Kind: 3}}, api.Action{Kind: api.AcPen, N: n, M: 1, Color: red})
	}
	for _, a := range []api.Action{plain(api.PnReset, 0), set(api.AtBold), clears(api.AtItalic), under(3), index(api.PnFore, 1), rgb(api.PnLine, 5), plain(api.PnBack, 0)} {
		a.Text = "x"
		all = append(all, a)
	}
	return all
}

// wantPens asks that Pens of l returns these pens, which must be valid.
func wantPens(t *testing.T, l []api.Param, want ...api.Action) {
	t.Helper()
	got, e := sgr.Pens(l)
	if e != api.OK || !slices.Equal(got, want) {
		t.Fatalf("Pens(%v) = %v, %d, not %v", l, got, e, want)
	}
	for _, a := range got {
		if style.CheckPen(a) != api.OK {
			t.Fatalf("Pens(%v) has %v, which is no valid pen", l, a)
		}
	}
}

// wantRead holds Pens of l against read.
func wantRead(t *testing.T, l []api.Param) {
	t.Helper()
	wantPens(t, l, read(l)...)
}

func wantNoPens(t *testing.T, l []api.Param) {
	t.Helper()
	if got, e := sgr.Pens(l); len(got) != 0 || e != api.ErrParams {
		t.Fatalf("Pens(%v) = %v, %d, not ErrParams", l, got, e)
	}
}

// equal compares parameters, where a nil slice equals an empty one.
func equal(a, b []api.Param) bool {
	return slices.EqualFunc(a, b, func(x, y api.Param) bool { return slices.Equal(x.Subs, y.Subs) })
}

func wantParams(t *testing.T, l []api.Action, want ...api.Param) {
	t.Helper()
	if got, e := sgr.Params(l); e != api.OK || !equal(got, want) {
		t.Fatalf("Params(%v) = %v, %d, not %v", l, got, e, want)
	}
}

// wantWritten holds Params of up to sixteen valid pens against parameter.
func wantWritten(t *testing.T, l []api.Action) {
	t.Helper()
	var want []api.Param
	for _, a := range l {
		want = append(want, parameter(a))
	}
	wantParams(t, l, want...)
}

func wantNoParams(t *testing.T, l []api.Action, want api.Errno) {
	t.Helper()
	if got, e := sgr.Params(l); len(got) != 0 || e != want {
		t.Fatalf("Params(%v) = %v, %d, not %d", l, got, e, want)
	}
}

// lists calls use with all lists of up to most elements of set.
func lists(set []api.Param, most int, use func(l []api.Param)) {
	var grow func(l []api.Param)
	grow = func(l []api.Param) {
		use(l)
		if len(l) < most {
			for _, p := range set {
				grow(append(slices.Clip(l), p))
			}
		}
	}
	grow(nil)
}

// isLone tells whether l is a single part of -1, which is not valid.
func isLone(l []api.Param) bool { return len(l) == 1 && reflect.DeepEqual(l[0].Subs, []int{-1}) }

// someParams returns up to sixteen parameters, most of them parts of colors.
func someParams(r *rand.Rand) (l []api.Param) {
	numbers := []int{-1, 0, 1, 2, 2, 2, 3, 4, 5, 5, 5, 6, 22, 30, 38, 38, 38, 47, 48, 48, 58, 58, 59, 97, 104, 127, 200, 255, 256, 9999}
	next := func() int { return numbers[r.Intn(len(numbers))] }
	for range r.Intn(17) {
		p := one(next())
		if r.Intn(4) == 0 {
			for range r.Intn(6) {
				p.Subs = append(p.Subs, next())
			}
		}
		if r.Intn(8) == 0 {
			p = one(colorValues[r.Intn(3)], 2, next(), r.Intn(257), r.Intn(257), r.Intn(257))
			p.Subs = p.Subs[:3+r.Intn(4)]
		}
		l = append(l, p)
	}
	if isLone(l) {
		return nil
	}
	return l
}
