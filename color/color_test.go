package color_test

import (
	"fmt"
	"math"
	"strconv"
	"strings"
	"testing"

	"fenestra/api"
	"fenestra/color"
)

// basics are the indices 0 to 15 as the chapter writes them.
const basics = "000000, CD0000, 00CD00, CDCD00, 0000EE, CD00CD, 00CDCD, E5E5E5, 7F7F7F, FF0000, 00FF00, FFFF00, 5C5CFF, FF00FF, 00FFFF, FFFFFF"

// far are numbers that no Kind has as its N, some of them right in their lowest bits.
var far = []int{-1, -2, -255, -0xFFFFFF, 0x1000000, 0x1000001, 0x10000FF, 0xFFFFFFFF, math.MinInt, math.MinInt32, math.MaxInt32, 1 << 32, 1<<32 + 7, math.MaxInt}

// kinds are numbers that are no Kind.
var kinds = []int{-1, -2, 3, 4, 255, 256, math.MinInt, math.MaxInt, 1 << 32, 1<<32 + 1, 1<<32 + 2}

func index(n int) api.Color { return api.Color{Kind: api.ClIndex, N: n} }

func rgb(n int) api.Color { return api.Color{Kind: api.ClRgb, N: n} }

// invalid returns colors of all Kinds that are not valid.
func invalid() (all []api.Color) {
	for _, n := range far {
		all = append(all, api.Color{N: n}, index(n), rgb(n))
	}
	for _, kind := range kinds {
		all = append(all, api.Color{Kind: kind}, api.Color{Kind: kind, N: 1}, api.Color{Kind: kind, N: -1})
	}
	for _, n := range []int{1, 2, 255, 256, 0xFFFFFF} {
		all = append(all, api.Color{N: n})
	}
	for _, n := range []int{256, 257, 511, 0xFFFF, 0xFFFFFF} {
		all = append(all, index(n))
	}
	return all
}

// palette returns the palette as the chapter describes it, component by component.
func palette(t *testing.T) (all [][3]int) {
	t.Helper()
	for _, text := range strings.Split(basics, ", ") {
		var c [3]int
		for i := range c {
			n, err := strconv.ParseInt(text[2*i:2*i+2], 16, 0)
			if err != nil {
				t.Fatal(err)
			}
			c[i] = int(n)
		}
		all = append(all, c)
	}
	levels := []int{0, 95, 135, 175, 215, 255}
	for _, r := range levels {
		for _, g := range levels {
			for _, b := range levels {
				all = append(all, [3]int{r, g, b})
			}
		}
	}
	for level := 8; level <= 238; level += 10 {
		all = append(all, [3]int{level, level, level})
	}
	if len(all) != 256 {
		t.Fatalf("the palette has %d colors", len(all))
	}
	return all
}

func value(c [3]int) int { return c[0]*0x10000 + c[1]*0x100 + c[2] }

// apart is the distance of the chapter.
func apart(a, b [3]int) (sum int) {
	for i := range a {
		sum += (a[i] - b[i]) * (a[i] - b[i])
	}
	return sum
}

// closest returns all indices of the palette with the smallest distance to c, in ascending order.
func closest(all [][3]int, c [3]int) (least int, indices []int) {
	least = math.MaxInt
	for i, p := range all {
		d := apart(p, c)
		if d < least {
			least, indices = d, indices[:0]
		}
		if d == least {
			indices = append(indices, i)
		}
	}
	return least, indices
}

// sample calls use with RGB values spread over all of them, the limits of every component among them.
func sample(use func(c [3]int)) {
	var steps []int
	for n := 0; n < 0xFF; n += 7 {
		steps = append(steps, n)
	}
	steps = append(steps, 1, 0xFE, 0xFF)
	for _, r := range steps {
		for _, g := range steps {
			for _, b := range steps {
				use([3]int{r, g, b})
			}
		}
	}
}

func TestCheck(t *testing.T) { // P3.1, the limits of N for each Kind and their neighbours
	for _, x := range []struct {
		c    api.Color
		want api.Errno
	}{
		{api.Color{}, api.OK},
		{api.Color{Kind: api.ClNone, N: -1}, api.ErrColor},
		{api.Color{Kind: api.ClNone, N: 1}, api.ErrColor},
		{index(-1), api.ErrColor},
		{index(0), api.OK},
		{index(1), api.OK},
		{index(254), api.OK},
		{index(255), api.OK},
		{index(256), api.ErrColor},
		{rgb(-1), api.ErrColor},
		{rgb(0), api.OK},
		{rgb(1), api.OK},
		{rgb(255), api.OK},
		{rgb(256), api.OK},
		{rgb(0xFFFFFE), api.OK},
		{rgb(0xFFFFFF), api.OK},
		{rgb(0x1000000), api.ErrColor},
		{api.Color{Kind: -1}, api.ErrColor},
		{api.Color{Kind: 3}, api.ErrColor},
	} {
		if got := color.Check(x.c); got != x.want {
			t.Errorf("Check(%v) = %d, not %d", x.c, got, x.want)
		}
	}
	for _, c := range invalid() {
		if got := color.Check(c); got != api.ErrColor {
			t.Errorf("Check(%v) = %d", c, got)
		}
	}
	for n := -300; n < 600; n++ {
		want := api.ErrColor
		if 0 <= n && n <= 255 {
			want = api.OK
		}
		if got := color.Check(index(n)); got != want {
			t.Errorf("Check of index %d = %d, not %d", n, got, want)
		}
	}
}

func TestRgbParts(t *testing.T) { // P3.1, the first and last index of each part of the palette, and its neighbours
	for n, want := range map[int]int{
		0: 0x000000, 1: 0xCD0000, 7: 0xE5E5E5, 8: 0x7F7F7F, 14: 0x00FFFF, 15: 0xFFFFFF,
		16: 0x000000, 17: 0x00005F, 18: 0x000087, 21: 0x0000FF, 22: 0x005F00, 51: 0x00FFFF, 52: 0x5F0000, 87: 0x5FFFFF, 88: 0x870000, 195: 0xD7FFFF, 196: 0xFF0000, 230: 0xFFFFD7, 231: 0xFFFFFF,
		232: 0x080808, 233: 0x121212, 254: 0xE4E4E4, 255: 0xEEEEEE,
	} {
		if got, is := color.Rgb(index(n)); got != want || !is {
			t.Errorf("Rgb of index %d = %06X, %t, not %06X", n, got, is, want)
		}
	}
}

func TestRgbAll(t *testing.T) { // P3.1
	for n, want := range palette(t) {
		if got, is := color.Rgb(index(n)); got != value(want) || !is {
			t.Errorf("Rgb of index %d = %06X, %t, not %06X", n, got, is, value(want))
		}
	}
	sample(func(c [3]int) {
		if got, is := color.Rgb(rgb(value(c))); got != value(c) || !is {
			t.Fatalf("Rgb of %06X = %06X, %t", value(c), got, is)
		}
	})
}

func TestRgbNone(t *testing.T) { // P3.1
	for _, c := range append(invalid(), api.Color{}) {
		if got, is := color.Rgb(c); got != 0 || is {
			t.Errorf("Rgb(%v) = %06X, %t", c, got, is)
		}
	}
}

func TestNearest(t *testing.T) { // P3.1, values spread over all of them
	all := palette(t)
	ties := 0
	sample(func(c [3]int) {
		_, want := closest(all, c)
		if len(want) > 1 {
			ties++
		}
		if got, e := color.Nearest(value(c)); got != want[0] || e != api.OK {
			t.Fatalf("Nearest(%06X) = %d, %d, not the first of %v", value(c), got, e, want)
		}
	})
	if ties < 1000 {
		t.Errorf("only %d values are equally close to several colors", ties)
	}
}

func TestNearestGrays(t *testing.T) { // P3.1, where colors of all parts lie close together
	all := palette(t)
	for level := range 0x100 {
		for shade := max(0, level-3); shade <= min(0xFF, level+3); shade++ {
			for _, c := range [][3]int{{level, level, shade}, {level, shade, level}, {shade, level, level}} {
				_, want := closest(all, c)
				if got, e := color.Nearest(value(c)); got != want[0] || e != api.OK {
					t.Fatalf("Nearest(%06X) = %d, %d, not the first of %v", value(c), got, e, want)
				}
			}
		}
	}
}

func TestNearestTies(t *testing.T) { // P3.1, the smallest of several indices
	all := palette(t)
	for _, x := range []struct {
		rgb     int
		indices []int
	}{
		// Palette colors that occur twice.
		{0x000000, []int{0, 16}},
		{0xFF0000, []int{9, 196}},
		{0x00FF00, []int{10, 46}},
		{0xFFFF00, []int{11, 226}},
		{0xFF00FF, []int{13, 201}},
		{0x00FFFF, []int{14, 51}},
		{0xFFFFFF, []int{15, 231}},
		// Values in the middle between palette colors.
		{0x040404, []int{0, 16, 232}},
		{0x0D0D0D, []int{232, 233}},
		{0xDFDFDF, []int{253, 254}},
		{0x00BE00, []int{2, 34}},
		{0x7B6E87, []int{8, 96}},
		{0x000073, []int{17, 18}},
		{0x007373, []int{23, 24, 29, 30}},
		{0x00EBEB, []int{14, 44, 45, 50, 51}},
		{0x4873EB, []int{12, 62, 63, 68, 69}},
		{0x7300EB, []int{56, 57, 92, 93}},
	} {
		c := [3]int{x.rgb >> 16, x.rgb >> 8 & 0xFF, x.rgb & 0xFF}
		if _, indices := closest(all, c); fmt.Sprint(indices) != fmt.Sprint(x.indices) {
			t.Errorf("%06X is closest to %v, not %v", x.rgb, indices, x.indices)
		}
		if got, e := color.Nearest(x.rgb); got != x.indices[0] || e != api.OK {
			t.Errorf("Nearest(%06X) = %d, %d, not the first of %v", x.rgb, got, e, x.indices)
		}
	}
}

func TestNearestWrong(t *testing.T) { // P3.1
	for _, n := range far {
		if got, e := color.Nearest(n); got != 0 || e != api.ErrArg {
			t.Errorf("Nearest(%X) = %d, %d", n, got, e)
		}
	}
	for n, want := range map[int]int{0: 0, 1: 0, 0xFFFFFE: 15, 0xFFFFFF: 15} {
		if got, e := color.Nearest(n); got != want || e != api.OK {
			t.Errorf("Nearest(%06X) = %d, %d, not %d", n, got, e, want)
		}
	}
}

func TestText(t *testing.T) { // P3.2
	for n, c := range palette(t) {
		want := fmt.Sprintf("rgb:%02x/%02x/%02x", c[0], c[1], c[2])
		if got, e := color.Text(index(n)); got != want || e != api.OK {
			t.Errorf("Text of index %d = %q, %d, not %q", n, got, e, want)
		}
	}
	sample(func(c [3]int) {
		want := fmt.Sprintf("rgb:%02x/%02x/%02x", c[0], c[1], c[2])
		if got, e := color.Text(rgb(value(c))); got != want || e != api.OK {
			t.Fatalf("Text of %06X = %q, %d, not %q", value(c), got, e, want)
		}
	})
}

func TestTextWrong(t *testing.T) { // P3.2
	if got, e := color.Text(api.Color{}); got != "" || e != api.ErrArg {
		t.Errorf("Text of the default color = %q, %d", got, e)
	}
	for _, c := range invalid() {
		if got, e := color.Text(c); got != "" || e != api.ErrColor {
			t.Errorf("Text(%v) = %q, %d", c, got, e)
		}
	}
}

func TestParse(t *testing.T) { // P3.2
	for s, want := range map[string]int{
		"rgb:00/00/00": 0x000000,
		"rgb:ff/ff/ff": 0xFFFFFF,
		"rgb:FF/FF/FF": 0xFFFFFF,
		"rgb:fF/Ff/0f": 0xFFFF0F,
		"rgb:01/23/45": 0x012345,
		"rgb:67/89/ab": 0x6789AB,
		"rgb:cd/ef/AB": 0xCDEFAB,
		"rgb:CD/EF/10": 0xCDEF10,
	} {
		if got, e := color.Parse(s); got != rgb(want) || e != api.OK {
			t.Errorf("Parse(%q) = %v, %d, not %06X", s, got, e, want)
		}
	}
}

func TestParseBytes(t *testing.T) { // P3.2, every byte in every place
	const good = "rgb:12/9a/Fe"
	for i := range len(good) {
		for b := range 256 {
			s := good[:i] + string([]byte{byte(b)}) + good[i+1:]
			want, wantErr := api.Color{}, api.ErrForm
			// ParseUint takes digits alone, and letters of either case.
			if s[:4] == "rgb:" && s[6] == '/' && s[9] == '/' {
				if n, err := strconv.ParseUint(s[4:6]+s[7:9]+s[10:], 16, 24); err == nil {
					want, wantErr = rgb(int(n)), api.OK
				}
			}
			if got, e := color.Parse(s); got != want || e != wantErr {
				t.Errorf("Parse(%q) = %v, %d, not %v, %d", s, got, e, want, wantErr)
			}
		}
	}
}

func TestParseWrong(t *testing.T) { // P3.2
	const good = "rgb:ab/01/ff"
	for i := range len(good) {
		for _, s := range []string{good[:i], good[i+1:], good[:i] + good[i+1:], good[:i] + good[i:i+1] + good[i:], good[:i] + "0" + good[i:], good[:i] + " " + good[i:]} {
			if got, e := color.Parse(s); got != (api.Color{}) || e != api.ErrForm {
				t.Errorf("Parse(%q) = %v, %d", s, got, e)
			}
		}
	}
	for _, s := range []string{
		"", "rgb:", "rgb://", "ab/01/ff", "#ab01ff", "ab01ff", "rgb:ab01ff", "rgb:ab/01", "rgb:ab/01/f", "rgb:a/b/c", "rgb:abc/01/2",
		"RGB:ab/01/ff", "Rgb:ab/01/ff", "rgb;ab/01/ff", "rgb:ab/01:ff", "rgb:ab:01/ff", "rgba:ab/01/ff", "rgb:ab/01/ff/00",
		"rgb:+1/01/ff", "rgb:-1/01/ff", "rgb: 1/01/ff", "rgb:1 /01/ff", "rgb:0x/01/ff", "rgb:_1/01/ff", "rgb:hh/hh/hh", "rgb:gg/00/00",
		"rgb:ab/01/ff\n", "\nrgb:ab/01/ff", "rgb:ab/01/ff\x00", "rgb:ab/01/\xff\xff", "rgb:\u00e9/01/ff", "rgb:\uff10\uff11/\uff10",
		"rgb:abab/0101/ffff", strings.Repeat(good, 2), strings.Repeat("rgb:", 3), strings.Repeat("0", 12), strings.Repeat("r", 5000),
	} {
		if got, e := color.Parse(s); got != (api.Color{}) || e != api.ErrForm {
			t.Errorf("Parse(%q) = %v, %d", s, got, e)
		}
	}
}

func TestParseText(t *testing.T) { // P3.3, Parse inverts Text up to the Kind
	back := func(c api.Color, want int) {
		t.Helper()
		s, e := color.Text(c)
		if e != api.OK {
			t.Fatalf("Text(%v): %d", c, e)
		}
		for _, s := range []string{s, "rgb:" + strings.ToUpper(s[4:])} {
			if got, e := color.Parse(s); got != rgb(want) || e != api.OK {
				t.Fatalf("Parse(%q) = %v, %d, not %06X", s, got, e, want)
			}
		}
	}
	for n, c := range palette(t) {
		back(index(n), value(c))
	}
	sample(func(c [3]int) { back(rgb(value(c)), value(c)) })
}

func TestNearestPalette(t *testing.T) { // P3.3, the nearest color of a palette color has distance 0
	for n := range 256 {
		want, _ := color.Rgb(index(n))
		near, e := color.Nearest(want)
		if e != api.OK || near > n {
			t.Errorf("the nearest color of index %d is %d, %d", n, near, e)
		}
		if got, is := color.Rgb(index(near)); got != want || !is {
			t.Errorf("the nearest color of index %d is %06X, not %06X", n, got, want)
		}
	}
}

func TestNoneCloser(t *testing.T) { // P3.3, no palette color is closer than the returned one
	all := palette(t)
	sample(func(c [3]int) {
		near, e := color.Nearest(value(c))
		if e != api.OK || near < 0 || near > 255 {
			t.Fatalf("Nearest(%06X) = %d, %d", value(c), near, e)
		}
		if least, _ := closest(all, c); apart(all[near], c) != least {
			t.Fatalf("Nearest(%06X) = %d with the distance %d, not %d", value(c), near, apart(all[near], c), least)
		}
	})
}

func TestExamples(t *testing.T) { // the chapter's table of examples
	for n, want := range map[int]int{1: 0xCD0000, 16: 0x000000, 21: 0x0000FF, 231: 0xFFFFFF, 232: 0x080808, 255: 0xEEEEEE} {
		if got, is := color.Rgb(index(n)); got != want || !is {
			t.Errorf("Rgb of index %d = %06X, %t, not %06X", n, got, is, want)
		}
	}
	for n, want := range map[int]int{0x000000: 0, 0xFFFFFF: 15, 0x5F8700: 64, 0x0A0A0A: 232} {
		if got, e := color.Nearest(n); got != want || e != api.OK {
			t.Errorf("Nearest(%06X) = %d, %d, not %d", n, got, e, want)
		}
	}
	for _, x := range []struct {
		c    api.Color
		text string
		e    api.Errno
	}{{index(9), "rgb:ff/00/00", api.OK}, {api.Color{}, "", api.ErrArg}, {rgb(-1), "", api.ErrColor}} {
		if got, e := color.Text(x.c); got != x.text || e != x.e {
			t.Errorf("Text(%v) = %q, %d, not %q, %d", x.c, got, e, x.text, x.e)
		}
	}
	if got, e := color.Parse("rgb:Ab/01/fF"); got != rgb(0xAB01FF) || e != api.OK {
		t.Errorf("Parse = %v, %d", got, e)
	}
	for _, s := range []string{"rgb:ab/01", "rgb:ab/01/f"} {
		if got, e := color.Parse(s); got != (api.Color{}) || e != api.ErrForm {
			t.Errorf("Parse(%q) = %v, %d", s, got, e)
		}
	}
}
