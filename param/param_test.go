package param_test

import (
	"math"
	"math/rand"
	"slices"
	"strconv"
	"strings"
	"testing"

	"fenestra/api"
	"fenestra/param"
)

// edges are the limits of a valid part, their neighbours within, and some parts between.
var edges = []int{-1, 0, 1, 9, 10, 38, 255, 999, 1000, 9998, 9999}

// far are numbers that no valid part has, some of them right in their lowest bits.
var far = []int{-2, -3, -10, -9999, -10000, 10000, 10001, 99999, 1 << 16, math.MinInt, math.MinInt + 1, math.MinInt32, math.MaxInt32, 1 << 32, 1<<32 + 1, 1<<32 - 1, 1<<40 + 5, 1 << 62, math.MaxInt}

// one returns a parameter with these parts.
func one(subs ...int) api.Param { return api.Param{Subs: subs} }

// many returns n parameters with the part x each.
func many(n, x int) (l []api.Param) {
	for range n {
		l = append(l, one(x))
	}
	return l
}

// read returns the parameters of a text of digits, colons and semicolons by splitting it, or ErrLong if it has too many.
func read(s string) (l []api.Param, e api.Errno) {
	if s == "" {
		return nil, api.OK
	}
	for i, p := range strings.Split(s, ";") {
		if i >= 16 {
			return nil, api.ErrLong
		}
		var subs []int
		for j, text := range strings.Split(p, ":") {
			if j >= 6 {
				return nil, api.ErrLong
			}
			n := -1
			if text != "" {
				short := strings.TrimLeft(text, "0")
				switch {
				case short == "":
					n = 0
				case len(short) > 4:
					n = 9999
				default:
					n, _ = strconv.Atoi(short)
				}
			}
			subs = append(subs, n)
		}
		l = append(l, api.Param{Subs: subs})
	}
	return l, api.OK
}

// write returns the text of parameters, joined from the texts of their parts.
func write(l []api.Param) string {
	var all []string
	for _, p := range l {
		var texts []string
		for _, n := range p.Subs {
			texts = append(texts, strings.Replace(strconv.Itoa(n), "-1", "", 1))
		}
		all = append(all, strings.Join(texts, ":"))
	}
	return strings.Join(all, ";")
}

// equal compares parameters part by part.
func equal(a, b []api.Param) bool {
	if len(a) != len(b) {
		return false
	}
	for i := range a {
		if len(a[i].Subs) != len(b[i].Subs) {
			return false
		}
		for j := range a[i].Subs {
			if a[i].Subs[j] != b[i].Subs[j] {
				return false
			}
		}
	}
	return true
}

// copied returns l in memory of its own, without spare capacity.
func copied(l []api.Param) []api.Param {
	all := make([]api.Param, len(l))
	for i, p := range l {
		all[i].Subs = append(make([]int, 0, len(p.Subs)), p.Subs...)
	}
	return all
}

// someValid returns valid lists of all lengths, with parameters of all lengths.
func someValid() (all [][]api.Param) {
	all = append(all, nil, []api.Param{})
	for _, n := range edges {
		if n != -1 {
			all = append(all, []api.Param{one(n)})
		}
		all = append(all, []api.Param{one(n, -1)}, []api.Param{one(-1), one(n)}, []api.Param{one(n), one(-1)}, []api.Param{one(-1, n)})
	}
	for params := 1; params <= 16; params++ {
		for subs := 1; subs <= 6; subs++ {
			if params+subs == 2 {
				continue
			}
			for at := range edges {
				var l []api.Param
				for i := range params {
					var p api.Param
					for j := range subs {
						p.Subs = append(p.Subs, edges[(at+i*subs+j)%len(edges)])
					}
					l = append(l, p)
				}
				all = append(all, l, append(slices.Clone(l[1:]), one(edges[at], 5)))
			}
			all = append(all, slices.Repeat([]api.Param{one(slices.Repeat([]int{-1}, subs)...)}, params))
		}
	}
	return all
}

// someWrong returns lists that are not valid.
func someWrong() (all [][]api.Param) {
	all = append(all, []api.Param{one(-1)}, []api.Param{{}}, []api.Param{{Subs: []int{}}})
	for _, n := range []int{17, 18, 32, 33, 256, 257, 5000} {
		for _, x := range []int{-1, 0, 7} {
			all = append(all, many(n, x))
		}
	}
	for params := 1; params <= 16; params++ {
		for at := range params {
			for _, subs := range []int{0, 7, 8, 12, 13, 256, 262} {
				l := many(params, 3)
				l[at].Subs = slices.Repeat([]int{4}, subs)
				all = append(all, l)
			}
			for _, n := range far {
				for j := range 6 {
					l := many(params, 3)
					l[at].Subs = []int{-1, 0, 1, 2, 9999, -1}
					l[at].Subs[j] = n
					all = append(all, l)
				}
				l := many(params, -1)
				l[at] = one(n)
				all = append(all, l)
			}
		}
	}
	return all
}

// guarded returns l with spare capacity behind every slice, and a function that tells whether any of the memory has changed.
func guarded(l []api.Param) (same []api.Param, kept func() bool) {
	const spare, mark = 20, 123456
	outer := make([]api.Param, len(l)+spare)
	var inner [][]int
	for i := range outer {
		subs := []int{mark - 1}
		if i < len(l) {
			subs = l[i].Subs
		}
		memory := append(slices.Clone(subs), slices.Repeat([]int{mark}, spare)...)
		inner = append(inner, memory)
		outer[i].Subs = memory[:len(subs)]
	}
	outerBefore := slices.Clone(outer)
	var innerBefore [][]int
	for _, m := range inner {
		innerBefore = append(innerBefore, slices.Clone(m))
	}
	return outer[:len(l)], func() bool {
		for i := range outer {
			x, y := outer[i].Subs, outerBefore[i].Subs
			if len(x) != len(y) || cap(x) != cap(y) || cap(x) > 0 && &x[:1][0] != &y[:1][0] || !slices.Equal(inner[i], innerBefore[i]) {
				return false
			}
		}
		return true
	}
}

func TestLimits(t *testing.T) { // the numbers that the tests write out are those of api
	if api.MaxParams != 16 || api.MaxSubs != 6 || api.MaxParam != 9999 || api.MaxBatch != 4096 || api.ErrLong != 3 || api.ErrForm != 6 || api.ErrParams != 150 {
		t.Error("limits or errors differ")
	}
}

func TestCheck(t *testing.T) { // P5.1, valid lists of all lengths
	for _, l := range someValid() {
		if got := param.Check(l); got != api.OK {
			t.Errorf("Check(%v) = %d", l, got)
		}
	}
	for n := range 10000 {
		if got := param.Check([]api.Param{one(n)}); got != api.OK {
			t.Errorf("Check of the part %d = %d", n, got)
		}
	}
}

func TestCheckWrong(t *testing.T) { // P5.1, too many or no elements, and parts out of range in each place
	for _, l := range someWrong() {
		if got := param.Check(l); got != api.ErrParams {
			t.Errorf("Check(%v) = %d", l, got)
		}
	}
}

func TestCheckLone(t *testing.T) { // P5.1, a part of -1 alone is not valid, but with any other part or parameter it is
	for _, x := range []struct {
		l    []api.Param
		want api.Errno
	}{
		{nil, api.OK},
		{[]api.Param{}, api.OK},
		{[]api.Param{one(-1)}, api.ErrParams},
		{[]api.Param{one(0)}, api.OK},
		{[]api.Param{one(-2)}, api.ErrParams},
		{[]api.Param{one(-1, -1)}, api.OK},
		{[]api.Param{one(-1, -1, -1, -1, -1, -1)}, api.OK},
		{[]api.Param{one(-1, -1, -1, -1, -1, -1, -1)}, api.ErrParams},
		{[]api.Param{one(-1), one(-1)}, api.OK},
		{[]api.Param{one(-1), one()}, api.ErrParams},
		{[]api.Param{one(), one(-1)}, api.ErrParams},
		{[]api.Param{one(-1, 0)}, api.OK},
		{[]api.Param{one(-1), one(1)}, api.OK},
		{[]api.Param{one(1), one(-1)}, api.OK},
		{many(16, -1), api.OK},
		{many(17, -1), api.ErrParams},
	} {
		if got := param.Check(x.l); got != x.want {
			t.Errorf("Check(%v) = %d, not %d", x.l, got, x.want)
		}
	}
}

func TestSame(t *testing.T) { // P5.1, every pair of valid and wrong lists
	lists := someValid()[:120]
	for i, l := range someWrong() {
		if i < 40 || i%50 == 0 {
			lists = append(lists, l)
		}
	}
	lists = append(lists, []api.Param{one(1, 2)}, []api.Param{one(1), one(2)}, []api.Param{one(12)}, []api.Param{one(), one()}, []api.Param{one(), one(1, 2)}, []api.Param{one(1, 2), one()}, []api.Param{one(1), one(2, 3)}, []api.Param{one(1, 2), one(3)})
	for _, a := range lists {
		for _, b := range lists {
			if got := param.Same(a, copied(b)); got != equal(a, b) {
				t.Errorf("Same(%v, %v) = %t", a, b, got)
			}
		}
	}
}

func TestSameEmpty(t *testing.T) { // P5.1 and R4, a nil slice equals an empty one, outside and inside
	empty, hollow := []api.Param{}, []api.Param{{Subs: []int{}}}
	for _, x := range []struct {
		a, b []api.Param
		want bool
	}{
		{nil, nil, true},
		{nil, empty, true},
		{empty, nil, true},
		{[]api.Param{{}}, hollow, true},
		{hollow, []api.Param{{}}, true},
		{nil, hollow, false},
		{hollow, nil, false},
		{empty, []api.Param{one(-1)}, false},
		{hollow, []api.Param{one(-1)}, false},
		{[]api.Param{one(0)}, []api.Param{one(-1)}, false},
	} {
		if got := param.Same(x.a, x.b); got != x.want {
			t.Errorf("Same(%v, %v) = %t", x.a, x.b, got)
		}
	}
}

func TestPrint(t *testing.T) { // P5.1, the text of valid lists
	for _, l := range someValid() {
		if got, e := param.Print(l); got != write(l) || e != api.OK {
			t.Errorf("Print(%v) = %q, %d, not %q", l, got, e, write(l))
		}
	}
	for n := range 10000 {
		want := strconv.Itoa(n)
		if got, e := param.Print([]api.Param{one(n)}); got != want || e != api.OK {
			t.Errorf("Print of the part %d = %q, %d", n, got, e)
		}
	}
	for want, l := range map[string][]api.Param{
		"":          nil,
		";":         many(2, -1),
		":":         {one(-1, -1)},
		"0":         {one(0)},
		"0:":        {one(0, -1)},
		":0":        {one(-1, 0)},
		";0":        {one(-1), one(0)},
		"1;2:3":     {one(1), one(2, 3)},
		"1:2;3":     {one(1, 2), one(3)},
		":;:":       {one(-1, -1), one(-1, -1)},
		":::::;5":   {one(-1, -1, -1, -1, -1, -1), one(5)},
		"9999;10:0": {one(9999), one(10, 0)},
	} {
		if got, e := param.Print(l); got != want || e != api.OK {
			t.Errorf("Print(%v) = %q, %d, not %q", l, got, e, want)
		}
	}
}

func TestPrintWrong(t *testing.T) { // P5.1, the error of Check and no text
	for _, l := range someWrong() {
		if got, e := param.Print(l); got != "" || e != api.ErrParams {
			t.Errorf("Print(%v) = %q, %d", l, got, e)
		}
	}
}

func TestStep(t *testing.T) { // P5.2, every valid character after lists of all lengths
	for _, l := range someValid() {
		for _, c := range []byte("0123456789:;") {
			want, wantError := read(write(l) + string(rune(c)))
			if got, e := param.Step(l, c); !equal(got, want) || e != wantError {
				t.Errorf("Step(%v, %q) = %v, %d, not %v, %d", l, c, got, e, want, wantError)
			}
		}
	}
}

func TestStepEmpty(t *testing.T) { // P5.2, no parameters are treated as a single part of -1
	for _, l := range [][]api.Param{nil, {}, make([]api.Param, 0, 4)} {
		for d := range 10 {
			if got, e := param.Step(l, '0'+byte(d)); !equal(got, []api.Param{one(d)}) || e != api.OK {
				t.Errorf("Step(none, %d) = %v, %d", d, got, e)
			}
		}
		if got, e := param.Step(l, ':'); !equal(got, []api.Param{one(-1, -1)}) || e != api.OK {
			t.Errorf("Step(none, :) = %v, %d", got, e)
		}
		if got, e := param.Step(l, ';'); !equal(got, many(2, -1)) || e != api.OK {
			t.Errorf("Step(none, ;) = %v, %d", got, e)
		}
	}
}

func TestStepDigit(t *testing.T) { // P5.2, every digit after every part, which is the last one and no other
	for n := -1; n <= 9999; n++ {
		for d := range 10 {
			want := 10*n + d
			if n == -1 {
				want = d
			}
			if want > 9999 {
				want = 9999
			}
			l := []api.Param{one(5, 6), one(7, n)}
			if got, e := param.Step(l, '0'+byte(d)); !equal(got, []api.Param{one(5, 6), one(7, want)}) || e != api.OK {
				t.Fatalf("Step(%v, %d) = %v, %d", l, d, got, e)
			}
		}
	}
}

func TestStepFull(t *testing.T) { // P5.2, MaxSubs parts and MaxParams parameters and one less, with what still fits
	for params := 14; params <= 16; params++ {
		for subs := 4; subs <= 6; subs++ {
			parts := slices.Repeat([]int{8}, subs)
			l := append(many(params-1, 3), one(parts...))
			got, e := param.Step(l, '9')
			if want := append(many(params-1, 3), one(append(parts[:subs-1:subs-1], 89)...)); !equal(got, want) || e != api.OK {
				t.Errorf("Step of %d parameters with %d parts and a digit = %v, %d", params, subs, got, e)
			}
			want, wantError := append(many(params-1, 3), one(append(parts[:subs:subs], -1)...)), api.OK
			if subs == 6 {
				want, wantError = nil, api.ErrLong
			}
			if got, e := param.Step(l, ':'); !equal(got, want) || e != wantError {
				t.Errorf("Step of %d parameters with %d parts and a colon = %v, %d", params, subs, got, e)
			}
			want, wantError = append(slices.Clone(l), one(-1)), api.OK
			if params == 16 {
				want, wantError = nil, api.ErrLong
			}
			if got, e := param.Step(l, ';'); !equal(got, want) || e != wantError {
				t.Errorf("Step of %d parameters with %d parts and a semicolon = %v, %d", params, subs, got, e)
			}
		}
	}
}

func TestStepWrong(t *testing.T) { // P5.2, every byte that is no character of parameters, and which error comes first
	wrong := someWrong()
	for b := range 256 {
		c := byte(b)
		if !strings.Contains("0123456789:;", string([]byte{c})) {
			for _, l := range append(someValid()[:60], many(16, 1), []api.Param{one(1, 2, 3, 4, 5, 6)}) {
				if got, e := param.Step(l, c); got != nil || e != api.ErrForm {
					t.Errorf("Step(%v, %q) = %v, %d", l, c, got, e)
				}
			}
		}
		for _, l := range wrong[:24] {
			if got, e := param.Step(l, c); got != nil || e != api.ErrParams {
				t.Errorf("Step(%v, %q) = %v, %d", l, c, got, e)
			}
		}
	}
	for _, l := range wrong {
		for _, c := range []byte("09:;a\x00\xff") {
			if got, e := param.Step(l, c); got != nil || e != api.ErrParams {
				t.Errorf("Step(%v, %q) = %v, %d", l, c, got, e)
			}
		}
	}
}

func TestParse(t *testing.T) { // P5.3, all texts of up to six characters, against splitting
	const alphabet = "019:;"
	texts := []string{""}
	for start := 0; len(texts[start]) < 6; start++ {
		for _, c := range alphabet {
			texts = append(texts, texts[start]+string(c))
		}
	}
	for _, s := range texts {
		want, wantError := read(s)
		if got, e := param.Parse(s); !equal(got, want) || e != wantError {
			t.Fatalf("Parse(%q) = %v, %d, not %v, %d", s, got, e, want, wantError)
		}
	}
}

func TestParseRandom(t *testing.T) { // P5.3 and P5.2, longer texts, and step by step
	r := rand.New(rand.NewSource(5))
	for range 20000 {
		var s []byte
		var l []api.Param
		stepError := api.OK
		for range r.Intn(60) {
			s = append(s, "00123456789999::;;"[r.Intn(18)])
			if stepError == api.OK {
				l, stepError = param.Step(l, s[len(s)-1])
			}
		}
		want, wantError := read(string(s))
		got, e := param.Parse(string(s))
		if !equal(got, want) || e != wantError || wantError != api.OK && got != nil {
			t.Fatalf("Parse(%q) = %v, %d, not %v, %d", s, got, e, want, wantError)
		}
		if !equal(l, want) || stepError != wantError {
			t.Fatalf("Steps of %q = %v, %d, not %v, %d", s, l, stepError, want, wantError)
		}
	}
}

func TestParseNumbers(t *testing.T) { // P5.3, every number, with leading zeros, and numbers above MaxParam
	for n := range 20000 {
		for _, zeros := range []string{"", "0", "0000", "00000000000000000000"} {
			s := zeros + strconv.Itoa(n)
			if got, e := param.Parse(s); !equal(got, []api.Param{one(min(n, 9999))}) || e != api.OK {
				t.Errorf("Parse(%q) = %v, %d", s, got, e)
			}
		}
	}
	for _, s := range []string{"9999", "10000", "99990", "100000000", "18446744073709551615", "18446744073709551616", "9223372036854775808", strings.Repeat("9", 4096), "1" + strings.Repeat("0", 4095)} {
		if got, e := param.Parse(s); !equal(got, []api.Param{one(9999)}) || e != api.OK {
			t.Errorf("Parse(%q) = %v, %d", s, got, e)
		}
	}
}

func TestParseLong(t *testing.T) { // P5.3, MaxBatch bytes and one more, whatever they are
	zeros := strings.Repeat("0", 4096)
	for s, want := range map[string][]api.Param{
		zeros:               {one(0)},
		zeros[1:]:           {one(0)},
		zeros[1:] + "7":     {one(7)},
		zeros[2:] + ";7":    {one(0), one(7)},
		zeros[1:] + ":":     {one(0, -1)},
		";" + zeros[2:]:     {one(-1), one(0)},
		"3" + zeros[1:]:     {one(9999)},
		zeros[3:] + ";;;":   {one(0), one(-1), one(-1), one(-1)},
		zeros[5:] + ":1;:2": {one(0, 1), one(-1, 2)},
	} {
		if got, e := param.Parse(s); !equal(got, want) || e != api.OK {
			t.Errorf("Parse of %d bytes = %v, %d", len(s), got, e)
		}
	}
	for _, n := range []int{4097, 4098, 8192, 1 << 20} {
		for _, piece := range []string{"0", "9", ";", ":", "a", "\x00", "\xff"} {
			if got, e := param.Parse(strings.Repeat(piece, n)); got != nil || e != api.ErrLong {
				t.Errorf("Parse of %d times %q = %v, %d", n, piece, got, e)
			}
		}
		if got, e := param.Parse("a" + strings.Repeat("0", n-1)); got != nil || e != api.ErrLong {
			t.Errorf("Parse of %d bytes after a wrong one = %v, %d", n, got, e)
		}
	}
}

func TestParseFull(t *testing.T) { // P5.3, MaxParams parameters and MaxSubs parts, and one more
	for n := range 20 {
		for _, number := range []string{"", "0", "7", "9999"} {
			for _, x := range []struct {
				separator string
				most      int
			}{{";", 16}, {":", 6}} {
				s := strings.Repeat(number+x.separator, n) + number
				want, wantError := read(s)
				if n+1 > x.most && wantError != api.ErrLong || n < x.most && wantError != api.OK {
					t.Fatalf("the test reads %q wrongly", s)
				}
				if got, e := param.Parse(s); !equal(got, want) || e != wantError {
					t.Errorf("Parse(%q) = %v, %d, not %v, %d", s, got, e, want, wantError)
				}
			}
		}
	}
	full := strings.TrimSuffix(strings.Repeat("1:2:3:4:5:6;", 16), ";")
	want := slices.Repeat([]api.Param{one(1, 2, 3, 4, 5, 6)}, 16)
	if got, e := param.Parse(full); !equal(got, want) || e != api.OK {
		t.Errorf("Parse(%q) = %v, %d", full, got, e)
	}
	if got, e := param.Print(want); got != full || e != api.OK {
		t.Errorf("Print of full parameters = %q, %d", got, e)
	}
	for _, s := range []string{full + ";", full + ":", full + "1:", full + "1;"} {
		if got, e := param.Parse(s); got != nil || e != api.ErrLong {
			t.Errorf("Parse(%q) = %v, %d", s, got, e)
		}
	}
}

func TestParseWrong(t *testing.T) { // P5.3, every wrong byte in every place, and the first of several errors
	for b := range 256 {
		wrong := string([]byte{byte(b)})
		if strings.Contains("0123456789:;", wrong) {
			continue
		}
		for _, s := range []string{"", "1", "12", ";", "1;2:3", "::", "38:5:196;;1", strings.Repeat(";", 15), ":::::"} {
			for at := range len(s) + 1 {
				if got, e := param.Parse(s[:at] + wrong + s[at:]); got != nil || e != api.ErrForm {
					t.Errorf("Parse(%q) = %v, %d", s[:at]+wrong+s[at:], got, e)
				}
			}
		}
	}
	for s, want := range map[string]api.Errno{
		strings.Repeat(";", 15) + "a":  api.ErrForm,
		strings.Repeat(";", 16) + "a":  api.ErrLong,
		strings.Repeat(";", 15) + "a;": api.ErrForm,
		":::::a":                       api.ErrForm,
		"::::::a":                      api.ErrLong,
		":::::a:":                      api.ErrForm,
		" 1":                           api.ErrForm,
		"1 ":                           api.ErrForm,
		"+1":                           api.ErrForm,
		"-1":                           api.ErrForm,
		"1,2":                          api.ErrForm,
		"1_0":                          api.ErrForm,
		"0x1":                          api.ErrForm,
		"٣":                            api.ErrForm,
		"１":                            api.ErrForm,
		"1\x00":                        api.ErrForm,
	} {
		if got, e := param.Parse(s); got != nil || e != want {
			t.Errorf("Parse(%q) = %v, %d, not %d", s, got, e, want)
		}
	}
}

func TestValue(t *testing.T) { // P5.4, arbitrary slices, and every index and its neighbours
	lists := append(someValid()[:200], someWrong()...)
	for _, l := range lists {
		for i := -2; i < min(len(l), 20)+3; i++ {
			for _, none := range []int{-7, 0, 1, 10000} {
				want := none
				if i >= 0 && i < len(l) && len(l[i].Subs) > 0 && l[i].Subs[0] >= 0 {
					want = l[i].Subs[0]
				}
				if got := param.Value(l, i, none); got != want {
					t.Errorf("Value(%v, %d, %d) = %d, not %d", l, i, none, got, want)
				}
			}
		}
	}
}

func TestValueWrong(t *testing.T) { // P5.4, each reason for none, and numbers that are in no valid list
	l := []api.Param{one(5, 6), one(-1, 7), {}, one(0), one(math.MaxInt, -1), one(math.MinInt, 8), one(-2), {Subs: []int{}}, one(10000), one(9)}
	want := []int{5, 77, 77, 0, math.MaxInt, 77, 77, 77, 10000, 9}
	for i, n := range want {
		if got := param.Value(l, i, 77); got != n {
			t.Errorf("Value of index %d = %d, not %d", i, got, n)
		}
	}
	for _, i := range []int{-1, -2, -10, len(l), len(l) + 1, math.MinInt, math.MinInt + 1, math.MaxInt, math.MaxInt32, 1 << 32, 1<<32 + 9, -1 << 32} {
		for _, none := range []int{math.MinInt, -1, 0, 77, math.MaxInt} {
			for _, m := range [][]api.Param{l, nil, {}} {
				if got := param.Value(m, i, none); got != none {
					t.Errorf("Value(%v, %d, %d) = %d", m, i, none, got)
				}
			}
		}
	}
	if got := param.Value(nil, 0, 3); got != 3 {
		t.Errorf("Value of no parameters = %d", got)
	}
}

func TestRoundTrip(t *testing.T) { // P5.5, Parse inverts Print
	for _, l := range someValid() {
		s, e := param.Print(l)
		got, f := param.Parse(s)
		if !param.Same(got, l) || !equal(got, l) || e != api.OK || f != api.OK {
			t.Errorf("Parse(Print(%v)) = %v, %d, %d", l, got, e, f)
		}
	}
	r := rand.New(rand.NewSource(55))
	for range 5000 {
		l := make([]api.Param, 1+r.Intn(16))
		for i := range l {
			for range 1 + r.Intn(6) {
				l[i].Subs = append(l[i].Subs, r.Intn(10001)-1)
			}
		}
		if param.Check(l) != api.OK {
			continue
		}
		s, _ := param.Print(l)
		if got, e := param.Parse(s); !param.Same(got, l) || !equal(got, l) || e != api.OK {
			t.Fatalf("Parse(%q) = %v, %d", s, got, e)
		}
	}
}

func TestRoundTripText(t *testing.T) { // P5.5, parsed parameters are valid, and their text is what was parsed but for zeros and too great numbers
	// No "0" in front of another digit and no part of more than four digits can come from these pieces.
	pieces := []string{"", "0", "1", "10", "99", "100", "9999", "9998"}
	r := rand.New(rand.NewSource(555))
	for range 4000 {
		var s, padded strings.Builder
		params := 1 + r.Intn(16)
		for i := range params {
			subs := 1 + r.Intn(6)
			for j := range subs {
				separator := ""
				if j > 0 {
					separator = ":"
				} else if i > 0 {
					separator = ";"
				}
				piece := pieces[r.Intn(len(pieces))]
				s.WriteString(separator + piece)
				switch {
				case piece == "9999":
					piece = []string{"9999", "10000", "99990", "123456789"}[r.Intn(4)]
				case piece != "":
					piece = strings.Repeat("0", r.Intn(8)) + piece
				}
				padded.WriteString(separator + piece)
			}
		}
		for _, text := range []string{s.String(), padded.String()} {
			l, e := param.Parse(text)
			if e != api.OK || param.Check(l) != api.OK {
				t.Fatalf("Parse(%q) = %v, %d", text, l, e)
			}
			if got, e := param.Print(l); got != s.String() || e != api.OK {
				t.Fatalf("Print(Parse(%q)) = %q, %d, not %q", text, got, e, s.String())
			}
		}
	}
}

func TestArgumentsKept(t *testing.T) { // R3, no call writes to its slices, their parts or their spare capacity
	lists := someValid()
	for i, l := range someWrong() {
		if i%7 == 0 && len(l) < 300 {
			lists = append(lists, l)
		}
	}
	for _, l := range lists {
		g, kept := guarded(l)
		for _, c := range []byte("0123456789:;a\x00\xff") {
			if param.Step(g, c); !kept() {
				t.Fatalf("Step(%v, %q) wrote to its argument", l, c)
			}
		}
		if param.Check(g); !kept() {
			t.Fatalf("Check(%v) wrote to its argument", l)
		}
		if param.Print(g); !kept() {
			t.Fatalf("Print(%v) wrote to its argument", l)
		}
		if param.Value(g, 0, 1); !kept() {
			t.Fatalf("Value(%v) wrote to its argument", l)
		}
		h, keptToo := guarded(l)
		if param.Same(g, h); !kept() || !keptToo() {
			t.Fatalf("Same(%v) wrote to its arguments", l)
		}
	}
}

func TestResultsKept(t *testing.T) { // R3 and R5, steps from one result leave it and each other alone
	type branch struct{ got, want []api.Param }
	for _, s := range []string{"", "1", "1;2", "1:2", ";", ":", "1;2:3;4", "5:6:7", ";;;;", "1:2:3:4:5", ";;;;;;;;;;;;;;"} {
		start, _ := param.Parse(s)
		all := []branch{{start, copied(start)}}
		level := all
		for range 3 {
			var next []branch
			for _, b := range level {
				for _, c := range []byte("07:;") {
					if got, e := param.Step(b.got, c); e == api.OK {
						next = append(next, branch{got, copied(got)})
					}
				}
			}
			all, level = append(all, next...), next
		}
		for _, b := range all {
			if !equal(b.got, b.want) {
				t.Errorf("after %q: a result became %v, not %v", s, b.got, b.want)
			}
		}
	}
}

func TestExamples(t *testing.T) { // the chapter's table
	for s, want := range map[string][]api.Param{
		"1;2:3": {one(1), one(2, 3)},
		"":      nil,
		";":     {one(-1), one(-1)},
		"007":   {one(7)},
		"99999": {one(9999)},
		"4:":    {one(4, -1)},
	} {
		if got, e := param.Parse(s); !equal(got, want) || e != api.OK {
			t.Errorf("Parse(%q) = %v, %d", s, got, e)
		}
	}
	if got, e := param.Print([]api.Param{one(38, 2, -1, 9, 8, 7), one(1)}); got != "38:2::9:8:7;1" || e != api.OK {
		t.Errorf("Print = %q, %d", got, e)
	}
	for _, l := range [][]api.Param{{one(-1)}, {one(10000)}, {{}}} {
		if got := param.Check(l); got != api.ErrParams {
			t.Errorf("Check(%v) = %d", l, got)
		}
	}
	for s, want := range map[string]api.Errno{"1a": api.ErrForm, strings.Repeat(";", 16): api.ErrLong, "1:2:3:4:5:6:": api.ErrLong} {
		if got, e := param.Parse(s); got != nil || e != want {
			t.Errorf("Parse(%q) = %v, %d", s, got, e)
		}
	}
	for i, want := range []int{5, 9, 9} {
		if got := param.Value([]api.Param{one(5), one(-1)}, i, 9); got != want {
			t.Errorf("Value of index %d = %d", i, got)
		}
	}
}
