package profile_test

import (
	"math"
	"slices"
	"strconv"
	"strings"
	"testing"

	"imageeditor/api"
	"imageeditor/profile"
)

// described are the standard profiles as the chapter lists them: name, knots and matrix.
const described = `linear | 0 0, 65535 65535 | 65536 0 0, 0 65536 0, 0 0 65536
srgb | 0 0, 2621 203, 6554 657, 13107 2170, 19661 4800, 26214 8708, 32768 14027, 39321 20876, 45875 29359, 52428 39572, 58982 51603, 65535 65535 | 27031 23434 11825, 13938 46868 4730, 1267 7811 62279
wide | 0 0, 8192 676, 16384 3104, 24576 7574, 32768 14263, 40960 23302, 49152 34803, 57344 48853, 65535 65535 | 37797 12160 12333, 19489 41114 4933, 1772 4633 64953
warm | 0 0, 16384 8192, 32768 24576, 65535 65535 | 60000 5000 536, 2000 62000 1536, 0 4000 61536`

// numbers returns the numbers of a text, which blanks and commas separate.
func numbers(s string) []int {
	var l []int
	for _, field := range strings.Fields(strings.ReplaceAll(s, ",", " ")) {
		n, err := strconv.Atoi(field)
		if err != nil {
			panic(err)
		}
		l = append(l, n)
	}
	return l
}

// knots returns the curve with the given numbers: x, y, x, y, ..
func knots(v ...int) []api.Knot {
	k := make([]api.Knot, len(v)/2)
	for i := range k {
		k[i] = api.Knot{X: v[2*i], Y: v[2*i+1]}
	}
	return k
}

// standard returns the standard profile with the number i from the description.
func standard(i int) api.Profile {
	parts := strings.Split(strings.Split(described, "\n")[i], " | ")
	return api.Profile{Name: parts[0], Curve: knots(numbers(parts[1])...), M: [9]int(numbers(parts[2]))}
}

// line returns n knots on the line from (0, 0) to (Unit, Unit), n at least 2.
func line(n int) []api.Knot {
	k := make([]api.Knot, n)
	for i := range k {
		v := i * 65535 / (n - 1)
		k[i] = api.Knot{X: v, Y: v}
	}
	return k
}

func same(p, q api.Profile) bool {
	return p.Name == q.Name && slices.Equal(p.Curve, q.Curve) && p.M == q.M
}

func zero(p api.Profile) bool { return same(p, api.Profile{}) }

func named(p api.Profile, name string) api.Profile {
	p.Name = name
	return p
}

func curved(p api.Profile, k []api.Knot) api.Profile {
	p.Curve = k
	return p
}

func mixed(p api.Profile, m [9]int) api.Profile {
	p.M = m
	return p
}

// replaced returns p with another element of its matrix at i.
func replaced(p api.Profile, i, x int) api.Profile {
	p.M[i] = x
	return p
}

func diagonal(a, b, c int) [9]int { return [9]int{a, 0, 0, 0, b, 0, 0, 0, c} }

func px(r, g, b, a int) api.Pixel { return api.Pixel{R: r, G: g, B: b, A: a} }

// wrongCurves are curves that are not rising.
func wrongCurves() [][]api.Knot {
	list := [][]api.Knot{
		nil, {}, knots(0, 0), knots(65535, 65535), line(17), line(256), make([]api.Knot, 2), make([]api.Knot, 17),
		knots(0, 0, 65535, 65534), knots(0, 0, 65534, 65535), knots(0, 0, 65534, 65534), knots(0, 0, 65536, 65536),
		knots(0, 1, 65535, 65535), knots(1, 0, 65535, 65535), knots(1, 1, 65535, 65535), knots(-1, -1, 65535, 65535),
		knots(0, 65535, 65535, 0), knots(0, 0, 65535, 65535, 65535, 65535), knots(0, 0, 0, 0, 65535, 65535),
		knots(0, 0, 5, 7, 5, 9, 65535, 65535), knots(0, 0, 5, 7, 9, 7, 65535, 65535),
		knots(0, 0, 5, 7, 4, 9, 65535, 65535), knots(0, 0, 5, 7, 9, 6, 65535, 65535),
	}
	for i := range 16 {
		for _, v := range []int{math.MinInt, -1, 65536, math.MaxInt} {
			x, y := line(16), line(16)
			x[i].X, y[i].Y = v, v
			list = append(list, x, y)
		}
	}
	return list
}

// wrongMatrices are matrices that are not valid, or have no valid inverse.
func wrongMatrices() [][9]int {
	list := [][9]int{
		{}, {65536}, diagonal(65536, 65536, 0), {1, 2, 3, 4, 5, 6, 7, 8, 9}, {65536, 65536, 0, 65536, 65536, 0, 0, 0, 65536},
		diagonal(4095, 65536, 65536), diagonal(65536, -4095, 65536), diagonal(65536, 65536, 1), {1, 0, 0, 0, 1, 0, 0, 0, 1},
		// All elements are valid, but the inverse would have the element -2^20 - 2^4, or 2^20 + 2^4.
		{32768, 1 << 19, 0, 0, 65535, 0, 0, 0, 65536}, {32768, -1 << 19, 0, 0, 65535, 0, 0, 0, 65536},
	}
	for i := range 9 {
		for _, x := range []int{1<<20 + 1, -1<<20 - 1, 1 << 40, math.MinInt, math.MaxInt} {
			list = append(list, replaced(standard(0), i, x).M, replaced(standard(3), i, x).M)
		}
	}
	return list
}

// wrong returns profiles that are not valid.
func wrong() []api.Profile {
	list := []api.Profile{{}, {Name: "x"}}
	for _, name := range wrongNames() {
		list = append(list, named(standard(1), name))
	}
	for _, k := range wrongCurves() {
		list = append(list, curved(standard(2), k))
	}
	for _, m := range wrongMatrices() {
		list = append(list, mixed(standard(3), m))
	}
	return list
}

// errorOf returns the error of a profile of the list that wrong returns.
func errorOf(p api.Profile) api.Errno {
	if p.Name == "" || slices.Contains(wrongNames(), p.Name) {
		return api.ErrName
	}
	return api.ErrProfile
}

func wrongNames() []string {
	return []string{"", " ", "a b", "\x7f", "\n", "\x00", "\u00e9", "\xff", "a ", " a", strings.Repeat("n", 33), strings.Repeat("n", 300)}
}

// P9.1

func TestCount(t *testing.T) {
	if n := profile.Count(); n != 4 {
		t.Errorf("Count() = %d", n)
	}
}

func TestStandard(t *testing.T) {
	names := map[string]bool{}
	for i := range 4 {
		p, e := profile.Standard(i)
		if e != api.OK || !same(p, standard(i)) {
			t.Errorf("Standard(%d) = %v, %d; expected %v", i, p, int(e), standard(i))
		}
		if e := profile.Check(p); e != api.OK {
			t.Errorf("Check of Standard(%d) = %d", i, int(e))
		}
		names[p.Name] = true
	}
	if len(names) != 4 {
		t.Errorf("the names are %v", names)
	}
}

func TestStandardNone(t *testing.T) {
	for _, i := range []int{-1, 4, 5, -4, 256, 1 << 32, -1 << 32, math.MinInt, math.MaxInt} {
		if p, e := profile.Standard(i); e != api.ErrRange || !zero(p) {
			t.Errorf("Standard(%d) = %v, %d", i, p, int(e))
		}
	}
}

// A caller who changes a profile that was returned changes no later answer.
func TestStandardChanged(t *testing.T) {
	for i := range 4 {
		p, _ := profile.Standard(i)
		for k := range p.Curve {
			p.Curve[k] = api.Knot{X: -5, Y: 7}
		}
		for k := range p.M {
			p.M[k] = 9
		}
		p.Name = "changed"
		all := p.Curve[:cap(p.Curve)]
		clear(all)
		for k := range 4 {
			if q, e := profile.Standard(k); e != api.OK || !same(q, standard(k)) {
				t.Errorf("Standard(%d) = %v, %d after a change of %d", k, q, int(e), i)
			}
		}
	}
}

func TestCheckNames(t *testing.T) {
	for _, n := range []int{0, 1, 2, 31, 32, 33, 34, 1000} {
		want := api.OK
		if n < 1 || n > 32 {
			want = api.ErrName
		}
		if e := profile.Check(named(standard(1), strings.Repeat("n", n))); e != want {
			t.Errorf("Check with a name of %d bytes = %d", n, int(e))
		}
	}
	for b := range 256 {
		want := api.OK
		if b < 33 || b > 126 {
			want = api.ErrName
		}
		one := string([]byte{byte(b)})
		for _, name := range []string{one, one + "name", "na" + one + "me", "name" + one, strings.Repeat(one, 32)} {
			if e := profile.Check(named(standard(1), name)); e != want {
				t.Errorf("Check with the name %q = %d", name, int(e))
			}
		}
	}
	for _, name := range wrongNames() {
		if e := profile.Check(named(standard(1), name)); e != api.ErrName {
			t.Errorf("Check with the name %q = %d", name, int(e))
		}
	}
}

func TestCheckCurves(t *testing.T) {
	for _, k := range wrongCurves() {
		if e := profile.Check(curved(standard(0), k)); e != api.ErrProfile {
			t.Errorf("Check with the curve %v = %d", k, int(e))
		}
	}
	good := [][]api.Knot{knots(0, 0, 1, 65534, 65535, 65535), knots(0, 0, 65534, 1, 65535, 65535)}
	for n := 2; n <= 16; n++ {
		good = append(good, line(n))
	}
	for _, k := range good {
		if e := profile.Check(curved(standard(0), k)); e != api.OK {
			t.Errorf("Check with the curve %v = %d", k, int(e))
		}
	}
}

func TestCheckMatrices(t *testing.T) {
	for _, m := range wrongMatrices() {
		if e := profile.Check(mixed(standard(0), m)); e != api.ErrProfile {
			t.Errorf("Check with the matrix %v = %d", m, int(e))
		}
	}
	for _, m := range [][9]int{
		diagonal(4096, 65536, 65536), diagonal(65536, -4096, 65536), diagonal(1<<20, 1<<20, -1<<20), diagonal(-65536, -65536, -65536),
		{65536, 1 << 20, 0, 0, 65536, 0, 0, 0, 65536}, {65536, -1 << 20, 0, 0, 65536, 0, 0, 0, 65536}, {0, 65536, 0, 0, 0, 65536, 65536, 0, 0},
	} {
		if e := profile.Check(mixed(standard(0), m)); e != api.OK {
			t.Errorf("Check with the matrix %v = %d", m, int(e))
		}
	}
}

// Of two faults the name decides; the other two have the same error.
func TestCheckTwoFaults(t *testing.T) {
	for _, name := range wrongNames() {
		for _, p := range []api.Profile{curved(standard(2), nil), curved(standard(2), line(17)), mixed(standard(2), [9]int{}), replaced(standard(2), 8, math.MaxInt), {}} {
			if e := profile.Check(named(p, name)); e != api.ErrName {
				t.Errorf("Check(%v) = %d", named(p, name), int(e))
			}
		}
	}
	if e := profile.Check(api.Profile{Name: "x"}); e != api.ErrProfile {
		t.Errorf("Check without a curve and a matrix = %d", int(e))
	}
	for _, p := range wrong() {
		if e := profile.Check(p); e != errorOf(p) {
			t.Errorf("Check(%v) = %d, expected %d", p, int(e), int(errorOf(p)))
		}
	}
}

// The knots behind the length are not read.
func TestCapacity(t *testing.T) {
	k := append(line(2), knots(3, -1, 2, 70000)...)
	p := curved(standard(0), k[:2])
	s, e := profile.Bytes(p)
	if profile.Check(p) != api.OK || e != api.OK || s != raw(standard(0)) || profile.Linear(p, px(7, 8, 9, 0)) != [3]int{7, 8, 9} {
		t.Error("a knot behind the length is read")
	}
	if e := profile.Check(curved(p, k[:1])); e != api.ErrProfile {
		t.Errorf("Check with one knot = %d", int(e))
	}
	if !slices.Equal(k, knots(0, 0, 65535, 65535, 3, -1, 2, 70000)) {
		t.Errorf("the knots are %v now", k)
	}
}

// P9.2

func TestLinear(t *testing.T) {
	for _, c := range []struct {
		number int
		x      api.Pixel
		want   [3]int
	}{
		{0, px(1, 2, 3, 0), [3]int{1, 2, 3}},
		{0, px(-1, 70000, 3, 5), [3]int{0, 65535, 3}},
		{0, px(math.MinInt, math.MaxInt, 65536, math.MinInt), [3]int{0, 65535, 65535}},
		{3, px(16384, 0, 0, 65535), [3]int{7500, 250, 0}},
		{3, px(16384, 0, 0, 0), [3]int{7500, 250, 0}},
		{3, px(16384, -9, math.MinInt, math.MaxInt), [3]int{7500, 250, 0}},
		{3, px(0, 32768, 0, 0), [3]int{1875, 23250, 1500}},
		{3, px(10000, 20000, 30000, 9), [3]int{5657, 11835, 21198}},
		{3, px(60000, 1000, 33333, 9), [3]int{53909, 2854, 23769}},
		{3, px(65535, 65535, 65535, 9), [3]int{65535, 65535, 65535}},
		{3, px(65536, math.MaxInt, 1<<40, 9), [3]int{65535, 65535, 65535}},
		{1, px(65535, 0, 0, 9), [3]int{27031, 13938, 1267}},
		{1, px(0, 65535, 0, 9), [3]int{23434, 46867, 7811}},
		{1, px(0, 0, 65535, 9), [3]int{11825, 4730, 62278}},
		{1, px(65535, 65535, 65535, 9), [3]int{62289, 65535, 71356}},
		{1, px(10000, 20000, 30000, 9), [3]int{4514, 4736, 11820}},
		{2, px(65535, 0, 0, 9), [3]int{37796, 19489, 1772}},
		{2, px(10000, 20000, 30000, 9), [3]int{3900, 4449, 12288}},
		{2, px(60000, 1000, 33333, 9), [3]int{34112, 17309, 16227}},
	} {
		if got := profile.Linear(standard(c.number), c.x); got != c.want {
			t.Errorf("Linear of %v with the profile %d = %v, expected %v", c.x, c.number, got, c.want)
		}
	}
}

// Colors may be less than 0 and greater than Unit.
func TestLinearBeyond(t *testing.T) {
	p := mixed(standard(0), diagonal(1<<20, -1<<20, 65536))
	if got := profile.Linear(p, px(65535, 65535, 9, 0)); got != [3]int{16 * 65535, -16 * 65535, 9} {
		t.Errorf("Linear = %v", got)
	}
}

func TestLinearNotValid(t *testing.T) {
	for _, p := range wrong() {
		for _, x := range []api.Pixel{px(1, 2, 3, 4), px(65535, 65535, 65535, 65535), px(math.MinInt, math.MaxInt, 70000, -1)} {
			if got := profile.Linear(p, x); got != [3]int{} {
				t.Errorf("Linear(%v, %v) = %v", p, x, got)
			}
		}
	}
}

func TestEncode(t *testing.T) {
	for _, c := range []struct {
		number int
		v      [3]int
		want   [3]int
	}{
		{0, [3]int{70000, -1, 5}, [3]int{65535, 0, 5}},
		{0, [3]int{0, 65535, 1}, [3]int{0, 65535, 1}},
		{0, [3]int{65534, 65536, -65536}, [3]int{65534, 65535, 0}},
		{0, [3]int{math.MaxInt, math.MinInt, 1 << 40}, [3]int{65535, 0, 65535}},
		{0, [3]int{1 << 30, -1 << 30, 1<<30 + 1}, [3]int{65535, 0, 65535}},
		{3, [3]int{7500, 250, 0}, [3]int{16384, 0, 0}},
		{3, [3]int{1000, 2000, 3000}, [3]int{1794, 4018, 6128}},
		{3, [3]int{40000, 30000, 20000}, [3]int{45928, 37034, 27548}},
		{3, [3]int{30000, -5, 70000}, [3]int{38982, 0, 65535}},
		{3, [3]int{65535, 65535, 65535}, [3]int{65535, 65535, 65535}},
		{1, [3]int{30000, -5, 70000}, [3]int{64025, 0, 65535}},
		{1, [3]int{1000, 2000, 3000}, [3]int{0, 14944, 14724}},
		{1, [3]int{65535, 65535, 65535}, [3]int{65535, 63941, 62725}},
		{1, [3]int{math.MaxInt, math.MinInt, 0}, [3]int{65535, 0, 65535}},
		{2, [3]int{40000, 30000, 20000}, [3]int{61743, 36464, 35515}},
		{2, [3]int{}, [3]int{}},
	} {
		for alpha, limited := range map[int]int{1: 1, 5: 5, 65534: 65534, 65535: 65535, 65536: 65535, math.MaxInt: 65535} {
			want := px(c.want[0], c.want[1], c.want[2], limited)
			if got, e := profile.Encode(standard(c.number), c.v, alpha); got != want || e != api.OK {
				t.Errorf("Encode of %v with the profile %d and the alpha %d = %v, %d; expected %v", c.v, c.number, alpha, got, int(e), want)
			}
		}
		for _, alpha := range []int{0, -1, -65535, -65536, math.MinInt} {
			if got, e := profile.Encode(standard(c.number), c.v, alpha); got != (api.Pixel{}) || e != api.OK {
				t.Errorf("Encode of %v with the profile %d and the alpha %d = %v, %d", c.v, c.number, alpha, got, int(e))
			}
		}
	}
}

// Every element at the limits of unit values, and far beyond, in each place.
func TestEncodeLimits(t *testing.T) {
	for v, want := range map[int]int{
		math.MinInt: 0, math.MinInt + 1: 0, -1 << 30: 0, -65536: 0, -1: 0, 0: 0, 1: 1, 2: 2,
		65534: 65534, 65535: 65535, 65536: 65535, 131070: 65535, 1 << 30: 65535, math.MaxInt - 1: 65535, math.MaxInt: 65535,
	} {
		for i := range 3 {
			color, limited := [3]int{300, 400, 500}, [3]int{300, 400, 500}
			color[i], limited[i] = v, want
			got, e := profile.Encode(standard(0), color, 7)
			if got != px(limited[0], limited[1], limited[2], 7) || e != api.OK {
				t.Errorf("Encode of %v = %v, %d", color, got, int(e))
			}
		}
	}
}

func TestEncodeNotValid(t *testing.T) {
	for _, p := range wrong() {
		for _, alpha := range []int{math.MinInt, 0, 9, 65535, math.MaxInt} {
			if got, e := profile.Encode(p, [3]int{1, 2, 3}, alpha); got != (api.Pixel{}) || e != errorOf(p) {
				t.Errorf("Encode(%v, 1 2 3, %d) = %v, %d", p, alpha, got, int(e))
			}
		}
	}
}

// With the profile linear, a pixel that is not clear comes back.
func TestLinearEncode(t *testing.T) {
	linear := standard(0)
	r := random(97)
	for v := range 65536 {
		x := px(v, 65535-v, r.below(65536), 1+r.below(65535))
		if got, e := profile.Encode(linear, profile.Linear(linear, x), x.A); got != x || e != api.OK {
			t.Fatalf("Encode of Linear of %v = %v, %d", x, got, int(e))
		}
		x.A = 0
		if got, e := profile.Encode(linear, profile.Linear(linear, x), x.A); got != (api.Pixel{}) || e != api.OK {
			t.Fatalf("Encode of Linear of %v = %v, %d", x, got, int(e))
		}
	}
}

// P9.4

func TestBytes(t *testing.T) {
	s, e := profile.Bytes(standard(0))
	one, none := "\x80\x80\x08", "\x00"
	want := "\x06linear\x02" + none + none + "\xfe\xff\x07\xfe\xff\x07" + one + none + none + none + one + none + none + none + one
	if s != want || e != api.OK || len(s) != 31 {
		t.Errorf("Bytes of linear = %x, %d", s, int(e))
	}
	p := api.Profile{Name: "n", Curve: knots(0, 0, 63, 64, 65535, 65535), M: [9]int{-65536, 1, -1, 0, 8192, -64, -65, 0, 65536}}
	s, e = profile.Bytes(p)
	want = "\x01n\x03" + "\x00\x00\x7e\x80\x01\xfe\xff\x07\xfe\xff\x07" + "\xff\xff\x07\x02\x01\x00\x80\x80\x01\x7f\x81\x01\x00\x80\x80\x08"
	if s != want || e != api.OK {
		t.Errorf("Bytes of %v = %x, %d", p, s, int(e))
	}
}

func TestBytesNotValid(t *testing.T) {
	for _, p := range wrong() {
		if s, e := profile.Bytes(p); s != "" || e != errorOf(p) {
			t.Errorf("Bytes(%v) = %x, %d", p, s, int(e))
		}
	}
}

// encoded are valid profiles, from the least to the greatest.
func encoded() []api.Profile {
	long := api.Profile{Name: strings.Repeat("~", 32), Curve: line(16), M: diagonal(1<<20, -1<<20, 1<<20)}
	short := api.Profile{Name: "!", Curve: line(2), M: diagonal(-65536, 65536, 4096)}
	return []api.Profile{standard(0), standard(1), standard(2), standard(3), long, short}
}

func TestParse(t *testing.T) {
	for _, p := range encoded() {
		s, e := profile.Bytes(p)
		if s != raw(p) || e != api.OK {
			t.Errorf("Bytes(%v) = %x, %d", p, s, int(e))
		}
		if q, e := profile.Parse(s); e != api.OK || !same(p, q) {
			t.Errorf("Parse(%x) = %v, %d; expected %v", s, q, int(e), p)
		}
	}
}

// checkParse checks the error of a text that is not an encoding of a valid profile.
func checkParse(t *testing.T, s string, want api.Errno) {
	t.Helper()
	if p, e := profile.Parse(s); e != want || !zero(p) {
		t.Errorf("Parse(%x) = %v, %d; expected %d", s, p, int(e), int(want))
	}
}

// Each beginning of an encoding ends too early, and a byte behind it is left.
func TestParseParts(t *testing.T) {
	for _, p := range encoded() {
		s := raw(p)
		for n := range len(s) {
			checkParse(t, s[:n], api.ErrShort)
		}
		for b := range 256 {
			checkParse(t, s+string([]byte{byte(b)}), api.ErrExtra)
		}
		checkParse(t, s+s, api.ErrExtra)
	}
}

func TestParseLimits(t *testing.T) {
	s := raw(standard(0))
	for _, length := range []string{"\x21", "\x7f", "\xac\x02", "\xff\xff\xff\xff\xff\xff\xff\xff\xff\x01"} {
		checkParse(t, length+s[1:], api.ErrLimit)
		checkParse(t, length+strings.Repeat("n", 300)+s[7:], api.ErrLimit)
		checkParse(t, length, api.ErrLimit)
		checkParse(t, s[:7]+length+s[8:], api.ErrLimit)
		checkParse(t, s[:7]+length, api.ErrLimit)
	}
	checkParse(t, s[:7]+"\x11"+strings.Repeat("\x00", 34)+s[16:], api.ErrLimit)
	checkParse(t, raw(curved(standard(0), line(17))), api.ErrLimit)
	checkParse(t, raw(named(standard(0), strings.Repeat("n", 33))), api.ErrLimit)
	// A length within the limits, but beyond the text.
	checkParse(t, "\x20"+s[1:], api.ErrShort)
	checkParse(t, s[:7]+"\x10"+s[8:], api.ErrShort)
}

// Each number of an encoding, not in its shortest form, and beyond 64 bits.
func TestParseForm(t *testing.T) {
	s := raw(standard(0))
	for _, place := range []struct{ at, length int }{
		{0, 1}, {7, 1}, {8, 1}, {9, 1}, {10, 3}, {13, 3}, {16, 3}, {19, 1}, {20, 1}, {21, 1}, {22, 3}, {25, 1}, {26, 1}, {27, 1}, {28, 3},
	} {
		end := place.at + place.length
		longer := s[:end-1] + string([]byte{s[end-1] | 128, 0}) + s[end:]
		checkParse(t, longer, api.ErrForm)
		checkParse(t, s[:end-1]+string([]byte{s[end-1] | 128, 128, 0})+s[end:], api.ErrForm)
		checkParse(t, longer+"x", api.ErrForm)
		checkParse(t, longer[:end+1], api.ErrForm)
		checkParse(t, s[:place.at]+strings.Repeat("\xff", 9)+"\x02"+s[end:], api.ErrForm)
		checkParse(t, s[:place.at]+strings.Repeat("\x80", 10)+s[end:], api.ErrForm)
	}
}

// The encoding of a profile that is not valid, alone and with a byte behind it.
func TestParseNotValid(t *testing.T) {
	for _, p := range wrong() {
		want := errorOf(p)
		if len(p.Name) > 32 || len(p.Curve) > 16 {
			want = api.ErrLimit
		}
		checkParse(t, raw(p), want)
		if want != api.ErrLimit {
			want = api.ErrExtra
		}
		checkParse(t, raw(p)+"x", want)
	}
	s := raw(standard(0))
	checkParse(t, "", api.ErrShort)
	checkParse(t, "\x00"+s[7:], api.ErrName)
	checkParse(t, "\x00\x00"+strings.Repeat("\x00", 9), api.ErrName)
	checkParse(t, "\x01x\x00"+strings.Repeat("\x00", 9), api.ErrProfile)
	checkParse(t, s[:7]+"\x00"+s[16:], api.ErrProfile)
}

// The knots that Parse returns are new with each call.
func TestParseNewMemory(t *testing.T) {
	s := raw(standard(1))
	p, _ := profile.Parse(s)
	clear(p.Curve)
	if q, e := profile.Parse(s); e != api.OK || !same(q, standard(1)) {
		t.Errorf("Parse(%x) = %v, %d", s, q, int(e))
	}
}
