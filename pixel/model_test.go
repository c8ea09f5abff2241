package pixel_test

import (
	"math"
	"math/big"
	"strings"
	"testing"

	"imageeditor/api"
	"imageeditor/pixel"
)

// random is a xorshift generator; the same numbers in every run.
type random uint64

func (r *random) next() uint64 {
	*r ^= *r << 13
	*r ^= *r >> 7
	*r ^= *r << 17
	return uint64(*r)
}

func (r *random) below(n int) int { return int(r.next() % uint64(n)) }

// value returns a unit value, a value near 0 or Unit, or any int.
func (r *random) value() int {
	switch r.below(8) {
	case 0:
		return r.below(7) - 3
	case 1:
		return api.Unit - 3 + r.below(7)
	case 2:
		return int(r.next()) >> r.below(64)
	case 3:
		return r.below(300)
	}
	return r.below(api.Unit + 1)
}

func (r *random) pixel() api.Pixel {
	return api.Pixel{R: r.value(), G: r.value(), B: r.value(), A: r.value()}
}

// valid returns a valid pixel.
func (r *random) valid() api.Pixel {
	p := r.pixel()
	return api.Pixel{R: slowUnit(p.R), G: slowUnit(p.G), B: slowUnit(p.B), A: slowUnit(p.A)}
}

// seen returns a valid pixel that is not clear.
func (r *random) seen() api.Pixel {
	p := r.valid()
	p.A = max(p.A, 1)
	return p
}

// edges are the values at which limits begin or end.
func edges() []int {
	return []int{
		math.MinInt, math.MinInt + 1, -1 << 40, -65536, -65535, -2, -1, 0, 1, 2, 3, 127, 128, 129, 254, 255, 256, 257, 258,
		21845, 32766, 32767, 32768, 32769, 65278, 65406, 65407, 65533, 65534, 65535, 65536, 65537, 131070, 1 << 40, math.MaxInt - 1, math.MaxInt,
	}
}

// pixels calls f with pixels that have an edge in each place, and with pseudorandom ones.
func pixels(seed random, f func(p api.Pixel)) {
	r := seed
	for _, e := range edges() {
		f(api.Pixel{R: e, G: e, B: e, A: e})
		for place := range 4 {
			for range 4 {
				v := values(r.pixel())
				v[place] = e
				f(made(v))
			}
			for _, a := range edges() {
				v := values(r.pixel())
				v[place] = e
				v[3] = a
				f(made(v))
			}
		}
	}
	for range 5000 {
		f(r.pixel())
	}
}

// doubles calls f with pairs of pixels and a number, each of them at edges or pseudorandom.
func doubles(seed random, f func(a, b api.Pixel, t int)) {
	r := seed
	pixels(seed+1, func(p api.Pixel) {
		q := r.pixel()
		f(p, q, r.value())
		f(q, p, edges()[r.below(len(edges()))])
	})
	for _, t := range edges() {
		for _, x := range edges() {
			for _, y := range edges() {
				a, b := r.pixel(), r.pixel()
				a.A, b.A = x, y
				f(a, b, t)
			}
		}
	}
	for range 20000 {
		a, b := r.valid(), r.valid()
		if r.below(2) == 0 {
			a.A, b.A = r.below(5), r.below(5)
		}
		f(a, b, r.below(api.Unit+1))
	}
}

func values(p api.Pixel) [4]int { return [4]int{p.R, p.G, p.B, p.A} }

func made(v [4]int) api.Pixel { return api.Pixel{R: v[0], G: v[1], B: v[2], A: v[3]} }

func slowUnit(x int) int {
	if x < 0 {
		return 0
	}
	if x > 65535 {
		return 65535
	}
	return x
}

func slowLimit(p api.Pixel) api.Pixel {
	v := values(p)
	for i := range v {
		v[i] = slowUnit(v[i])
	}
	return made(v)
}

// whole returns the product of the factors as an exact fraction.
func whole(factors ...int) *big.Rat {
	product := big.NewRat(1, 1)
	for _, n := range factors {
		product.Mul(product, new(big.Rat).SetInt64(int64(n)))
	}
	return product
}

// rounded returns the greatest integer that is at most x + 1/2.
func rounded(x *big.Rat) int {
	y := new(big.Rat).Add(x, big.NewRat(1, 2))
	return int(new(big.Int).Div(y.Num(), y.Denom()).Int64())
}

func over(x, y *big.Rat) *big.Rat { return new(big.Rat).Quo(x, y) }

func plus(x, y *big.Rat) *big.Rat { return new(big.Rat).Add(x, y) }

func slowPre(p api.Pixel) api.Pixel {
	v := values(slowLimit(p))
	for i := range 3 {
		v[i] = rounded(over(whole(v[i], v[3]), whole(65535)))
	}
	return made(v)
}

func slowStraight(p api.Pixel) api.Pixel {
	v := values(slowLimit(p))
	if v[3] == 0 {
		return api.Pixel{}
	}
	for i := range 3 {
		v[i] = min(65535, rounded(over(whole(v[i], 65535), whole(v[3]))))
	}
	return made(v)
}

func slowFade(p api.Pixel, a int) api.Pixel {
	p = slowLimit(p)
	p.A = rounded(over(whole(p.A, slowUnit(a)), whole(65535)))
	if p.A == 0 {
		return api.Pixel{}
	}
	return p
}

func slowMix(a, b api.Pixel, t int) api.Pixel {
	v, w := values(slowLimit(a)), values(slowLimit(b))
	t = slowUnit(t)
	d := plus(whole(v[3], 65535-t), whole(w[3], t))
	alpha := rounded(over(d, whole(65535)))
	if alpha == 0 {
		return api.Pixel{}
	}
	var m [4]int
	for i := range 3 {
		m[i] = rounded(over(plus(whole(v[i], v[3], 65535-t), whole(w[i], w[3], t)), d))
	}
	m[3] = alpha
	return made(m)
}

func slowLuma(p api.Pixel) int {
	p = slowLimit(p)
	sum := plus(plus(whole(13933, p.R), whole(46871, p.G)), whole(4731, p.B))
	return rounded(over(sum, whole(65535)))
}

func slowDist(a, b api.Pixel) int {
	v, w := values(slowLimit(a)), values(slowLimit(b))
	most := 0
	for i := range v {
		for _, d := range []int{v[i] - w[i], w[i] - v[i]} {
			if d > most {
				most = d
			}
		}
	}
	return most
}

// slowParse looks each digit up, in a list that is as long as the notation.
func slowParse(s string) (api.Pixel, api.Errno) {
	each := map[int][]int{4: {1, 1, 2, 2, 3, 3}, 7: {1, 2, 3, 4, 5, 6}, 9: {1, 2, 3, 4, 5, 6, 7, 8}}[len(s)]
	if each == nil || s[0] != '#' {
		return api.Pixel{}, api.ErrForm
	}
	v := [4]int{0, 0, 0, 255}
	if len(each) == 8 {
		v[3] = 0
	}
	for i, place := range each {
		n := strings.IndexByte("0123456789abcdef0123456789ABCDEF", s[place])
		if n < 0 {
			return api.Pixel{}, api.ErrForm
		}
		v[i/2] = v[i/2]*16 + n%16
	}
	for i := range v {
		v[i] *= 257
	}
	return made(v), api.OK
}

// checkValid reports a pixel that is not valid, or that is clear and has colored channels.
func checkValid(t *testing.T, name string, p api.Pixel) {
	t.Helper()
	for _, v := range values(p) {
		if v < 0 || v > 65535 {
			t.Fatalf("%s: %v is not valid", name, p)
		}
	}
	if p.A == 0 && p != (api.Pixel{}) {
		t.Fatalf("%s: %v is clear, but not zero", name, p)
	}
}

// P6.1

func TestModelOne(t *testing.T) {
	pixels(1, func(p api.Pixel) {
		limited := slowLimit(p)
		if got := pixel.Limit(p); got != limited {
			t.Fatalf("Limit(%v) = %v, expected %v", p, got, limited)
		}
		if got := pixel.Valid(p); got != (p == limited) {
			t.Fatalf("Valid(%v) = %v", p, got)
		}
		if got, want := pixel.Pre(p), slowPre(p); got != want {
			t.Fatalf("Pre(%v) = %v, expected %v", p, got, want)
		}
		if got, want := pixel.Straight(p), slowStraight(p); got != want {
			t.Fatalf("Straight(%v) = %v, expected %v", p, got, want)
		}
		if got, want := pixel.Luma(p), slowLuma(p); got != want {
			t.Fatalf("Luma(%v) = %d, expected %d", p, got, want)
		}
		if !pixel.Valid(pixel.Limit(p)) {
			t.Fatalf("Limit(%v) is not valid", p)
		}
		checkValid(t, "Pre", pixel.Pre(p))
		checkValid(t, "Straight", pixel.Straight(p))
		if l := pixel.Luma(p); l < 0 || l > 65535 {
			t.Fatalf("Luma(%v) = %d", p, l)
		}
	})
}

func TestModelTwo(t *testing.T) {
	doubles(2, func(a, b api.Pixel, n int) {
		if got, want := pixel.Fade(a, n), slowFade(a, n); got != want {
			t.Fatalf("Fade(%v, %d) = %v, expected %v", a, n, got, want)
		}
		if got, want := pixel.Mix(a, b, n), slowMix(a, b, n); got != want {
			t.Fatalf("Mix(%v, %v, %d) = %v, expected %v", a, b, n, got, want)
		}
		if got, want := pixel.Dist(a, b), slowDist(a, b); got != want {
			t.Fatalf("Dist(%v, %v) = %d, expected %d", a, b, got, want)
		}
		checkValid(t, "Fade", pixel.Fade(a, n))
		checkValid(t, "Mix", pixel.Mix(a, b, n))
	})
}

// The quotients of Straight with a small alpha, and those of Pre with half of Unit, are close to one half.
func TestModelHalves(t *testing.T) {
	for a := 1; a <= 40; a++ {
		for c := 0; c <= a+1; c++ {
			p := api.Pixel{R: c, G: a - c/2, B: 65535 - c, A: a}
			if got, want := pixel.Straight(p), slowStraight(p); got != want {
				t.Fatalf("Straight(%v) = %v, expected %v", p, got, want)
			}
		}
	}
	for _, a := range []int{32766, 32767, 32768, 32769, 21845, 13107, 6554, 3, 2, 1} {
		for c := range 200 {
			p := api.Pixel{R: c, G: 32700 + c, B: 65535 - c, A: a}
			if got, want := pixel.Pre(p), slowPre(p); got != want {
				t.Fatalf("Pre(%v) = %v, expected %v", p, got, want)
			}
			p.A = c
			if got, want := pixel.Fade(p, a), slowFade(p, a); got != want {
				t.Fatalf("Fade(%v, %d) = %v, expected %v", p, a, got, want)
			}
		}
	}
}

// Mixes whose sum of weights is small or even, so that many quotients are just below, at and above one half.
func TestModelMixHalves(t *testing.T) {
	halves := 0
	for x := range 6 {
		for y := range 6 {
			for _, n := range []int{0, 1, 2, 3, 257, 13107, 21845, 26214, 32766, 32767, 32768, 32769, 39321, 43690, 65532, 65533, 65534, 65535} {
				a, b := api.Pixel{R: 0, G: 7, B: 65535, A: x}, api.Pixel{R: 5, G: 65532, B: 2, A: y}
				if got, want := pixel.Mix(a, b, n), slowMix(a, b, n); got != want {
					t.Fatalf("Mix(%v, %v, %d) = %v, expected %v", a, b, n, got, want)
				}
				d := x*(65535-n) + y*n
				if d != 0 && 2*(5*y*n)%d == 0 && 5*y*n%d != 0 {
					halves++
				}
			}
		}
	}
	if halves == 0 {
		t.Error("no quotient is one half")
	}
}

// P6.5

func TestModelParse(t *testing.T) {
	const bytes = "0189afAF" + "#g@G`/:xX_+-. \t\n\x00\x80\xff"
	r := random(5)
	accepted := 0
	for range 60000 {
		s := make([]byte, r.below(11))
		for i := range s {
			s[i] = bytes[r.below(8)]
			if r.below(24) == 0 {
				s[i] = bytes[r.below(len(bytes))]
			}
		}
		if len(s) > 0 && r.below(8) != 0 {
			s[0] = '#'
		}
		got, e := pixel.Parse(string(s))
		want, f := slowParse(string(s))
		if got != want || e != f {
			t.Fatalf("Parse(%q) = %v, %d; expected %v, %d", s, got, int(e), want, int(f))
		}
		if e == api.OK {
			accepted++
		}
		if e == api.OK && !pixel.Valid(got) {
			t.Fatalf("Parse(%q) = %v is not valid", s, got)
		}
	}
	if accepted < 1000 {
		t.Errorf("only %d notations", accepted)
	}
}
