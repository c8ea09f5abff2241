package profile_test

import (
	"encoding/binary"
	"math"
	"math/big"
	"regexp"
	"slices"
	"testing"

	"imageeditor/api"
	"imageeditor/profile"
)

// random is a xorshift generator; the same numbers in every run.
type random uint64

func (r *random) next() uint64 {
	*r ^= *r << 13
	*r ^= *r >> 7
	*r ^= *r << 17
	return uint64(*r)
}

func (r *random) below(n int) int { return int(r.next() % uint64(n)) }

// within returns a number from -n to n.
func (r *random) within(n int) int { return r.below(2*n+1) - n }

// number returns a number near the limits of unit values, matrices and vectors, or any int.
func (r *random) number() int {
	sign := 2*r.below(2) - 1
	switch r.below(8) {
	case 0:
		return r.within(2)
	case 1:
		return 65535 + r.within(2)
	case 2:
		return sign * (1<<20 + r.within(2))
	case 3:
		return sign * (1<<30 + r.within(2))
	case 4:
		return []int{math.MinInt, math.MinInt + 1, math.MaxInt - 1, math.MaxInt}[r.below(4)]
	case 5:
		return int(r.next()) >> r.below(64)
	}
	return r.below(65536)
}

func (r *random) vector() [3]int { return [3]int{r.number(), r.number(), r.number()} }

func (r *random) pixel() api.Pixel {
	return api.Pixel{R: r.number(), G: r.number(), B: r.number(), A: r.number()}
}

// name returns a name.
func (r *random) name() string {
	b := make([]byte, 1+r.below(32))
	for i := range b {
		b[i] = byte(33 + r.below(94))
	}
	return string(b)
}

// rise returns n increasing numbers from 0 to Unit, many of them close together in some lists.
func (r *random) rise(n int) []int {
	seen := map[int]bool{0: true, 65535: true}
	for spread := 32 << r.below(12); len(seen) < n; {
		seen[min(65535, r.below(spread))] = true
	}
	var l []int
	for v := range seen {
		l = append(l, v)
	}
	slices.Sort(l)
	return l
}

// valid returns a valid profile.
func (r *random) valid() api.Profile {
	if r.below(8) == 0 {
		return standard(r.below(4))
	}
	p := api.Profile{Name: r.name()}
	n := 2 + r.below(15)
	x, y := r.rise(n), r.rise(n)
	for i := range n {
		p.Curve = append(p.Curve, api.Knot{X: x[i], Y: y[i]})
	}
	for {
		spread := 1 << r.below(17)
		for i := range p.M {
			p.M[i] = r.within(spread)
			if i%4 == 0 {
				p.M[i] += (2*r.below(2) - 1) * (8192 << r.below(6))
			}
		}
		if slowCheck(p) == api.OK {
			return p
		}
	}
}

// spoiled returns a profile that probably is not valid.
func (r *random) spoiled() api.Profile {
	p := r.valid()
	for range 1 + r.below(2) {
		switch i := r.below(len(p.Curve)); r.below(7) {
		case 0:
			b := []byte{0, 31, 32, 33, 126, 127, 128, 255}[r.below(8)]
			p.Name = string(slices.Insert([]byte(p.Name), r.below(len(p.Name)+1), b))
		case 1:
			p.Name = (p.Name + r.name())[:r.below(len(p.Name)+2)]
		case 2:
			p.Curve[i].X = r.number()
		case 3:
			p.Curve[i].Y = r.number()
		case 4:
			p.Curve = slices.Insert(p.Curve, i, p.Curve[i])
		case 5:
			p.M[r.below(9)] = r.number()
		case 6:
			copy(p.M[3*r.below(3):], p.M[:3])
		}
	}
	return p
}

// some returns a profile that is valid, or probably is not.
func (r *random) some() api.Profile {
	if r.below(6) == 0 {
		return r.spoiled()
	}
	return r.valid()
}

func whole(n int) *big.Int { return big.NewInt(int64(n)) }

// rounded returns the greatest integer that is at most n/d + 1/2; d is not 0.
func rounded(n, d *big.Int) *big.Int {
	x := new(big.Rat).SetFrac(n, d)
	x.Add(x, big.NewRat(1, 2))
	return new(big.Int).Div(x.Num(), x.Denom())
}

// minor returns the determinant of the elements of m that are not in row i or column j.
func minor(m [9]int, i, j int) *big.Int {
	var l []*big.Int
	for n, x := range m {
		if n/3 != i && n%3 != j {
			l = append(l, whole(x))
		}
	}
	a, b := new(big.Int).Mul(l[0], l[3]), new(big.Int).Mul(l[1], l[2])
	return a.Sub(a, b)
}

// slowInverse returns the rounded inverse of m, and whether a profile may have the matrix m.
func slowInverse(m [9]int) (inverse [9]int, ok bool) {
	det := new(big.Int)
	for j := range 3 {
		term := new(big.Int).Mul(whole(m[j]), minor(m, 0, j))
		if j == 1 {
			term.Neg(term)
		}
		det.Add(det, term)
	}
	if det.Sign() == 0 {
		return inverse, false
	}
	for n := range 9 {
		cofactor := minor(m, n%3, n/3)
		if n%2 == 1 {
			cofactor.Neg(cofactor)
		}
		x := rounded(cofactor.Lsh(cofactor, 32), det)
		if x.CmpAbs(whole(1048576)) > 0 || m[n] < -1048576 || m[n] > 1048576 {
			return [9]int{}, false
		}
		inverse[n] = int(x.Int64())
	}
	return inverse, true
}

func slowRising(k []api.Knot) bool {
	if len(k) < 2 || len(k) > 16 {
		return false
	}
	for i := range len(k) - 1 {
		if k[i].X >= k[i+1].X || k[i].Y >= k[i+1].Y {
			return false
		}
	}
	return k[0] == api.Knot{} && k[len(k)-1] == api.Knot{X: 65535, Y: 65535}
}

var name = regexp.MustCompile("^[!-~]{1,32}$")

func slowCheck(p api.Profile) api.Errno {
	if !name.MatchString(p.Name) {
		return api.ErrName
	}
	if _, ok := slowInverse(p.M); !ok || !slowRising(p.Curve) {
		return api.ErrProfile
	}
	return api.OK
}

func slowUnit(x int) int { return min(65535, max(0, x)) }

// slowAt returns the value at x of a rising curve.
func slowAt(k []api.Knot, x int) int {
	x = slowUnit(x)
	i := 1
	for x > k[i].X {
		i++
	}
	a, b := k[i-1], k[i]
	rise := new(big.Int).Mul(whole(b.Y-a.Y), whole(x-a.X))
	return a.Y + int(rounded(rise, whole(b.X-a.X)).Int64())
}

// slowApply returns m times v.
func slowApply(m [9]int, v [3]int) [3]int {
	var image [3]int
	for i := range 3 {
		sum := new(big.Int)
		for k := range 3 {
			limited := min(1<<30, max(-1<<30, v[k]))
			sum.Add(sum, new(big.Int).Mul(whole(m[3*i+k]), whole(limited)))
		}
		image[i] = int(rounded(sum, whole(65536)).Int64())
	}
	return image
}

func slowLinear(p api.Profile, x api.Pixel) [3]int {
	if slowCheck(p) != api.OK {
		return [3]int{}
	}
	return slowApply(p.M, [3]int{slowAt(p.Curve, x.R), slowAt(p.Curve, x.G), slowAt(p.Curve, x.B)})
}

func slowEncode(p api.Profile, v [3]int, alpha int) (api.Pixel, api.Errno) {
	if e := slowCheck(p); e != api.OK || alpha <= 0 {
		return api.Pixel{}, e
	}
	m, _ := slowInverse(p.M)
	w := slowApply(m, v)
	for i := range w {
		var exchanged []api.Knot
		for _, k := range p.Curve {
			exchanged = append(exchanged, api.Knot{X: k.Y, Y: k.X})
		}
		w[i] = slowAt(exchanged, w[i])
	}
	return api.Pixel{R: w[0], G: w[1], B: w[2], A: slowUnit(alpha)}, api.OK
}

func slowConvert(from, to api.Profile, x api.Pixel) (api.Pixel, api.Errno) {
	for _, p := range []api.Profile{from, to} {
		if e := slowCheck(p); e != api.OK {
			return api.Pixel{}, e
		}
	}
	if same(from, to) {
		return api.Pixel{R: slowUnit(x.R), G: slowUnit(x.G), B: slowUnit(x.B), A: slowUnit(x.A)}, api.OK
	}
	return slowEncode(to, slowLinear(from, x), x.A)
}

func slowImage(from, to api.Profile, i api.Image) (api.Image, api.Errno) {
	if _, e := slowConvert(from, to, api.Pixel{}); e != api.OK {
		return api.Image{}, e
	}
	for _, side := range []int{i.W, i.H} {
		if side < 0 || side > 256 {
			return api.Image{}, api.ErrSize
		}
	}
	if i.W+i.H > 0 && i.W*i.H == 0 || i.W*i.H != len(i.Pix) {
		return api.Image{}, api.ErrSize
	}
	var pixels []api.Pixel
	for _, x := range i.Pix {
		for _, v := range []int{x.R, x.G, x.B, x.A} {
			if v != slowUnit(v) {
				return api.Image{}, api.ErrRange
			}
		}
		converted, _ := slowConvert(from, to, x)
		pixels = append(pixels, converted)
	}
	return api.Image{W: i.W, H: i.H, Pix: pixels}, api.OK
}

// raw returns the encoding of a profile, also of one that is not valid; the variable-length numbers of package binary are the same.
func raw(p api.Profile) string {
	b := binary.AppendUvarint(nil, uint64(len(p.Name)))
	b = append(b, p.Name...)
	b = binary.AppendUvarint(b, uint64(len(p.Curve)))
	for _, k := range p.Curve {
		b = binary.AppendVarint(b, int64(k.X))
		b = binary.AppendVarint(b, int64(k.Y))
	}
	for _, x := range p.M {
		b = binary.AppendVarint(b, int64(x))
	}
	return string(b)
}

// slowParse reads the profile with an encoding.
func slowParse(s string) (api.Profile, api.Errno) {
	e := api.OK
	take := func() uint64 {
		n, length := binary.Uvarint([]byte(s))
		switch {
		case e != api.OK:
			return 0
		case length < 0 || length == 0 && len(s) >= 10 || length > 1 && s[length-1] == 0:
			e = api.ErrForm
			return 0
		case length == 0:
			e = api.ErrShort
			return 0
		}
		s = s[length:]
		return n
	}
	limited := func(most uint64) int {
		n := take()
		if n > most {
			e = api.ErrLimit
			return 0
		}
		return int(n)
	}
	signed := func() int {
		n := take()
		return int(n>>1) ^ -int(n&1)
	}
	var p api.Profile
	if n := limited(32); n <= len(s) {
		p.Name, s = s[:n], s[n:]
	} else {
		e = api.ErrShort
	}
	for range limited(16) {
		x, y := signed(), signed()
		p.Curve = append(p.Curve, api.Knot{X: x, Y: y})
	}
	for i := range p.M {
		p.M[i] = signed()
	}
	if e == api.OK && s != "" {
		e = api.ErrExtra
	}
	if e == api.OK {
		e = slowCheck(p)
	}
	if e != api.OK {
		return api.Profile{}, e
	}
	return p, e
}

// P9.1

func TestModelCheck(t *testing.T) {
	r := random(91)
	count := map[api.Errno]int{}
	for range 20000 {
		p := r.valid()
		if r.below(3) > 0 {
			p = r.spoiled()
		}
		want := slowCheck(p)
		count[want]++
		if e := profile.Check(p); e != want {
			t.Fatalf("Check(%v) = %d, expected %d", p, int(e), int(want))
		}
	}
	if min(count[api.OK], count[api.ErrName], count[api.ErrProfile]) < 2000 {
		t.Errorf("the errors and their numbers: %v", count)
	}
}

// P9.2

func TestModelColors(t *testing.T) {
	r := random(92)
	for range 20000 {
		p, x, v, alpha := r.some(), r.pixel(), r.vector(), r.number()
		if got, want := profile.Linear(p, x), slowLinear(p, x); got != want {
			t.Fatalf("Linear(%v, %v) = %v, expected %v", p, x, got, want)
		}
		if r.below(2) == 0 {
			v = slowLinear(p, x)
		}
		got, e := profile.Encode(p, v, alpha)
		if want, f := slowEncode(p, v, alpha); got != want || e != f {
			t.Fatalf("Encode(%v, %v, %d) = %v, %d; expected %v, %d", p, v, alpha, got, int(e), want, int(f))
		}
	}
}

// P9.3

func TestModelConvert(t *testing.T) {
	r := random(93)
	for range 20000 {
		from, to, x := r.some(), r.some(), r.pixel()
		if r.below(4) == 0 {
			to = api.Profile{Name: from.Name, Curve: slices.Clone(from.Curve), M: from.M}
		}
		got, e := profile.Convert(from, to, x)
		want, f := slowConvert(from, to, x)
		if got != want || e != f {
			t.Fatalf("Convert(%v, %v, %v) = %v, %d; expected %v, %d", from, to, x, got, int(e), want, int(f))
		}
		if e == api.OK && got.A != slowUnit(x.A) {
			t.Fatalf("Convert(%v, %v, %v) = %v has another alpha", from, to, x, got)
		}
	}
}

func TestModelImage(t *testing.T) {
	r := random(94)
	count := map[api.Errno]int{}
	for range 3000 {
		from, to := r.some(), r.some()
		if r.below(4) == 0 {
			to = from
		}
		i := api.Image{W: r.below(5), H: r.below(5)}
		for range i.W*i.H + r.below(8)/7 {
			x := r.pixel()
			i.Pix = append(i.Pix, api.Pixel{R: slowUnit(x.R), G: slowUnit(x.G), B: slowUnit(x.B), A: slowUnit(x.A)})
		}
		if len(i.Pix) > 0 && r.below(4) == 0 {
			i.Pix[r.below(len(i.Pix))] = r.pixel()
		}
		got, e := profile.Image(from, to, i)
		want, f := slowImage(from, to, i)
		if e != f || got.W != want.W || got.H != want.H || !slices.Equal(got.Pix, want.Pix) {
			t.Fatalf("Image(%v, %v, %v) = %v, %d; expected %v, %d", from, to, i, got, int(e), want, int(f))
		}
		count[e]++
	}
	if min(count[api.OK], count[api.ErrName], count[api.ErrProfile], count[api.ErrSize], count[api.ErrRange]) < 100 {
		t.Errorf("the errors and their numbers: %v", count)
	}
}

// P9.4

func TestModelBytes(t *testing.T) {
	r := random(95)
	for range 5000 {
		p := r.some()
		want, f := raw(p), slowCheck(p)
		if f != api.OK {
			want = ""
		}
		if s, e := profile.Bytes(p); s != want || e != f {
			t.Fatalf("Bytes(%v) = %x, %d; expected %x, %d", p, s, int(e), want, int(f))
		}
	}
}

func TestModelParse(t *testing.T) {
	r := random(96)
	count := map[api.Errno]int{}
	for range 20000 {
		b := []byte(raw(r.some()))
		switch i := r.below(len(b)); r.below(6) {
		case 0:
			b[i] ^= 1 << r.below(8)
		case 1:
			b = b[:i]
		case 2:
			b = slices.Insert(b, i, byte(r.next()))
		case 3:
			b = append(b, byte(r.next()))
		case 4:
			b = slices.Concat(b[:i], []byte{255, 255, 255, 255, 255, 255, 255, 255, 255, byte(r.below(4))}, b[i:])
		}
		s := string(b)
		got, e := profile.Parse(s)
		want, f := slowParse(s)
		if e != f || !same(got, want) {
			t.Fatalf("Parse(%x) = %v, %d; expected %v, %d", s, got, int(e), want, int(f))
		}
		if back, f := profile.Bytes(got); e == api.OK && (back != s || f != api.OK) {
			t.Fatalf("Parse(%x) = %v, and its bytes are %x, %d", s, got, back, int(f))
		}
		count[e]++
	}
	for _, e := range []api.Errno{api.OK, api.ErrLimit, api.ErrForm, api.ErrShort, api.ErrExtra, api.ErrName, api.ErrProfile} {
		if count[e] < 100 {
			t.Errorf("only %d texts with the error %d", count[e], int(e))
		}
	}
}
