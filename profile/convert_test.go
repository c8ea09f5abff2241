package profile_test

import (
	"math"
	"slices"
	"testing"

	"imageeditor/api"
	"imageeditor/profile"
)

// P9.3

func TestConvert(t *testing.T) {
	for _, c := range []struct {
		from, to int
		x, want  api.Pixel
	}{
		{0, 3, px(5, 6, 7, 0), api.Pixel{}},
		{0, 0, px(5, 6, 7, 0), px(5, 6, 7, 0)},
		{0, 3, px(10000, 20000, 30000, 9), px(17167, 28284, 37622, 9)},
		{0, 1, px(65535, 65535, 65535, 65535), px(65535, 63941, 62725, 65535)},
		{1, 0, px(10000, 20000, 30000, 1), px(4514, 4736, 11820, 1)},
		{1, 0, px(65535, 65535, 65535, 2), px(62289, 65535, 65535, 2)},
		{1, 2, px(65535, 0, 0, 9), px(56187, 0, 0, 9)},
		{1, 2, px(60000, 1000, 33333, 9), px(51292, 933, 32469, 9)},
		{2, 1, px(10000, 20000, 30000, 9), px(0, 20125, 30640, 9)},
		{2, 3, px(60000, 1000, 33333, 9), px(41683, 24935, 24386, 9)},
		{3, 1, px(0, 0, 65535, 9), px(0, 19862, 65177, 9)},
		{3, 2, px(10000, 20000, 30000, 9), px(0, 35792, 38149, 9)},
		{3, 0, px(70000, -5, math.MinInt, math.MaxInt), px(59999, 2000, 0, 65535)},
		{2, 0, px(math.MaxInt, 65536, 65535, 65536), px(62289, 65535, 65535, 65535)},
		{2, 3, px(math.MinInt, -1, 0, 7), px(0, 0, 0, 7)},
		{1, 2, px(math.MaxInt, 5, 5, math.MinInt), api.Pixel{}},
	} {
		if got, e := profile.Convert(standard(c.from), standard(c.to), c.x); got != c.want || e != api.OK {
			t.Errorf("Convert from %d to %d of %v = %v, %d; expected %v", c.from, c.to, c.x, got, int(e), c.want)
		}
	}
}

// values are values of pixels, valid and not.
func values() map[int]int {
	return map[int]int{math.MinInt: 0, -65536: 0, -1: 0, 0: 0, 1: 1, 32768: 32768, 65534: 65534, 65535: 65535, 65536: 65535, 1 << 40: 65535, math.MaxInt: 65535}
}

// A conversion keeps the alpha, limited to a unit value.
func TestConvertAlpha(t *testing.T) {
	for from := range 4 {
		for to := range 4 {
			for alpha, limited := range values() {
				got, e := profile.Convert(standard(from), standard(to), px(10000, 20000, 30000, alpha))
				if e != api.OK || got.A != limited || limited == 0 && from != to && got != (api.Pixel{}) {
					t.Errorf("Convert from %d to %d with the alpha %d = %v, %d", from, to, alpha, got, int(e))
				}
			}
		}
	}
}

// A conversion to an equal profile, whose curve is another list, only limits the pixel, even a clear one.
func TestConvertEqual(t *testing.T) {
	for _, p := range encoded() {
		equal := curved(p, slices.Clone(p.Curve))
		for v, limited := range values() {
			for i := range 4 {
				x, want := [4]int{3, 20000, 60001, 0}, [4]int{3, 20000, 60001, 0}
				x[i], want[i] = v, limited
				got, e := profile.Convert(p, equal, px(x[0], x[1], x[2], x[3]))
				if got != px(want[0], want[1], want[2], want[3]) || e != api.OK {
					t.Errorf("Convert from %v to itself of %v = %v, %d", p, x, got, int(e))
				}
			}
		}
	}
}

// Profiles that differ in one thing are not equal: a clear pixel becomes the zero pixel.
func TestConvertAlmostEqual(t *testing.T) {
	count := 0
	for _, p := range encoded() {
		others := []api.Profile{named(p, "other"), named(p, p.Name[1:]+"?")}
		for i := range 9 {
			others = append(others, replaced(p, i, p.M[i]+1-2*(i/8)))
		}
		// The last of the knots that can be moved, and one knot more.
		if n := len(p.Curve); n > 2 {
			for _, d := range []api.Knot{{X: 1}, {Y: 1}} {
				k := slices.Clone(p.Curve)
				k[n-2] = api.Knot{X: k[n-2].X + d.X, Y: k[n-2].Y + d.Y}
				others = append(others, curved(p, k))
			}
		}
		if len(p.Curve) < 16 {
			others = append(others, curved(p, slices.Insert(slices.Clone(p.Curve), 1, api.Knot{X: 1, Y: 1})))
		}
		for _, q := range others {
			if slowCheck(q) != api.OK {
				continue
			}
			count++
			for _, c := range [][2]api.Profile{{p, q}, {q, p}} {
				if got, e := profile.Convert(c[0], c[1], px(5, 6, 7, 0)); got != (api.Pixel{}) || e != api.OK {
					t.Errorf("Convert from %v to %v of a clear pixel = %v, %d", c[0], c[1], got, int(e))
				}
			}
		}
	}
	if count < 70 {
		t.Errorf("only %d of the other profiles are valid", count)
	}
}

// The name alone: the pixels take the way through the connection space, and those of srgb are rounded on it.
func TestConvertOtherName(t *testing.T) {
	srgb := standard(1)
	if got, e := profile.Convert(srgb, named(srgb, "other"), px(1, 2, 3, 9)); got != px(0, 0, 0, 9) || e != api.OK {
		t.Errorf("Convert = %v, %d", got, int(e))
	}
	if got, e := profile.Convert(srgb, srgb, px(1, 2, 3, 9)); got != px(1, 2, 3, 9) || e != api.OK {
		t.Errorf("Convert = %v, %d", got, int(e))
	}
}

func TestConvertOneKnot(t *testing.T) {
	low := curved(standard(0), knots(0, 0, 16384, 8192, 65535, 65535))
	high := curved(standard(0), knots(0, 0, 16384, 8193, 65535, 65535))
	if got, e := profile.Convert(low, high, px(16384, 0, 0, 9)); got != px(16382, 0, 0, 9) || e != api.OK {
		t.Errorf("Convert = %v, %d", got, int(e))
	}
	if got, e := profile.Convert(high, low, px(16384, 0, 0, 9)); got != px(16385, 0, 0, 9) || e != api.OK {
		t.Errorf("Convert = %v, %d", got, int(e))
	}
}

// bothWrong calls f with profiles of which one or both are not valid, and the error that decides.
func bothWrong(f func(from, to api.Profile, want api.Errno)) {
	nameless, shapeless := api.Profile{}, api.Profile{Name: "x"}
	for _, p := range wrong() {
		f(p, standard(2), errorOf(p))
		f(standard(2), p, errorOf(p))
		f(p, nameless, errorOf(p))
		f(p, shapeless, errorOf(p))
		f(nameless, p, api.ErrName)
		f(shapeless, p, api.ErrProfile)
		f(p, p, errorOf(p))
	}
}

func TestConvertNotValid(t *testing.T) {
	bothWrong(func(from, to api.Profile, want api.Errno) {
		for _, x := range []api.Pixel{px(1, 2, 3, 4), {}, px(math.MinInt, math.MaxInt, 65536, -1)} {
			if got, e := profile.Convert(from, to, x); got != (api.Pixel{}) || e != want {
				t.Errorf("Convert(%v, %v, %v) = %v, %d; expected %d", from, to, x, got, int(e), int(want))
			}
		}
	})
}

// pixels returns n valid pixels, some of them clear.
func pixels(n int) []api.Pixel {
	l := make([]api.Pixel, n)
	for i := range l {
		l[i] = px(i*7919%65536, i*104729%65536, i*1299709%65536, i%4*21845)
	}
	return l
}

// checkImage checks the conversion of a valid image pixel by pixel.
func checkImage(t *testing.T, from, to api.Profile, i api.Image) {
	t.Helper()
	got, e := profile.Image(from, to, i)
	if e != api.OK || got.W != i.W || got.H != i.H || len(got.Pix) != len(i.Pix) {
		t.Fatalf("Image of %d by %d pixels is %d by %d, %d pixels, error %d", i.W, i.H, got.W, got.H, len(got.Pix), int(e))
	}
	for k, x := range i.Pix {
		if want, _ := profile.Convert(from, to, x); got.Pix[k] != want {
			t.Fatalf("Image of %d by %d pixels: pixel %d is %v, expected %v", i.W, i.H, k, got.Pix[k], want)
		}
	}
}

func TestImage(t *testing.T) {
	for from := range 4 {
		for to := range 4 {
			for _, size := range [][2]int{{1, 1}, {2, 3}, {5, 1}, {1, 256}, {256, 1}} {
				checkImage(t, standard(from), standard(to), api.Image{W: size[0], H: size[1], Pix: pixels(size[0] * size[1])})
			}
			for _, pix := range [][]api.Pixel{nil, {}, pixels(4)[:0]} {
				got, e := profile.Image(standard(from), standard(to), api.Image{Pix: pix})
				if e != api.OK || got.W != 0 || got.H != 0 || len(got.Pix) != 0 {
					t.Errorf("Image of the empty image = %v, %d", got, int(e))
				}
			}
		}
	}
	checkImage(t, standard(1), standard(2), api.Image{W: 256, H: 256, Pix: pixels(65536)})
}

// An image is a copy, also if the profiles are equal, and the argument is not changed.
func TestImageNewMemory(t *testing.T) {
	for to := range 4 {
		all := pixels(12)
		i := api.Image{W: 3, H: 2, Pix: all[:6]}
		got, e := profile.Image(standard(1), standard(to), i)
		if e != api.OK || !slices.Equal(all, pixels(12)) {
			t.Errorf("after Image, error %d: the pixels are %v", int(e), all)
		}
		if to == 1 && !slices.Equal(got.Pix, all[:6]) {
			t.Errorf("Image to the same profile = %v", got)
		}
		whole := got.Pix[:cap(got.Pix)]
		for k := range whole {
			whole[k] = px(1, 1, 1, 1)
		}
		if !slices.Equal(all, pixels(12)) {
			t.Errorf("after a change of the result the pixels are %v", all)
		}
	}
}

func TestImageSize(t *testing.T) {
	sides := []int{math.MinInt, -256, -2, -1, 0, 1, 2, 255, 256, 257, 65536, 1 << 32, math.MaxInt}
	for _, w := range sides {
		for _, h := range sides {
			right := w >= 0 && w <= 256 && h >= 0 && h <= 256 && (w == 0) == (h == 0)
			counts := []int{0, 1, 256, 257, 65535, 65536}
			if right {
				counts = []int{w * h, w*h - 1, w*h + 1}
			}
			for _, n := range counts {
				if n < 0 {
					continue
				}
				want := api.ErrSize
				if right && n == w*h {
					want = api.OK
				}
				got, e := profile.Image(standard(0), standard(0), api.Image{W: w, H: h, Pix: make([]api.Pixel, n)})
				if e != want || e != api.OK && (got.W != 0 || got.H != 0 || len(got.Pix) != 0) {
					t.Errorf("Image of %d by %d with %d pixels: %d by %d, %d", w, h, n, got.W, got.H, int(e))
				}
			}
		}
	}
	// In 64 bits, the product of the sides of most of these is the number of pixels.
	for _, i := range []api.Image{
		{W: -2, H: -3, Pix: pixels(6)}, {W: -1, H: -1, Pix: pixels(1)}, {W: 1 << 32, H: 1 << 32}, {W: math.MinInt, H: 2},
		{W: 257, H: 1, Pix: pixels(257)}, {W: 1, H: 257, Pix: pixels(257)}, {W: 3, H: 0}, {W: 0, H: 3}, {W: 0, H: 1, Pix: pixels(1)},
	} {
		if got, e := profile.Image(standard(0), standard(1), i); e != api.ErrSize || got.W != 0 || got.H != 0 || len(got.Pix) != 0 {
			t.Errorf("Image of %d by %d with %d pixels: %v, %d", i.W, i.H, len(i.Pix), got, int(e))
		}
	}
}

// One invalid pixel, at the first, the last and a middle place, with equal profiles and others.
func TestImageRange(t *testing.T) {
	for to := range 2 {
		for _, place := range []int{0, 5, 11} {
			for _, v := range []int{math.MinInt, -1, 65536, math.MaxInt} {
				for _, bad := range []api.Pixel{px(v, 0, 0, 0), px(0, v, 0, 0), px(0, 0, v, 0), px(0, 0, 0, v), px(v, v, v, v)} {
					i := api.Image{W: 4, H: 3, Pix: pixels(12)}
					i.Pix[place] = bad
					got, e := profile.Image(standard(0), standard(to), i)
					if e != api.ErrRange || got.W != 0 || got.H != 0 || len(got.Pix) != 0 {
						t.Errorf("Image with the pixel %v at %d = %v, %d", bad, place, got, int(e))
					}
				}
			}
		}
	}
}

// The pixels behind the length are not read.
func TestImageCapacity(t *testing.T) {
	all := append(pixels(4), px(-1, 70000, 0, 0))
	if got, e := profile.Image(standard(0), standard(3), api.Image{W: 2, H: 2, Pix: all[:4]}); e != api.OK || len(got.Pix) != 4 {
		t.Errorf("Image = %v, %d", got, int(e))
	}
}

// Of two faults, the profile from decides, then the profile to, then the size.
func TestImageTwoFaults(t *testing.T) {
	bad := []api.Pixel{px(-1, 0, 0, 0)}
	images := []api.Image{{}, {W: 1}, {W: 257, H: 1, Pix: bad}, {W: 1, H: 1, Pix: bad}, {W: 2, H: 2, Pix: pixels(4)}}
	bothWrong(func(from, to api.Profile, want api.Errno) {
		for _, i := range images {
			if got, e := profile.Image(from, to, i); e != want || got.W != 0 || got.H != 0 || len(got.Pix) != 0 {
				t.Errorf("Image(%v, %v, %v) = %v, %d; expected %d", from, to, i, got, int(e), int(want))
			}
		}
	})
	for _, i := range []api.Image{{W: 2, H: 1, Pix: bad}, {W: -1, H: -1, Pix: bad}, {Pix: bad}, {W: 0, H: 1, Pix: bad}, {W: 257, H: 1, Pix: make([]api.Pixel, 256)}} {
		if got, e := profile.Image(standard(0), standard(1), i); e != api.ErrSize || len(got.Pix) != 0 {
			t.Errorf("Image of %v = %v, %d", i, got, int(e))
		}
	}
}
