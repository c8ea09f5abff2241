package digest_test

import (
	"hash/adler32"
	"hash/crc32"
	"hash/fnv"
	"math"
	"math/big"
	"strings"
	"testing"

	"imageeditor/api"
	"imageeditor/digest"
)

// P5.1

func TestCrcExamples(t *testing.T) {
	for s, want := range map[string]uint32{
		"":                         0,
		"\x00":                     0xD202EF8D,
		"\xff":                     0xFF000000,
		"a":                        0xE8B7BE43,
		"123456789":                0xCBF43926,
		"\x00\x00\x00\x00":         0x2144DF1C,
		"\xff\xff\xff\xff":         0xFFFFFFFF,
		"IEND":                     0xAE426082,
		strings.Repeat("\x00", 32): 0x190A55AD,
		strings.Repeat("\xff", 32): 0xFF6CAB0B,
		"The quick brown fox jumps over the lazy dog": 0x414FA339,
	} {
		if got := digest.Crc(s); got != want {
			t.Errorf("Crc(%q) = %#x, expected %#x", s, got, want)
		}
	}
}

func TestCrc(t *testing.T) {
	for b := range 256 {
		if got, want := digest.Crc(one(b)), slowCrc(one(b)); got != want {
			t.Errorf("Crc of the byte %d = %#x, expected %#x", b, got, want)
		}
	}
	for _, s := range strands() {
		got := digest.Crc(s)
		if want := slowCrc(s); got != want {
			t.Errorf("Crc of %d bytes % .20x = %#x, expected %#x", len(s), s, got, want)
		}
		if want := crc32.ChecksumIEEE([]byte(s)); got != want {
			t.Errorf("Crc of %d bytes % .20x = %#x, expected %#x", len(s), s, got, want)
		}
	}
}

// TestCrcOfPairs has each byte behind each other one, so that each entry of a table meets each register.
func TestCrcOfPairs(t *testing.T) {
	for a := range 256 {
		for b := range 256 {
			s := one(a) + one(b)
			if got, want := digest.Crc(s), crc32.ChecksumIEEE([]byte(s)); got != want {
				t.Fatalf("Crc(% x) = %#x, expected %#x", s, got, want)
			}
		}
	}
}

// P5.2

func TestAdlerExamples(t *testing.T) {
	for s, want := range map[string]uint32{
		"":          1,
		"\x00":      0x00010001,
		"\x01":      0x00020002,
		"\xff":      0x01000100,
		"a":         0x00620062,
		"abc":       0x024D0127,
		"123456789": 0x091E01DE,
		"Wikipedia": 0x11E60398,
	} {
		if got := digest.Adler(s); got != want {
			t.Errorf("Adler(%q) = %#x, expected %#x", s, got, want)
		}
	}
}

func TestAdler(t *testing.T) {
	for b := range 256 {
		if got, want := digest.Adler(one(b)), uint32(65537*(1+b)); got != want {
			t.Errorf("Adler of the byte %d = %#x, expected %#x", b, got, want)
		}
	}
	for _, s := range strands() {
		got := digest.Adler(s)
		if want := slowAdler(s); got != want {
			t.Errorf("Adler of %d bytes % .20x = %#x, expected %#x", len(s), s, got, want)
		}
		if want := adler32.Checksum([]byte(s)); got != want {
			t.Errorf("Adler of %d bytes % .20x = %#x, expected %#x", len(s), s, got, want)
		}
	}
}

// TestAdlerBorders has sums below 65521, at 65521 and above, in the lower half and in the upper one.
func TestAdlerBorders(t *testing.T) {
	full := strings.Repeat("\xff", 256)
	zeros := strings.Repeat("\x00", 65400)
	for b := range 256 {
		if got, want := int(digest.Adler(full+one(b))%65536), (1+256*255+b)%65521; got != want {
			t.Errorf("256 bytes 255 and the byte %d: lower half %d, expected %d", b, got, want)
		}
		if got, want := int(digest.Adler(zeros+one(b))>>16), (65400+1+b)%65521; got != want {
			t.Errorf("65400 bytes 0 and the byte %d: upper half %d, expected %d", b, got, want)
		}
	}
	// Both sums reach 65521, and the lower half is 0 for some bytes.
	for _, s := range []string{full + "\xf0", full + "\xf0\x00\x00", full + "\xf0\x05", full + full + "\xf0\xe0", strings.Repeat("\x00", 65519), strings.Repeat("\x00", 65520)} {
		if got, want := digest.Adler(s), slowAdler(s); got != want {
			t.Errorf("Adler of %d bytes = %#x, expected %#x", len(s), got, want)
		}
	}
}

// TestAdlerOfLongStrings has the greatest bytes, of which late remainders would be wrong.
func TestAdlerOfLongStrings(t *testing.T) {
	for _, n := range []int{5551, 5552, 5553, 5600, 65520, 65521, 65522, 1 << 17, api.MaxFile, api.MaxFile + 1, 1<<22 + 3, 1<<24 + 1} {
		lower := big.NewInt(int64(1 + 255*n))
		upper := big.NewInt(int64(n + 255*(n*(n+1)/2)))
		if got, want := digest.Adler(strings.Repeat("\xff", n)), halves(upper, lower); got != want {
			t.Errorf("Adler of %d bytes 255 = %#x, expected %#x", n, got, want)
		}
	}
}

// P5.3

func TestFnvExamples(t *testing.T) {
	for s, want := range map[string]uint64{
		"":       14695981039346656037,
		"a":      12638187200555641996,
		"\x00":   0xAF63BD4C8601B7DF,
		"foobar": 0x85944171F73967E8,
	} {
		if got := digest.Fnv(s); got != want {
			t.Errorf("Fnv(%q) = %d, expected %d", s, got, want)
		}
	}
}

func TestFnv(t *testing.T) {
	check := func(s string) {
		t.Helper()
		got := digest.Fnv(s)
		if want := slowFnv(s); got != want {
			t.Fatalf("Fnv of %d bytes % .20x = %#x, expected %#x", len(s), s, got, want)
		}
		h := fnv.New64a()
		h.Write([]byte(s))
		if want := h.Sum64(); got != want {
			t.Fatalf("Fnv of %d bytes % .20x = %#x, expected %#x", len(s), s, got, want)
		}
	}
	for b := range 256 {
		check(one(b))
	}
	for _, s := range strands() {
		check(s)
	}
}

// TestFnvOfJoinedStrings continues the hash of a string over the bytes of another one.
func TestFnvOfJoinedStrings(t *testing.T) {
	r := newRandom(2)
	for range 2000 {
		s, more := r.bytes(r.below(40)), r.bytes(r.below(40))
		h := digest.Fnv(s)
		for i, b := range []byte(more) {
			// 1099511628211 is 2^40 + 2^8 + 0xb3: the product is a sum that passes 2^64.
			h ^= uint64(b)
			h = h<<40 + h<<8 + h*0xb3
			if got := digest.Fnv(s + more[:i+1]); got != h {
				t.Fatalf("Fnv(% x) = %#x, expected %#x", s+more[:i+1], got, h)
			}
		}
	}
}

// P5.4

func TestFrameExamples(t *testing.T) {
	for _, c := range []struct{ s, want string }{
		{"", "\x00\x8d\xef\x02\xd2"},
		{"\x00", "\x01\x00\xbe\x23\xc2\x58"},
		{"abc", "\x03abc\x22\xe8\x94\xf9"},
		{strings.Repeat("z", 128), "\x80\x01" + strings.Repeat("z", 128) + "\x17\x86\x81\x8f"},
	} {
		if f, e := digest.Frame(c.s); f != c.want || e != api.OK {
			t.Errorf("Frame(%q) = % x, error %d", c.s, f, e)
		}
	}
}

// lengths returns numbers of bytes at the borders between the lengths of their varints, and others.
func lengths() []int {
	l := []int{126, 127, 128, 129, 255, 256, 257, 300, 1000, 16382, 16383, 16384, 16385, 32768, 65535, 65536}
	for n := range 40 {
		l = append(l, n)
	}
	return l
}

func TestFrame(t *testing.T) {
	r := newRandom(3)
	for _, n := range lengths() {
		for _, s := range []string{r.bytes(n), strings.Repeat("\x00", n), strings.Repeat("\xff", n)} {
			if got, want := frame(t, s), slowFrame(s); got != want {
				t.Fatalf("Frame of %d bytes % .20x = % .40x, expected % .40x", n, s, got, want)
			}
		}
	}
	for _, c := range []struct{ n, size int }{{0, 5}, {1, 6}, {127, 132}, {128, 134}, {16383, 16389}, {16384, 16391}, {api.MaxFile - 1, api.MaxFile + 6}, {api.MaxFile, api.MaxFile + 7}} {
		if got := len(frame(t, strings.Repeat("a", c.n))); got != c.size {
			t.Errorf("Frame of %d bytes has %d bytes, expected %d", c.n, got, c.size)
		}
	}
}

// TestFrameLimit has the longest payload, and longer ones.
func TestFrameLimit(t *testing.T) {
	longest := newRandom(4).bytes(api.MaxFile)
	f := frame(t, longest)
	if f != slowFrame(longest) {
		t.Errorf("Frame of MaxFile bytes: % .40x", f)
	}
	opens(t, f, longest, api.MaxFile+7, api.OK)
	opens(t, f+longest, longest, api.MaxFile+7, api.OK)
	for _, more := range []string{"a", "\x00", "abcd", longest} {
		if f, e := digest.Frame(longest + more); f != "" || e != api.ErrLimit {
			t.Errorf("Frame of %d bytes: %d bytes, error %d", len(longest+more), len(f), e)
		}
	}
}

// P5.5

func TestOpenExamples(t *testing.T) {
	empty := "\x00\x8d\xef\x02\xd2"
	opens(t, empty, "", 5, api.OK)
	opens(t, empty+"more", "", 5, api.OK)
	fails(t, empty[:4], api.ErrShort)
	fails(t, "\x00\x00\x00\x00\x00", api.ErrSum)
	fails(t, "\x80\x00", api.ErrForm)
	fails(t, "", api.ErrShort)
	// The checksum is that of the length and the payload, and its least significant byte comes first.
	opens(t, framed("\x03", "abc"), "abc", 8, api.OK)
	fails(t, "\x00\xd2\x02\xef\x8d", api.ErrSum)
	fails(t, "\x03abc\xc2\x41\x24\x35", api.ErrSum)
}

// TestBeginnings opens all proper beginnings of frames: the text or the checksum is too short.
func TestBeginnings(t *testing.T) {
	r := newRandom(5)
	for _, n := range lengths() {
		f := frame(t, r.bytes(n))
		for k := range len(f) {
			if k < 300 || k > len(f)-20 || k%997 == 0 {
				fails(t, f[:k], api.ErrShort)
			}
		}
	}
	f := frame(t, r.bytes(api.MaxFile))
	for _, k := range []int{0, 1, 2, 3, 4, len(f) / 2, len(f) - 6, len(f) - 5, len(f) - 4, len(f) - 3, len(f) - 2, len(f) - 1} {
		fails(t, f[:k], api.ErrShort)
	}
}

// TestOpenLimit has texts that are longer than MaxFile, with the right checksum.
func TestOpenLimit(t *testing.T) {
	long := newRandom(6).bytes(api.MaxFile + 300)
	for _, n := range []int{api.MaxFile + 1, api.MaxFile + 2, api.MaxFile + 128, api.MaxFile + 300} {
		f := slowFrame(long[:n])
		fails(t, f, api.ErrLimit)
		fails(t, f+"more", api.ErrLimit)
		fails(t, f[:len(f)-1], api.ErrLimit)
		fails(t, f[:len(f)-4], api.ErrLimit)
	}
	for _, n := range []uint64{api.MaxFile + 1, 1 << 21, 1 << 28, 1 << 31, 1 << 32, 1<<32 + 1, 1 << 40, math.MaxInt - 4, math.MaxInt, 1 << 63, 1<<64 - 5, 1<<64 - 4, math.MaxUint64} {
		for _, rest := range []string{"", "a", "abcd", "abcdefghi"} {
			fails(t, number(n)+rest, api.ErrLimit)
			fails(t, framed(number(n), rest), api.ErrLimit)
		}
	}
	for _, n := range []uint64{1, 127, 128, 16384, api.MaxFile - 1, api.MaxFile} {
		fails(t, number(n), api.ErrShort)
	}
}

// TestMalformedLengths has lengths that are too long or not the shortest, with the right checksum.
func TestMalformedLengths(t *testing.T) {
	nine := strings.Repeat("\x80", 9)
	full := strings.Repeat("\xff", 9)
	for _, c := range []struct{ number, payload string }{
		{"\x80\x00", ""},
		{"\x81\x00", "a"},
		{"\x83\x00", "abc"},
		{"\x83\x80\x00", "abc"},
		{"\x83\x80\x80\x00", "abc"},
		{"\xff\x00", strings.Repeat("z", 127)},
		{"\x80\x81\x00", strings.Repeat("z", 128)},
		{nine + "\x00", ""},
		{nine + "\x02", ""},
		{nine + "\x80\x01", ""},
		{"\x83" + nine[1:] + "\x00", "abc"},
		{"\x83" + nine[1:] + "\x02", "abc"},
		{full + "\x02", "abc"},
		{full + "\x7f", "abc"},
		{full + "\x80", "abc"},
		{full + "\xff\x01", "abc"},
	} {
		f := framed(c.number, c.payload)
		fails(t, f, api.ErrForm)
		fails(t, f+"more", api.ErrForm)
		fails(t, c.number, api.ErrForm)
		fails(t, f[:len(f)-1], api.ErrForm)
		if _, _, e := slowOpen(f); e != api.ErrForm {
			t.Errorf("the model accepts % x", f)
		}
	}
}

// TestFirstError has frames to which several errors apply.
func TestFirstError(t *testing.T) {
	for i, c := range []struct {
		s string
		e api.Errno
	}{
		// A malformed length whose value is too great, or with nothing behind it.
		{"\x80\x80\x80\x80\x80\x00", api.ErrForm},
		{"\x81\x80\xc0\x80\x00", api.ErrForm},
		{"\x85\x00", api.ErrForm},
		{"\x85\x00abcde", api.ErrForm},
		{"\x85\x00abcdeWXYZ", api.ErrForm},
		// A length that is too great, with too few bytes behind it, or with a wrong checksum.
		{"\x81\x80\x40", api.ErrLimit},
		{"\x81\x80\x40abc", api.ErrLimit},
		{"\x81\x80\x40" + strings.Repeat("a", api.MaxFile+1), api.ErrLimit},
		{"\x81\x80\x40" + strings.Repeat("a", api.MaxFile+1) + "WXYZ", api.ErrLimit},
		// A length that ends too early, though its value is too great or not the shortest already.
		{"", api.ErrShort},
		{"\x80", api.ErrShort},
		{"\x81\x80\xc0", api.ErrShort},
		{"\xff\xff\xff\xff\xff\xff\xff\xff\xff", api.ErrShort},
		// A text that ends too early, also where its last bytes would be a checksum.
		{"\x80\x80\x40", api.ErrShort},
		{"\x05abcd", api.ErrShort},
		{"\x04\x8d\xef\x02", api.ErrShort},
		// A checksum that ends too early, with bytes that are wrong already.
		{"\x05abcde", api.ErrShort},
		{"\x05abcdeW", api.ErrShort},
		{"\x05abcdeWX", api.ErrShort},
		{"\x05abcdeWXY", api.ErrShort},
		{"\x05abcdeWXYZ", api.ErrSum},
		{"\x05abcdeWXYZmore", api.ErrSum},
		{"\x00\x8d\xef\x02\xd3", api.ErrSum},
		{"\x00\x8d\xef\x02", api.ErrShort},
		{"\x00", api.ErrShort},
	} {
		if p, n, e := digest.Open(c.s); p != "" || n != 0 || e != c.e {
			t.Errorf("%d: %q, %d, error %d, expected %d", i, p, n, e, c.e)
		}
	}
}

// TestShortInputs compares Open with the model for all strings of up to two bytes, and for many short ones.
func TestShortInputs(t *testing.T) {
	check := func(s string) {
		t.Helper()
		p, n, e := slowOpen(s)
		opens(t, s, p, n, e)
	}
	check("")
	for a := range 256 {
		check(one(a))
		for b := range 256 {
			check(one(a) + one(b))
		}
	}
	r := newRandom(7)
	for range 50000 {
		s := r.bytes(r.below(14))
		check(s)
		check(one(r.below(8)) + s)
		check(strings.Repeat("\x80", r.below(11)) + s)
		check(strings.Repeat("\xff", r.below(11)) + s)
	}
}

// TestDamagedFrames compares Open with the model for frames with bytes that are changed, missing or added.
func TestDamagedFrames(t *testing.T) {
	r := newRandom(8)
	for range 20000 {
		s := slowFrame(r.bytes(r.below(200)))
		for range 1 + r.below(2) {
			i := r.below(len(s))
			switch r.below(4) {
			case 0:
				s = r.change(s, i)
			case 1:
				s = s[:i] + s[i+1:]
			case 2:
				s = s[:i] + r.bytes(1) + s[i:]
			case 3:
				s += s[:i]
			}
			if s == "" {
				break
			}
		}
		p, n, e := slowOpen(s)
		opens(t, s, p, n, e)
	}
}

// P5.6

func TestRoundTrip(t *testing.T) {
	r := newRandom(9)
	for _, n := range lengths() {
		for _, s := range []string{r.bytes(n), strings.Repeat("\x00", n), strings.Repeat("\xff", n)} {
			f := frame(t, s)
			for _, more := range []string{"", "\x00", "\xff", "more", "\x00\x00\x00\x00", f, f[:len(f)-1], r.bytes(50)} {
				opens(t, f+more, s, len(f), api.OK)
			}
		}
	}
}

// TestFramesInARow opens frames one behind the other, and frames of frames.
func TestFramesInARow(t *testing.T) {
	r := newRandom(10)
	for range 200 {
		var payloads []string
		all := ""
		for range 1 + r.below(8) {
			s := r.bytes(r.below(300))
			payloads = append(payloads, s)
			all += frame(t, s)
		}
		rest := all
		for _, s := range payloads {
			p, n, e := digest.Open(rest)
			if p != s || e != api.OK {
				t.Fatalf("% x, error %d, expected % x", p, e, s)
			}
			rest = rest[n:]
		}
		if rest != "" {
			t.Fatalf("% x are left", rest)
		}
		outer := frame(t, all)
		opens(t, outer, all, len(outer), api.OK)
	}
}

// P5.7

// TestChangedBytes replaces each byte of the payload and of the checksum by each other one.
func TestChangedBytes(t *testing.T) {
	r := newRandom(11)
	for n := range 24 {
		f := frame(t, r.bytes(n))
		for i := 1; i < len(f); i++ {
			for b := range 256 {
				if byte(b) != f[i] {
					fails(t, replaced(f, i, byte(b)), api.ErrSum)
				}
			}
		}
	}
	for _, n := range []int{127, 128, 1000, 16383, 16384, 65536} {
		f := frame(t, r.bytes(n))
		first := len(f) - n - 4
		for range 50 {
			fails(t, r.change(f, first+r.below(n+4)), api.ErrSum)
		}
		for i := range 4 {
			fails(t, r.change(f, len(f)-4+i)+"more", api.ErrSum)
			fails(t, r.change(f, first), api.ErrSum)
			fails(t, r.change(f, len(f)-5), api.ErrSum)
		}
	}
}

// TestChangedLength replaces each byte of the length, which the checksum protects too.
func TestChangedLength(t *testing.T) {
	r := newRandom(12)
	for _, n := range []int{0, 1, 5, 127, 128, 300, 16384} {
		f := frame(t, r.bytes(n))
		for i := range len(f) - n - 4 {
			for b := range 256 {
				s := replaced(f, i, byte(b))
				p, k, e := slowOpen(s)
				if byte(b) != f[i] && e == api.OK {
					t.Fatalf("the model accepts % .20x", s)
				}
				opens(t, s, p, k, e)
			}
		}
	}
	// A shorter length, with bytes behind it that would be its text and checksum but for the length.
	f := frame(t, "abc")
	fails(t, "\x02"+f[1:], api.ErrSum)
	fails(t, "\x00"+f[1:], api.ErrSum)
}

// P5.8

func TestCrcIsLinear(t *testing.T) {
	r := newRandom(13)
	for range 3000 {
		n := r.below(300)
		s, u := r.bytes(n), r.bytes(n)
		if r.below(8) == 0 {
			u = s
		}
		both := make([]byte, n)
		for i := range both {
			both[i] = s[i] ^ u[i]
		}
		if x := digest.Crc(s) ^ digest.Crc(u) ^ digest.Crc(string(both)) ^ digest.Crc(strings.Repeat("\x00", n)); x != 0 {
			t.Fatalf("% x and % x: %#x", s, u, x)
		}
	}
}

// P5.9

func TestAdlerOfJoinedStrings(t *testing.T) {
	r := newRandom(14)
	// The lower half of this string is 0.
	zero := strings.Repeat("\xff", 256) + "\xf0"
	if digest.Adler(zero)%65536 != 0 {
		t.Fatalf("Adler = %#x", digest.Adler(zero))
	}
	parts := []string{"", "\x00", "\x01", "\xff", "Wikipedia", zero, zero + "\x00", strings.Repeat("\xff", 65521), strings.Repeat("\x00", 65521), strings.Repeat("\xff", 70000)}
	for range 60 {
		parts = append(parts, r.bytes(r.below(2000)))
	}
	for _, s := range parts {
		for _, u := range parts {
			x, y := digest.Adler(s), digest.Adler(u)
			a, b := int64(x%65536), int64(x/65536)
			c, d := int64(y%65536), int64(y/65536)
			want := halves(big.NewInt(b+d+int64(len(u))*(a-1)), big.NewInt(a+c-1))
			if got := digest.Adler(s + u); got != want {
				t.Fatalf("Adler of %d and %d bytes = %#x, expected %#x", len(s), len(u), got, want)
			}
		}
	}
}

// TestSameResults calls all functions again behind others, because they keep nothing.
func TestSameResults(t *testing.T) {
	for _, s := range []string{"", "a", "123456789", every()} {
		f := frame(t, s)
		crc, adler, hash := digest.Crc(s), digest.Adler(s), digest.Fnv(s)
		fails(t, spoiled(f), api.ErrSum)
		if digest.Crc(s) != crc || digest.Adler(s) != adler || digest.Fnv(s) != hash || frame(t, s) != f {
			t.Errorf("other results for %q", s)
		}
		opens(t, f, s, len(f), api.OK)
	}
}

// spoiled returns a frame with another last byte.
func spoiled(f string) string { return replaced(f, len(f)-1, f[len(f)-1]^0x40) }
