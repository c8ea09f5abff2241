package digest_test

import (
	"encoding/binary"
	"math/big"
	"strings"
	"testing"

	"imageeditor/api"
	"imageeditor/digest"
)

// slowCrc shifts a register of 32 single bits, the lowest one first, as P5.1 describes it.
func slowCrc(s string) uint32 {
	var register [32]int
	for i := range register {
		register[i] = 1
	}
	for _, b := range []byte(s) {
		for i := range 8 {
			register[i] ^= int(b >> i & 1)
		}
		for range 8 {
			out := register[0]
			copy(register[:31], register[1:])
			register[31] = 0
			for i := range register {
				register[i] ^= out & (0xEDB88320 >> i)
			}
		}
	}
	n := uint32(0)
	for i, bit := range register {
		n |= uint32(1-bit) << i
	}
	return n
}

// slowAdler adds up unbounded integers: the lower half is 1 and the sum of the bytes; in the upper half, the 1 and each byte count once for each byte from there on.
func slowAdler(s string) uint32 {
	a, b := big.NewInt(1), big.NewInt(int64(len(s)))
	for i, c := range []byte(s) {
		a.Add(a, big.NewInt(int64(c)))
		b.Add(b, new(big.Int).Mul(big.NewInt(int64(c)), big.NewInt(int64(len(s)-i))))
	}
	return halves(b, a)
}

// halves returns the checksum with these halves, modulo 65521.
func halves(upper, lower *big.Int) uint32 {
	m := big.NewInt(65521)
	return uint32(new(big.Int).Mod(upper, m).Int64()<<16 + new(big.Int).Mod(lower, m).Int64())
}

// slowFnv multiplies unbounded integers.
func slowFnv(s string) uint64 {
	h, _ := new(big.Int).SetString("14695981039346656037", 10)
	factor := big.NewInt(1099511628211)
	limit := new(big.Int).Lsh(big.NewInt(1), 64)
	for _, c := range []byte(s) {
		h.Xor(h, big.NewInt(int64(c)))
		h.Mod(h.Mul(h, factor), limit)
	}
	return h.Uint64()
}

// length returns the number at the beginning of s and its length in bytes, or the error that decides.
func length(s string) (uint64, int, api.Errno) {
	n, k := binary.Uvarint([]byte(s))
	switch {
	case k == 0 && len(s) < 10:
		return 0, 0, api.ErrShort
	case k <= 0 || k > 1 && s[k-1] == 0:
		return 0, 0, api.ErrForm
	}
	return n, k, api.OK
}

// slowOpen reads a frame as P5.5 describes it.
func slowOpen(s string) (string, int, api.Errno) {
	n, k, e := length(s)
	switch {
	case e != api.OK:
		return "", 0, e
	case n > 1<<20:
		return "", 0, api.ErrLimit
	case len(s) < k+int(n), len(s) < k+int(n)+4:
		return "", 0, api.ErrShort
	}
	text, rest := s[:k+int(n)], s[k+int(n):]
	if binary.LittleEndian.Uint32([]byte(rest)) != slowCrc(text) {
		return "", 0, api.ErrSum
	}
	return text[k:], len(text) + 4, api.OK
}

// framed returns a frame of these parts: bytes in place of the length, the payload, and the right checksum of both.
func framed(number, payload string) string {
	sum := binary.LittleEndian.AppendUint32(nil, slowCrc(number+payload))
	return number + payload + string(sum)
}

// number returns the shortest varint of n.
func number(n uint64) string { return string(binary.AppendUvarint(nil, n)) }

// slowFrame returns the frame of s.
func slowFrame(s string) string { return framed(number(uint64(len(s))), s) }

// frame returns what Frame makes of a string that is not too long.
func frame(t *testing.T, s string) string {
	t.Helper()
	f, e := digest.Frame(s)
	if e != api.OK {
		t.Fatalf("Frame of %d bytes: error %d", len(s), e)
	}
	return f
}

// opens checks the results of Open.
func opens(t *testing.T, s, payload string, n int, e api.Errno) {
	t.Helper()
	gotPayload, gotN, gotE := digest.Open(s)
	if gotPayload != payload || gotN != n || gotE != e {
		t.Fatalf("Open of % .40x (%d bytes): %d bytes % .40x, %d, error %d; expected %d bytes % .40x, %d, error %d", s, len(s), len(gotPayload), gotPayload, gotN, gotE, len(payload), payload, n, e)
	}
}

// fails checks that Open returns an error, and nothing else.
func fails(t *testing.T, s string, e api.Errno) {
	t.Helper()
	opens(t, s, "", 0, e)
}

// random returns pseudorandom numbers; the same ones in every run.
type random struct{ state uint64 }

func newRandom(seed uint64) *random { return &random{seed * 0x9e3779b97f4a7c15} }

func (r *random) next() uint64 {
	r.state ^= r.state << 13
	r.state ^= r.state >> 7
	r.state ^= r.state << 17
	return r.state
}

func (r *random) below(n int) int { return int(r.next() >> 1 % uint64(n)) }

// bytes returns n bytes.
func (r *random) bytes(n int) string {
	b := make([]byte, n)
	for i := range b {
		b[i] = byte(r.next() >> 32)
	}
	return string(b)
}

// change returns s with another byte at i.
func (r *random) change(s string, i int) string {
	return replaced(s, i, s[i]^byte(1+r.below(255)))
}

// replaced returns s with the byte b at i.
func replaced(s string, i int, b byte) string {
	l := []byte(s)
	l[i] = b
	return string(l)
}

// one returns a string of one byte.
func one(b int) string { return string([]byte{byte(b)}) }

// strands returns strings of many lengths: of equal bytes, of rising bytes and of any bytes.
func strands() []string {
	r := newRandom(1)
	l := []string{"123456789", "Wikipedia", "The quick brown fox jumps over the lazy dog", "\u00e9\u4e2d\U0001f600", "\xff\xfe\x00"}
	for n := range 300 {
		l = append(l, r.bytes(n))
	}
	for _, n := range []int{0, 1, 2, 3, 7, 8, 255, 256, 257, 258, 1000, 5551, 5552, 5553, 10000, 65520, 65521, 65522, 65536} {
		l = append(l, r.bytes(n), strings.Repeat("\x00", n), strings.Repeat("\xff", n), strings.Repeat("\x80", n), strings.Repeat(every(), n/256+1)[:n])
	}
	return l
}

// every returns all bytes.
func every() string {
	b := make([]byte, 256)
	for i := range b {
		b[i] = byte(i)
	}
	return string(b)
}
