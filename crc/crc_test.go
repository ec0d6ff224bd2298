package crc

import (
	"bytes"
	"encoding/binary"
	"hash/crc32"
	"slices"
	"testing"

	"bellwether/api"
)

// counted answers n bytes of a plain rule.
func counted(n, rule int) []byte {
	b := make([]byte, n)
	for i := range b {
		b[i] = byte(i*rule + i>>3 + rule)
	}
	return b
}

// reckoned works the sum out bit by bit, by lists of bits (the lowest first), as the chapter says.
func reckoned(b []byte) int {
	var sum, poly [32]bool
	for i := range 32 {
		sum[i] = true
		poly[i] = 0xEDB88320>>i&1 == 1
	}
	for _, x := range b {
		for i := range 8 {
			sum[i] = sum[i] != (x>>i&1 == 1)
		}
		for range 8 {
			out := sum[0]
			copy(sum[:], sum[1:])
			sum[31] = false
			for i := range 32 {
				sum[i] = sum[i] != (out && poly[i])
			}
		}
	}
	n := 0
	for i := range 32 {
		if !sum[i] {
			n += 1 << i
		}
	}
	return n
}

// sealed answers b with the sum that the library reckons behind.
func sealed(b []byte) []byte {
	return binary.LittleEndian.AppendUint32(slices.Clone(b), crc32.ChecksumIEEE(b))
}

// texts are texts of each length up to some hundred bytes, and of some beyond.
func texts() [][]byte {
	l := [][]byte{nil, {}, []byte("123456789"), bytes.Repeat([]byte{0}, 77), bytes.Repeat([]byte{255}, 76), counted(4096, 9), counted(70001, 7)}
	for n := range 300 {
		l = append(l, counted(n, 13), counted(n, 32))
	}
	return l
}

// roomy answers a copy of b with marked bytes behind, whole and as the part that is b: the rest is its spare room.
func roomy(b []byte) (whole, part []byte) {
	whole = slices.Concat(b, bytes.Repeat([]byte{0xa5}, 400))
	return whole, whole[:len(b)]
}

// fill overwrites a list and its spare room.
func fill(b []byte) {
	b = b[:cap(b)]
	for i := range b {
		b[i] = 0x5a
	}
}

func wantSum(t *testing.T, b []byte, want int) {
	t.Helper()
	if got := Sum(b); got != want {
		t.Errorf("Sum of %d bytes %q = %x, want %x", len(b), b[:min(len(b), 20)], got, want)
	}
}

func wantSeal(t *testing.T, b, want []byte) {
	t.Helper()
	if got := Seal(b); !bytes.Equal(got, want) {
		t.Errorf("Seal of %d bytes %q = %d bytes %v, want %d bytes %v", len(b), b[:min(len(b), 20)], len(got), got[max(0, len(got)-8):], len(want), want[max(0, len(want)-8):])
	}
}

func wantOpen(t *testing.T, b, want []byte, wantErr api.Errno) {
	t.Helper()
	if got, err := Open(b); !bytes.Equal(got, want) || err != wantErr {
		t.Errorf("Open of %d bytes %v = %d bytes, %d, want %d bytes, %d", len(b), b[:min(len(b), 20)], len(got), err, len(want), wantErr)
	}
}

// P5.1: the chapter's example, and sums known from elsewhere.
func TestKnownSums(t *testing.T) {
	wantSum(t, nil, 0)
	wantSum(t, []byte{}, 0)
	for text, want := range map[string]int{
		"123456789":        0xCBF43926,
		"a":                0xE8B7BE43,
		"abc":              0x352441C2,
		"\x00":             0xD202EF8D,
		"\xff":             0xFF000000,
		"\x00\x00\x00\x00": 0x2144DF1C,
		"\xff\xff\xff\xff": 0xFFFFFFFF,
		"The quick brown fox jumps over the lazy dog": 0x414FA339,
	} {
		wantSum(t, []byte(text), want)
	}
	wantSum(t, make([]byte, 32), 0x190A55AD)
	wantSum(t, bytes.Repeat([]byte{255}, 32), 0xFF6CAB0B)
}

// P5.1
func TestSumOfEachByte(t *testing.T) {
	seen := map[int]int{}
	for x := range 256 {
		b := []byte{byte(x)}
		wantSum(t, b, reckoned(b))
		wantSum(t, b, int(crc32.ChecksumIEEE(b)))
		seen[Sum(b)]++
	}
	if len(seen) != 256 {
		t.Errorf("%d sums of 256 bytes", len(seen))
	}
}

// P5.1: each byte behind each other one.
func TestSumOfEachTwoBytes(t *testing.T) {
	for x := range 1 << 16 {
		b := []byte{byte(x >> 8), byte(x)}
		wantSum(t, b, int(crc32.ChecksumIEEE(b)))
	}
}

// P5.1
func TestSumOfEachLength(t *testing.T) {
	high := false
	for _, b := range texts() {
		got := Sum(b)
		if got < 0 || got >= 1<<32 {
			t.Errorf("Sum of %d bytes = %d: not a number of 32 bits", len(b), got)
		}
		high = high || got >= 1<<31
		wantSum(t, b, int(crc32.ChecksumIEEE(b)))
		if len(b) < 5000 {
			wantSum(t, b, reckoned(b))
		}
	}
	if !high {
		t.Error("no sum is of the upper half: these texts tell nothing of its sign")
	}
}

// P5.1: the sum of many bytes.
func TestSumOfManyBytes(t *testing.T) {
	b := counted(1<<20+3, 101)
	wantSum(t, b, int(crc32.ChecksumIEEE(b)))
	wantSeal(t, b, sealed(b))
	wantOpen(t, sealed(b), b, api.OK)
}

// P5.1: the bytes of the sum written out.
func TestSealKnownBytes(t *testing.T) {
	wantSeal(t, nil, make([]byte, 4))
	wantSeal(t, []byte{}, make([]byte, 4))
	wantSeal(t, []byte("123456789"), []byte("123456789\x26\x39\xf4\xcb"))
	wantSeal(t, []byte("a"), []byte("a\x43\xbe\xb7\xe8"))
	wantSeal(t, []byte{255}, []byte{255, 0, 0, 0, 255})
	wantSeal(t, make([]byte, 4), []byte{0, 0, 0, 0, 0x1c, 0xdf, 0x44, 0x21})
}

// P5.1
func TestSealOfEachLength(t *testing.T) {
	for _, b := range texts() {
		wantSeal(t, b, sealed(b))
	}
}

// P5.1: no sum stands in so few bytes, whatever they are.
func TestOpenOfTooFew(t *testing.T) {
	wantOpen(t, nil, nil, api.ErrLen)
	wantOpen(t, []byte{}, nil, api.ErrLen)
	for x := range 256 {
		for n := 1; n < 4; n++ {
			wantOpen(t, bytes.Repeat([]byte{byte(x)}, n), nil, api.ErrLen)
		}
	}
	for n := range 4 {
		wantOpen(t, counted(n, 7), nil, api.ErrLen)
	}
	// The bytes that would make four of them lie behind the length.
	zeros := make([]byte, 8)
	for n := range 4 {
		wantOpen(t, zeros[:n], nil, api.ErrLen)
	}
}

// P5.1: four bytes are the sum of none, or they are not.
func TestOpenOfFourBytes(t *testing.T) {
	wantOpen(t, make([]byte, 4), nil, api.OK)
	wantOpen(t, []byte{255, 255, 255, 255}, nil, api.ErrSum)
	for at := range 4 {
		for x := 1; x < 256; x++ {
			b := make([]byte, 4)
			b[at] = byte(x)
			wantOpen(t, b, nil, api.ErrSum)
		}
	}
}

// P5.1: known bytes, and a sum that stands the greatest byte first, that is not turned, that stands ahead, or is of another text.
func TestOpenKnownBytes(t *testing.T) {
	wantOpen(t, []byte("123456789\x26\x39\xf4\xcb"), []byte("123456789"), api.OK)
	wantOpen(t, []byte("123456789\xcb\xf4\x39\x26"), nil, api.ErrSum)
	wantOpen(t, []byte("123456789\xd9\xc6\x0b\x34"), nil, api.ErrSum)
	wantOpen(t, []byte("\x26\x39\xf4\xcb123456789"), nil, api.ErrSum)
	wantOpen(t, []byte("123456780\x26\x39\xf4\xcb"), nil, api.ErrSum)
	wantOpen(t, []byte("0123456789\x26\x39\xf4\xcb"), nil, api.ErrSum)
	wantOpen(t, []byte("23456789\x26\x39\xf4\xcb"), nil, api.ErrSum)
	wantOpen(t, []byte("123456789\x26\x39\xf4"), nil, api.ErrSum)
	wantOpen(t, []byte("123456789\x26\x39\xf4\xcb\x00"), nil, api.ErrSum)
	wantOpen(t, []byte{255, 0, 0, 0, 255}, []byte{255}, api.OK)
	wantOpen(t, make([]byte, 5), nil, api.ErrSum)
}

// P5.2: what is sealed is opened, sealed once or many times.
func TestWhatIsSealedIsOpened(t *testing.T) {
	for _, b := range texts() {
		wantOpen(t, Seal(b), b, api.OK)
		wantOpen(t, sealed(b), b, api.OK)
		once := Seal(b)
		wantOpen(t, Seal(once), once, api.OK)
	}
	b := Seal(nil)
	for range 20 {
		b = Seal(b)
	}
	for range 21 {
		text, err := Open(b)
		if err != api.OK || len(text) != len(b)-4 {
			t.Fatalf("Open of %d bytes: %d bytes, %d", len(b), len(text), err)
		}
		b = text
	}
}

// wantChanged wants b, sealed bytes, to be refused with mask put to them at a place.
func wantChanged(t *testing.T, b []byte, at int, mask []byte) {
	t.Helper()
	changed := slices.Clone(b)
	for i, x := range mask {
		changed[at+i] ^= x
	}
	if text, err := Open(changed); len(text) != 0 || err != api.ErrSum {
		t.Errorf("%d sealed bytes changed by %v at %d: Open = %d bytes, %d, want ErrSum", len(b), mask, at, len(text), err)
	}
}

// P5.2: in the text, in the sum, across both.
func TestEachBitAndEachByteChanged(t *testing.T) {
	for _, n := range []int{0, 1, 2, 3, 4, 5, 8, 31, 76, 200} {
		b := Seal(counted(n, 29))
		for at := range b {
			for bit := range 8 {
				wantChanged(t, b, at, []byte{1 << bit})
			}
			for x := 1; x < 256; x++ {
				wantChanged(t, b, at, []byte{byte(x)})
			}
		}
	}
}

// masks answers masks of size bytes, of which the first and the last are changed, and what lies between is or is not.
func masks(size int) [][]byte {
	edges := []byte{1, 2, 0x10, 0x5a, 0x80, 0xff}
	inner := [][]byte{nil}
	for range size - 2 {
		var longer [][]byte
		for _, m := range inner {
			for _, x := range []byte{0, 1, 0x80, 0xc3, 0xff} {
				longer = append(longer, append(slices.Clone(m), x))
			}
		}
		inner = longer
	}
	var l [][]byte
	for _, first := range edges {
		for _, last := range edges {
			for _, m := range inner {
				l = append(l, slices.Concat([]byte{first}, m, []byte{last}))
			}
		}
	}
	return l
}

// P5.2: at each place, within the text, within the sum, and across both.
func TestBytesSideBySideChanged(t *testing.T) {
	for size := 2; size <= 4; size++ {
		all := append(masks(size), []byte{0x20, 0x83, 0xb8, 0xed}[:size], []byte{0xed, 0xb8, 0x83, 0x20}[:size])
		for _, n := range []int{0, 1, 2, 3, 4, 7, 20, 76} {
			b := Seal(counted(n, 29))
			for at := range len(b) - size + 1 {
				for _, mask := range all {
					wantChanged(t, b, at, mask)
				}
			}
		}
	}
}

// P5.2: each change within two bytes, at each place of short texts.
func TestEachChangeOfTwoBytes(t *testing.T) {
	for _, text := range [][]byte{nil, {0}, {0xa7}, []byte("ab")} {
		b := Seal(text)
		for at := range len(b) - 1 {
			for x := 1; x < 1<<16; x++ {
				wantChanged(t, b, at, []byte{byte(x), byte(x >> 8)})
			}
		}
	}
}

// P5.1: a change of five bytes side by side that leaves the sum as it was is opened, as the sum's rule has it.
func TestFiveBytesMayGoUnseen(t *testing.T) {
	text := []byte("123456789")
	b := Seal(text)
	// 33 bits, the lowest of a byte first: the one that is shifted out, and what is then put to the rest.
	mask := uint64(0xEDB88320)<<1 | 1
	for i := range 5 {
		b[i+2] ^= byte(mask >> (8 * i))
	}
	wantOpen(t, b, b[:9], api.OK)
}

// R2, R6: what is handed in stays as it was, its spare room too, and no answer shares memory with it.
func TestSealSharesNoMemory(t *testing.T) {
	for _, n := range []int{0, 1, 3, 4, 9, 100} {
		text := counted(n, 17)
		whole, b := roomy(text)
		before := slices.Clone(whole)
		first, second := Seal(b), Seal(b)
		Sum(b)
		if !bytes.Equal(whole, before) {
			t.Errorf("%d bytes: what was handed in is changed", n)
		}
		fill(first)
		if !bytes.Equal(whole, before) || !bytes.Equal(second, sealed(text)) {
			t.Errorf("%d bytes: an answer's memory is shared", n)
		}
		fill(whole)
		if !bytes.Equal(second, sealed(text)) {
			t.Errorf("%d bytes: an answer hangs on what was handed in", n)
		}
	}
}

// R2, R6
func TestOpenSharesNoMemory(t *testing.T) {
	for _, n := range []int{0, 1, 3, 4, 9, 100} {
		text := counted(n, 17)
		whole, b := roomy(sealed(text))
		before := slices.Clone(whole)
		first, err := Open(b)
		second, _ := Open(b)
		if err != api.OK || !bytes.Equal(whole, before) {
			t.Errorf("%d bytes: refused (%d), or what was handed in is changed", n, err)
		}
		fill(first)
		if !bytes.Equal(whole, before) || !bytes.Equal(second, text) {
			t.Errorf("%d bytes: an answer's memory is shared", n)
		}
		fill(whole)
		if !bytes.Equal(second, text) {
			t.Errorf("%d bytes: an answer hangs on what was handed in", n)
		}
	}
}

// R2, R4: bytes that are refused stay as they were too, and nothing but the error is answered.
func TestRefusedBytesAreLeft(t *testing.T) {
	for n := range 40 {
		text := append(counted(n, 19), 1, 2, 3, 4)
		if n < 4 {
			text = text[:n]
		}
		whole, b := roomy(text)
		before := slices.Clone(whole)
		if out, err := Open(b); out != nil || err == api.OK {
			t.Errorf("Open of %v = %v, %d, want an error alone", b, out, err)
		}
		if !bytes.Equal(whole, before) {
			t.Errorf("%d bytes: what was handed in is changed", n)
		}
	}
}

// R3: a call hangs on its arguments alone, whatever was called, or refused, ahead of it.
func TestNothingIsKept(t *testing.T) {
	for range 3 {
		wantSum(t, []byte("123456789"), 0xCBF43926)
		wantOpen(t, []byte{1, 2, 3}, nil, api.ErrLen)
		wantSeal(t, []byte("a"), []byte("a\x43\xbe\xb7\xe8"))
		wantOpen(t, []byte("b\x43\xbe\xb7\xe8"), nil, api.ErrSum)
		wantOpen(t, []byte("a\x43\xbe\xb7\xe8"), []byte("a"), api.OK)
		wantSum(t, nil, 0)
	}
}
