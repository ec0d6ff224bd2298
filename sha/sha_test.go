package sha

import (
	"bytes"
	"crypto/sha256"
	"encoding/binary"
	"encoding/hex"
	"math/big"
	"strings"
	"testing"

	"bellwether/api"
)

// edges are lengths at which the padding takes a block more or not, and some beside them.
func edges() []int {
	l := []int{0, 1, 2, 3, 31, 32, 33, 1000, 4095, 4096, 4097, 65535, 65536, 100003}
	for _, blocks := range []int{0, 1, 2, 3, 7, 16, 100} {
		for _, behind := range []int{54, 55, 56, 57, 62, 63, 64, 65} {
			l = append(l, 64*blocks+behind)
		}
	}
	return l
}

// filled answers n bytes of a plain rule.
func filled(n, rule int) []byte {
	b := make([]byte, n)
	for i := range b {
		switch rule {
		case 0:
			b[i] = 0
		case 1:
			b[i] = 0xff
		case 2:
			b[i] = 0x80
		default:
			b[i] = byte(i*167 + i>>8*31 + rule)
		}
	}
	return b
}

func headOf(sum [32]byte) int {
	return int(binary.BigEndian.Uint64(sum[:8]) >> 2)
}

// P1.2
func TestKnownTextsHaveKnownSums(t *testing.T) {
	for _, c := range []struct{ text, sum string }{
		{"", "e3b0c44298fc1c149afbf4c8996fb92427ae41e4649b934ca495991b7852b855"},
		{"a", "ca978112ca1bbdcafac231b39a23dc4da786eff8147c4e72b9807785afee48bb"},
		{"abc", "ba7816bf8f01cfea414140de5dae2223b00361a396177a9cb410ff61f20015ad"},
		{"abcdbcdecdefdefgefghfghighijhijkijkljklmklmnlmnomnopnopq", "248d6a61d20638b8e5c026930c3e6039a33ce45964ff2167f6ecedd419db06c1"},
		{"abcdefghbcdefghicdefghijdefghijkefghijklfghijklmghijklmnhijklmnoijklmnopjklmnopqklmnopqrlmnopqrsmnopqrstnopqrstu", "cf5b16a778af8380036ce59e7b0492370b249b11e8f07a51afac45037afee9d1"},
		{"The quick brown fox jumps over the lazy dog", "d7a8fbb307d7809469ca9abcb0082e4f8d5651e46d3cdb762d02d0bf37c9e592"},
		{strings.Repeat("a", 1000000), "cdc76e5c9914fb9281a1c7e284d73e67f1809a48a497200e046d39ccc7112cd0"},
	} {
		if got := Hex(Sum([]byte(c.text))); got != c.sum {
			t.Errorf("sum of %d bytes: %s, not %s", len(c.text), got, c.sum)
		}
	}
}

// P1.2: the keys that the chapter of the ring lists.
func TestKnownNamesHaveKnownHeads(t *testing.T) {
	for name, want := range map[string]int{
		"n0": 2342812313538366385, "n1": 1863050908023769503, "n2": 81111313352671826,
		"n3": 2434324899588211290, "n4": 2454816673080883147, "n5": 1342378062264523301,
		"n6": 820659310660760249, "n7": 2006264061484817761, "t0": 1462484242049070477,
		"t1": 1775212608919665246, "t2": 3535639072113518480, "t3": 3725500155902745375,
	} {
		if got := Head([]byte(name)); got != want {
			t.Errorf("head of %s: %d, not %d", name, got, want)
		}
	}
}

// P1.1: every length of the first blocks, and those around the padding's edges.
func TestSumAtEachLength(t *testing.T) {
	lengths := edges()
	for n := range 300 {
		lengths = append(lengths, n)
	}
	for _, n := range lengths {
		for rule := range 5 {
			b := filled(n, rule)
			want := sha256.Sum256(b)
			if got := Sum(b); !bytes.Equal(got, want[:]) {
				t.Errorf("%d bytes of rule %d: %x, not %x", n, rule, got, want)
			}
			if got := Head(b); got != headOf(want) {
				t.Errorf("%d bytes of rule %d: head %d, not %d", n, rule, got, headOf(want))
			}
		}
	}
}

// P1.1: how many bits there were takes more than 32 bits.
func TestSumOfManyBytes(t *testing.T) {
	if testing.Short() {
		t.Skip("takes seconds")
	}
	b := make([]byte, 1<<29+57)
	want := sha256.Sum256(b)
	if got := Sum(b); !bytes.Equal(got, want[:]) {
		t.Errorf("%x, not %x", got, want)
	}
}

func TestNothingIsEmpty(t *testing.T) {
	if !bytes.Equal(Sum(nil), Sum([]byte{})) || Head(nil) != Head([]byte{}) || Hex(nil) != "" || Hex([]byte{}) != "" {
		t.Error("nil and no bytes answer otherwise")
	}
	want := sha256.Sum256(nil)
	if !bytes.Equal(Sum(nil), want[:]) || Head(nil) != headOf(want) {
		t.Error("no bytes have another sum")
	}
}

// P1.1
func TestHex(t *testing.T) {
	for x := range 256 {
		b := []byte{byte(x)}
		if got := Hex(b); got != hex.EncodeToString(b) {
			t.Errorf("%d: %s", x, got)
		}
	}
	if got := Hex([]byte{0, 9, 10, 15, 16, 0x7f, 0x80, 0xab, 0xff}); got != "00090a0f107f80abff" {
		t.Error(got)
	}
	for _, n := range edges() {
		b := filled(n, 5)
		if got := Hex(b); got != hex.EncodeToString(b) {
			t.Errorf("%d bytes have other digits", n)
		}
	}
}

// P1.1: Head is of the sum of what it is given, and a key.
func TestHeadIsAKey(t *testing.T) {
	least, most := api.Ring, 0
	for n := range 2000 {
		b := filled(n%130, n)
		got := Head(b)
		if got < 0 || got >= api.Ring || got != headOf(sha256.Sum256(b)) {
			t.Errorf("%x: %d", b, got)
		}
		least, most = min(least, got), max(most, got)
	}
	if least > api.Ring/64 || most < api.Ring-api.Ring/64 {
		t.Error("heads do not reach over the ring:", least, most)
	}
}

// The words are worked out from the primes' roots, as the chapter tells of them.
func TestWordsAreOfTheRoots(t *testing.T) {
	at := 0
	for p := int64(2); at < len(rounds); p++ {
		if !big.NewInt(p).ProbablyPrime(20) {
			continue
		}
		if got := behindPoint(p, 3); rounds[at] != got {
			t.Errorf("cube root of %d: %08x, not %08x", p, rounds[at], got)
		}
		if at < len(start) {
			if got := behindPoint(p, 2); start[at] != got {
				t.Errorf("square root of %d: %08x, not %08x", p, start[at], got)
			}
		}
		at++
	}
}

// behindPoint answers the first 32 bits behind the point of the degree-th root of p.
func behindPoint(p, degree int64) uint32 {
	scaled := new(big.Int).Lsh(big.NewInt(p), uint(32*degree))
	low, high := big.NewInt(0), new(big.Int).Lsh(big.NewInt(1), 40)
	for new(big.Int).Sub(high, low).Cmp(big.NewInt(1)) > 0 {
		middle := new(big.Int).Rsh(new(big.Int).Add(low, high), 1)
		if new(big.Int).Exp(middle, big.NewInt(degree), nil).Cmp(scaled) <= 0 {
			low = middle
		} else {
			high = middle
		}
	}
	return uint32(low.Uint64())
}

// R2, R6: what is handed in stays as it was, its spare room too, and is not read behind its length.
func TestWhatIsHandedInStays(t *testing.T) {
	for _, n := range edges() {
		room := filled(n+200, 7)
		before := bytes.Clone(room)
		want := sha256.Sum256(room[:n])
		b := room[:n]
		if !bytes.Equal(Sum(b), want[:]) || Head(b) != headOf(want) || Hex(b) != hex.EncodeToString(b) {
			t.Errorf("%d bytes: the spare room is seen in an answer", n)
		}
		if !bytes.Equal(room, before) {
			t.Errorf("%d bytes: changed", n)
		}
	}
}

// R2: what is answered is new memory, spare room too.
func TestWhatIsAnsweredIsNew(t *testing.T) {
	for _, n := range []int{0, 31, 32, 33, 55, 64, 120, 128, 1000} {
		room := filled(n+100, 9)
		before := bytes.Clone(room)
		want := sha256.Sum256(room[:n])
		first, second := Sum(room[:n]), Sum(room[:n])
		scribble(first)
		if !bytes.Equal(room, before) {
			t.Errorf("%d bytes: the answer shares memory with the argument", n)
		}
		if !bytes.Equal(second, want[:]) {
			t.Errorf("%d bytes: two answers share memory", n)
		}
		if !bytes.Equal(Sum(room[:n]), want[:]) {
			t.Errorf("%d bytes: an answer is kept", n)
		}
		digits := Hex(room[:n])
		told := strings.Clone(digits)
		scribble(room)
		if digits != told {
			t.Errorf("%d bytes: the digits share memory with the argument", n)
		}
	}
}

// scribble writes over all of b, its spare room too.
func scribble(b []byte) {
	b = b[:cap(b)]
	for i := range b {
		b[i] ^= 0xff
	}
}

// R3: a call hangs on its arguments alone, whatever was called ahead of it.
func TestNothingIsKept(t *testing.T) {
	for n := range 200 {
		b := filled(n, 11)
		sum, head, text := Sum(b), Head(b), Hex(b)
		Sum(filled(n+64, 3))
		Head(filled(n*2, 4))
		Hex(filled(n+1, 6))
		if !bytes.Equal(Sum(b), sum) || Head(b) != head || Hex(b) != text {
			t.Errorf("%d bytes: another answer the second time", n)
		}
	}
}
