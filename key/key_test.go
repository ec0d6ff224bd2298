package key

import (
	"math"
	"math/big"
	"testing"

	"bellwether/api"
)

const ring = api.Ring

// edges are keys at and around the places where the ring, its halves and its quarters end.
var edges = []int{0, 1, 2, 3, 5, ring/4 - 1, ring / 4, ring/4 + 1, ring/2 - 1, ring / 2, ring/2 + 1, ring/4*3 - 1, ring / 4 * 3, ring - 3, ring - 2, ring - 1}

// noKeys are numbers that are no keys.
var noKeys = []int{-1, -2, -ring, -ring - 1, ring, ring + 1, math.MaxInt - 1, math.MaxInt, math.MinInt, math.MinInt + 1}

// modulo answers a number's rest on the ring, worked out without bounds.
func modulo(x *big.Int) int {
	return int(new(big.Int).Mod(x, big.NewInt(ring)).Int64())
}

// P2.1
func TestCheckTellsKeysFromOthers(t *testing.T) {
	for _, k := range edges {
		if err := Check(k); err != api.OK {
			t.Errorf("Check(%d) = %d, want OK", k, err)
		}
	}
	for _, k := range noKeys {
		if err := Check(k); err != api.ErrArg {
			t.Errorf("Check(%d) = %d, want ErrArg", k, err)
		}
	}
}

// P2.1
func TestBehindOfSomeKeys(t *testing.T) {
	cases := []struct{ k, n, want int }{
		{5, 3, ring - 2}, // the chapter's example
		{3, 5, 2},
		{0, 0, 0},
		{7, 7, 0},
		{ring - 1, ring - 1, 0},
		{0, ring - 1, ring - 1},
		{ring - 1, 0, 1},
		{1, 0, ring - 1},
		{ring / 2, 0, ring / 2},
		{0, ring / 2, ring / 2},
		{ring - 1, ring - 2, ring - 1},
	}
	for _, c := range cases {
		if got, err := Behind(c.k, c.n); got != c.want || err != api.OK {
			t.Errorf("Behind(%d, %d) = %d, %d, want %d, OK", c.k, c.n, got, err, c.want)
		}
	}
}

// P2.1, R5
func TestBehindIsTheDifferenceOnTheRing(t *testing.T) {
	for _, k := range edges {
		for _, n := range edges {
			want := modulo(new(big.Int).Sub(big.NewInt(int64(n)), big.NewInt(int64(k))))
			if got, err := Behind(k, n); got != want || err != api.OK {
				t.Errorf("Behind(%d, %d) = %d, %d, want %d, OK", k, n, got, err, want)
			}
		}
	}
}

// P2.1, R4
func TestBehindRefusesWhatIsNoKey(t *testing.T) {
	refused := func(k, n int) {
		if got, err := Behind(k, n); got != 0 || err != api.ErrArg {
			t.Errorf("Behind(%d, %d) = %d, %d, want 0, ErrArg", k, n, got, err)
		}
	}
	for _, bad := range noKeys {
		for _, k := range edges {
			refused(bad, k)
			refused(k, bad)
		}
		for _, other := range noKeys {
			refused(bad, other)
		}
	}
}

// P2.1
func TestBetweenOfSomeKeys(t *testing.T) {
	cases := []struct {
		a, k, b int
		want    bool
	}{
		{1, 2, 3, true},
		{1, 3, 3, true},
		{1, 1, 3, false},
		{1, 4, 3, false},
		{1, 0, 3, false},
		{3, 4, 1, true},
		{3, ring - 1, 1, true},
		{3, 0, 1, true},
		{3, 1, 1, true},
		{3, 2, 1, false},
		{3, 3, 1, false},
		{ring - 1, 0, 0, true},
		{ring - 1, ring - 1, 0, false},
		{ring - 1, 1, 0, false},
		{0, ring - 1, ring - 1, true},
		{0, 0, ring - 1, false},
		{1, 0, 0, true},
		{1, 1, 0, false},
	}
	for _, c := range cases {
		if got := Between(c.a, c.k, c.b); got != c.want {
			t.Errorf("Between(%d, %d, %d) = %v, want %v", c.a, c.k, c.b, got, c.want)
		}
	}
}

// P2.1
func TestBetweenOfOneKeyIsTheWholeRing(t *testing.T) {
	for _, a := range edges {
		for _, k := range edges {
			if !Between(a, k, a) {
				t.Errorf("Between(%d, %d, %d) = false, want true", a, k, a)
			}
		}
	}
}

// metOnTheWay walks from the edge behind a on, around the list, until it has come to b.
func metOnTheWay(a, k, b int) bool {
	for i := a; ; {
		i = (i + 1) % len(edges)
		if i == k {
			return true
		}
		if i == b {
			return false
		}
	}
}

// P2.1
func TestBetweenIsWhatAWalkMeets(t *testing.T) {
	for a := range edges {
		for k := range edges {
			for b := range edges {
				want := metOnTheWay(a, k, b)
				if got := Between(edges[a], edges[k], edges[b]); got != want {
					t.Errorf("Between(%d, %d, %d) = %v, want %v", edges[a], edges[k], edges[b], got, want)
				}
			}
		}
	}
}

// P2.1
func TestBetweenIsFalseForWhatIsNoKey(t *testing.T) {
	for _, bad := range noKeys {
		for _, x := range edges {
			for _, y := range edges {
				if Between(bad, x, y) || Between(x, bad, y) || Between(x, y, bad) {
					t.Errorf("Between of %d, %d and %d is true in some order", bad, x, y)
				}
			}
			if Between(bad, bad, x) || Between(bad, x, bad) || Between(x, bad, bad) {
				t.Errorf("Between of %d twice and %d is true in some order", bad, x)
			}
		}
		if Between(bad, bad, bad) {
			t.Errorf("Between(%d, %d, %d) = true", bad, bad, bad)
		}
	}
}

// P2.1
func TestBackOfSomeKeys(t *testing.T) {
	cases := []struct{ k, bits, want int }{
		{5, 0, 4},
		{5, 2, 1},
		{4, 2, 0},
		{3, 2, ring - 1},
		{1, 0, 0},
		{0, 0, ring - 1},
		{0, 61, ring / 2},
		{ring / 2, 61, 0},
		{ring/2 - 1, 61, ring - 1},
		{ring - 1, 0, ring - 2},
		{ring - 1, 61, ring/2 - 1},
	}
	for _, c := range cases {
		if got, err := Back(c.k, c.bits); got != c.want || err != api.OK {
			t.Errorf("Back(%d, %d) = %d, %d, want %d, OK", c.k, c.bits, got, err, c.want)
		}
	}
}

// P2.1, R5
func TestBackIsThePowerLessOnTheRing(t *testing.T) {
	for _, k := range edges {
		for bits := 0; bits <= 61; bits++ {
			power := new(big.Int).Lsh(big.NewInt(1), uint(bits))
			want := modulo(new(big.Int).Sub(big.NewInt(int64(k)), power))
			got, err := Back(k, bits)
			if got != want || err != api.OK {
				t.Errorf("Back(%d, %d) = %d, %d, want %d, OK", k, bits, got, err, want)
			}
			if far, err := Behind(got, k); far != 1<<bits || err != api.OK {
				t.Errorf("%d stands %d behind Back(%d, %d), want %d", k, far, k, bits, 1<<bits)
			}
		}
	}
}

// P2.1, R1, R4
func TestBackRefusesWhatIsNoKeyOrNoBit(t *testing.T) {
	refused := func(k, bits int) {
		if got, err := Back(k, bits); got != 0 || err != api.ErrArg {
			t.Errorf("Back(%d, %d) = %d, %d, want 0, ErrArg", k, bits, got, err)
		}
	}
	noBits := []int{math.MinInt, math.MinInt + 1, -64, -2, -1, 62, 63, 64, 65, 128, math.MaxInt}
	for _, bits := range noBits {
		for _, k := range edges {
			refused(k, bits)
		}
		for _, bad := range noKeys {
			refused(bad, bits)
		}
	}
	for _, bad := range noKeys {
		for bits := 0; bits <= 61; bits++ {
			refused(bad, bits)
		}
	}
}

// P2.2
func TestTwoUnlikeKeysAreTheRingApartTogether(t *testing.T) {
	for _, k := range edges {
		for _, n := range edges {
			there, err := Behind(k, n)
			back, err2 := Behind(n, k)
			if err != api.OK || err2 != api.OK {
				t.Fatalf("Behind of %d and %d is refused: %d, %d", k, n, err, err2)
			}
			want := ring
			if k == n {
				want = 0
			}
			if there+back != want {
				t.Errorf("%d and %d stand %d and %d behind one another, %d together, want %d", k, n, there, back, there+back, want)
			}
		}
	}
}
