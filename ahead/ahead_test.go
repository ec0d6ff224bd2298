package ahead

import (
	"math"
	"math/rand"
	"slices"
	"testing"

	"bellwether/api"
)

// The limits of the document, written out anew.
const (
	mostWant   = 1 << 30
	mostWindow = 16
	mostValue  = 2147483647
)

// Numbers just outside of their limits, and far off.
var (
	noWants   = []int{0, -1, -2, -mostWant, -1 << 32, -1 << 62, math.MinInt, math.MinInt + 1, mostWant + 1, mostWant + 2, 1 << 31, 1 << 32, 1<<32 + 1, 1<<32 + 9, 1 << 62, math.MaxInt - 1, math.MaxInt}
	noWindows = []int{0, -1, -2, -16, -256, -1 << 32, math.MinInt, math.MinInt + 1, mostWindow + 1, mostWindow + 2, 32, 255, 256, 257, 272, mostWant, 1 << 32, 1<<32 + 1, 1<<32 + 16, math.MaxInt - 1, math.MaxInt}
	noValues  = []int{-1, -2, -256, -1 << 31, -1 << 32, math.MinInt, math.MinInt + 1, mostValue + 1, mostValue + 2, 1 << 32, 1<<32 + 1, 1 << 62, math.MaxInt - 1, math.MaxInt}
)

// Numbers just inside, and some between.
var (
	rightWants  = []int{1, 2, 3, 9, 16, 17, 300, 1 << 16, mostWant - 17, mostWant - 16, mostWant - 15, mostWant - 4, mostWant - 3, mostWant - 2, mostWant - 1, mostWant}
	rightValues = []int{0, 1, 2, 9, 255, 256, 1 << 16, 1 << 30, mostValue - 1, mostValue}
)

// Numbers of items as low and as high as an int goes.
var farNumbers = []int{math.MinInt, math.MinInt + 1, -1 << 62, -1 << 32, -mostWant, -17, -1, 0, mostWant, mostWant + 1, 1 << 31, 1 << 32, 1<<32 + 301, 1 << 62, math.MaxInt - 1, math.MaxInt}

// item answers the item of a number, with another value for each of those side by side.
func item(seq int) api.Item { return api.Item{Seq: seq, Value: (seq%1000 + 1000) % 1000} }

// items answers items of such numbers.
func items(seqs ...int) []api.Item {
	var l []api.Item
	for _, seq := range seqs {
		l = append(l, item(seq))
	}
	return l
}

// room answers which numbers may be there ahead of want, for a window.
func room(want, window int) []int {
	var l []int
	for d := 1; d < window; d++ {
		if want+d < mostWant {
			l = append(l, want+d)
		}
	}
	return l
}

// some answers items of those numbers whose bit of which is set.
func some(seqs []int, which int) []api.Item {
	var l []api.Item
	for i, seq := range seqs {
		if which>>i&1 == 1 {
			l = append(l, item(seq))
		}
	}
	return l
}

// eachChoice calls f for each window up to 8, wants near and far, and each choice of items that may be there; and for greater windows, choices of a few of each end.
func eachChoice(f func(l []api.Item, want, window int)) {
	for window := 1; window <= mostWindow; window++ {
		for _, want := range rightWants {
			seqs := room(want, window)
			for which := range 1 << min(len(seqs), 7) {
				f(some(seqs, which), want, window)
				if len(seqs) > 7 {
					f(some(seqs, which<<(len(seqs)-7)), want, window)
					f(some(seqs, which*0x81), want, window)
				}
			}
		}
	}
}

// instead answers a copy of l with it at a place, in another's stead.
func instead(l []api.Item, at int, it api.Item) []api.Item {
	out := slices.Clone(l)
	out[at] = it
	return out
}

// isBetween answers whether n is from low to high.
func isBetween(n, low, high int) bool { return low <= n && n <= high }

// mayStand answers by the test's own rules whether an item of that number may stand ahead of want.
func mayStand(seq, want, window int) bool { return slices.Contains(room(want, window), seq) }

// checked answers by the test's own rules what Check should: it looks each item up among those that may be there, and at each two.
func checked(l []api.Item, want, window int) api.Errno {
	if !isBetween(want, 1, mostWant) || !isBetween(window, 1, mostWindow) || len(l) >= window {
		return api.ErrArg
	}
	for i, it := range l {
		if !mayStand(it.Seq, want, window) || !isBetween(it.Value, 0, mostValue) {
			return api.ErrArg
		}
		for _, other := range l[:i] {
			if other.Seq >= it.Seq {
				return api.ErrArg
			}
		}
	}
	return api.OK
}

// added answers by the test's own rules what Add should: it sorts what it put behind.
func added(l []api.Item, want, window int, x api.Item) ([]api.Item, api.Errno) {
	if e := checked(l, want, window); e != api.OK {
		return nil, e
	}
	if !isBetween(x.Value, 0, mostValue) {
		return nil, api.ErrArg
	}
	if !mayStand(x.Seq, want, window) {
		return nil, api.ErrFull
	}
	if slices.ContainsFunc(l, func(it api.Item) bool { return it.Seq == x.Seq }) {
		return nil, api.ErrExists
	}
	out := slices.Concat(l, []api.Item{x})
	slices.SortFunc(out, func(a, b api.Item) int { return a.Seq - b.Seq })
	return out, api.OK
}

// taken answers by the test's own rules what Take should: while the first one left is the next one, it goes over.
func taken(l []api.Item, want int) (out, rest []api.Item) {
	rest = slices.DeleteFunc(slices.Clone(l), func(it api.Item) bool { return it.Seq < want })
	for len(rest) > 0 && rest[0].Seq == want {
		out, rest = append(out, rest[0]), rest[1:]
		if want == math.MaxInt {
			break
		}
		want++
	}
	return out, rest
}

func wantCheck(t *testing.T, l []api.Item, want, window int, e api.Errno) {
	t.Helper()
	if got := Check(l, want, window); got != e {
		t.Errorf("Check(%v, %d, %d) = %d, want %d", l, want, window, got, e)
	}
}

func wantAdd(t *testing.T, l []api.Item, want, window int, x api.Item, out []api.Item, e api.Errno) {
	t.Helper()
	if got, err := Add(l, want, window, x); !slices.Equal(got, out) || err != e {
		t.Errorf("Add(%v, %d, %d, %v) = %v, %d, want %v, %d", l, want, window, x, got, err, out, e)
	}
}

func wantTake(t *testing.T, l []api.Item, want int, out, rest []api.Item) {
	t.Helper()
	if a, b := Take(l, want); !slices.Equal(a, out) || !slices.Equal(b, rest) {
		t.Errorf("Take(%v, %d) = %v, %v, want %v, %v", l, want, a, b, out, rest)
	}
}

// wantRefused wants that Check refuses these items, and Add with it, whatever is added.
func wantRefused(t *testing.T, l []api.Item, want, window int) {
	t.Helper()
	wantCheck(t, l, want, window, api.ErrArg)
	for _, seq := range []int{math.MinInt, 0, 1, 2, 6, want, mostWant - 1, mostWant, math.MaxInt} {
		for _, v := range []int{math.MinInt, -1, 0, mostValue, mostValue + 1} {
			wantAdd(t, l, want, window, api.Item{Seq: seq, Value: v}, nil, api.ErrArg)
		}
	}
}

// P16.1: no items are right, whatever want and the window are.
func TestNoItems(t *testing.T) {
	for window := 1; window <= mostWindow; window++ {
		for _, l := range [][]api.Item{nil, {}, items(9)[:0]} {
			for _, want := range rightWants {
				wantCheck(t, l, want, window, api.OK)
			}
			for _, want := range noWants {
				wantRefused(t, l, want, window)
			}
		}
	}
	for _, window := range noWindows {
		for _, want := range append(slices.Clone(rightWants), noWants...) {
			wantRefused(t, nil, want, window)
			wantRefused(t, []api.Item{}, want, window)
		}
	}
}

// P16.1: each choice of those that a window holds is right, from one to as many as there are, to the greatest window.
func TestEachChoiceIsRight(t *testing.T) {
	eachChoice(func(l []api.Item, want, window int) { wantCheck(t, l, want, window, api.OK) })
	for _, want := range []int{1, 300, mostWant - 16, mostWant - 9} {
		seqs := room(want, mostWindow)
		for which := range 1 << len(seqs) {
			wantCheck(t, some(seqs, which), want, mostWindow, api.OK)
		}
	}
	for window := 2; window <= mostWindow; window++ {
		seqs := room(300, window)
		if len(seqs) != window-1 {
			t.Fatalf("%d numbers ahead for a window of %d", len(seqs), window)
		}
		wantCheck(t, items(seqs...), 300, window, api.OK)
		wantRefused(t, items(append(seqs, 300+window)...), 300, window)
	}
}

// P16.1: too many items by far.
func TestManyItems(t *testing.T) {
	for _, n := range []int{16, 17, 100, 256, 257, 1 << 16} {
		wantRefused(t, make([]api.Item, n), 1, mostWindow)
		wantRefused(t, slices.Repeat(items(6), n), 5, mostWindow)
		var l []api.Item
		for seq := range n {
			l = append(l, item(seq+301))
		}
		wantRefused(t, l, 300, mostWindow)
	}
}

// P16.1: the least want, the greatest one, and one more, with one item and with two.
func TestEdgesOfWant(t *testing.T) {
	wantCheck(t, items(2), 1, 2, api.OK)
	wantRefused(t, items(1), 1, 2)
	wantRefused(t, items(1), 0, 2)
	wantRefused(t, items(2), 0, 16)
	wantRefused(t, items(1), -1, 16)
	wantCheck(t, items(mostWant-1), mostWant-2, 2, api.OK)
	wantRefused(t, items(mostWant), mostWant-2, 3)
	wantRefused(t, items(mostWant-1, mostWant), mostWant-2, 16)
	wantRefused(t, items(mostWant), mostWant-1, 2)
	wantRefused(t, items(mostWant), mostWant-1, 16)
	wantRefused(t, items(mostWant-1), mostWant-1, 16)
	wantRefused(t, items(mostWant), mostWant, 16)
	wantRefused(t, items(mostWant+1), mostWant, 16)
	wantRefused(t, items(mostWant-1), mostWant, 16)
	wantRefused(t, items(mostWant+2), mostWant+1, 16)
	for _, want := range noWants {
		for _, window := range []int{1, 2, 15, 16} {
			wantRefused(t, items(2), want, window)
			wantRefused(t, items(want), want, window)
			if want < math.MaxInt {
				wantRefused(t, items(want+1), want, window)
			}
			wantRefused(t, items(mostWant-1), want, window)
		}
	}
}

// P16.1: windows just outside and far off.
func TestWindowsThatAreNone(t *testing.T) {
	for _, window := range noWindows {
		for _, l := range [][]api.Item{items(301), items(302), items(301, 302), items(300), items(299), items(315), items(316), items(317)} {
			wantRefused(t, l, 300, window)
		}
		wantRefused(t, items(mostWant-1), mostWant-2, window)
		wantRefused(t, items(2), 1, window)
	}
}

// P16.1: one item, of each number near want and of numbers far off.
func TestNumbersOfItems(t *testing.T) {
	for window := 1; window <= mostWindow; window++ {
		for _, want := range rightWants {
			seqs := slices.Clone(farNumbers)
			for seq := want - 20; seq <= want+20; seq++ {
				seqs = append(seqs, seq, seq+1<<32, seq-1<<32)
			}
			for _, seq := range seqs {
				if want < seq && seq < want+window && seq < mostWant {
					wantCheck(t, items(seq), want, window, api.OK)
				} else {
					wantCheck(t, items(seq), want, window, api.ErrArg)
					wantAdd(t, items(seq), want, window, api.Item{Seq: want + 1}, nil, api.ErrArg)
				}
			}
		}
	}
	for _, seq := range []int{299, 300, 305, 306} {
		wantRefused(t, items(seq), 300, 5)
	}
}

// P16.1: among others, a number that is out, or stands at the wrong place.
func TestNumbersAmongOthers(t *testing.T) {
	eachChoice(func(l []api.Item, want, window int) {
		if len(l) > 4 {
			return
		}
		for at, it := range l {
			for _, seq := range []int{it.Seq - 1, it.Seq + 1, it.Seq - 3, it.Seq + 3, it.Seq + 1<<32, want - 1, want, want + 1, want + window - 1, want + window, 0, -it.Seq, mostWant, math.MinInt, math.MaxInt} {
				other := instead(l, at, item(seq))
				wantCheck(t, other, want, window, checked(other, want, window))
			}
		}
	})
}

// P16.1: one number twice, two in the wrong order, side by side and apart.
func TestOrder(t *testing.T) {
	eachChoice(func(l []api.Item, want, window int) {
		for at := range l {
			wantCheck(t, slices.Insert(slices.Clone(l), at, l[at]), want, window, api.ErrArg)
			wantCheck(t, slices.Insert(slices.Clone(l), at, api.Item{Seq: l[at].Seq, Value: l[at].Value + 1}), want, window, api.ErrArg)
			for other := range at {
				turned := instead(instead(l, at, l[other]), other, l[at])
				wantCheck(t, turned, want, window, api.ErrArg)
				wantCheck(t, instead(l, at, l[other]), want, window, api.ErrArg)
			}
		}
	})
	for _, l := range [][]api.Item{items(6, 6), items(8, 6), items(7, 6), items(6, 8, 7), items(8, 6, 7), items(6, 7, 6), items(6, 7, 7), items(6, 6, 7)} {
		wantRefused(t, l, 5, mostWindow)
	}
}

// P16.1: values just inside, just outside and far off, at each place.
func TestValuesOfItems(t *testing.T) {
	eachChoice(func(l []api.Item, want, window int) {
		if len(l) > 3 {
			return
		}
		for at, it := range l {
			for _, v := range rightValues {
				wantCheck(t, instead(l, at, api.Item{Seq: it.Seq, Value: v}), want, window, api.OK)
			}
			for _, v := range noValues {
				wantCheck(t, instead(l, at, api.Item{Seq: it.Seq, Value: v}), want, window, api.ErrArg)
			}
		}
	})
	for _, v := range noValues {
		wantRefused(t, []api.Item{{Seq: 6, Value: v}}, 5, 3)
		wantRefused(t, []api.Item{{Seq: 6, Value: v}, {Seq: 7, Value: 1}}, 5, 3)
		wantRefused(t, []api.Item{{Seq: 6, Value: 1}, {Seq: 7, Value: v}}, 5, 3)
	}
}

// P16.1: added to each choice, each number that fits: what was there stays, in order, with its values.
func TestAdd(t *testing.T) {
	eachChoice(func(l []api.Item, want, window int) {
		for seq := want - 2; seq <= want+window+2; seq++ {
			x := api.Item{Seq: seq, Value: 4000 + seq%1000}
			out, e := added(l, want, window, x)
			wantAdd(t, l, want, window, x, out, e)
			if e == api.OK {
				wantCheck(t, out, want, window, api.OK)
			}
		}
	})
}

// P16.1: into none, ahead of the first one, between any two, behind the last one.
func TestAddEdges(t *testing.T) {
	x := func(seq int) api.Item { return api.Item{Seq: seq, Value: 5000} }
	for _, c := range []struct {
		l   []api.Item
		seq int
		out []api.Item
	}{
		{nil, 6, []api.Item{x(6)}},
		{nil, 13, []api.Item{x(13)}},
		{nil, 20, []api.Item{x(20)}},
		{items(7), 6, []api.Item{x(6), item(7)}},
		{items(7), 8, []api.Item{item(7), x(8)}},
		{items(20), 6, []api.Item{x(6), item(20)}},
		{items(6), 20, []api.Item{item(6), x(20)}},
		{items(7, 9, 11), 6, []api.Item{x(6), item(7), item(9), item(11)}},
		{items(7, 9, 11), 8, []api.Item{item(7), x(8), item(9), item(11)}},
		{items(7, 9, 11), 10, []api.Item{item(7), item(9), x(10), item(11)}},
		{items(7, 9, 11), 12, []api.Item{item(7), item(9), item(11), x(12)}},
	} {
		wantAdd(t, c.l, 5, 16, x(c.seq), c.out, api.OK)
	}
	for _, v := range rightValues {
		wantAdd(t, items(6, 9), 5, 6, api.Item{Seq: 7, Value: v}, []api.Item{item(6), {Seq: 7, Value: v}, item(9)}, api.OK)
	}
	all := room(300, mostWindow)
	for at, seq := range all {
		others := slices.Delete(slices.Clone(all), at, at+1)
		wantAdd(t, items(others...), 300, mostWindow, item(seq), items(all...), api.OK)
	}
	wantAdd(t, nil, 1, 2, x(2), []api.Item{x(2)}, api.OK)
	wantAdd(t, nil, mostWant-2, 2, x(mostWant-1), []api.Item{x(mostWant - 1)}, api.OK)
	wantAdd(t, nil, mostWant-2, 16, x(mostWant-1), []api.Item{x(mostWant - 1)}, api.OK)
}

// P16.1: out of the window, at both of its ends, at the greatest number, and as low and as high as an int goes.
func TestAddOutOfTheWindow(t *testing.T) {
	for window := 1; window <= mostWindow; window++ {
		for _, want := range rightWants {
			seqs := room(want, window)
			for _, l := range [][]api.Item{nil, items(seqs...), items(seqs[:len(seqs)/2]...)} {
				for _, seq := range append([]int{want, want - 1, want - 2, want - window, want + window, want + window + 1, want + 17, want + 1<<32, want + 1<<32 + 1, want - 1<<32 + 1, -want - 1}, farNumbers...) {
					wantAdd(t, l, want, window, api.Item{Seq: seq, Value: 1}, nil, api.ErrFull)
				}
			}
		}
	}
	wantAdd(t, nil, mostWant-2, 16, api.Item{Seq: mostWant}, nil, api.ErrFull)
	wantAdd(t, nil, mostWant-1, 16, api.Item{Seq: mostWant}, nil, api.ErrFull)
	wantAdd(t, nil, mostWant, 16, api.Item{Seq: mostWant + 1}, nil, api.ErrFull)
	wantAdd(t, nil, 5, 1, api.Item{Seq: 6}, nil, api.ErrFull)
}

// P16.1, R4: which error of Add comes first: the items, the value, the window, one that is there.
func TestAddErrors(t *testing.T) {
	wrong := [][]api.Item{items(5), items(6, 6), items(9, 6), items(6, 21), {{Seq: 6, Value: -1}}}
	for _, v := range noValues {
		for _, l := range wrong {
			wantAdd(t, l, 5, 16, api.Item{Seq: 6, Value: v}, nil, api.ErrArg)
		}
		for _, l := range [][]api.Item{nil, items(6), items(6, 9)} {
			for _, seq := range append([]int{4, 5, 6, 7, 9, 20, 21}, farNumbers...) {
				wantAdd(t, l, 5, 16, api.Item{Seq: seq, Value: v}, nil, api.ErrArg)
			}
		}
	}
	for _, l := range wrong {
		for _, seq := range append([]int{4, 5, 6, 7, 9, 20, 21}, farNumbers...) {
			wantAdd(t, l, 5, 16, api.Item{Seq: seq, Value: 1}, nil, api.ErrArg)
		}
	}
	eachChoice(func(l []api.Item, want, window int) {
		for _, it := range l {
			wantAdd(t, l, want, window, it, nil, api.ErrExists)
			wantAdd(t, l, want, window, api.Item{Seq: it.Seq, Value: it.Value + 1}, nil, api.ErrExists)
			wantAdd(t, l, want, window, api.Item{Seq: it.Seq, Value: -1}, nil, api.ErrArg)
			wantAdd(t, l, want, window, api.Item{Seq: it.Seq, Value: mostValue + 1}, nil, api.ErrArg)
		}
	})
}

// P16.1: taken of right items, for each want from below the first one to above the last one.
func TestTake(t *testing.T) {
	eachChoice(func(l []api.Item, want, window int) {
		for from := want - 2; from <= want+window+2; from++ {
			out, rest := taken(l, from)
			wantTake(t, l, from, out, rest)
		}
		for _, from := range farNumbers {
			out, rest := taken(l, from)
			wantTake(t, l, from, out, rest)
		}
	})
}

// P16.1: what is taken, left and left out of such items, one by one.
func TestTakeEdges(t *testing.T) {
	l := items(3, 4, 6, 7, 9)
	for _, c := range []struct {
		want      int
		out, rest []api.Item
	}{
		{math.MinInt, nil, l},
		{-1, nil, l},
		{0, nil, l},
		{2, nil, l},
		{3, items(3, 4), items(6, 7, 9)},
		{4, items(4), items(6, 7, 9)},
		{5, nil, items(6, 7, 9)},
		{6, items(6, 7), items(9)},
		{7, items(7), items(9)},
		{8, nil, items(9)},
		{9, items(9), nil},
		{10, nil, nil},
		{math.MaxInt, nil, nil},
	} {
		wantTake(t, l, c.want, c.out, c.rest)
	}
	for _, want := range append(slices.Concat(rightWants, noWants), farNumbers...) {
		wantTake(t, nil, want, nil, nil)
		wantTake(t, []api.Item{}, want, nil, nil)
		wantTake(t, items(want), want, items(want), nil)
		wantTake(t, items(want, want), want, items(want), items(want))
	}
}

// P16.1: taken of any: out of order, one number twice, below want, of any value.
func TestTakeOfAny(t *testing.T) {
	for _, c := range []struct {
		l         []api.Item
		want      int
		out, rest []api.Item
	}{
		{items(4, 3), 3, nil, items(4, 3)},
		{items(4, 3), 4, items(4), nil},
		{items(9, 1, 3, 4, 2), 3, nil, items(9, 3, 4)},
		{items(1, 3, 2, 4, 4, 5), 3, items(3, 4), items(4, 5)},
		{items(3, 3, 4), 3, items(3), items(3, 4)},
		{items(3, 4, 3, 5), 3, items(3, 4), items(3, 5)},
		{items(3, 4, 2, 5, 1, 6), 3, items(3, 4, 5, 6), nil},
		{items(2, 2, 3, 2, 4, 2), 3, items(3, 4), nil},
		{items(3, 5, 4), 3, items(3), items(5, 4)},
		{items(5, 4, 3), 3, nil, items(5, 4, 3)},
		{items(-5, -4, 7), -5, items(-5, -4), items(7)},
		{items(-2, -1, 0, 1, 2), -2, items(-2, -1, 0, 1, 2), nil},
		{items(mostWant-1, mostWant, mostWant+1), mostWant - 1, items(mostWant-1, mostWant, mostWant+1), nil},
	} {
		wantTake(t, c.l, c.want, c.out, c.rest)
	}
	odd := []api.Item{{Seq: 3, Value: -1}, {Seq: 4, Value: math.MinInt}, {Seq: 6, Value: math.MaxInt}}
	wantTake(t, odd, 3, odd[:2], odd[2:])
	wantTake(t, odd, 4, odd[1:2], odd[2:])
}

// P16.1, R5: behind the greatest int comes no least one, and none is near it that is not.
func TestTakeAtTheEndsOfAnInt(t *testing.T) {
	const low, high = math.MinInt, math.MaxInt
	for _, c := range []struct {
		l         []api.Item
		want      int
		out, rest []api.Item
	}{
		{items(high), high, items(high), nil},
		{items(high-1, high), high - 1, items(high-1, high), nil},
		{items(high-1, high), high, items(high), nil},
		{items(high, low), high, items(high), nil},
		{items(high-1, high, low, low+1), high - 1, items(high-1, high), nil},
		{items(high, high), high, items(high), items(high)},
		{items(low), low, items(low), nil},
		{items(low, low+1, high), low, items(low, low+1), items(high)},
		{items(low, high), low, items(low), items(high)},
		{items(low, low), low, items(low), items(low)},
		{items(high, low), low, nil, items(high, low)},
		{items(low, high), low + 1, nil, items(high)},
		{items(0, low, high), 0, items(0), items(high)},
		{items(-1, high), -1, items(-1), items(high)},
		{items(low, -1<<63+1<<32+1), low, items(low), items(-1<<63 + 1<<32 + 1)},
		{items(7, 8+1<<32), 7, items(7), items(8 + 1<<32)},
	} {
		wantTake(t, c.l, c.want, c.out, c.rest)
	}
}

// P16.1: a great many items.
func TestTakeOfMany(t *testing.T) {
	var l []api.Item
	for seq := range 1 << 17 {
		l = append(l, item(seq))
	}
	wantTake(t, l, 0, l, nil)
	wantTake(t, l, 1<<16, l[1<<16:], nil)
	gap := slices.Delete(slices.Clone(l), 70000, 70001)
	wantTake(t, gap, 5, gap[5:70000], gap[70000:])
}

// P16.2: the chapter's example.
func TestExample(t *testing.T) {
	wantTake(t, items(3, 4, 6), 3, items(3, 4), items(6))
}

// P16.2: each one that is added is there when its number comes, and only then, whatever else is there.
func TestWhatIsAddedIsTaken(t *testing.T) {
	eachChoice(func(l []api.Item, want, window int) {
		for _, seq := range room(want, window) {
			x := api.Item{Seq: seq, Value: 6000}
			with, e := Add(l, want, window, x)
			if e != api.OK {
				continue
			}
			for from := want; from <= seq; from++ {
				out, rest := Take(with, from)
				if from == seq && (len(out) == 0 || out[0] != x) {
					t.Fatalf("Take(%v, %d) = %v, %v: %v is not taken", with, from, out, rest, x)
				}
				if !slices.Contains(slices.Concat(out, rest), x) {
					t.Fatalf("Take(%v, %d) = %v, %v: %v is nowhere", with, from, out, rest, x)
				}
			}
		}
	})
}

// P16.2: added in any order, they are taken in the order of their numbers when want comes, as far as they follow; the others are left until theirs comes.
func TestAddedInAnyOrder(t *testing.T) {
	for n := range 6000 {
		r := rand.New(rand.NewSource(int64(n)))
		window := 1 + r.Intn(mostWindow)
		want := []int{1, 2, 300, mostWant - 40}[r.Intn(4)]
		seqs := room(want, window)
		r.Shuffle(len(seqs), func(i, j int) { seqs[i], seqs[j] = seqs[j], seqs[i] })
		seqs = seqs[:r.Intn(len(seqs)+1)]
		var l []api.Item
		for _, seq := range seqs {
			out, e := Add(l, want, window, item(seq))
			if e != api.OK {
				t.Fatalf("Add(%v, %d, %d, %d): %d", l, want, window, seq, e)
			}
			l = out
		}
		slices.Sort(seqs)
		wantTakenByAndBy(t, l, want, window, seqs)
	}
}

// wantTakenByAndBy wants that of items of these numbers each is taken once, as want goes up past them.
func wantTakenByAndBy(t *testing.T, l []api.Item, want, window int, seqs []int) {
	t.Helper()
	var came []int
	for end := want + window; want < end; {
		out, rest := Take(l, want)
		for i, it := range out {
			if it != item(want+i) {
				t.Fatalf("Take(%v, %d) = %v, %v", l, want, out, rest)
			}
			came = append(came, it.Seq)
		}
		if slices.Contains(seqs, want) != (len(out) > 0) {
			t.Fatalf("Take(%v, %d) = %v, %v", l, want, out, rest)
		}
		l, want = rest, want+max(1, len(out))
		for _, it := range l {
			if it.Seq < want {
				t.Fatalf("%v is left, and want is %d", l, want)
			}
		}
	}
	if !slices.Equal(came, seqs) || len(l) > 0 {
		t.Fatalf("of %v came %v, left is %v", seqs, came, l)
	}
}

// P16.2: a stream whose items come out of order: what is ahead is added, what is due is taken, and all come once, in order.
func TestStreamOutOfOrder(t *testing.T) {
	for n := range 300 {
		r := rand.New(rand.NewSource(int64(n)))
		window := 1 + r.Intn(mostWindow)
		start := []int{1, 300, mostWant - 100}[r.Intn(3)]
		var l, came []api.Item
		for want := start; want < start+100; {
			if x := item(want + r.Intn(window)); x.Seq > want && x.Seq < start+100 {
				out, e := added(l, want, window, x)
				wantAdd(t, l, want, window, x, out, e)
				if e == api.OK {
					l = out
				}
				continue
			}
			out, rest := Take(l, want+1)
			came = append(append(came, item(want)), out...)
			l, want = rest, want+1+len(out)
			wantCheck(t, l, want, window, api.OK)
		}
		for i, it := range came {
			if it != item(start+i) {
				t.Fatalf("at %d came %v", start+i, it)
			}
		}
		if len(came) != 100 || len(l) != 0 {
			t.Fatalf("came %d, left is %v", len(came), l)
		}
	}
}

// mixedItems answers items that are right, or nearly.
func mixedItems(r *rand.Rand, want, window int) []api.Item {
	l := some(room(want, window), r.Int())
	for i := range l {
		l[i].Value = rightValues[r.Intn(len(rightValues))]
	}
	if len(l) == 0 || r.Intn(3) > 0 {
		return l
	}
	at, other := r.Intn(len(l)), r.Intn(len(l))
	switch r.Intn(6) {
	case 0:
		l[at].Seq += r.Intn(5) - 2
	case 1:
		l[at].Value = noValues[r.Intn(len(noValues))]
	case 2:
		l[at], l[other] = l[other], l[at]
	case 3:
		l = slices.Insert(l, at, l[other])
	case 4:
		l[at].Seq = farNumbers[r.Intn(len(farNumbers))]
	case 5:
		l = append(l, item(want+window))
	}
	return l
}

// P16.1: mixed calls, each held against the test's own reckoning.
func TestMixedCalls(t *testing.T) {
	r := rand.New(rand.NewSource(161))
	right := 0
	for range 60000 {
		window, want := 1+r.Intn(mostWindow), rightWants[r.Intn(len(rightWants))]
		l := mixedItems(r, want, window)
		if r.Intn(20) == 0 {
			want = noWants[r.Intn(len(noWants))]
		}
		if r.Intn(20) == 0 {
			window = noWindows[r.Intn(len(noWindows))]
		}
		e := checked(l, want, window)
		wantCheck(t, l, want, window, e)
		if e == api.OK {
			right++
		}
		x := api.Item{Seq: min(want, math.MaxInt-20) + r.Intn(20), Value: rightValues[r.Intn(len(rightValues))]}
		if r.Intn(20) == 0 {
			x.Value = noValues[r.Intn(len(noValues))]
		}
		out, e := added(l, want, window, x)
		wantAdd(t, l, want, window, x, out, e)
		from := min(want, math.MaxInt-20) + r.Intn(20)
		a, b := taken(l, from)
		wantTake(t, l, from, a, b)
	}
	if right < 10000 || right > 58000 {
		t.Errorf("%d of 60000 were right", right)
	}
}

// roomy answers a copy of l with other items in its spare room.
func roomy(l []api.Item) []api.Item {
	out := slices.Concat(l, items(301, 302, 300, 304, 299, 999, 305, 303))
	return out[:len(l)]
}

// everything answers a copy of all that lies in the memory of l, its spare room too.
func everything(l []api.Item) []api.Item { return slices.Clone(l[:cap(l)]) }

// fill overwrites all that lies in the memory of l.
func fill(l []api.Item, it api.Item) {
	l = l[:cap(l)]
	for i := range l {
		l[i] = it
	}
}

// told is what a call answers.
type told struct {
	out, rest []api.Item
	e         api.Errno
}

func sameTold(a, b told) bool {
	return slices.Equal(a.out, b.out) && slices.Equal(a.rest, b.rest) && a.e == b.e
}

// calls answers calls that have l handed in, by name: those that answer, and those that refuse.
func calls(l []api.Item, want, window int) map[string]func() told {
	add := func(want, window int, x api.Item) func() told {
		return func() told {
			out, e := Add(l, want, window, x)
			return told{out: out, e: e}
		}
	}
	take := func(want int) func() told {
		return func() told {
			out, rest := Take(l, want)
			return told{out: out, rest: rest}
		}
	}
	return map[string]func() told{
		"check":              func() told { return told{e: Check(l, want, window)} },
		"add first":          add(want, window, api.Item{Seq: want + 1, Value: 9}),
		"add second":         add(want, window, api.Item{Seq: want + 2, Value: 9}),
		"add last":           add(want, window, api.Item{Seq: want + window - 1, Value: 9}),
		"add, wrong value":   add(want, window, api.Item{Seq: want + 1, Value: -9}),
		"add, out of it":     add(want, window, api.Item{Seq: want + window, Value: 9}),
		"add, wrong want":    add(0, window, api.Item{Seq: want + 1, Value: 9}),
		"add, wrong window":  add(want, 17, api.Item{Seq: want + 1, Value: 9}),
		"take below":         take(want - 1),
		"take at want":       take(want),
		"take the first":     take(want + 1),
		"take the second":    take(want + 2),
		"take in the middle": take(want + window/2),
		"take the last":      take(want + window - 1),
		"take behind":        take(want + window),
	}
}

// R2, R6: what is handed in stays as it was, its spare room too; no answer shares memory with it, nor with another answer, nor one result with the other.
func TestAnswersAreNewMemory(t *testing.T) {
	for window := 1; window <= mostWindow; window++ {
		seqs := room(300, window)
		for _, which := range []int{0, 1, 2, 3, 5, 6, 7, 0x5555, 0xAAAA, 0x6666, 0xFFFF} {
			for name := range calls(nil, 300, window) {
				l := roomy(some(seqs, which))
				before := everything(l)
				call := calls(l, 300, window)[name]
				first, second := call(), call()
				want := told{slices.Clone(second.out), slices.Clone(second.rest), second.e}
				if !slices.Equal(everything(l), before) {
					t.Errorf("%s of %v: what is handed in is changed", name, l)
				}
				rest := everything(first.rest)
				fill(first.out, api.Item{Seq: -7, Value: -7})
				if !slices.Equal(everything(first.rest), rest) {
					t.Errorf("%s of %v: one result shares memory with the other", name, l)
				}
				fill(first.rest, api.Item{Seq: -8, Value: -8})
				if !slices.Equal(everything(l), before) {
					t.Errorf("%s of %v: an answer shares memory with what is handed in", name, l)
				}
				fill(l, api.Item{Seq: -9, Value: -9})
				if !sameTold(second, want) {
					t.Errorf("%s of %v: an answer shares memory with another one, or with what is handed in", name, before)
				}
			}
		}
	}
}

// R2, R6: what lies behind the items is none of them; nothing of it is read or handed out; nil and an empty list are the same.
func TestSpareRoomIsNotRead(t *testing.T) {
	for window := 1; window <= mostWindow; window++ {
		seqs := room(300, window)
		for _, which := range []int{0, 1, 2, 3, 5, 6, 7, 0x5555, 0xAAAA, 0x6666, 0xFFFF} {
			l := roomy(some(seqs, which))
			for name, call := range calls(l, 300, window) {
				want := calls(slices.Clip(some(seqs, which)), 300, window)[name]()
				got := call()
				if !sameTold(got, want) {
					t.Errorf("%s of %v with spare room: %v, want %v", name, l, got, want)
				}
				for _, list := range [][]api.Item{got.out, got.rest} {
					for _, it := range list[:cap(list)][len(list):] {
						if it != (api.Item{}) {
							t.Errorf("%s of %v hands out %v, which lies behind", name, l, it)
						}
					}
				}
			}
		}
		for name, call := range calls(nil, 300, window) {
			if got, want := calls([]api.Item{}, 300, window)[name](), call(); !sameTold(got, want) {
				t.Errorf("%s of an empty list: %v, of nil: %v", name, got, want)
			}
		}
	}
}

// R3: the same call answers the same, whatever was called between.
func TestNothingIsKept(t *testing.T) {
	l := items(31, 32, 34)
	for n := -1; n <= 50; n++ {
		Add(items(10), 9, 4, item(n))
		Add(l, 30, 9, item(n))
		Take(l, n)
		Take(items(10, 11, 12), n)
		Check(l, n, 4)
		wantAdd(t, l, 30, 9, item(33), items(31, 32, 33, 34), api.OK)
		wantTake(t, l, 31, items(31, 32), items(34))
	}
}
