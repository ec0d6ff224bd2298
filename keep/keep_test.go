package keep

import (
	"math"
	"math/rand"
	"slices"
	"testing"

	"bellwether/api"
)

// The limits of the document, written out anew.
const (
	mostWant  = 1 << 30
	mostCap   = 16
	mostValue = 2147483647
	mostAgain = 8
)

// Numbers just outside of their limits, and far off.
var (
	noWants  = []int{0, -1, -2, -mostWant, -1 << 32, -1 << 62, math.MinInt, math.MinInt + 1, mostWant + 1, mostWant + 2, 1 << 31, 1 << 32, 1<<32 + 1, 1<<32 + 9, 1 << 62, math.MaxInt - 1, math.MaxInt}
	noCaps   = []int{0, -1, -2, -16, -256, -1 << 32, math.MinInt, math.MinInt + 1, mostCap + 1, mostCap + 2, 32, 255, 256, 257, 272, mostWant, 1 << 32, 1<<32 + 1, 1<<32 + 16, math.MaxInt - 1, math.MaxInt}
	noValues = []int{-1, -2, -256, -1 << 31, -1 << 32, math.MinInt, math.MinInt + 1, mostValue + 1, mostValue + 2, 1 << 32, 1<<32 + 1, 1 << 62, math.MaxInt - 1, math.MaxInt}
	noFroms  = []int{0, -1, -2, -8, -mostWant, -1 << 32, -1 << 62, math.MinInt, math.MinInt + 1}
)

// Numbers just inside, and some between.
var (
	rightWants  = []int{1, 2, 3, 8, 9, 16, 17, 18, 30, 255, 256, 257, 1 << 16, mostWant - 17, mostWant - 16, mostWant - 2, mostWant - 1, mostWant}
	rightValues = []int{0, 1, 2, 9, 255, 256, 1 << 16, 1 << 30, mostValue - 1, mostValue}
)

// value answers the value of the item of a number, another one for each of those side by side.
func value(seq int) int { return (seq*7 + 3) % 1000 }

// row answers n items in a row up to want.
func row(n, want int) []api.Item {
	var l []api.Item
	for seq := want - n; seq < want; seq++ {
		l = append(l, api.Item{Seq: seq, Value: value(seq)})
	}
	return l
}

// most answers how many items there may be up to want, for a cap.
func most(want, limit int) int { return min(limit, want-1) }

// eachRow calls f for each cap, wants near and far, and each right row of items.
func eachRow(f func(l []api.Item, want, limit int)) {
	for limit := 1; limit <= mostCap; limit++ {
		for _, want := range rightWants {
			for n := range most(want, limit) + 1 {
				f(row(n, want), want, limit)
			}
		}
	}
}

// instead answers a copy of l with it at a place, in another's stead.
func instead(l []api.Item, at int, it api.Item) []api.Item {
	out := slices.Clone(l)
	out[at] = it
	return out
}

// isWithin answers whether n is from low to high.
func isWithin(n, low, high int) bool { return low <= n && n <= high }

// checked answers by the test's own rules what Check should: it walks down from want.
func checked(l []api.Item, want, limit int) api.Errno {
	if !isWithin(want, 1, mostWant) || !isWithin(limit, 1, mostCap) || len(l) > limit {
		return api.ErrArg
	}
	expected := want
	for _, it := range slices.Backward(l) {
		if expected--; it.Seq != expected || it.Seq <= 0 || !isWithin(it.Value, 0, mostValue) {
			return api.ErrArg
		}
	}
	return api.OK
}

// pushed answers by the test's own rules what Push should: it drops the first one while there are too many.
func pushed(l []api.Item, want, limit, v int) ([]api.Item, api.Errno) {
	if e := checked(l, want, limit); e != api.OK {
		return nil, e
	}
	if !isWithin(v, 0, mostValue) {
		return nil, api.ErrArg
	}
	if want == mostWant {
		return nil, api.ErrQuota
	}
	out := slices.Concat(l, []api.Item{{Seq: want, Value: v}})
	for len(out) > limit {
		out = out[1:]
	}
	return out, api.OK
}

// told is what Again answers.
type told struct {
	gone int
	l    []api.Item
	e    api.Errno
}

func sameTold(a, b told) bool { return a.gone == b.gone && slices.Equal(a.l, b.l) && a.e == b.e }

// again answers what Again does.
func again(l []api.Item, want, limit, from int) told {
	gone, out, e := Again(l, want, limit, from)
	return told{gone, out, e}
}

// reckoned answers by the test's own rules what Again should: it walks down from want as far as items are kept; the first number that is not is gone, if it was asked for.
func reckoned(l []api.Item, want, limit, from int) told {
	if e := checked(l, want, limit); e != api.OK {
		return told{e: e}
	}
	if from < 1 {
		return told{e: api.ErrArg}
	}
	for seq := want - 1; seq >= from; seq-- {
		if !slices.ContainsFunc(l, func(it api.Item) bool { return it.Seq == seq }) {
			return told{gone: seq, l: firstOf(l)}
		}
	}
	later := slices.DeleteFunc(slices.Clone(l), func(it api.Item) bool { return it.Seq < from })
	return told{l: firstOf(later)}
}

// firstOf answers the first ones of l, as many as are told again at most.
func firstOf(l []api.Item) []api.Item {
	if len(l) > mostAgain {
		return l[:mostAgain]
	}
	return l
}

func wantCheck(t *testing.T, l []api.Item, want, limit int, e api.Errno) {
	t.Helper()
	if got := Check(l, want, limit); got != e {
		t.Errorf("Check(%v, %d, %d) = %d, want %d", l, want, limit, got, e)
	}
}

func wantPush(t *testing.T, l []api.Item, want, limit, v int, out []api.Item, e api.Errno) {
	t.Helper()
	if got, err := Push(l, want, limit, v); !slices.Equal(got, out) || err != e {
		t.Errorf("Push(%v, %d, %d, %d) = %v, %d, want %v, %d", l, want, limit, v, got, err, out, e)
	}
}

func wantAgain(t *testing.T, l []api.Item, want, limit, from int, out told) {
	t.Helper()
	if got := again(l, want, limit, from); !sameTold(got, out) {
		t.Errorf("Again(%v, %d, %d, %d) = %v, want %v", l, want, limit, from, got, out)
	}
}

// wantRefused wants that Check refuses these items, and Push and Again with it, whatever is pushed or asked for.
func wantRefused(t *testing.T, l []api.Item, want, limit int) {
	t.Helper()
	wantCheck(t, l, want, limit, api.ErrArg)
	for _, n := range []int{math.MinInt, -1, 0, 1, 2, 5, want, mostWant, mostValue, mostValue + 1, math.MaxInt} {
		wantPush(t, l, want, limit, n, nil, api.ErrArg)
		wantAgain(t, l, want, limit, n, told{e: api.ErrArg})
	}
}

// P15.1: no items are right, whatever want and the cap are.
func TestNoItems(t *testing.T) {
	for limit := 1; limit <= mostCap; limit++ {
		for _, want := range rightWants {
			for _, l := range [][]api.Item{nil, {}, row(1, 9)[:0]} {
				wantCheck(t, l, want, limit, api.OK)
			}
		}
		for _, want := range noWants {
			for _, l := range [][]api.Item{nil, {}, row(1, 9)[:0]} {
				wantRefused(t, l, want, limit)
			}
		}
	}
	for _, limit := range noCaps {
		for _, want := range append(slices.Clone(rightWants), noWants...) {
			wantRefused(t, nil, want, limit)
			wantRefused(t, []api.Item{}, want, limit)
		}
	}
}

// P15.1: from none up to the cap are right, no more; and none from number 0 on or below.
func TestHowMany(t *testing.T) {
	for limit := 1; limit <= mostCap; limit++ {
		for _, want := range rightWants {
			for n := range mostCap + 4 {
				if n <= limit && n < want {
					wantCheck(t, row(n, want), want, limit, api.OK)
				} else {
					wantRefused(t, row(n, want), want, limit)
				}
			}
			for _, n := range []int{32, 100, 256, 257, 1 << 10} {
				wantRefused(t, row(n, want), want, limit)
				wantRefused(t, make([]api.Item, n), want, limit)
			}
		}
	}
	wantRefused(t, row(1<<16, 1<<20), 1<<20, mostCap)
	wantRefused(t, row(1<<16+1, 1<<20), 1<<20, mostCap)
}

// P15.1: the least want with nothing and with one item, the greatest one, and one more.
func TestEdgesOfWant(t *testing.T) {
	wantCheck(t, nil, 1, 1, api.OK)
	wantRefused(t, []api.Item{{Seq: 0, Value: 5}}, 1, 1)
	wantRefused(t, []api.Item{{Seq: 1, Value: 5}}, 1, 1)
	wantRefused(t, []api.Item{{Seq: -1, Value: 5}}, 0, 1)
	wantCheck(t, []api.Item{{Seq: 1, Value: 5}}, 2, 1, api.OK)
	wantRefused(t, []api.Item{{Seq: 0, Value: 5}, {Seq: 1, Value: 5}}, 2, 2)
	wantCheck(t, []api.Item{{Seq: mostWant - 1, Value: 5}}, mostWant, 1, api.OK)
	wantRefused(t, []api.Item{{Seq: mostWant, Value: 5}}, mostWant, 1)
	wantRefused(t, []api.Item{{Seq: mostWant, Value: 5}}, mostWant+1, 1)
	wantRefused(t, []api.Item{{Seq: math.MaxInt, Value: 5}}, math.MinInt, 1)
	wantRefused(t, []api.Item{{Seq: math.MaxInt - 1, Value: 5}}, math.MaxInt, 1)
	wantRefused(t, []api.Item{{Seq: math.MaxInt, Value: 5}, {Seq: math.MinInt, Value: 5}}, math.MinInt+1, 2)
	for _, want := range noWants {
		for n := range mostCap + 2 {
			wantRefused(t, row(n, max(want, math.MinInt+n)), want, mostCap)
		}
	}
}

// P15.1: caps just outside and far off, with each number of items.
func TestCapsThatAreNone(t *testing.T) {
	for _, limit := range noCaps {
		for n := range mostCap + 2 {
			wantRefused(t, row(n, n+1), n+1, limit)
			wantRefused(t, row(n, 300), 300, limit)
			wantRefused(t, row(n, mostWant), mostWant, limit)
		}
	}
}

// P15.1: a number that is too low, too high or far off, at each place.
func TestNumbersOfItems(t *testing.T) {
	eachRow(func(l []api.Item, want, limit int) {
		wantCheck(t, l, want, limit, api.OK)
		for at, it := range l {
			for _, seq := range []int{it.Seq - 1, it.Seq + 1, it.Seq - 2, it.Seq + 2, it.Seq - 17, it.Seq + 17, 0, -1, -it.Seq, it.Seq + 1<<32, it.Seq - 1<<32, want, mostWant, math.MinInt, math.MaxInt} {
				if seq != it.Seq {
					wantCheck(t, instead(l, at, api.Item{Seq: seq, Value: it.Value}), want, limit, api.ErrArg)
				}
			}
		}
	})
	for _, seq := range []int{3, 5, 0, -4, 1<<32 + 4} {
		wantRefused(t, []api.Item{{Seq: seq, Value: 1}}, 5, 3)
	}
}

// P15.1: the same one twice, another order, a gap, all too early or too late.
func TestNotInARow(t *testing.T) {
	for limit := 2; limit <= mostCap; limit++ {
		for _, want := range []int{limit + 3, 300, mostWant - 1} {
			for n := 2; n <= limit; n++ {
				l := row(n, want)
				for at := 1; at < n; at++ {
					twice := instead(l, at-1, l[at])
					wantRefused(t, twice, want, limit)
					wantRefused(t, instead(l, at, l[at-1]), want, limit)
					wantRefused(t, instead(twice, at, l[at-1]), want, limit)
					wantRefused(t, slices.Concat(row(at, want-n+at-1), l[at:]), want, limit)
					wantRefused(t, slices.Delete(slices.Clone(row(n+1, want)), at, at+1), want, limit)
				}
				backward := slices.Clone(l)
				slices.Reverse(backward)
				wantRefused(t, backward, want, limit)
				wantRefused(t, l, want-1, limit)
				wantRefused(t, l, want+1, limit)
				wantRefused(t, l[:n-1], want, limit)
				wantRefused(t, slices.Repeat(l[n-1:], n), want, limit)
			}
		}
	}
}

// P15.1: values just inside, just outside and far off, at each place.
func TestValuesOfItems(t *testing.T) {
	eachRow(func(l []api.Item, want, limit int) {
		for at, it := range l {
			for _, v := range rightValues {
				wantCheck(t, instead(l, at, api.Item{Seq: it.Seq, Value: v}), want, limit, api.OK)
			}
			for _, v := range noValues {
				wantCheck(t, instead(l, at, api.Item{Seq: it.Seq, Value: v}), want, limit, api.ErrArg)
			}
		}
	})
	for _, v := range noValues {
		wantRefused(t, []api.Item{{Seq: 4, Value: v}}, 5, 3)
		wantRefused(t, []api.Item{{Seq: 3, Value: v}, {Seq: 4, Value: 1}}, 5, 3)
		wantRefused(t, []api.Item{{Seq: 3, Value: 1}, {Seq: 4, Value: v}}, 5, 3)
	}
}

// P15.1: what is pushed is the last one, those ahead of it are the last ones of before, never more than the cap.
func TestPush(t *testing.T) {
	eachRow(func(l []api.Item, want, limit int) {
		for _, v := range rightValues {
			if want == mostWant {
				wantPush(t, l, want, limit, v, nil, api.ErrQuota)
				continue
			}
			out, e := pushed(l, want, limit, v)
			wantPush(t, l, want, limit, v, out, e)
			got, e := Push(l, want, limit, v)
			if e != api.OK || len(got) != min(len(l)+1, limit) || got[len(got)-1] != (api.Item{Seq: want, Value: v}) {
				t.Fatalf("Push(%v, %d, %d, %d) = %v, %d", l, want, limit, v, got, e)
			}
			wantCheck(t, got, want+1, limit, api.OK)
		}
	})
}

// P15.1: the same, one by one.
func TestPushEdges(t *testing.T) {
	seven, eight := api.Item{Seq: 7, Value: 70}, api.Item{Seq: 8, Value: 80}
	nine := api.Item{Seq: 9, Value: 5}
	for _, c := range []struct {
		l     []api.Item
		limit int
		want  []api.Item
	}{
		{nil, 1, []api.Item{nine}},
		{nil, 16, []api.Item{nine}},
		{[]api.Item{eight}, 1, []api.Item{nine}},
		{[]api.Item{eight}, 2, []api.Item{eight, nine}},
		{[]api.Item{seven, eight}, 2, []api.Item{eight, nine}},
		{[]api.Item{seven, eight}, 3, []api.Item{seven, eight, nine}},
		{[]api.Item{seven, eight}, 16, []api.Item{seven, eight, nine}},
	} {
		wantPush(t, c.l, 9, c.limit, 5, c.want, api.OK)
	}
	wantPush(t, nil, mostWant-1, 1, 5, []api.Item{{Seq: mostWant - 1, Value: 5}}, api.OK)
	wantPush(t, nil, 1, 1, 0, []api.Item{{Seq: 1}}, api.OK)
}

// P15.1, R4: which error of Push comes first: the items, the value, want.
func TestPushErrors(t *testing.T) {
	eachRow(func(l []api.Item, want, limit int) {
		for _, v := range noValues {
			wantPush(t, l, want, limit, v, nil, api.ErrArg)
		}
	})
	for _, limit := range []int{1, 3, mostCap} {
		for n := range limit + 1 {
			l := row(n, mostWant)
			wantPush(t, l, mostWant, limit, 0, nil, api.ErrQuota)
			wantPush(t, l, mostWant, limit, mostValue, nil, api.ErrQuota)
			wantPush(t, l, mostWant, limit, -1, nil, api.ErrArg)
			wantPush(t, l, mostWant, limit, mostValue+1, nil, api.ErrArg)
		}
		wantPush(t, row(limit+1, mostWant), mostWant, limit, 5, nil, api.ErrArg)
		wantPush(t, row(1, mostWant-1), mostWant, limit, 5, nil, api.ErrArg)
		wantPush(t, nil, mostWant+1, limit, 5, nil, api.ErrArg)
	}
	wantPush(t, nil, mostWant, 0, 5, nil, api.ErrArg)
	wantPush(t, nil, mostWant, mostCap+1, 5, nil, api.ErrArg)
}

// P15.1: asked for from each number near the first ones, the kept ones and want, and far off.
func TestAgain(t *testing.T) {
	eachRow(func(l []api.Item, want, limit int) {
		for _, from := range noFroms {
			wantAgain(t, l, want, limit, from, told{e: api.ErrArg})
		}
		for from := range 40 {
			wantAgain(t, l, want, limit, from, reckoned(l, want, limit, from))
		}
		for from := want - 20; from <= want+20; from++ {
			wantAgain(t, l, want, limit, from, reckoned(l, want, limit, from))
		}
		for _, from := range []int{want, want + 1, mostWant, mostWant + 1, 1 << 32, 1<<32 + 1, 1 << 62, math.MaxInt - 1, math.MaxInt} {
			wantAgain(t, l, want, limit, from, told{})
		}
	})
}

// P15.1: from each number of 1 to above want, also where all are kept from 1 on, and where kept ones begin far from it.
func TestAgainFromEachNumber(t *testing.T) {
	for n := range mostCap + 1 {
		for want := n + 1; want < 50; want++ {
			l := row(n, want)
			for from := 1; from < want+3; from++ {
				got, begin := again(l, want, mostCap, from), want-n
				gone := 0
				if from < begin {
					gone = begin - 1
				}
				if got.e != api.OK || got.gone != gone || len(got.l) != max(0, min(mostAgain, n, want-from)) {
					t.Fatalf("Again(%v, %d, 16, %d) = %v", l, want, from, got)
				}
				for i, it := range got.l {
					if seq := max(from, begin) + i; it != (api.Item{Seq: seq, Value: value(seq)}) {
						t.Fatalf("Again(%v, %d, 16, %d) = %v", l, want, from, got)
					}
				}
			}
		}
	}
}

// P15.1: fewer than Resend, as many, one more, and the most that are kept.
func TestAtMostResend(t *testing.T) {
	for _, want := range []int{17, 18, 300, mostWant} {
		for _, n := range []int{7, 8, 9, 15, 16} {
			l := row(n, want)
			all := told{l: l[:min(n, 8)]}
			if n+1 < want {
				all.gone = want - n - 1
			}
			wantAgain(t, l, want, mostCap, 1, reckoned(l, want, mostCap, 1))
			wantAgain(t, l, want, n, want-n, told{l: all.l})
			if n+1 < want {
				wantAgain(t, l, want, n, 1, all)
				wantAgain(t, l, want, mostCap, want-n-1, all)
			}
			wantAgain(t, l, want, mostCap, want-7, told{l: l[n-7:]})
			wantAgain(t, l, want, mostCap, want-1, told{l: l[n-1:]})
		}
		wantAgain(t, row(16, want), want, mostCap, want-9, told{l: row(9, want)[:8]})
		wantAgain(t, row(16, want), want, mostCap, want-8, told{l: row(8, want)})
	}
}

// P15.1: of no items kept all are gone, none from want on.
func TestAgainOfNothing(t *testing.T) {
	for limit := 1; limit <= mostCap; limit++ {
		for _, l := range [][]api.Item{nil, {}} {
			for _, want := range rightWants {
				if want > 1 {
					wantAgain(t, l, want, limit, 1, told{gone: want - 1})
					wantAgain(t, l, want, limit, want-1, told{gone: want - 1})
				}
				wantAgain(t, l, want, limit, want, told{})
				wantAgain(t, l, want, limit, want+1, told{})
				wantAgain(t, l, want, limit, 0, told{e: api.ErrArg})
			}
		}
	}
}

// P15.2: the chapter's example.
func TestExample(t *testing.T) {
	for limit := 1; limit <= mostCap; limit++ {
		wantAgain(t, nil, 5, limit, 3, told{gone: 4})
	}
}

// P15.2: of values pushed one by one the last ones are there again, as many as the cap, from each number on, and none else.
func TestWhatIsPushedIsThereAgain(t *testing.T) {
	for limit := 1; limit <= mostCap; limit++ {
		for _, start := range []int{1, 2, 300, mostWant - 40} {
			var l, all []api.Item
			r := rand.New(rand.NewSource(int64(150 + limit)))
			for want := start; want < start+40; want++ {
				v := r.Intn(mostValue + 1)
				out, e := Push(l, want, limit, v)
				if e != api.OK {
					t.Fatalf("Push(%v, %d, %d, %d): %d", l, want, limit, v, e)
				}
				l, all = out, append(all, api.Item{Seq: want, Value: v})
				wantCheck(t, l, want+1, limit, api.OK)
				kept := all[max(0, len(all)-limit):]
				for from := max(1, start-2); from <= want+2; from++ {
					wantAllAgain(t, l, want+1, limit, from, kept)
				}
			}
		}
	}
}

// wantAllAgain wants that who asks from a number on, and then again and again behind the last one that came, gets each of the kept ones from there on, and where it begins, what is gone.
func wantAllAgain(t *testing.T, l []api.Item, want, limit, from int, kept []api.Item) {
	t.Helper()
	gone := 0
	if from < kept[0].Seq {
		gone = kept[0].Seq - 1
	}
	later := slices.DeleteFunc(slices.Clone(kept), func(it api.Item) bool { return it.Seq < from })
	var came []api.Item
	for next := from; ; {
		got := again(l, want, limit, next)
		if got.e != api.OK || got.gone != gone || len(got.l) > mostAgain {
			t.Fatalf("Again(%v, %d, %d, %d) = %v, want gone %d", l, want, limit, next, got, gone)
		}
		if len(got.l) == 0 {
			break
		}
		came = append(came, got.l...)
		next, gone = got.l[len(got.l)-1].Seq+1, 0
	}
	if !slices.Equal(came, later) {
		t.Fatalf("of %v, want %d, from %d on: %v, want %v", l, want, from, came, later)
	}
}

// P15.2: up to the greatest number: the last one that may be pushed is there again, and then no more may be.
func TestUpToTheGreatest(t *testing.T) {
	l := row(3, mostWant-2)
	for want := mostWant - 2; want < mostWant; want++ {
		out, e := Push(l, want, 4, 5)
		if e != api.OK {
			t.Fatalf("Push(%v, %d): %d", l, want, e)
		}
		l = out
	}
	wantPush(t, l, mostWant, 4, 5, nil, api.ErrQuota)
	wantAgain(t, l, mostWant, 4, mostWant-1, told{l: []api.Item{{Seq: mostWant - 1, Value: 5}}})
	wantAgain(t, l, mostWant, 4, 1, told{gone: mostWant - 5, l: l})
	wantAgain(t, l, mostWant, 4, mostWant, told{})
}

// mixedItems answers items that are right, or nearly.
func mixedItems(r *rand.Rand, want, limit int) []api.Item {
	l := row(r.Intn(most(want, limit)+1), want)
	for i := range l {
		l[i].Value = rightValues[r.Intn(len(rightValues))]
	}
	if len(l) == 0 || r.Intn(3) > 0 {
		return l
	}
	at, other := r.Intn(len(l)), r.Intn(len(l))
	switch r.Intn(6) {
	case 0:
		l[at].Seq += r.Intn(5) - 2
	case 1:
		l[at].Value = noValues[r.Intn(len(noValues))]
	case 2:
		l[at], l[other] = l[other], l[at]
	case 3:
		l = slices.Insert(l, at, l[other])
	case 4:
		l = slices.Delete(l, at, at+1)
	case 5:
		l = row(limit+1, want)
	}
	return l
}

// P15.1: mixed calls, each held against the test's own reckoning.
func TestMixedCalls(t *testing.T) {
	r := rand.New(rand.NewSource(151))
	right := 0
	for range 60000 {
		limit, want := 1+r.Intn(mostCap), rightWants[r.Intn(len(rightWants))]
		l, v, from := mixedItems(r, want, limit), rightValues[r.Intn(len(rightValues))], max(want-20, 0)+r.Intn(24)
		if r.Intn(20) == 0 {
			v = noValues[r.Intn(len(noValues))]
		}
		if r.Intn(20) == 0 {
			want = noWants[r.Intn(len(noWants))]
		}
		e := checked(l, want, limit)
		wantCheck(t, l, want, limit, e)
		out, pushErr := pushed(l, want, limit, v)
		wantPush(t, l, want, limit, v, out, pushErr)
		wantAgain(t, l, want, limit, from, reckoned(l, want, limit, from))
		if e == api.OK {
			right++
		}
	}
	if right < 20000 {
		t.Errorf("only %d of the calls were right", right)
	}
}

// roomy answers l with items behind in its spare room: the next ones of the row, and a wrong one.
func roomy(l []api.Item, want int) []api.Item {
	return append(slices.Clone(l), api.Item{Seq: want, Value: 77}, api.Item{Seq: -3, Value: -3}, api.Item{Seq: want + 1, Value: 77})[:len(l)]
}

// everything answers a copy of all that lies in the memory of l, its spare room too.
func everything(l []api.Item) []api.Item { return slices.Clone(l[:cap(l)]) }

// fill overwrites all that lies in the memory of l.
func fill(l []api.Item, it api.Item) {
	l = l[:cap(l)]
	for i := range l {
		l[i] = it
	}
}

// calls answers calls that have l handed in, by name: those that answer, and those that refuse.
func calls(l []api.Item, want, limit int) map[string]func() told {
	push := func(want, limit, v int) func() told {
		return func() told {
			out, e := Push(l, want, limit, v)
			return told{l: out, e: e}
		}
	}
	asked := func(from int) func() told {
		return func() told { return again(l, want, limit, from) }
	}
	return map[string]func() told{
		"check":            func() told { return told{e: Check(l, want, limit)} },
		"push":             push(want, limit, 9),
		"push, refused":    push(want, limit, -9),
		"push, wrong want": push(want+1, limit, 9),
		"push, wrong cap":  push(want, 17, 9),
		"again, all":       asked(1),
		"again, first":     asked(want - len(l)),
		"again, last":      asked(want - 1),
		"again, none":      asked(want),
		"again, refused":   asked(0),
	}
}

// R2, R6: what is handed in stays as it was, its spare room too; no answer shares memory with it, nor with another answer.
func TestAnswersAreNewMemory(t *testing.T) {
	for limit := 1; limit <= mostCap; limit++ {
		for n := range limit + 1 {
			for name := range calls(nil, 300, limit) {
				l := roomy(row(n, 300), 300)
				before := everything(l)
				call := calls(l, 300, limit)[name]
				first, second := call(), call()
				want := second
				want.l = slices.Clone(second.l)
				if !slices.Equal(everything(l), before) {
					t.Errorf("%s of %v: what is handed in is changed", name, l)
				}
				fill(first.l, api.Item{Seq: -7, Value: -7})
				if !slices.Equal(everything(l), before) {
					t.Errorf("%s of %v: an answer shares memory with what is handed in", name, l)
				}
				fill(l, api.Item{Seq: -9, Value: -9})
				if !sameTold(second, want) {
					t.Errorf("%s of %v: an answer shares memory with another one, or with what is handed in", name, row(n, 300))
				}
			}
		}
	}
}

// R2, R6: what lies behind the items is none of them; nothing of it is read or handed out; nil and an empty list are the same.
func TestSpareRoomIsNotRead(t *testing.T) {
	for limit := 1; limit <= mostCap; limit++ {
		for n := range limit + 1 {
			l := roomy(row(n, 300), 300)
			for name, call := range calls(l, 300, limit) {
				want := calls(slices.Clip(row(n, 300)), 300, limit)[name]()
				got := call()
				if !sameTold(got, want) {
					t.Errorf("%s of %v with spare room: %v, want %v", name, l, got, want)
				}
				for _, it := range got.l[:cap(got.l)][len(got.l):] {
					if it != (api.Item{}) {
						t.Errorf("%s of %v hands out %v, which lies behind", name, l, it)
					}
				}
			}
		}
		for name, call := range calls(nil, 300, limit) {
			if got, want := calls([]api.Item{}, 300, limit)[name](), call(); !sameTold(got, want) {
				t.Errorf("%s of an empty list: %v, of nil: %v", name, got, want)
			}
		}
	}
}

// R3: the same call answers the same, whatever was called between.
func TestNothingIsKept(t *testing.T) {
	l := row(4, 30)
	wantOut, wantTold := append(row(3, 30), api.Item{Seq: 30, Value: 6}), told{gone: 25, l: row(4, 30)}
	for n := -1; n <= 40; n++ {
		Push(row(2, 9), 9, 2, n)
		again(row(2, 9), 9, 3, n)
		Push(l, 30, 4, n)
		again(l, 30, 4, n)
		Check(l, n, 4)
		wantPush(t, l, 30, 4, 6, wantOut, api.OK)
		wantAgain(t, l, 30, 4, 20, wantTold)
	}
}
