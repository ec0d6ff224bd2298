package epoch

import (
	"math"
	"math/rand"
	"slices"
	"testing"

	"bellwether/api"
)

// The limits of the document, written out anew.
const (
	mostNodes = 8
	mostEpoch = 1 << 30
	apart     = 16
)

// hundreds is how far up from 0 the tests go through every number.
const hundreds = 800

// noEpochs are numbers outside of all epochs, just outside and far off; some of them are a node's number when their low bits alone are read.
var noEpochs = []int{
	0, -1, -2, -7, -8, -9, -15, -16, -17, -23, -32, -mostEpoch, -mostEpoch + 1, -mostEpoch - 1,
	-1 << 31, -1<<31 + 1, -1 << 32, -1<<32 + 1, -1<<32 + 16, -1 << 62, math.MinInt, math.MinInt + 1, math.MinInt + 7, math.MinInt + 16,
	mostEpoch + 1, mostEpoch + 2, mostEpoch + 7, mostEpoch + 8, mostEpoch + 15, mostEpoch + 16, mostEpoch + 17,
	1 << 31, 1<<31 + 1, 1 << 32, 1<<32 + 1, 1<<32 + 16, 1<<32 + mostEpoch, 1 << 62, 1<<62 + 1,
	math.MaxInt, math.MaxInt - 1, math.MaxInt - 8, math.MaxInt - 15, math.MaxInt - 16,
}

// noNodes are numbers that are no node's.
var noNodes = []int{
	-1, -2, -7, -8, -9, -15, -16, -256, -mostEpoch, -1 << 32, -1<<32 + 1, -1 << 62, math.MinInt, math.MinInt + 1,
	mostNodes, 9, 10, 15, 16, 17, 23, 24, '0', 'n', 255, 256, 257, mostEpoch - 1, mostEpoch, mostEpoch + 1,
	1 << 31, 1 << 32, 1<<32 + 1, 1<<32 + 7, 1 << 62, math.MaxInt - 1, math.MaxInt,
}

// noTops are numbers outside of what top may be.
var noTops = []int{
	-1, -2, -8, -15, -16, -17, -mostEpoch, -1 << 31, -1 << 32, -1<<32 + 1, -1 << 62, math.MinInt, math.MinInt + 1, math.MinInt + 15,
	mostEpoch + 1, mostEpoch + 2, mostEpoch + 7, mostEpoch + 15, mostEpoch + 16, mostEpoch + 17,
	1 << 31, 1 << 32, 1<<32 + 1, 1 << 62, math.MaxInt - 16, math.MaxInt - 15, math.MaxInt - 8, math.MaxInt - 7, math.MaxInt - 1, math.MaxInt,
}

// whose answers by the test's own reckoning the node that e is an epoch of, and whether it is one: it looks for a number and a node that make it up.
func whose(e int) (int, bool) {
	if e < 1 || e > mostEpoch {
		return 0, false
	}
	for n := range mostNodes {
		if times := (e - n) / apart; e >= n && times*apart+n == e {
			return n, true
		}
	}
	return 0, false
}

// after answers by the test's own reckoning the first epoch of n above top, and whether there is one: it tries one number behind the other.
func after(n, top int) (int, bool) {
	for e := top + 1; e <= top+2*apart; e++ {
		if who, ok := whose(e); ok && who == n {
			return e, true
		}
	}
	return 0, false
}

// nearEdges answers every number from 0 up to some hundreds, and of some hundreds up to MaxEpoch.
func nearEdges() []int {
	var l []int
	for i := range hundreds {
		l = append(l, i, mostEpoch-i)
	}
	return l
}

func wantWho(t *testing.T, e int) {
	t.Helper()
	want, ok := whose(e)
	wantErr := api.OK
	if !ok {
		wantErr = api.ErrArg
	}
	if err := Check(e); err != wantErr {
		t.Errorf("Check(%d) = %d, want %d", e, err, wantErr)
	}
	if n, err := Who(e); n != want || err != wantErr {
		t.Errorf("Who(%d) = %d, %d, want %d, %d", e, n, err, want, wantErr)
	}
}

func wantNext(t *testing.T, n, top, want int, wantErr api.Errno) {
	t.Helper()
	if e, err := Next(n, top); e != want || err != wantErr {
		t.Errorf("Next(%d, %d) = %d, %d, want %d, %d", n, top, e, err, want, wantErr)
	}
}

// wantAfter holds Next of a right node and a right top against the test's own reckoning.
func wantAfter(t *testing.T, n, top int) {
	t.Helper()
	if want, ok := after(n, top); ok {
		wantNext(t, n, top, want, api.OK)
	} else {
		wantNext(t, n, top, 0, api.ErrQuota)
	}
}

// P14.1: the limits are those of the document.
func TestLimits(t *testing.T) {
	if api.MaxNodes != mostNodes || api.MaxEpoch != mostEpoch {
		t.Fatal("the limits are others than the document's")
	}
}

// P14.1: Check and Who, from below 0 on, around MaxEpoch, between and far off.
func TestWhoOfEachNumber(t *testing.T) {
	for e := -hundreds; e <= hundreds; e++ {
		wantWho(t, e)
		wantWho(t, mostEpoch+e)
		wantWho(t, mostEpoch/2+e)
		wantWho(t, mostEpoch/3+e)
		wantWho(t, -mostEpoch+e)
		wantWho(t, 1<<32+e)
		wantWho(t, math.MinInt+hundreds+e)
		wantWho(t, math.MaxInt-hundreds+e)
	}
}

// P14.1: what is no epoch since it is too small or too great, told apart from the reckoning above.
func TestWhoOutside(t *testing.T) {
	for _, e := range noEpochs {
		if err := Check(e); err != api.ErrArg {
			t.Errorf("Check(%d) = %d, want %d", e, err, api.ErrArg)
		}
		if n, err := Who(e); n != 0 || err != api.ErrArg {
			t.Errorf("Who(%d) = %d, %d, want 0, %d", e, n, err, api.ErrArg)
		}
	}
}

// P14.1: in each sixteen the first eight are of the nodes in turn, and the other eight of nobody; 0 alone is none of node 0.
func TestSixteens(t *testing.T) {
	for _, from := range []int{0, 16, 32, 160, 4096, 1 << 16, mostEpoch / 2, mostEpoch - 32, mostEpoch - 16} {
		for i := range apart {
			e, want, wantErr := from+i, i, api.OK
			if i >= mostNodes || e == 0 {
				want, wantErr = 0, api.ErrArg
			}
			if n, err := Who(e); n != want || err != wantErr || Check(e) != wantErr {
				t.Errorf("Who(%d) = %d, %d and Check %d, want %d, %d", e, n, err, Check(e), want, wantErr)
			}
		}
	}
}

// P14.1: the least and the greatest epoch, and what stands beside them.
func TestEdgesOfEpochs(t *testing.T) {
	for _, c := range []struct {
		e, who int
		err    api.Errno
	}{
		{0, 0, api.ErrArg}, {1, 1, api.OK}, {7, 7, api.OK}, {8, 0, api.ErrArg}, {15, 0, api.ErrArg}, {16, 0, api.OK}, {17, 1, api.OK},
		{23, 7, api.OK}, {24, 0, api.ErrArg}, {mostEpoch - 17, 0, api.ErrArg}, {mostEpoch - 16, 0, api.OK}, {mostEpoch - 9, 7, api.OK},
		{mostEpoch - 8, 0, api.ErrArg}, {mostEpoch - 1, 0, api.ErrArg}, {mostEpoch, 0, api.OK}, {mostEpoch + 1, 0, api.ErrArg},
	} {
		if n, err := Who(c.e); n != c.who || err != c.err || Check(c.e) != c.err {
			t.Errorf("Who(%d) = %d, %d and Check %d, want %d, %d", c.e, n, err, Check(c.e), c.who, c.err)
		}
	}
}

// P14.1: Next of each node, from each top of the first hundreds and of the last ones.
func TestNextOfEachNode(t *testing.T) {
	for n := range mostNodes {
		for _, top := range nearEdges() {
			wantAfter(t, n, top)
		}
	}
}

// P14.1: what Next answers is an epoch, of that node, above top, and none of that node lies between.
func TestNextIsTheLeast(t *testing.T) {
	for n := range mostNodes {
		for _, top := range nearEdges() {
			e, err := Next(n, top)
			if err == api.ErrQuota {
				e = mostEpoch + 1
			} else if who, whoErr := Who(e); err != api.OK || Check(e) != api.OK || whoErr != api.OK || who != n || e <= top {
				t.Errorf("Next(%d, %d) = %d, %d: Check %d, Who %d, %d", n, top, e, err, Check(e), who, whoErr)
			}
			for between := top + 1; between < e; between++ {
				if who, err := Who(between); err == api.OK && who == n {
					t.Errorf("Next(%d, %d) = %d, but %d lies between", n, top, e, between)
				}
			}
		}
	}
}

// P14.1: around MaxEpoch, the last top that still has an epoch of the node above it, and the first one that has none.
func TestNextRunsOut(t *testing.T) {
	for n := range mostNodes {
		last := mostEpoch - apart + n
		if n == 0 {
			last = mostEpoch
		}
		wantNext(t, n, last-apart, last, api.OK)
		wantNext(t, n, last-1, last, api.OK)
		for top := last; top <= mostEpoch; top++ {
			wantNext(t, n, top, 0, api.ErrQuota)
		}
	}
}

// P14.1: a node's number or a top that is wrong.
func TestNextOfWrongNumbers(t *testing.T) {
	tops := append(nearEdges(), mostEpoch/2, mostEpoch/3)
	for _, n := range noNodes {
		for _, top := range tops {
			wantNext(t, n, top, 0, api.ErrArg)
		}
	}
	for _, top := range noTops {
		for n := range mostNodes {
			wantNext(t, n, top, 0, api.ErrArg)
		}
		for _, n := range noNodes {
			wantNext(t, n, top, 0, api.ErrArg)
		}
	}
}

// P14.1: a wrong node's number is told ahead of there being no epoch above top; so is a wrong top.
func TestNextTellsTheFirstError(t *testing.T) {
	for n := 1; n < mostNodes; n++ {
		wantNext(t, n, mostEpoch, 0, api.ErrQuota)
	}
	for _, n := range noNodes {
		wantNext(t, n, mostEpoch, 0, api.ErrArg)
		wantNext(t, n, mostEpoch-1, 0, api.ErrArg)
	}
	for n := range mostNodes {
		wantNext(t, n, mostEpoch+1, 0, api.ErrArg)
		wantNext(t, n, math.MaxInt, 0, api.ErrArg)
	}
}

// The chapter's examples, and some beside them.
func TestExamples(t *testing.T) {
	wantNext(t, 3, 0, 3, api.OK)
	wantNext(t, 0, 0, 16, api.OK)
	wantNext(t, 3, 3, 19, api.OK)
	wantNext(t, 3, 18, 19, api.OK)
	wantNext(t, 0, 15, 16, api.OK)
	wantNext(t, 0, 16, 32, api.OK)
	wantNext(t, 7, 6, 7, api.OK)
	wantNext(t, 7, 7, 23, api.OK)
}

// comeTo answers the nodes that come to e when they take the next epoch above the number ahead of it.
func comeTo(e int) []int {
	var l []int
	for n := range mostNodes {
		if next, err := Next(n, e-1); next == e && err == api.OK {
			l = append(l, n)
		}
	}
	return l
}

// P14.2: to each epoch one node comes, the one that Who tells; to any other number none does.
func TestNoEpochIsOfTwoNodes(t *testing.T) {
	for _, e := range nearEdges() {
		var want []int
		if n, err := Who(e); err == api.OK {
			want = append(want, n)
		}
		if e > 0 && !slices.Equal(comeTo(e), want) {
			t.Errorf("to %d come the nodes %v, want %v", e, comeTo(e), want)
		}
	}
}

// P14.2: whatever the tops, what two unlike nodes are answered is unlike.
func TestNoTwoNodesAreAnsweredTheSame(t *testing.T) {
	of := map[int]int{}
	for _, top := range nearEdges() {
		for n := range mostNodes {
			e, err := Next(n, top)
			if err != api.OK {
				continue
			}
			if other, taken := of[e]; taken && other != n {
				t.Errorf("%d is answered to both %d and %d", e, other, n)
			}
			of[e] = n
		}
	}
}

// takeInTurn lets nodes take the next epoch above all that were taken, and answers them; it ends when one has none left.
func takeInTurn(t *testing.T, top, times int, who func(i int) int) []int {
	t.Helper()
	var taken []int
	for i := range times {
		n := who(i)
		e, err := Next(n, top)
		if err == api.ErrQuota {
			return taken
		}
		if owner, ownerErr := Who(e); err != api.OK || e <= top || owner != n || ownerErr != api.OK {
			t.Fatalf("Next(%d, %d) = %d, %d, which is of %d, %d", n, top, e, err, owner, ownerErr)
		}
		taken, top = append(taken, e), e
	}
	return taken
}

// P14.2: nodes that take the next epoch in turn, each above all that were taken, never take one twice.
func TestEpochsTakenInTurn(t *testing.T) {
	random := rand.New(rand.NewSource(14))
	turns := []func(i int) int{
		func(i int) int { return i % mostNodes },
		func(i int) int { return mostNodes - 1 - i%mostNodes },
		func(i int) int { return i / 3 % mostNodes },
		func(i int) int { return i * 3 % mostNodes },
		func(int) int { return 0 },
		func(int) int { return 7 },
		func(int) int { return random.Intn(mostNodes) },
		func(i int) int { return random.Intn(1 + i%mostNodes) },
	}
	for _, who := range turns {
		for _, top := range []int{0, 1, 5, 15, 16, 17, 1000, mostEpoch - 5000, mostEpoch - 100} {
			taken := takeInTurn(t, top, 1000, who)
			if len(taken) == 0 {
				t.Fatalf("none was taken above %d", top)
			}
			if last := slices.Max(taken); last > mostEpoch || last != taken[len(taken)-1] {
				t.Errorf("above %d: the greatest one that was taken is %d, the last one %d", top, last, taken[len(taken)-1])
			}
			slices.Sort(taken)
			if len(slices.Compact(slices.Clone(taken))) != len(taken) {
				t.Errorf("above %d: an epoch was taken twice: %v", top, taken)
			}
		}
	}
}

// P14.2: nodes that do not know of each other, each above its own last one, never take the same one either.
func TestEpochsTakenApart(t *testing.T) {
	random := rand.New(rand.NewSource(15))
	own, of := [mostNodes]int{}, map[int]int{}
	for range 5000 {
		n := random.Intn(mostNodes)
		e, err := Next(n, own[n])
		if err != api.OK {
			t.Fatalf("Next(%d, %d) = %d, %d", n, own[n], e, err)
		}
		if other, taken := of[e]; taken {
			t.Fatalf("%d took %d, which %d had taken", n, e, other)
		}
		own[n], of[e] = e, n
	}
}

// P14.1: any numbers, held against the test's own reckoning.
func TestMixedNumbers(t *testing.T) {
	random := rand.New(rand.NewSource(16))
	for range 200000 {
		e := random.Intn(2*mostEpoch) - mostEpoch/2
		wantWho(t, e)
		n := random.Intn(20) - 5
		switch {
		case n < 0 || n >= mostNodes || e < 0 || e > mostEpoch:
			wantNext(t, n, e, 0, api.ErrArg)
		default:
			wantAfter(t, n, e)
		}
		anything := int(random.Uint64())
		wantWho(t, anything)
		if anything < 0 || anything > mostEpoch {
			wantNext(t, n, anything, 0, api.ErrArg)
		}
		if anything < 0 || anything >= mostNodes {
			wantNext(t, anything, e, 0, api.ErrArg)
		}
	}
}

// R3: what was asked before changes nothing.
func TestNothingIsKept(t *testing.T) {
	for range 3 {
		for n := range mostNodes {
			wantNext(t, n, mostEpoch, 0, api.ErrQuota)
			wantNext(t, n, -1, 0, api.ErrArg)
			wantAfter(t, n, 0)
			wantAfter(t, n, 100)
			wantWho(t, 16+n)
			wantWho(t, 24+n)
		}
		wantNext(t, mostNodes, 0, 0, api.ErrArg)
	}
}
