package view

import (
	"math"
	"math/rand"
	"slices"
	"testing"

	"bellwether/api"
)

// The limits of the document, written out anew.
const (
	mostNodes = 8
	mostInc   = 1 << 30
	mostAge   = 1000
	liveTicks = 4
)

// farOff are numbers that no peer may have, no place, no incarnation.
var farOff = []int{-1, -2, -8, -1000, -1 << 30, -1 << 32, -1 << 62, math.MinInt, math.MinInt + 1, 1<<30 + 1, 1 << 31, 1 << 32, 1<<32 + 1, 1<<32 + 2, 1 << 62, math.MaxInt - 1, math.MaxInt}

var (
	rightIncs = []int{0, 1, 2, 3, 4, 5, 255, 256, 1000, 1001, 1 << 16, mostInc - 1, mostInc}
	rightAges = []int{0, 1, 2, 3, 4, 5, 6, 255, 256, 998, 999, mostAge}
	wrongIncs = append([]int{mostInc + 1, mostInc + 2}, farOff...)
	wrongAges = append([]int{mostAge + 1, mostAge + 2, 1 << 16, mostInc}, farOff...)
)

// peers answers n right peers, all unlike, some of them live.
func peers(n int) []api.Peer {
	l := make([]api.Peer, n)
	for i := range l {
		l[i] = api.Peer{Inc: 10 + i*7, Age: i*5%9 + i/4}
	}
	return l
}

// rightPeers answers peers that are right, the bounds of each number among them.
func rightPeers() []api.Peer {
	var all []api.Peer
	for _, inc := range rightIncs {
		for _, age := range rightAges {
			all = append(all, api.Peer{Inc: inc, Age: age})
		}
	}
	return all
}

// wrongPeers answers peers of which one number, or each, is wrong.
func wrongPeers() []api.Peer {
	var all []api.Peer
	for _, inc := range wrongIncs {
		all = append(all, api.Peer{Inc: inc}, api.Peer{Inc: inc, Age: mostAge}, api.Peer{Inc: inc, Age: -1})
	}
	for _, age := range wrongAges {
		all = append(all, api.Peer{Age: age}, api.Peer{Inc: mostInc, Age: age}, api.Peer{Inc: mostInc + 1, Age: age})
	}
	return all
}

// wrongLists answers lists of peers that are not right: too few, too many, a wrong one among them.
func wrongLists() [][]api.Peer {
	all := [][]api.Peer{nil, {}, peers(5)[:0], peers(mostNodes + 1), make([]api.Peer, mostNodes+1), make([]api.Peer, 300)}
	for _, n := range []int{1, 2, 5, mostNodes} {
		for _, at := range ends(n) {
			for _, p := range wrongPeers() {
				all = append(all, with(peers(n), at, p))
			}
		}
	}
	return all
}

// with answers a copy of l with p at a place, in another's stead.
func with(l []api.Peer, at int, p api.Peer) []api.Peer {
	out := slices.Clone(l)
	out[at] = p
	return out
}

// ends answers the first, a middle and the last place among n.
func ends(n int) []int {
	return slices.Compact([]int{0, n / 2, n - 1})
}

// noPlaces answers numbers that are no place among n.
func noPlaces(n int) []int {
	return append([]int{-1, n, n + 1, mostNodes, mostNodes + 1}, farOff...)
}

// olderBy answers l, made older by so many ticks: by the package's own call, each time.
func olderBy(t *testing.T, l []api.Peer, ticks int) []api.Peer {
	t.Helper()
	for range ticks {
		next, e := Older(l)
		if e != api.OK {
			t.Fatalf("Older of %v: %d", l, e)
		}
		l = next
	}
	return l
}

func wantCheck(t *testing.T, l []api.Peer, want api.Errno) {
	t.Helper()
	if e := Check(l); e != want {
		t.Errorf("Check(%v) = %d, want %d", l, e, want)
	}
}

func wantHear(t *testing.T, l []api.Peer, from, inc int, want []api.Peer, wantErr api.Errno) {
	t.Helper()
	if got, e := Hear(l, from, inc); !slices.Equal(got, want) || e != wantErr {
		t.Errorf("Hear(%v, %d, %d) = %v, %d, want %v, %d", l, from, inc, got, e, want, wantErr)
	}
}

func wantOlder(t *testing.T, l []api.Peer, want []api.Peer, wantErr api.Errno) {
	t.Helper()
	if got, e := Older(l); !slices.Equal(got, want) || e != wantErr {
		t.Errorf("Older(%v) = %v, %d, want %v, %d", l, got, e, want, wantErr)
	}
}

func wantLive(t *testing.T, l []api.Peer, self int, want []int, wantErr api.Errno) {
	t.Helper()
	if got, e := Live(l, self); !slices.Equal(got, want) || e != wantErr {
		t.Errorf("Live(%v, %d) = %v, %d, want %v, %d", l, self, got, e, want, wantErr)
	}
}

// P10.1: none, from one to as many as there may be, and more.
func TestCheckOfEachLength(t *testing.T) {
	wantCheck(t, nil, api.ErrArg)
	wantCheck(t, []api.Peer{}, api.ErrArg)
	wantCheck(t, make([]api.Peer, 0, mostNodes), api.ErrArg)
	for n := 1; n <= mostNodes; n++ {
		wantCheck(t, peers(n), api.OK)
		wantCheck(t, make([]api.Peer, n), api.OK)
		wantCheck(t, slices.Repeat([]api.Peer{{Inc: mostInc, Age: mostAge}}, n), api.OK)
	}
	for _, n := range []int{mostNodes + 1, mostNodes + 2, 2 * mostNodes, 256, 257, 1 << 16} {
		wantCheck(t, peers(n)[:0], api.ErrArg)
		wantCheck(t, make([]api.Peer, n), api.ErrArg)
	}
}

// P10.1: each number at its least and greatest, and beyond, at each place; the two numbers are asked apart from one another.
func TestCheckOfEachPeer(t *testing.T) {
	for n := 1; n <= mostNodes; n++ {
		for at := range n {
			for _, p := range rightPeers() {
				wantCheck(t, with(peers(n), at, p), api.OK)
			}
			for _, p := range wrongPeers() {
				wantCheck(t, with(peers(n), at, p), api.ErrArg)
			}
		}
	}
	for age := -20; age <= mostAge+20; age++ {
		want := api.ErrArg
		if age >= 0 && age <= 1000 {
			want = api.OK
		}
		wantCheck(t, []api.Peer{{Age: age}}, want)
	}
}

// P10.1, R4: whatever else is wrong, all others tell Check's error first, and nothing beside it.
func TestTheListsErrorComesFirst(t *testing.T) {
	for _, l := range wrongLists() {
		wantCheck(t, l, api.ErrArg)
		wantOlder(t, l, nil, api.ErrArg)
		for _, n := range []int{-1, 0, len(l) - 1, len(l), mostNodes, math.MinInt, math.MaxInt} {
			wantLive(t, l, n, nil, api.ErrArg)
			for _, inc := range []int{-1, 0, 1, mostInc, mostInc + 1, math.MaxInt} {
				wantHear(t, l, n, inc, nil, api.ErrArg)
			}
		}
	}
}

// P10.1, R4: no place, beside right and wrong incarnations: the place is told first.
func TestNoSuchPlace(t *testing.T) {
	for n := 1; n <= mostNodes; n++ {
		for _, l := range [][]api.Peer{peers(n), make([]api.Peer, n)} {
			for _, at := range noPlaces(n) {
				wantLive(t, l, at, nil, api.ErrNode)
				for _, inc := range append([]int{0, 1, mostInc}, wrongIncs...) {
					wantHear(t, l, at, inc, nil, api.ErrNode)
				}
			}
		}
	}
}

// P10.1: an incarnation that may not be, of each place, whatever is known there.
func TestHearOfWrongIncarnations(t *testing.T) {
	for n := 1; n <= mostNodes; n++ {
		for from := range n {
			for _, known := range []int{0, 1, mostInc} {
				l := with(peers(n), from, api.Peer{Inc: known, Age: 3})
				for _, inc := range append([]int{0}, wrongIncs...) {
					wantHear(t, l, from, inc, nil, api.ErrArg)
				}
			}
		}
	}
}

// P10.1: of each place, incarnations less than, equal to and greater than the known one; the others stay as they are.
func TestHearOfEachPlace(t *testing.T) {
	for n := 1; n <= mostNodes; n++ {
		for from := range n {
			for _, known := range rightPeers() {
				l := with(peers(n), from, known)
				for _, inc := range rightIncs[1:] {
					want := l
					if inc >= known.Inc {
						want = with(l, from, api.Peer{Inc: inc, Age: 0})
					}
					wantHear(t, l, from, inc, want, api.OK)
				}
			}
		}
	}
}

// P10.1: at the very edge between an incarnation that is over, and one that is not.
func TestHearAroundTheKnownIncarnation(t *testing.T) {
	for _, known := range []int{2, 3, 100, mostInc - 1, mostInc} {
		l := []api.Peer{{Inc: 5, Age: 7}, {Inc: known, Age: 9}, {Inc: 6, Age: 8}}
		wantHear(t, l, 1, known-1, l, api.OK)
		wantHear(t, l, 1, 1, l, api.OK)
		wantHear(t, l, 1, known, []api.Peer{{Inc: 5, Age: 7}, {Inc: known}, {Inc: 6, Age: 8}}, api.OK)
		if known < mostInc {
			wantHear(t, l, 1, known+1, []api.Peer{{Inc: 5, Age: 7}, {Inc: known + 1}, {Inc: 6, Age: 8}}, api.OK)
		}
	}
}

// P10.1: of each age that may be, at each place.
func TestOlderOfEachAge(t *testing.T) {
	for age := range 1000 {
		wantOlder(t, []api.Peer{{Inc: 3, Age: age}}, []api.Peer{{Inc: 3, Age: age + 1}}, api.OK)
	}
	wantOlder(t, []api.Peer{{Inc: 3, Age: 1000}}, []api.Peer{{Inc: 3, Age: 1000}}, api.OK)
	for n := 1; n <= mostNodes; n++ {
		for at := range n {
			for _, p := range rightPeers() {
				l := with(peers(n), at, p)
				want := slices.Clone(l)
				for i := range want {
					if want[i].Age < 1000 {
						want[i].Age++
					}
				}
				wantOlder(t, l, want, api.OK)
			}
		}
	}
}

// P10.1: nobody grows so old that the peers are not right any more; nothing but the age changes.
func TestOlderStopsAtTheGreatestAge(t *testing.T) {
	l := []api.Peer{{}, {Inc: 1, Age: 999}, {Inc: mostInc, Age: 1000}, {Inc: 4, Age: 500}}
	l = olderBy(t, l, 600)
	if want := []api.Peer{{Age: 600}, {Inc: 1, Age: 1000}, {Inc: mostInc, Age: 1000}, {Inc: 4, Age: 1000}}; !slices.Equal(l, want) {
		t.Fatalf("600 ticks later: %v, want %v", l, want)
	}
	l = olderBy(t, l, 600)
	if want := []api.Peer{{Age: 1000}, {Inc: 1, Age: 1000}, {Inc: mostInc, Age: 1000}, {Inc: 4, Age: 1000}}; !slices.Equal(l, want) {
		t.Fatalf("1200 ticks later: %v, want %v", l, want)
	}
}

// P10.1: another one at the edges of what is live: its incarnation 0 and 1, its age one below, at and one above LiveFor.
func TestLiveOfAnother(t *testing.T) {
	for _, c := range []struct {
		p    api.Peer
		live bool
	}{
		{api.Peer{Inc: 0, Age: 0}, false}, // the chapter's example
		{api.Peer{Inc: 0, Age: 3}, false},
		{api.Peer{Inc: 0, Age: 4}, false},
		{api.Peer{Inc: 0, Age: 1000}, false},
		{api.Peer{Inc: 1, Age: 0}, true},
		{api.Peer{Inc: 1, Age: 1}, true},
		{api.Peer{Inc: 1, Age: 2}, true},
		{api.Peer{Inc: 1, Age: 3}, true},
		{api.Peer{Inc: 1, Age: 4}, false},
		{api.Peer{Inc: 1, Age: 5}, false},
		{api.Peer{Inc: 1, Age: 1000}, false},
		{api.Peer{Inc: mostInc, Age: 3}, true},
		{api.Peer{Inc: mostInc, Age: 4}, false},
	} {
		for n := 2; n <= mostNodes; n++ {
			for self := range n {
				for other := range n {
					if other == self {
						continue
					}
					want := []int{self}
					if c.live {
						want = []int{min(self, other), max(self, other)}
					}
					wantLive(t, with(make([]api.Peer, n), other, c.p), self, want, api.OK)
				}
			}
		}
	}
}

// P10.1: self is live, whatever stands at its own place.
func TestLiveOfSelf(t *testing.T) {
	for n := 1; n <= mostNodes; n++ {
		for self := range n {
			for _, p := range rightPeers() {
				wantLive(t, with(make([]api.Peer, n), self, p), self, []int{self}, api.OK)
				all := slices.Repeat([]api.Peer{{Inc: 1, Age: 3}}, n)
				wantLive(t, with(all, self, p), self, []int{0, 1, 2, 3, 4, 5, 6, 7}[:n], api.OK)
			}
		}
	}
}

// P10.1: each set of nodes that are heard: what is answered rises, and names self just once.
func TestLiveRises(t *testing.T) {
	notLive := []api.Peer{{}, {Inc: 1, Age: 4}, {Inc: 9, Age: 5}, {Inc: 2, Age: 1000}}
	for n := 1; n <= mostNodes; n++ {
		for bits := range 1 << n {
			l := make([]api.Peer, n)
			for i := range l {
				l[i] = notLive[(i+bits)%len(notLive)]
				if bits>>i&1 == 1 {
					l[i] = api.Peer{Inc: 1 + i, Age: i % 4}
				}
			}
			for self := range n {
				var want []int
				for i := range n {
					if i == self || bits>>i&1 == 1 {
						want = append(want, i)
					}
				}
				wantLive(t, l, self, want, api.OK)
			}
		}
	}
}

// P10.2: who is heard is live till LiveFor ticks have gone, and then no more, however long it goes on.
func TestHeardIsLiveForSomeTicks(t *testing.T) {
	for n := 2; n <= mostNodes; n++ {
		for from := range n {
			self := (from + 1) % n
			both := []int{min(self, from), max(self, from)}
			for _, known := range []api.Peer{{}, {Age: 1000}, {Inc: 1}, {Inc: 1, Age: 4}, {Inc: 7, Age: 1000}, {Inc: mostInc, Age: 3}, {Inc: mostInc, Age: 500}} {
				l, e := Hear(with(make([]api.Peer, n), from, known), from, max(known.Inc, 1))
				if e != api.OK {
					t.Fatalf("Hear of %v: %d", known, e)
				}
				for tick := range 1200 {
					want := []int{self}
					if tick < liveTicks {
						want = both
					}
					wantLive(t, l, self, want, api.OK)
					l = olderBy(t, l, 1)
				}
			}
		}
	}
}

// P10.2: who is heard again, of the same or a later incarnation, is live for as long once more; a word of one that is over keeps nobody live.
func TestHeardAgain(t *testing.T) {
	for gone := range 8 {
		for _, c := range []struct {
			inc   int
			stays bool
		}{{5, true}, {6, true}, {mostInc, true}, {4, false}, {1, false}} {
			l, _ := Hear(make([]api.Peer, 3), 2, 5)
			l, e := Hear(olderBy(t, l, gone), 2, c.inc)
			if e != api.OK {
				t.Fatalf("Hear after %d ticks: %d", gone, e)
			}
			left := liveTicks - gone
			if c.stays {
				left = liveTicks
			}
			for tick := range 10 {
				want := []int{0}
				if tick < left {
					want = []int{0, 2}
				}
				wantLive(t, olderBy(t, l, tick), 0, want, api.OK)
			}
		}
	}
}

// P10.2: who is heard every so often is live all the time; hearing another one helps nobody.
func TestHeardEverySoOften(t *testing.T) {
	l := make([]api.Peer, 3)
	for tick := range 100 {
		if tick%liveTicks == 0 {
			l, _ = Hear(l, 0, 1+tick)
		}
		if tick%(liveTicks+1) == 0 {
			l, _ = Hear(l, 2, 3)
		}
		want := []int{0, 1, 2}
		if tick%(liveTicks+1) == liveTicks {
			want = []int{0, 1}
		}
		wantLive(t, l, 1, want, api.OK)
		l = olderBy(t, l, 1)
	}
}

// P10.2: the chapter's example: who was never heard is not live, be it made as old as may be or not at all.
func TestNeverHeardIsNotLive(t *testing.T) {
	l := make([]api.Peer, mostNodes)
	for range 1100 {
		for self := range l {
			wantLive(t, l, self, []int{self}, api.OK)
		}
		l = olderBy(t, l, 1)
	}
}

// roomy answers l with peers behind in its spare room: live ones and a wrong one.
func roomy(l []api.Peer) []api.Peer {
	out := append(slices.Clone(l), api.Peer{Inc: 1}, api.Peer{Inc: -3, Age: -3}, api.Peer{Inc: 2, Age: 1})
	return out[:len(l)]
}

// everything answers a copy of all that lies in the memory of l, its spare room too.
func everything[T any](l []T) []T { return slices.Clone(l[:cap(l)]) }

// fill overwrites all that lies in the memory of l.
func fill[T any](l []T, x T) {
	l = l[:cap(l)]
	for i := range l {
		l[i] = x
	}
}

// answer is what one call answers: peers or live nodes, an error.
type answer struct {
	l    []api.Peer
	live []int
	e    api.Errno
}

func sameAnswer(a, b answer) bool {
	return slices.Equal(a.l, b.l) && slices.Equal(a.live, b.live) && a.e == b.e
}

// calls answers all calls of right peers, by name: those that answer, and those that refuse.
func calls(l []api.Peer) map[string]func() answer {
	last := len(l) - 1
	hear := func(from, inc int) func() answer {
		return func() answer {
			got, e := Hear(l, from, inc)
			return answer{l: got, e: e}
		}
	}
	live := func(self int) func() answer {
		return func() answer {
			got, e := Live(l, self)
			return answer{live: got, e: e}
		}
	}
	older := func() answer {
		got, e := Older(l)
		return answer{l: got, e: e}
	}
	return map[string]func() answer{
		"check":                 func() answer { return answer{e: Check(l)} },
		"older":                 older,
		"hear a later one":      hear(0, mostInc),
		"hear the same one":     hear(last, l[last].Inc),
		"hear one that is over": hear(last, 1),
		"hear no place":         hear(last+1, 5),
		"hear no incarnation":   hear(0, 0),
		"live of the first":     live(0),
		"live of the last":      live(last),
		"live of no place":      live(last + 1),
	}
}

// R2, R6: what is handed in stays as it was, its spare room too; no answer shares memory with it, nor with another answer.
func TestAnswersAreNewMemory(t *testing.T) {
	for n := 1; n <= mostNodes; n++ {
		for name := range calls(peers(1)) {
			l := roomy(peers(n))
			before := everything(l)
			call := calls(l)[name]
			first, second := call(), call()
			want := answer{slices.Clone(second.l), slices.Clone(second.live), second.e}
			if !slices.Equal(everything(l), before) {
				t.Errorf("%s of %d: what is handed in is changed", name, n)
			}
			fill(first.l, api.Peer{Inc: -7, Age: -7})
			fill(first.live, -7)
			if !slices.Equal(everything(l), before) {
				t.Errorf("%s of %d: an answer shares memory with what is handed in", name, n)
			}
			fill(l, api.Peer{Inc: -9, Age: -9})
			if !sameAnswer(second, want) {
				t.Errorf("%s of %d: an answer shares memory with another one, or with what is handed in", name, n)
			}
		}
	}
}

// R6: what lies behind the peers is none of them, no place; nothing of it is handed out.
func TestSpareRoomIsNotRead(t *testing.T) {
	for n := 1; n <= mostNodes; n++ {
		l := roomy(peers(n))
		for name, call := range calls(l) {
			got, want := call(), calls(peers(n))[name]()
			if !sameAnswer(got, want) {
				t.Errorf("%s of %d: %v, without spare room %v", name, n, got, want)
			}
			for _, p := range got.l[len(got.l):cap(got.l)] {
				if p != (api.Peer{}) {
					t.Errorf("%s of %d: %v lies behind what is answered", name, n, p)
				}
			}
			for _, x := range got.live[len(got.live):cap(got.live)] {
				if x != 0 {
					t.Errorf("%s of %d: %d lies behind what is answered", name, n, x)
				}
			}
		}
	}
	wantCheck(t, roomy(peers(3))[:0], api.ErrArg)
	wantCheck(t, peers(mostNodes + 1)[:mostNodes], api.OK)
}

// rightNow answers by the test's own plain rules whether these are right peers.
func rightNow(l []api.Peer) bool {
	wrong := func(p api.Peer) bool { return p.Inc < 0 || p.Inc > mostInc || p.Age < 0 || p.Age > mostAge }
	return len(l) > 0 && len(l) <= mostNodes && !slices.ContainsFunc(l, wrong)
}

// reckoned works out by the test's own plain rules what a call answers: of Hear (0), Older (1), Live (2), Check (3).
func reckoned(kind int, l []api.Peer, at, inc int) (a answer) {
	noPlace := at < 0 || at >= len(l)
	switch {
	case !rightNow(l):
		return answer{e: api.ErrArg}
	case (kind == 0 || kind == 2) && noPlace:
		return answer{e: api.ErrNode}
	case kind == 0 && (inc < 1 || inc > mostInc):
		return answer{e: api.ErrArg}
	}
	for n, p := range l {
		switch {
		case kind == 0 && n == at && p.Inc <= inc:
			a.l = append(a.l, api.Peer{Inc: inc})
		case kind == 0:
			a.l = append(a.l, p)
		case kind == 1 && p.Age < mostAge:
			a.l = append(a.l, api.Peer{Inc: p.Inc, Age: p.Age + 1})
		case kind == 1:
			a.l = append(a.l, p)
		case kind == 2 && (n == at || p.Inc != 0 && p.Age < liveTicks):
			a.live = append(a.live, n)
		}
	}
	return a
}

// called answers what the package answers to the same.
func called(kind int, l []api.Peer, at, inc int) (a answer) {
	switch kind {
	case 0:
		a.l, a.e = Hear(l, at, inc)
	case 1:
		a.l, a.e = Older(l)
	case 2:
		a.live, a.e = Live(l, at)
	case 3:
		a.e = Check(l)
	}
	return a
}

// oneOf answers one of numbers, or now and then of others.
func oneOf(r *rand.Rand, numbers, others []int, faults int) int {
	if r.Intn(1000) < faults {
		return others[r.Intn(len(others))]
	}
	return numbers[r.Intn(len(numbers))]
}

// mixedPeers answers peers, now and then wrong ones.
func mixedPeers(r *rand.Rand) []api.Peer {
	l := make([]api.Peer, r.Intn(mostNodes+2))
	faults := r.Intn(3) * 30
	for i := range l {
		l[i] = api.Peer{Inc: oneOf(r, rightIncs, wrongIncs, faults), Age: oneOf(r, rightAges, wrongAges, faults)}
	}
	return l
}

// P10.1, P10.2: a great many calls of all sorts, one upon the other, held against the test's own reckoning.
func TestMixedCalls(t *testing.T) {
	r := rand.New(rand.NewSource(10))
	told := map[api.Errno]int{}
	for range 5000 {
		l := mixedPeers(r)
		for range 20 {
			kind, at, inc := r.Intn(4), r.Intn(len(l)+3)-1, oneOf(r, rightIncs, wrongIncs, 100)
			want, got := reckoned(kind, l, at, inc), called(kind, l, at, inc)
			if !sameAnswer(got, want) {
				t.Fatalf("call %d of %v with %d, %d: %v, want %v", kind, l, at, inc, got, want)
			}
			told[got.e]++
			if len(got.l) != 0 {
				l = got.l
			}
		}
	}
	for _, e := range []api.Errno{api.OK, api.ErrArg, api.ErrNode} {
		if told[e] < 1000 {
			t.Errorf("error %d was told %d times", e, told[e])
		}
	}
}

// R3: a call hangs on its arguments alone, whatever was called, or refused, ahead of it.
func TestNothingIsKept(t *testing.T) {
	l := []api.Peer{{Inc: 2, Age: 3}, {}, {Inc: 1, Age: 1000}}
	for range 3 {
		wantHear(t, l, 3, 1, nil, api.ErrNode)
		wantHear(t, l, 1, 0, nil, api.ErrArg)
		wantHear(t, l, 1, 1, []api.Peer{{Inc: 2, Age: 3}, {Inc: 1}, {Inc: 1, Age: 1000}}, api.OK)
		wantHear(t, l, 0, 1, l, api.OK)
		wantOlder(t, nil, nil, api.ErrArg)
		wantOlder(t, l, []api.Peer{{Inc: 2, Age: 4}, {Age: 1}, {Inc: 1, Age: 1000}}, api.OK)
		wantLive(t, l, -1, nil, api.ErrNode)
		wantLive(t, l, 1, []int{0, 1}, api.OK)
		wantCheck(t, make([]api.Peer, mostNodes+1), api.ErrArg)
		wantCheck(t, l, api.OK)
	}
}
