package route

import (
	"math"
	"math/big"
	"math/rand"
	"slices"
	"testing"

	"bellwether/api"
)

// The limits and the keys of the document, written out anew.
const (
	mostNodes  = 8
	mostTopics = 4
	steps      = 62 // from 0 to 61 bits
)

var (
	nodeKeys = []int{
		2342812313538366385, 1863050908023769503, 81111313352671826, 2434324899588211290,
		2454816673080883147, 1342378062264523301, 820659310660760249, 2006264061484817761,
	}
	topicKeys = []int{1462484242049070477, 1775212608919665246, 3535639072113518480, 3725500155902745375}
)

// around are the nodes as one meets them on the ring, from key 0 on.
var around = []int{2, 6, 5, 1, 7, 0, 3, 4}

// farOff are numbers that are no node's and no topic's.
var farOff = []int{
	-2, -3, -8, -256, -1 << 32, -1 << 62, math.MinInt, math.MinInt + 1,
	9, 16, '0', 'n', 't', 255, 256, 257, 1 << 16, 1 << 32, 1<<32 + 1, 1<<32 + 2, 1 << 62, math.MaxInt - 1, math.MaxInt,
}

// noNodes are numbers that are no node's, noTopics those that are no topic's: just outside, and far off.
var (
	noNodes  = append([]int{-1, mostNodes}, farOff...)
	noTopics = append([]int{-1, mostTopics, mostTopics + 1}, farOff...)
)

// members answers, rising, the nodes whose bits are set.
func members(bits int) []int {
	var l []int
	for n := range mostNodes {
		if bits>>n&1 == 1 {
			l = append(l, n)
		}
	}
	return l
}

// eachLive calls f for every set of live nodes with each of its nodes as self.
func eachLive(f func(live []int, self int)) {
	for bits := 1; bits < 1<<mostNodes; bits++ {
		for _, self := range members(bits) {
			f(members(bits), self)
		}
	}
}

// from answers how far key n stands behind key k, worked out without bounds.
func from(k, n int) int {
	far := new(big.Int).Sub(big.NewInt(int64(n)), big.NewInt(int64(k)))
	return int(far.Mod(far, new(big.Int).Lsh(big.NewInt(1), 62)).Int64())
}

// gapOf answers the gap of each node to each topic.
func gapOf(topic, n int) int { return from(topicKeys[topic], nodeKeys[n]) }

// stepFrom answers the key that stands 2^bits ahead of node n's.
func stepFrom(n, bits int) int {
	power := int(new(big.Int).Lsh(big.NewInt(1), uint(bits)).Int64())
	return from(power, nodeKeys[n])
}

// firstFrom answers the first of live at key k or behind: it walks along the ring.
func firstFrom(k int, live []int) int {
	start := 0
	for start < len(around) && nodeKeys[around[start]] < k {
		start++
	}
	for i := range around {
		if n := around[(start+i)%len(around)]; slices.Contains(live, n) {
			return n
		}
	}
	return -1
}

// lastAhead answers the other live node that is met first, going ahead from self along the ring; -1, if there is none.
func lastAhead(live []int, self int) int {
	at := slices.Index(around, self)
	for i := 1; i < len(around); i++ {
		if n := around[(at+len(around)-i)%len(around)]; slices.Contains(live, n) {
			return n
		}
	}
	return -1
}

// firsts answers, for each of 0 to 61 bits, which live node is the first at or behind that step.
func firsts(live []int, self int) []int {
	var l []int
	for bits := range steps {
		l = append(l, firstFrom(stepFrom(self, bits), live))
	}
	return l
}

// fingersOf answers by the test's own rules whom a node's fingers point at.
func fingersOf(live []int, self int) []int {
	points := firsts(live, self)
	return slices.DeleteFunc(members(1<<mostNodes-1), func(n int) bool { return n == self || !slices.Contains(points, n) })
}

// nextOf answers by the test's own rules the next hop; -1, if there is none.
func nextOf(topic int, live []int, self int) int {
	hop := -1
	for _, n := range append(fingersOf(live, self), lastAhead(live, self)) {
		if n >= 0 && gapOf(topic, n) < gapOf(topic, self) && (hop < 0 || gapOf(topic, n) < gapOf(topic, hop)) {
			hop = n
		}
	}
	return hop
}

// wayOf answers by the test's own rules a whole way.
func wayOf(topic int, live []int, self int) []int {
	var l []int
	for n := nextOf(topic, live, self); n >= 0; n = nextOf(topic, live, n) {
		l = append(l, n)
	}
	return l
}

// ownerOf answers the live node of the least gap.
func ownerOf(topic int, live []int) int {
	return slices.MinFunc(live, func(a, b int) int { return gapOf(topic, a) - gapOf(topic, b) })
}

func wantCheck(t *testing.T, live []int, self int, want api.Errno) {
	t.Helper()
	if e := Check(live, self); e != want {
		t.Errorf("Check(%v, %d) = %d, want %d", live, self, e, want)
	}
}

func wantAhead(t *testing.T, live []int, self int, want int, wantErr api.Errno) {
	t.Helper()
	if n, e := Ahead(live, self); n != want || e != wantErr {
		t.Errorf("Ahead(%v, %d) = %d, %d, want %d, %d", live, self, n, e, want, wantErr)
	}
}

func wantFingers(t *testing.T, live []int, self int, want []int, wantErr api.Errno) {
	t.Helper()
	if l, e := Fingers(live, self); !slices.Equal(l, want) || e != wantErr {
		t.Errorf("Fingers(%v, %d) = %v, %d, want %v, %d", live, self, l, e, want, wantErr)
	}
}

// wantNext wants that next hop; none, if it is below 0.
func wantNext(t *testing.T, topic int, live []int, self int, want int, wantErr api.Errno) {
	t.Helper()
	if n, ok, e := Next(topic, live, self); n != max(want, 0) || ok != (want >= 0) || e != wantErr {
		t.Errorf("Next(%d, %v, %d) = %d, %t, %d, want %d, %d", topic, live, self, n, ok, e, want, wantErr)
	}
}

func wantWay(t *testing.T, topic int, live []int, self int, want []int, wantErr api.Errno) {
	t.Helper()
	if l, e := Way(topic, live, self); !slices.Equal(l, want) || e != wantErr {
		t.Errorf("Way(%d, %v, %d) = %v, %d, want %v, %d", topic, live, self, l, e, want, wantErr)
	}
}

// wantRefused wants ErrArg, and nothing beside it, of Check and all others, whatever the topic is.
func wantRefused(t *testing.T, live []int, self int) {
	t.Helper()
	wantCheck(t, live, self, api.ErrArg)
	wantAhead(t, live, self, 0, api.ErrArg)
	wantFingers(t, live, self, nil, api.ErrArg)
	for _, topic := range []int{0, mostTopics - 1, -1, mostTopics, math.MinInt, math.MaxInt} {
		wantNext(t, topic, live, self, -1, api.ErrArg)
		wantWay(t, topic, live, self, nil, api.ErrArg)
	}
}

// selves are numbers that may be asked as self, right and wrong.
func selves() []int { return append(members(1<<mostNodes-1), noNodes...) }

// P11.1
func TestCheckOfEverySet(t *testing.T) {
	wantCheck(t, []int{0}, 0, api.OK)
	wantCheck(t, []int{7}, 7, api.OK)
	wantCheck(t, []int{0, 1, 2, 3, 4, 5, 6, 7}, 7, api.OK)
	eachLive(func(live []int, self int) { wantCheck(t, live, self, api.OK) })
}

// P11.1
func TestNoLiveNodes(t *testing.T) {
	for _, self := range selves() {
		wantRefused(t, nil, self)
		wantRefused(t, []int{}, self)
		wantRefused(t, make([]int, 0, mostNodes), self)
		wantRefused(t, []int{self}[:0], self)
	}
}

// P11.1: a node that is not live, and what is no node.
func TestSelfIsNotAmongThem(t *testing.T) {
	for bits := range 1 << mostNodes {
		live := members(bits)
		for _, self := range selves() {
			if !slices.Contains(live, self) {
				wantRefused(t, live, self)
			}
		}
	}
}

// P11.1: two that are the same, two in the wrong order, at each place.
func TestListsThatDoNotRise(t *testing.T) {
	eachLive(func(live []int, self int) {
		for at := range live {
			wantRefused(t, slices.Insert(slices.Clone(live), at, live[at]), self)
		}
		for at := range live[1:] {
			l := slices.Clone(live)
			l[at], l[at+1] = l[at+1], l[at]
			wantRefused(t, l, self)
		}
		if len(live) > 1 {
			l := slices.Clone(live)
			slices.Reverse(l)
			wantRefused(t, l, self)
			wantRefused(t, append(slices.Clone(live), live[0]), self)
			wantRefused(t, append([]int{live[len(live)-1]}, live...), self)
		}
	})
}

// P11.1: what is no node, in another's stead or between, at each place, as self too.
func TestNumbersThatAreNoNodes(t *testing.T) {
	for _, wrong := range noNodes {
		wantRefused(t, []int{wrong}, wrong)
		wantRefused(t, []int{wrong}, 0)
		for _, bits := range []int{1, 1 << 7, 1<<7 | 1, 1<<2 | 1<<5, 0b1011010, 1<<mostNodes - 1} {
			for at := range members(bits) {
				in, stead := slices.Insert(members(bits), at, wrong), members(bits)
				stead[at] = wrong
				for _, self := range append(members(bits), wrong) {
					wantRefused(t, in, self)
					wantRefused(t, stead, self)
					wantRefused(t, append(members(bits), wrong), self)
				}
			}
		}
	}
}

// P11.1
func TestMoreThanThereMayBe(t *testing.T) {
	for _, n := range []int{mostNodes + 1, mostNodes + 2, 2 * mostNodes, 256, 257, 1 << 16} {
		rising, below := make([]int, n), make([]int, n)
		for i := range n {
			rising[i], below[i] = i, i-n+mostNodes
		}
		for self := range mostNodes {
			wantRefused(t, rising, self)
			wantRefused(t, below, self)
			wantRefused(t, make([]int, n), self)
		}
		wantRefused(t, rising, mostNodes)
		wantRefused(t, below, -1)
		wantCheck(t, rising[:mostNodes], 3, api.OK)
	}
}

// P11.1: each list of up to four numbers, the ones just outside among them, with each self.
func TestCheckOfEachShortList(t *testing.T) {
	var each func(live []int)
	each = func(live []int) {
		right := slices.IsSorted(live) && len(slices.Compact(slices.Clone(live))) == len(live)
		right = right && !slices.Contains(live, -1) && !slices.Contains(live, mostNodes)
		for self := -2; self <= mostNodes+1; self++ {
			want := api.ErrArg
			if right && slices.Contains(live, self) {
				want = api.OK
			}
			wantCheck(t, live, self, want)
		}
		for n := -1; n <= mostNodes && len(live) < 4; n++ {
			each(append(slices.Clone(live), n))
		}
	}
	each(nil)
}

// P11.1: one alone has none ahead of it, no fingers, no next hop (the chapter's example).
func TestAlone(t *testing.T) {
	for n := range mostNodes {
		live := []int{n}
		wantCheck(t, live, n, api.OK)
		wantAhead(t, live, n, 0, api.ErrNone)
		wantFingers(t, live, n, nil, api.OK)
		for topic := range mostTopics {
			wantNext(t, topic, live, n, -1, api.OK)
			wantWay(t, topic, live, n, nil, api.OK)
		}
	}
}

// P11.1: of two each is ahead of the other one, wherever they stand.
func TestAheadOfTwo(t *testing.T) {
	for a := range mostNodes {
		for b := range a {
			wantAhead(t, []int{b, a}, a, b, api.OK)
			wantAhead(t, []int{b, a}, b, a, api.OK)
		}
	}
}

// P11.1: the one met first on the way ahead, which is the one that self stands least behind.
func TestAheadOfEachNode(t *testing.T) {
	all := members(1<<mostNodes - 1)
	for self, want := range []int{7, 5, 4, 0, 3, 6, 2, 1} {
		wantAhead(t, all, self, want, api.OK)
	}
	eachLive(func(live []int, self int) {
		if len(live) == 1 {
			return
		}
		want := lastAhead(live, self)
		wantAhead(t, live, self, want, api.OK)
		for _, n := range live {
			if n != self && from(nodeKeys[n], nodeKeys[self]) < from(nodeKeys[want], nodeKeys[self]) {
				t.Errorf("of %v %d stands less behind %d than behind %d", live, self, n, want)
			}
		}
	})
}

// P11.1: some written out by hand.
func TestFingersOfSome(t *testing.T) {
	all := members(1<<mostNodes - 1)
	for self, want := range [][]int{{1, 2, 5}, {2, 5, 6}, {3}, {0, 1, 5, 6}, {0, 3, 5, 6, 7}, {2, 6}, {2}, {1, 2, 5}} {
		wantFingers(t, all, self, want, api.OK)
	}
	// 2 stands less than half the ring ahead of 5, so 5 stands more than half of it ahead of 2: no step is that long.
	wantFingers(t, []int{2, 5}, 5, []int{2}, api.OK)
	wantFingers(t, []int{2, 5}, 2, nil, api.OK)
	wantFingers(t, []int{0, 2, 4}, 4, []int{0}, api.OK)
	// Likewise of two that stand close together.
	wantFingers(t, []int{3, 4}, 4, []int{3}, api.OK)
	wantFingers(t, []int{3, 4}, 3, nil, api.OK)
}

// P11.1: just the first live nodes at or behind each step, rising, each once, without self.
func TestFingersOfEachNode(t *testing.T) {
	eachLive(func(live []int, self int) {
		l, e := Fingers(live, self)
		if e != api.OK {
			t.Fatalf("Fingers(%v, %d): %d", live, self, e)
		}
		for i, n := range l {
			if n == self || i > 0 && n <= l[i-1] {
				t.Errorf("Fingers(%v, %d) = %v", live, self, l)
			}
		}
		points := firsts(live, self)
		for bits, n := range points {
			if n != self && !slices.Contains(l, n) {
				t.Errorf("Fingers(%v, %d) = %v: without %d, of %d bits", live, self, l, n, bits)
			}
			for _, other := range live {
				if from(stepFrom(self, bits), nodeKeys[other]) < from(stepFrom(self, bits), nodeKeys[n]) {
					t.Errorf("of %v %d stands ahead of %d, behind the step of %d bits from %d", live, other, n, bits, self)
				}
			}
		}
		for _, n := range l {
			if !slices.Contains(points, n) {
				t.Errorf("Fingers(%v, %d) = %v: %d is at no step", live, self, l, n)
			}
		}
		wantFingers(t, live, self, fingersOf(live, self), api.OK)
	})
}

// P11.1: the longest step is of 61 bits, neither fewer nor more of them.
func TestFingersOfTheLongestStep(t *testing.T) {
	longest := 0
	eachLive(func(live []int, self int) {
		points := firsts(live, self)
		if last := points[steps-1]; last != self && slices.Index(points, last) == steps-1 {
			longest++
			if l, _ := Fingers(live, self); !slices.Contains(l, last) {
				t.Errorf("Fingers(%v, %d) = %v: without %d", live, self, l, last)
			}
		}
	})
	if longest < 100 {
		t.Errorf("the longest step alone finds a node %d times", longest)
	}
}

// P11.1: of each topic, each set of live nodes, each self.
func TestNextOfEachNode(t *testing.T) {
	eachLive(func(live []int, self int) {
		known := append(fingersOf(live, self), max(lastAhead(live, self), 0))
		for topic := range mostTopics {
			hop, ok, e := Next(topic, live, self)
			if e != api.OK || ok != (self != ownerOf(topic, live)) || !ok && hop != 0 {
				t.Errorf("Next(%d, %v, %d) = %d, %t, %d", topic, live, self, hop, ok, e)
			}
			if ok && (!slices.Contains(known, hop) || gapOf(topic, hop) >= gapOf(topic, self)) {
				t.Errorf("Next(%d, %v, %d) = %d: not known, or not nearer", topic, live, self, hop)
			}
			for _, n := range known {
				if ok && gapOf(topic, n) < gapOf(topic, hop) {
					t.Errorf("Next(%d, %v, %d) = %d: %d is nearer", topic, live, self, hop, n)
				}
			}
			wantNext(t, topic, live, self, nextOf(topic, live, self), api.OK)
		}
	})
}

// P11.1: the one ahead is known too, where no finger points at it; a finger, where it is nearer than the one ahead; and who is nearest but not known is no hop.
func TestNextIsOfThoseThatAreKnown(t *testing.T) {
	wantNext(t, 0, []int{2, 5}, 2, -1, api.OK)
	wantNext(t, 2, []int{3, 4}, 4, 3, api.OK)
	wantNext(t, 0, []int{3, 4}, 4, 3, api.OK)
	wantNext(t, 0, []int{0, 2, 4}, 4, 0, api.OK)
	wantNext(t, 0, []int{0, 1, 2, 3, 4, 5, 6, 7}, 4, 7, api.OK)
	wantNext(t, 0, []int{0, 1, 2, 3, 4, 5, 6, 7}, 2, 3, api.OK)
	byAhead, byFinger, unknown := 0, 0, 0
	eachLive(func(live []int, self int) {
		fingers, ahead := fingersOf(live, self), lastAhead(live, self)
		for topic := range mostTopics {
			hop, ok, _ := Next(topic, live, self)
			switch {
			case ok && hop == ahead && !slices.Contains(fingers, hop):
				byAhead++
			case ok && hop != ahead:
				byFinger++
			}
			if ok && hop != ownerOf(topic, live) {
				unknown++
			}
		}
	})
	if byAhead == 0 || byFinger == 0 || unknown == 0 {
		t.Errorf("by the one ahead %d, by a finger %d, not to the owner at once %d", byAhead, byFinger, unknown)
	}
}

// P11.1: topics just outside and far off.
func TestTopicsThatAreNone(t *testing.T) {
	for _, topic := range noTopics {
		for n := range mostNodes {
			wantNext(t, topic, []int{n}, n, -1, api.ErrArg)
			wantWay(t, topic, []int{n}, n, nil, api.ErrArg)
		}
		for bits := 1; bits < 1<<mostNodes; bits += 7 {
			live := members(bits)
			wantNext(t, topic, live, live[0], -1, api.ErrArg)
			wantWay(t, topic, live, live[len(live)-1], nil, api.ErrArg)
		}
		wantRefused(t, nil, 0)
		wantNext(t, topic, nil, 0, -1, api.ErrArg)
		wantWay(t, topic, []int{1, 0}, topic, nil, api.ErrArg)
	}
}

// P11.1: some ways written out by hand.
func TestWaysOfSome(t *testing.T) {
	all := members(1<<mostNodes - 1)
	for self, want := range [][]int{{1}, {}, {3, 1}, {1}, {7, 1}, {2, 3, 1}, {2, 3, 1}, {1}} {
		wantWay(t, 0, all, self, want, api.OK)
		wantWay(t, 1, all, self, want, api.OK)
	}
	for self, want := range [][]int{{2}, {2}, {}, {6, 2}, {6, 2}, {2}, {2}, {2}} {
		wantWay(t, 2, all, self, want, api.OK)
		wantWay(t, 3, all, self, want, api.OK)
	}
}

// P11.1, P11.2: of each topic, each set of live nodes, each self: it ends at the owner, each hop is live, nearer, and the next hop.
func TestWaysOfEachNode(t *testing.T) {
	eachLive(func(live []int, self int) {
		for topic := range mostTopics {
			way, e := Way(topic, live, self)
			if e != api.OK || len(way) >= len(live) {
				t.Errorf("Way(%d, %v, %d) = %v, %d", topic, live, self, way, e)
			}
			at := self
			for _, hop := range way {
				if !slices.Contains(live, hop) || gapOf(topic, hop) >= gapOf(topic, at) {
					t.Errorf("Way(%d, %v, %d) = %v: %d is not live, or not nearer than %d", topic, live, self, way, hop, at)
				}
				wantNext(t, topic, live, at, hop, api.OK)
				at = hop
			}
			if owner := ownerOf(topic, live); at != owner || self == owner && len(way) != 0 {
				t.Errorf("Way(%d, %v, %d) = %v: the owner is %d", topic, live, self, way, owner)
			}
			wantWay(t, topic, live, self, wayOf(topic, live, self), api.OK)
		}
	})
}

// P11.2: the rest of a way is the way from there.
func TestWaysMeet(t *testing.T) {
	eachLive(func(live []int, self int) {
		for topic := range mostTopics {
			way, _ := Way(topic, live, self)
			for i, hop := range way {
				wantWay(t, topic, live, hop, way[i+1:], api.OK)
			}
		}
	})
}

// answer is what one call answers.
type answer struct {
	n  int
	ok bool
	l  []int
	e  api.Errno
}

func sameAnswer(a, b answer) bool {
	return a.n == b.n && a.ok == b.ok && slices.Equal(a.l, b.l) && a.e == b.e
}

// called answers what the package answers: of Check (0), Ahead (1), Fingers (2), Next (3), Way (4).
func called(kind, topic int, live []int, self int) (a answer) {
	switch kind {
	case 0:
		a.e = Check(live, self)
	case 1:
		a.n, a.e = Ahead(live, self)
	case 2:
		a.l, a.e = Fingers(live, self)
	case 3:
		a.n, a.ok, a.e = Next(topic, live, self)
	case 4:
		a.l, a.e = Way(topic, live, self)
	}
	return a
}

// reckoned answers by the test's own rules what the same call should.
func reckoned(kind, topic int, live []int, self int) (a answer) {
	rising := slices.IsSorted(live) && len(slices.Compact(slices.Clone(live))) == len(live)
	noNode := func(n int) bool { return slices.Contains(noNodes, n) }
	switch {
	case !rising || slices.ContainsFunc(live, noNode) || !slices.Contains(live, self):
		a.e = api.ErrArg
	case kind > 2 && (topic < 0 || topic >= mostTopics):
		a.e = api.ErrArg
	case kind == 1 && len(live) == 1:
		a.e = api.ErrNone
	case kind == 1:
		a.n = lastAhead(live, self)
	case kind == 2:
		a.l = fingersOf(live, self)
	case kind == 3:
		hop := nextOf(topic, live, self)
		a.n, a.ok = max(hop, 0), hop >= 0
	case kind == 4:
		a.l = wayOf(topic, live, self)
	}
	return a
}

// mixedLive answers live nodes, now and then wrong ones.
func mixedLive(r *rand.Rand) []int {
	l := members(r.Intn(1 << mostNodes))
	if len(l) > 0 && r.Intn(4) == 0 {
		wrong := append([]int{l[0], l[len(l)-1], r.Intn(mostNodes)}, noNodes...)
		l = slices.Insert(l, r.Intn(len(l)+1), wrong[r.Intn(len(wrong))])
	}
	return l
}

// P11.1, R3, R4: a great many calls of all sorts, held against the test's own reckoning.
func TestMixedCalls(t *testing.T) {
	r := rand.New(rand.NewSource(11))
	told := map[api.Errno]int{}
	for range 60000 {
		live := mixedLive(r)
		kind, topic, self := r.Intn(5), r.Intn(mostTopics+2)-1, r.Intn(mostNodes)
		if len(live) > 0 && r.Intn(8) > 0 {
			self = live[r.Intn(len(live))]
		}
		want, got := reckoned(kind, topic, live, self), called(kind, topic, live, self)
		if !sameAnswer(got, want) {
			t.Fatalf("call %d of topic %d, %v, %d: %v, want %v", kind, topic, live, self, got, want)
		}
		told[got.e]++
	}
	for e, least := range map[api.Errno]int{api.OK: 10000, api.ErrArg: 10000, api.ErrNone: 100} {
		if told[e] < least {
			t.Errorf("error %d was told %d times", e, told[e])
		}
	}
}

// roomy answers l with others behind in its spare room: live ones and a wrong one.
func roomy(l []int) []int {
	return append(slices.Clone(l), 6, -1, 7)[:len(l)]
}

// everything answers a copy of all that lies in the memory of l, its spare room too.
func everything(l []int) []int { return slices.Clone(l[:cap(l)]) }

// fill overwrites all that lies in the memory of l.
func fill(l []int, x int) {
	l = l[:cap(l)]
	for i := range l {
		l[i] = x
	}
}

// R2, R6: what is handed in stays as it was, its spare room too; no answer shares memory with it, nor with another answer.
func TestAnswersAreNewMemory(t *testing.T) {
	check := func(kind, topic int, right []int, self int) {
		live := roomy(right)
		before := everything(live)
		first, second := called(kind, topic, live, self), called(kind, topic, live, self)
		want := answer{second.n, second.ok, slices.Clone(second.l), second.e}
		fill(first.l, -7)
		if !slices.Equal(everything(live), before) {
			t.Errorf("call %d of topic %d, %v, %d: what is handed in is changed, or shared", kind, topic, right, self)
		}
		fill(live, -9)
		if !sameAnswer(second, want) {
			t.Errorf("call %d of topic %d, %v, %d: an answer shares memory", kind, topic, right, self)
		}
	}
	for kind := range 5 {
		for _, topic := range []int{0, 3, mostTopics} {
			eachLive(func(live []int, self int) { check(kind, topic, live, self) })
			check(kind, topic, []int{0, 1, 1, 7}, 1)
			check(kind, topic, []int{0, 2, 5}, 4)
			check(kind, topic, nil, 0)
		}
	}
}

// R6: what lies behind the live nodes is none of them; nothing of it is handed out.
func TestSpareRoomIsNotRead(t *testing.T) {
	eachLive(func(live []int, self int) {
		for kind := range 5 {
			got, want := called(kind, 2, roomy(live), self), called(kind, 2, live, self)
			if !sameAnswer(got, want) {
				t.Errorf("call %d of %v, %d: %v, without spare room %v", kind, live, self, got, want)
			}
			for _, x := range got.l[len(got.l):cap(got.l)] {
				if x != 0 {
					t.Errorf("call %d of %v, %d: %d lies behind what is answered", kind, live, self, x)
				}
			}
		}
	})
	wantRefused(t, []int{0, 1, 2}[:0], 0)
	wantRefused(t, []int{0, 1, 2}[:2], 2)
	wantCheck(t, []int{0, 1, 2, 2}[:3], 2, api.OK)
	wantCheck(t, []int{0, 1, 2, mostNodes}[:3], 0, api.OK)
}

// R3: a call hangs on its arguments alone, whatever was called, or refused, ahead of it.
func TestNothingIsKept(t *testing.T) {
	all := members(1<<mostNodes - 1)
	for range 3 {
		wantNext(t, mostTopics, all, 4, -1, api.ErrArg)
		wantNext(t, 0, all, 4, 7, api.OK)
		wantWay(t, 0, []int{4}, 4, nil, api.OK)
		wantWay(t, 0, all, 4, []int{7, 1}, api.OK)
		wantWay(t, 2, all, 4, []int{6, 2}, api.OK)
		wantAhead(t, []int{4}, 4, 0, api.ErrNone)
		wantAhead(t, []int{2, 4}, 4, 2, api.OK)
		wantAhead(t, all, 4, 3, api.OK)
		wantFingers(t, all, 8, nil, api.ErrArg)
		wantFingers(t, all, 4, []int{0, 3, 5, 6, 7}, api.OK)
		wantCheck(t, all, 8, api.ErrArg)
		wantCheck(t, all, 4, api.OK)
	}
}
