package ring

import (
	"math"
	"math/big"
	"slices"
	"testing"

	"bellwether/api"
	"bellwether/sha"
)

// The chapter's table.
var (
	tableOfNodes = []int{
		2342812313538366385, 1863050908023769503, 81111313352671826, 2434324899588211290,
		2454816673080883147, 1342378062264523301, 820659310660760249, 2006264061484817761,
	}
	tableOfTopics = []int{1462484242049070477, 1775212608919665246, 3535639072113518480, 3725500155902745375}
)

// nearestFirst are, of each topic, the nodes as one meets them from the topic's key on.
var nearestFirst = [][]int{
	{1, 7, 0, 3, 4, 2, 6, 5},
	{1, 7, 0, 3, 4, 2, 6, 5},
	{2, 6, 5, 1, 7, 0, 3, 4},
	{2, 6, 5, 1, 7, 0, 3, 4},
}

// wrongNumbers answers numbers that are not from 0 on, below limit.
func wrongNumbers(limit int) []int {
	return []int{
		-1, -2, -limit, -api.Ring, math.MinInt, math.MinInt + 1,
		limit, limit + 1, 2 * limit, '0', 'n', 't', 1 << 8, 1 << 16, 1 << 32, 1<<32 + 1, 1 << 40, api.Ring, math.MaxInt - 1, math.MaxInt,
	}
}

// gapOf works a gap out from the table, without bounds.
func gapOf(t, n int) int {
	gap := new(big.Int).Sub(big.NewInt(int64(tableOfNodes[n])), big.NewInt(int64(tableOfTopics[t])))
	return int(gap.Mod(gap, big.NewInt(api.Ring)).Int64())
}

// ownerOf works an owner out: the first of the topic's nodes that is in l.
func ownerOf(t int, l []int) int {
	for _, n := range nearestFirst[t] {
		if slices.Contains(l, n) {
			return n
		}
	}
	return -1
}

// members answers the nodes whose bits are set.
func members(bits int) []int {
	var l []int
	for n := range api.MaxNodes {
		if bits>>n&1 == 1 {
			l = append(l, n)
		}
	}
	return l
}

func wantOwner(t *testing.T, topic int, l []int, want int, wantErr api.Errno) {
	t.Helper()
	if got, err := Owner(topic, l); got != want || err != wantErr {
		t.Errorf("Owner(%d, %v) = %d, %d, want %d, %d", topic, l, got, err, want, wantErr)
	}
}

// P3.1
func TestNodesHaveTheirKeys(t *testing.T) {
	if len(tableOfNodes) != api.MaxNodes {
		t.Fatal("the table has other nodes")
	}
	for n, want := range tableOfNodes {
		if got, err := Node(n); got != want || err != api.OK {
			t.Errorf("Node(%d) = %d, %d, want %d", n, got, err, want)
		}
		if got, _ := Node(n); got != sha.Head([]byte{'n', '0' + byte(n)}) {
			t.Errorf("Node(%d) = %d: not its head", n, got)
		}
	}
	for _, n := range wrongNumbers(api.MaxNodes) {
		if got, err := Node(n); got != 0 || err != api.ErrArg {
			t.Errorf("Node(%d) = %d, %d, want ErrArg", n, got, err)
		}
	}
}

// P3.1
func TestTopicsHaveTheirKeys(t *testing.T) {
	if len(tableOfTopics) != api.MaxTopics {
		t.Fatal("the table has other topics")
	}
	for topic, want := range tableOfTopics {
		if got, err := Topic(topic); got != want || err != api.OK {
			t.Errorf("Topic(%d) = %d, %d, want %d", topic, got, err, want)
		}
		if got, _ := Topic(topic); got != sha.Head([]byte{'t', '0' + byte(topic)}) {
			t.Errorf("Topic(%d) = %d: not its head", topic, got)
		}
	}
	for _, topic := range wrongNumbers(api.MaxTopics) {
		if got, err := Topic(topic); got != 0 || err != api.ErrArg {
			t.Errorf("Topic(%d) = %d, %d, want ErrArg", topic, got, err)
		}
	}
}

// The chapter: all these are unlike.
func TestKeysAreUnlike(t *testing.T) {
	seen := map[int]int{}
	for n := range api.MaxNodes {
		k, _ := Node(n)
		seen[k]++
	}
	for topic := range api.MaxTopics {
		k, _ := Topic(topic)
		seen[k]++
	}
	if len(seen) != api.MaxNodes+api.MaxTopics {
		t.Errorf("%d unlike keys", len(seen))
	}
}

// P3.1
func TestGapIsFromTheTopicOn(t *testing.T) {
	for topic := range api.MaxTopics {
		for n := range api.MaxNodes {
			if got, err := Gap(topic, n); got != gapOf(topic, n) || err != api.OK {
				t.Errorf("Gap(%d, %d) = %d, %d, want %d", topic, n, got, err, gapOf(topic, n))
			}
		}
	}
	if got, _ := Gap(0, 1); got != 1863050908023769503-1462484242049070477 {
		t.Errorf("a node behind the topic: %d", got)
	}
	if got, _ := Gap(0, 5); got != 1342378062264523301-1462484242049070477+api.Ring {
		t.Errorf("a node around the ring: %d", got)
	}
}

// P3.1
func TestGapOfWrongNumbers(t *testing.T) {
	refused := func(topic, n int) {
		if got, err := Gap(topic, n); got != 0 || err != api.ErrArg {
			t.Errorf("Gap(%d, %d) = %d, %d, want ErrArg", topic, n, got, err)
		}
	}
	for _, topic := range wrongNumbers(api.MaxTopics) {
		for n := range api.MaxNodes {
			refused(topic, n)
		}
		for _, n := range wrongNumbers(api.MaxNodes) {
			refused(topic, n)
		}
	}
	for _, n := range wrongNumbers(api.MaxNodes) {
		for topic := range api.MaxTopics {
			refused(topic, n)
		}
	}
}

// P3.1: every set of nodes, in rising and falling order, and each node twice.
func TestOwnerIsOfTheLeastGap(t *testing.T) {
	for topic := range api.MaxTopics {
		for bits := 1; bits < 1<<api.MaxNodes; bits++ {
			l := members(bits)
			want := ownerOf(topic, l)
			wantOwner(t, topic, l, want, api.OK)
			wantOwner(t, topic, slices.Concat(l, l), want, api.OK)
			slices.Reverse(l)
			wantOwner(t, topic, l, want, api.OK)
			wantOwner(t, topic, slices.Concat(l, members(bits)), want, api.OK)
		}
	}
}

// P3.1
func TestOwnerStandsAtAnyPlace(t *testing.T) {
	for topic, row := range nearestFirst {
		for turn := range row {
			wantOwner(t, topic, slices.Concat(row[turn:], row[:turn]), row[0], api.OK)
		}
		for i, a := range row {
			wantOwner(t, topic, []int{a}, a, api.OK) // the chapter's example
			wantOwner(t, topic, []int{a, a}, a, api.OK)
			for _, b := range row[i:] {
				wantOwner(t, topic, []int{a, b}, a, api.OK)
				wantOwner(t, topic, []int{b, a}, a, api.OK)
				wantOwner(t, topic, []int{b, a, b}, a, api.OK)
			}
		}
		many := slices.Repeat([]int{row[7], row[6]}, 100000)
		wantOwner(t, topic, many, row[6], api.OK)
		wantOwner(t, topic, append(many, row[0]), row[0], api.OK)
	}
}

// P3.1
func TestOwnerOfWrongNumbers(t *testing.T) {
	for _, topic := range wrongNumbers(api.MaxTopics) {
		for _, l := range [][]int{nil, {}, {0}, {0, 1, 2, 3, 4, 5, 6, 7}, {8}, {0, -1}} {
			wantOwner(t, topic, l, 0, api.ErrArg)
		}
	}
	for topic := range api.MaxTopics {
		wantOwner(t, topic, nil, 0, api.ErrNone)
		wantOwner(t, topic, []int{}, 0, api.ErrNone)
		for _, n := range wrongNumbers(api.MaxNodes) {
			wantOwner(t, topic, []int{n}, 0, api.ErrArg)
			for at := range api.MaxNodes + 1 {
				wantOwner(t, topic, slices.Insert(slices.Clone(nearestFirst[topic]), at, n), 0, api.ErrArg)
			}
		}
	}
}

// R2, R6: the list stays as it was, its spare room too, and what lies behind it is not read.
func TestOwnerLeavesTheList(t *testing.T) {
	for topic, row := range nearestFirst {
		room := slices.Clone(row)
		slices.Reverse(room)
		room = append(room, 8, -1, math.MaxInt)
		before := slices.Clone(room)
		for n := range len(row) {
			wantOwner(t, topic, room[:n+1], row[7-n], api.OK)
		}
		wantOwner(t, topic, room[:0], 0, api.ErrNone)
		wantOwner(t, topic, room, 0, api.ErrArg)
		wantOwner(t, math.MinInt, room, 0, api.ErrArg)
		Owner(api.MaxTopics, room[:3])
		if !slices.Equal(room, before) {
			t.Errorf("topic %d: %v became %v", topic, before, room)
		}
	}
}

// P3.1
func TestNearerIsOfTheSmallerGap(t *testing.T) {
	for topic, row := range nearestFirst {
		for i, a := range row {
			for j, b := range row {
				if got := Nearer(topic, a, b); got != (i < j) || got != (gapOf(topic, a) < gapOf(topic, b)) {
					t.Errorf("Nearer(%d, %d, %d) = %t", topic, a, b, got)
				}
			}
		}
	}
}

// P3.1
func TestNearerOfWrongNumbers(t *testing.T) {
	refused := func(topic, a, b int) {
		if Nearer(topic, a, b) {
			t.Errorf("Nearer(%d, %d, %d) is true", topic, a, b)
		}
	}
	for _, topic := range wrongNumbers(api.MaxTopics) {
		for a := range api.MaxNodes {
			for b := range api.MaxNodes {
				refused(topic, a, b)
			}
		}
		refused(topic, topic, topic)
	}
	for topic := range api.MaxTopics {
		for _, wrong := range wrongNumbers(api.MaxNodes) {
			for n := range api.MaxNodes {
				refused(topic, wrong, n)
				refused(topic, n, wrong)
			}
			for _, other := range wrongNumbers(api.MaxNodes) {
				refused(topic, wrong, other)
			}
		}
	}
}

// P3.2
func TestOfUnlikeNodesOneIsNearer(t *testing.T) {
	for topic := range api.MaxTopics {
		for a := range api.MaxNodes {
			if Nearer(topic, a, a) {
				t.Errorf("topic %d: node %d is nearer than itself", topic, a)
			}
			for b := range a {
				one, other := Nearer(topic, a, b), Nearer(topic, b, a)
				if one == other {
					t.Errorf("topic %d, nodes %d and %d: %t and %t", topic, a, b, one, other)
				}
				nearer := b
				if one {
					nearer = a
				}
				wantOwner(t, topic, []int{a, b}, nearer, api.OK)
			}
		}
	}
}

// R3: a call hangs on its arguments alone, whatever was called, or refused, ahead of it.
func TestNothingIsKept(t *testing.T) {
	for range 3 {
		for topic := range api.MaxTopics {
			wantOwner(t, topic, []int{3, 9}, 0, api.ErrArg)
			wantOwner(t, topic, []int{3}, 3, api.OK)
			wantOwner(t, topic, nil, 0, api.ErrNone)
			Gap(topic, -1)
			if got, err := Gap(topic, 3); got != gapOf(topic, 3) || err != api.OK {
				t.Errorf("Gap(%d, 3) = %d, %d", topic, got, err)
			}
		}
	}
}
