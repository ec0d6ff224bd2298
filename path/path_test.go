package path

import (
	"math"
	"math/rand"
	"slices"
	"testing"

	"bellwether/api"
	"bellwether/route"
)

// The limits of the document, written out anew.
const (
	mostNodes  = 8
	mostTopics = 4
	mostPath   = 8
)

// nearest are the nodes by topic, the nearest one first: those that stand behind the topic's key, in turn.
var nearest = [mostTopics][]int{
	{1, 7, 0, 3, 4, 2, 6, 5},
	{1, 7, 0, 3, 4, 2, 6, 5},
	{2, 6, 5, 1, 7, 0, 3, 4},
	{2, 6, 5, 1, 7, 0, 3, 4},
}

// farOff are numbers that are no node's, no topic's, no depth.
var farOff = []int{
	-2, -3, -8, -256, -1 << 32, -1 << 62, math.MinInt, math.MinInt + 1,
	9, 10, 16, '0', 'n', 't', 255, 256, 257, 1 << 16, 1 << 32, 1<<32 + 1, 1<<32 + 2, 1 << 62, math.MaxInt - 1, math.MaxInt,
}

// Numbers that are no node's, no topic's, no depth: just outside, and far off.
var (
	noNodes  = append([]int{-1, mostNodes}, farOff...)
	noTopics = append([]int{-1, mostTopics, mostTopics + 1, mostNodes}, farOff...)
	noDepths = append([]int{0, -1, mostPath + 1}, farOff...)
)

// rank answers how many nodes are nearer to the topic than n.
func rank(topic, n int) int { return slices.Index(nearest[topic], n) }

// eachTopicAndNode calls f for every topic with every node.
func eachTopicAndNode(f func(topic, self int)) {
	for topic := range mostTopics {
		for self := range mostNodes {
			f(topic, self)
		}
	}
}

// longest answers the longest right path of self: all nodes that are nearer, the nearest one last.
func longest(topic, self int) []int {
	l := slices.Clone(nearest[topic][:rank(topic, self)])
	slices.Reverse(l)
	return l
}

// rightPaths answers every right path of self of any depth.
func rightPaths(topic, self int) [][]int {
	all := longest(topic, self)
	var paths [][]int
	for bits := range 1 << len(all) {
		var l []int
		for i, n := range all {
			if bits>>i&1 == 1 {
				l = append(l, n)
			}
		}
		paths = append(paths, l)
	}
	return paths
}

// isNode answers by the test's own rules whether n is a node's number.
func isNode(n int) bool { return slices.Contains(nearest[0], n) }

// checked answers by the test's own rules what Check should.
func checked(topic, self int, l []int, depth int) api.Errno {
	if slices.Contains(noTopics, topic) || !isNode(self) || slices.Contains(noDepths, depth) {
		return api.ErrArg
	}
	ranks := []int{rank(topic, self)}
	for _, n := range l {
		if !isNode(n) {
			return api.ErrArg
		}
		ranks = append(ranks, rank(topic, n))
	}
	if len(l) > depth {
		return api.ErrDepth
	}
	for i := 1; i < len(ranks); i++ {
		if ranks[i] >= ranks[i-1] {
			return api.ErrArg
		}
	}
	return api.OK
}

// added answers by the test's own rules what Add should.
func added(topic, self int, l []int) ([]int, api.Errno) {
	e := checked(topic, self, l, mostPath)
	if e == api.OK && len(l) == mostPath {
		e = api.ErrDepth
	}
	if e != api.OK {
		return nil, e
	}
	return append([]int{self}, l...), api.OK
}

// wholes answers by the test's own rules what Whole should: it takes away, again and again, those whose parent is none or taken away; who is left goes round.
func wholes(paths [][]int) bool {
	for _, l := range paths {
		if slices.ContainsFunc(l, func(n int) bool { return !isNode(n) }) {
			return false
		}
	}
	left := map[int]int{}
	for n, l := range paths {
		if len(l) > 0 {
			left[n] = l[0]
		}
	}
	for range len(paths) {
		for n := range paths {
			if _, stays := left[left[n]]; !stays {
				delete(left, n)
			}
		}
	}
	return len(paths) <= mostNodes && len(left) == 0
}

func wantCheck(t *testing.T, topic, self int, l []int, depth int, want api.Errno) {
	t.Helper()
	if e := Check(topic, self, l, depth); e != want {
		t.Errorf("Check(%d, %d, %v, %d) = %d, want %d", topic, self, l, depth, e, want)
	}
}

func wantAdd(t *testing.T, topic, self int, l []int, want []int, wantErr api.Errno) {
	t.Helper()
	if got, e := Add(topic, self, l); !slices.Equal(got, want) || e != wantErr {
		t.Errorf("Add(%d, %d, %v) = %v, %d, want %v, %d", topic, self, l, got, e, want, wantErr)
	}
}

// wantBoth wants of Check, with the greatest depth, and of Add the same error; without one, of Add self and the path behind it.
func wantBoth(t *testing.T, topic, self int, l []int, want api.Errno) {
	t.Helper()
	wantCheck(t, topic, self, l, mostPath, want)
	var path []int
	if want == api.OK {
		path = append([]int{self}, l...)
	}
	wantAdd(t, topic, self, l, path, want)
}

// wantWhole wants that answer whatever the topic is.
func wantWhole(t *testing.T, paths [][]int, want bool) {
	t.Helper()
	for _, topic := range []int{0, mostTopics - 1, -1, mostTopics, math.MinInt, math.MaxInt} {
		if got := Whole(topic, paths); got != want {
			t.Errorf("Whole(%d, %v) = %t, want %t", topic, paths, got, want)
		}
	}
}

// P12.1: no path is right (the chapter's example), for every topic, node and depth.
func TestNoPath(t *testing.T) {
	eachTopicAndNode(func(topic, self int) {
		for depth := 1; depth <= mostPath; depth++ {
			wantCheck(t, topic, self, nil, depth, api.OK)
			wantCheck(t, topic, self, []int{}, depth, api.OK)
			wantCheck(t, topic, self, []int{self, -1}[:0], depth, api.OK)
		}
		wantAdd(t, topic, self, nil, []int{self}, api.OK)
		wantAdd(t, topic, self, []int{}, []int{self}, api.OK)
	})
}

// P12.1: topics, nodes and depths just outside and far off.
func TestNumbersThatAreNone(t *testing.T) {
	for _, l := range [][]int{nil, {}, {1}, {2}, {7, 1}, {6, 2}, {5}, {1, 1}} {
		for _, topic := range noTopics {
			for self := range mostNodes {
				wantBoth(t, topic, self, l, api.ErrArg)
			}
		}
		for _, self := range noNodes {
			for topic := range mostTopics {
				wantBoth(t, topic, self, l, api.ErrArg)
			}
			wantBoth(t, self, self, l, api.ErrArg)
		}
		for _, depth := range noDepths {
			eachTopicAndNode(func(topic, self int) { wantCheck(t, topic, self, l, depth, api.ErrArg) })
		}
	}
}

// P12.1: what is no node, between, in another's stead and behind, at each place of each right path.
func TestNumbersInThePath(t *testing.T) {
	eachTopicAndNode(func(topic, self int) {
		for _, l := range rightPaths(topic, self) {
			for _, wrong := range noNodes {
				for at := range len(l) + 1 {
					in := slices.Insert(slices.Clone(l), at, wrong)
					wantBoth(t, topic, self, in, api.ErrArg)
					wantCheck(t, topic, self, in, 1, api.ErrArg)
				}
				for at := range l {
					stead := slices.Clone(l)
					stead[at] = wrong
					wantBoth(t, topic, self, stead, api.ErrArg)
				}
			}
		}
	})
}

// P12.1: each right path of each node, of each depth: it may be as long as the depth, no longer.
func TestDepths(t *testing.T) {
	eachTopicAndNode(func(topic, self int) {
		for _, l := range rightPaths(topic, self) {
			for depth := 1; depth <= mostPath; depth++ {
				want := api.OK
				if len(l) > depth {
					want = api.ErrDepth
				}
				wantCheck(t, topic, self, l, depth, want)
			}
			wantBoth(t, topic, self, l, api.OK)
		}
	})
}

// P12.1: paths as long as the depth, one longer and much longer, which come nearer or do not: too long comes ahead of not nearer.
func TestLengths(t *testing.T) {
	for depth := 1; depth <= mostPath; depth++ {
		for _, n := range []int{depth, depth + 1, depth + 2, 2 * depth, mostPath + 1, 100, 1 << 16} {
			eachTopicAndNode(func(topic, self int) {
				l := slices.Repeat([]int{self}, n)
				want := api.ErrArg
				if n > depth {
					want = api.ErrDepth
				}
				wantCheck(t, topic, self, l, depth, want)
				l[n-1] = mostNodes
				wantCheck(t, topic, self, l, depth, api.ErrArg)
			})
		}
	}
}

// P12.1: Add of paths of MaxPath - 1, MaxPath and MaxPath + 1 nodes, right and not.
func TestAddOfLongPaths(t *testing.T) {
	for topic := range mostTopics {
		last := nearest[topic][mostNodes-1]
		l := longest(topic, last)
		if len(l) != mostPath-1 {
			t.Fatalf("the longest path of %d in %d has %d nodes", last, topic, len(l))
		}
		wantAdd(t, topic, last, l, append([]int{last}, l...), api.OK)
		all := append([]int{last}, l...)
		wantAdd(t, topic, last, all, nil, api.ErrArg)
		wantAdd(t, topic, nearest[topic][0], all, nil, api.ErrArg)
		wantAdd(t, topic, last, append(slices.Clone(l), nearest[topic][0]), nil, api.ErrArg)
		wantAdd(t, topic, last, append(slices.Clone(l), mostNodes), nil, api.ErrArg)
		for more := 1; more < 20; more++ {
			long := append(slices.Clone(all), make([]int, more)...)
			wantAdd(t, topic, last, long, nil, api.ErrDepth)
			long[len(long)-1] = -1
			wantAdd(t, topic, last, long, nil, api.ErrArg)
		}
		for self := range mostNodes {
			for _, n := range []int{mostPath - 1, mostPath} {
				wantAdd(t, topic, self, make([]int, n), nil, api.ErrArg)
			}
			wantAdd(t, topic, self, make([]int, mostPath+1), nil, api.ErrDepth)
			wantAdd(t, mostTopics, self, make([]int, mostPath+1), nil, api.ErrArg)
		}
		wantAdd(t, topic, mostNodes, make([]int, mostPath+1), nil, api.ErrArg)
	}
}

// P12.1: the longest right path of each topic is of all other nodes; it has no node too many and in no other order.
func TestLongestPaths(t *testing.T) {
	for topic, want := range [][]int{{6, 2, 4, 3, 0, 7, 1}, {6, 2, 4, 3, 0, 7, 1}, {3, 0, 7, 1, 5, 6, 2}, {3, 0, 7, 1, 5, 6, 2}} {
		self := []int{5, 5, 4, 4}[topic]
		wantBoth(t, topic, self, want, api.OK)
		wantCheck(t, topic, self, want, 7, api.OK)
		wantCheck(t, topic, self, want, 6, api.ErrDepth)
		for at := range want[1:] {
			swapped := slices.Clone(want)
			swapped[at], swapped[at+1] = swapped[at+1], swapped[at]
			wantBoth(t, topic, self, swapped, api.ErrArg)
		}
		for at := range want {
			wantBoth(t, topic, self, slices.Insert(slices.Clone(want), at, want[at]), api.ErrArg)
			wantBoth(t, topic, want[at], want, api.ErrArg)
		}
	}
}

// P12.1: every one, two and three nodes, for each topic, self and depth: nearer or not, the same twice, self itself.
func TestShortPaths(t *testing.T) {
	var each func(topic, self int, l []int)
	each = func(topic, self int, l []int) {
		for depth := 1; depth <= 4; depth++ {
			wantCheck(t, topic, self, l, depth, checked(topic, self, l, depth))
		}
		want, e := added(topic, self, l)
		wantAdd(t, topic, self, l, want, e)
		for n := -1; n <= mostNodes && len(l) < 3; n++ {
			each(topic, self, append(slices.Clone(l), n))
		}
	}
	eachTopicAndNode(func(topic, self int) { each(topic, self, nil) })
}

// P12.1: where several errors hold: what is no number, then too long, then not nearer.
func TestOrderOfErrors(t *testing.T) {
	for _, c := range []struct {
		topic, self int
		l           []int
		depth       int
		want        api.Errno
	}{
		{0, 3, []int{0, 8}, 1, api.ErrArg},
		{0, 3, []int{8, 0}, 1, api.ErrArg},
		{0, 3, []int{0, -1, 7}, 2, api.ErrArg},
		{4, 3, []int{0, 7}, 1, api.ErrArg},
		{-1, 3, []int{0, 7}, 1, api.ErrArg},
		{0, 8, []int{0, 7}, 1, api.ErrArg},
		{0, -1, []int{0, 7}, 1, api.ErrArg},
		{0, 3, []int{0, 7}, 0, api.ErrArg},
		{0, 3, make([]int, 10), 9, api.ErrArg},
		{0, 3, []int{0, 7}, 1, api.ErrDepth},
		{0, 3, []int{0, 0}, 1, api.ErrDepth},
		{0, 3, []int{3, 3}, 1, api.ErrDepth},
		{0, 3, []int{5, 6, 2, 1}, 3, api.ErrDepth},
		{0, 3, []int{5, 6, 2, 1}, 4, api.ErrArg},
		{0, 3, []int{0, 0}, 2, api.ErrArg},
		{0, 3, []int{0, 7}, 2, api.OK},
	} {
		wantCheck(t, c.topic, c.self, c.l, c.depth, c.want)
	}
}

// P12.1: what is answered is the right path of each child that is further off, and can be gone on with.
func TestAddGoesOn(t *testing.T) {
	for topic := range mostTopics {
		var l []int
		for i, n := range nearest[topic] {
			next, e := Add(topic, n, l)
			if e != api.OK || len(next) != i+1 || next[0] != n {
				t.Fatalf("Add(%d, %d, %v) = %v, %d", topic, n, l, next, e)
			}
			for _, kid := range nearest[topic][i+1:] {
				wantCheck(t, topic, kid, next, i+1, api.OK)
			}
			for _, other := range nearest[topic][:i+1] {
				wantBoth(t, topic, other, next, api.ErrArg)
			}
			l = next
		}
	}
}

// P12.1: no paths, and as many as may be, without a node in them.
func TestWholeOfNothing(t *testing.T) {
	wantWhole(t, nil, true)
	wantWhole(t, [][]int{}, true)
	for n := range 20 {
		paths := make([][]int, n)
		wantWhole(t, paths, n <= mostNodes)
		for i := range paths {
			paths[i] = []int{}
		}
		wantWhole(t, paths, n <= mostNodes)
	}
	wantWhole(t, make([][]int, 1<<16), false)
}

// P12.1: of 1, MaxNodes and one more paths that are in a row.
func TestWholeOfARow(t *testing.T) {
	for n := 1; n <= mostNodes+1; n++ {
		up, down := make([][]int, n), make([][]int, n)
		for i := range n - 1 {
			down[i+1], up[i] = []int{i}, []int{min(i+1, mostNodes-1)}
		}
		wantWhole(t, down, n <= mostNodes)
		wantWhole(t, up, n <= mostNodes)
	}
	wantWhole(t, [][]int{{7}}, true)
	wantWhole(t, [][]int{{0}}, false)
	// All nodes one behind the other in the order of a topic, the way that is as long as may be.
	for topic := range mostTopics {
		paths := make([][]int, mostNodes)
		for i, n := range nearest[topic][1:] {
			paths[n] = []int{nearest[topic][i]}
		}
		wantWhole(t, paths, true)
		paths[nearest[topic][0]] = []int{nearest[topic][mostNodes-1]}
		wantWhole(t, paths, false)
	}
}

// P12.1: whatever number is the topic's, it is not asked.
func TestWholeDoesNotAskTheTopic(t *testing.T) {
	for _, topic := range append([]int{0, 1, 2, 3}, noTopics...) {
		for _, c := range []struct {
			paths [][]int
			want  bool
		}{{nil, true}, {[][]int{{1}, {2}, nil}, true}, {[][]int{{1}, {2}, {0}}, false}, {[][]int{{8}}, false}, {make([][]int, 9), false}} {
			if got := Whole(topic, c.paths); got != c.want {
				t.Errorf("Whole(%d, %v) = %t, want %t", topic, c.paths, got, c.want)
			}
		}
	}
}

// P12.1: what is no node at any place of any path, also where nobody goes.
func TestWholeOfNumbersThatAreNone(t *testing.T) {
	for _, wrong := range noNodes {
		for n := 1; n <= mostNodes; n++ {
			for at := range n {
				paths := make([][]int, n)
				for _, l := range [][]int{{wrong}, {7, wrong}, {7, wrong, 0}, {7, 0, 1, wrong}, {wrong, 7}, append(make([]int, 100), wrong)} {
					paths[at] = l
					wantWhole(t, paths, false)
				}
			}
		}
	}
	// What is behind the parent is not gone to; it need but be nodes, as many as one likes.
	wantWhole(t, [][]int{{1, 0, 0, 1, 1}, nil}, true)
	wantWhole(t, [][]int{slices.Repeat([]int{1}, 1<<16), nil}, true)
	wantWhole(t, [][]int{{1, 8}, {0}}, false)
}

// P12.1: a parent that has no path of its own there has none.
func TestWholeOfParentsThatAreNotThere(t *testing.T) {
	for n := range mostNodes {
		for parent := range mostNodes {
			paths := make([][]int, n)
			for i := range paths {
				paths[i] = []int{parent}
			}
			wantWhole(t, paths, parent >= n)
		}
	}
}

// P12.1: rings of every length, at every place, alone and met from outside of them.
func TestWholeOfRings(t *testing.T) {
	for n := 1; n <= mostNodes; n++ {
		for first := 0; first+n <= mostNodes; first++ {
			paths := make([][]int, mostNodes)
			for i := range n {
				paths[first+i] = []int{first + (i+1)%n}
			}
			wantWhole(t, paths[:first+n], false)
			wantWhole(t, paths, false)
			for i := range paths {
				if len(paths[i]) == 0 {
					paths[i] = []int{first + i%n}
				}
			}
			wantWhole(t, paths, false)
			// Without any one of its own steps it is a row, and all are whole.
			for i := range n {
				cut := slices.Clone(paths)
				cut[first+i] = nil
				wantWhole(t, cut, true)
			}
		}
	}
}

// P12.1: the parents of up to five nodes, every way they can be: none, there, not there.
func TestWholeOfEachParents(t *testing.T) {
	for n := 1; n <= 5; n++ {
		ways := 1
		for range n {
			ways *= n + 2
		}
		for way := range ways {
			paths := make([][]int, n)
			for i, rest := 0, way; i < n; i, rest = i+1, rest/(n+2) {
				if parent := rest % (n + 2); parent <= n {
					paths[i] = []int{parent}
				}
			}
			if got, want := Whole(0, paths), wholes(paths); got != want {
				t.Fatalf("Whole of %v = %t, want %t", paths, got, want)
			}
		}
	}
}

// members answers, rising, the nodes whose bits are set.
func members(bits int) []int {
	var l []int
	for n := range mostNodes {
		if bits>>n&1 == 1 {
			l = append(l, n)
		}
	}
	return l
}

// P12.1, P12.2: the ways of all nodes of every set of live nodes: each is a right path, and all are whole.
func TestWaysAreWhole(t *testing.T) {
	for topic := range mostTopics {
		for bits := 1; bits < 1<<mostNodes; bits++ {
			paths := make([][]int, mostNodes)
			for _, n := range members(bits) {
				way, e := route.Way(topic, members(bits), n)
				if e != api.OK {
					t.Fatalf("Way(%d, %v, %d): %d", topic, members(bits), n, e)
				}
				paths[n] = way
				wantBoth(t, topic, n, way, api.OK)
			}
			wantWhole(t, paths, true)
		}
	}
}

// P12.2: T1: paths that are right, each for its own node, are whole, as many of them as there are.
func TestRightPathsAreWhole(t *testing.T) {
	r := rand.New(rand.NewSource(122))
	for topic := range mostTopics {
		for range 5000 {
			paths := make([][]int, r.Intn(mostNodes+1))
			for n := range paths {
				all := rightPaths(topic, n)
				paths[n] = all[r.Intn(len(all))]
				if e := Check(topic, n, paths[n], mostPath); e != api.OK {
					t.Fatalf("Check(%d, %d, %v): %d", topic, n, paths[n], e)
				}
			}
			if !Whole(topic, paths) {
				t.Fatalf("Whole(%d, %v)", topic, paths)
			}
		}
	}
}

// P12.2: every way that each node has a nearer one, or none, as its parent.
func TestNearerParentsAreWhole(t *testing.T) {
	for topic := range mostTopics {
		paths := make([][]int, mostNodes)
		var each func(i int)
		each = func(i int) {
			if i == mostNodes {
				if !Whole(topic, paths) {
					t.Fatalf("Whole(%d, %v)", topic, paths)
				}
				return
			}
			n := nearest[topic][i]
			for _, parent := range nearest[topic][:i] {
				paths[n] = []int{parent}
				each(i + 1)
			}
			paths[n] = nil
			each(i + 1)
		}
		each(0)
	}
}

// mixedPath answers nodes that mostly come nearer, now and then wrong ones.
func mixedPath(r *rand.Rand, topic int) []int {
	l := longest(max(0, min(topic, mostTopics-1)), r.Intn(mostNodes))
	for range r.Intn(6) {
		if len(l) > 0 {
			at := r.Intn(len(l))
			l = slices.Delete(l, at, at+1)
		}
	}
	for r.Intn(3) == 0 {
		l = slices.Insert(l, r.Intn(len(l)+1), r.Intn(mostNodes))
	}
	if r.Intn(20) == 0 {
		l = append(l, make([]int, r.Intn(10))...)
	}
	if r.Intn(20) == 0 {
		l = slices.Insert(l, r.Intn(len(l)+1), noNodes[r.Intn(len(noNodes))])
	}
	return l
}

// P12.1, R3, R4: a great many calls of all sorts, held against the test's own reckoning.
func TestMixedCalls(t *testing.T) {
	r := rand.New(rand.NewSource(12))
	told, whole := map[api.Errno]int{}, map[bool]int{}
	for range 100000 {
		topic, self, depth := r.Intn(mostTopics), r.Intn(mostNodes), 1+r.Intn(mostPath)
		if r.Intn(10) == 0 {
			topic, self, depth = r.Intn(mostTopics+2)-1, r.Intn(mostNodes+2)-1, r.Intn(mostPath+2)
		}
		l := mixedPath(r, topic)
		e := checked(topic, self, l, depth)
		told[e]++
		wantCheck(t, topic, self, l, depth, e)
		want, e := added(topic, self, l)
		wantAdd(t, topic, self, l, want, e)
		paths := make([][]int, r.Intn(mostNodes+2))
		for i := range paths {
			if r.Intn(3) > 0 {
				paths[i] = mixedPath(r, topic)
			}
		}
		whole[wholes(paths)]++
		if got, want := Whole(topic, paths), wholes(paths); got != want {
			t.Fatalf("Whole(%d, %v) = %t, want %t", topic, paths, got, want)
		}
	}
	for _, e := range []api.Errno{api.OK, api.ErrArg, api.ErrDepth} {
		if told[e] < 5000 {
			t.Errorf("error %d was told %d times", e, told[e])
		}
	}
	if whole[true] < 5000 || whole[false] < 5000 {
		t.Errorf("whole or not: %v", whole)
	}
}

// roomy answers l with others behind in its spare room: some that would be right, and a wrong one.
func roomy(l []int) []int { return append(slices.Clone(l), 1, -1, 2)[:len(l)] }

// everything answers a copy of all that lies in the memory of l, its spare room too.
func everything(l []int) []int { return slices.Clone(l[:cap(l)]) }

// fill overwrites all that lies in the memory of l.
func fill(l []int, x int) {
	l = l[:cap(l)]
	for i := range l {
		l[i] = x
	}
}

// R2, R6: a path stays as it was, its spare room too, which is not read; what Add answers shares no memory with it, nor with another answer.
func TestAddAnswersNewMemory(t *testing.T) {
	eachTopicAndNode(func(topic, self int) {
		wrong := [][]int{{self}, {8}, make([]int, mostPath), make([]int, mostPath+1)}
		for _, right := range append(rightPaths(topic, self), wrong...) {
			l := roomy(right)
			before := everything(l)
			wantCheck(t, topic, self, l, 3, checked(topic, self, right, 3))
			first, _ := Add(topic, self, l)
			second, _ := Add(topic, self, l)
			for _, x := range second[len(second):cap(second)] {
				if x != 0 {
					t.Errorf("Add(%d, %d, %v): %d lies behind what is answered", topic, self, right, x)
				}
			}
			fill(first, -7)
			if !slices.Equal(everything(l), before) {
				t.Errorf("Add(%d, %d, %v): what is handed in is changed, or shared", topic, self, right)
			}
			fill(l, -9)
			if want, _ := added(topic, self, right); !slices.Equal(second, want) {
				t.Errorf("Add(%d, %d, %v): %v, want %v: an answer shares memory", topic, self, right, second, want)
			}
		}
	})
}

// R2, R6: Whole leaves the paths as they were, their spare room too, and reads none of it.
func TestWholeLeavesPathsAlone(t *testing.T) {
	for _, c := range [][][]int{{nil, nil, nil}, {{1}, {2}, nil}, {{1}, {2}, {0}}, {{1, 8}, nil}, {{7}}, make([][]int, 9)} {
		paths := make([][]int, len(c), len(c)+2)
		for i := range c {
			paths[i] = roomy(c[i])
		}
		spare := append(paths, []int{8}, []int{len(c)})[:cap(paths)]
		var before [][]int
		for _, l := range spare {
			before = append(before, everything(l))
		}
		wantWhole(t, paths, wholes(c))
		for i, l := range spare {
			if !slices.Equal(everything(l), before[i]) {
				t.Errorf("Whole of %v: path %d is changed to %v", c, i, l)
			}
		}
	}
}

// R3: a call hangs on its arguments alone, whatever was called, or refused, ahead of it.
func TestNothingIsKept(t *testing.T) {
	for range 3 {
		wantCheck(t, 0, 5, []int{6, 2, 1}, 2, api.ErrDepth)
		wantCheck(t, 0, 5, []int{6, 2, 1}, 3, api.OK)
		wantCheck(t, 0, 5, []int{6, 6, 1}, 3, api.ErrArg)
		wantCheck(t, 2, 4, []int{6, 2}, 2, api.OK)
		wantAdd(t, 0, 3, []int{7, 0}, nil, api.ErrArg)
		wantAdd(t, 0, 3, []int{0, 7}, []int{3, 0, 7}, api.OK)
		wantAdd(t, 0, 5, make([]int, 9), nil, api.ErrDepth)
		wantWhole(t, [][]int{{1}, {0}}, false)
		wantWhole(t, [][]int{{1}, nil}, true)
	}
}
