package kids

import (
	"math"
	"math/rand"
	"slices"
	"testing"

	"bellwether/api"
)

// The limits of the document, written out anew.
const (
	mostNodes  = 8
	mostTopics = 4
	mostCap    = 4
	mostInc    = 1 << 30
	mostAge    = 6
)

// nearest are the nodes by topic, the nearest one first: those that stand behind the topic's key, in turn.
var nearest = [mostTopics][]int{
	{1, 7, 0, 3, 4, 2, 6, 5},
	{1, 7, 0, 3, 4, 2, 6, 5},
	{2, 6, 5, 1, 7, 0, 3, 4},
	{2, 6, 5, 1, 7, 0, 3, 4},
}

// farOff are numbers that are no node's, no topic's, no cap, no incarnation, no age.
var farOff = []int{
	-2, -3, -8, -256, -1 << 32, -1 << 62, math.MinInt, math.MinInt + 1,
	mostInc + 1, mostInc + 2, 1 << 31, 1 << 32, 1<<32 + 1, 1<<32 + 2, 1 << 62, math.MaxInt - 1, math.MaxInt,
}

// Numbers just outside, and far off.
var (
	noNodes  = append([]int{-1, mostNodes, 9, 16, '0', 'n', 255, 256, mostInc}, farOff...)
	noTopics = append([]int{-1, mostTopics, 5, 8, 16, '0', 't', 255, 256, mostInc}, farOff...)
	noCaps   = append([]int{-1, 0, mostCap + 1, 6, 8, 16, 255, 256, 257, mostInc}, farOff...)
	noIncs   = append([]int{-1, 0}, farOff...)
	noAges   = append([]int{-1, mostAge + 1, 8, 16, 255, 256, 257, 1000, mostInc}, farOff...)
)

// Numbers just inside, and some between.
var (
	rightIncs = []int{1, 2, 3, 255, 256, 1 << 16, mostInc - 1, mostInc}
	rightAges = []int{0, 1, 2, 3, 4, 5, 6}
)

// rank answers how many nodes are nearer to the topic than n.
func rank(topic, n int) int { return slices.Index(nearest[topic], n) }

// isNode answers by the test's own rules whether n is a node's number.
func isNode(n int) bool { return slices.Contains(nearest[0], n) }

// isIncarnation answers by the test's own rules whether n may be one.
func isIncarnation(n int) bool { return n >= 1 && n <= mostInc }

// eachTopicAndNode calls f for every topic with every node.
func eachTopicAndNode(f func(topic, self int)) {
	for topic := range mostTopics {
		for self := range mostNodes {
			f(topic, self)
		}
	}
}

// eachPlace calls f for every topic, node and cap.
func eachPlace(f func(topic, self, limit int)) {
	eachTopicAndNode(func(topic, self int) {
		for limit := 1; limit <= mostCap; limit++ {
			f(topic, self, limit)
		}
	})
}

// kid answers a right child, unlike in each field for each node.
func kid(n int) api.Kid { return api.Kid{Node: n, Inc: 20 + 3*n, Age: (n*3 + 2) % (mostAge + 1)} }

// kidsOf answers children of these nodes, in that order.
func kidsOf(nodes ...int) []api.Kid {
	var l []api.Kid
	for _, n := range nodes {
		l = append(l, kid(n))
	}
	return l
}

// rightKids answers all right children of self, of each set of nodes of at most limit, each with a number of its own.
func rightKids(topic, self, limit int) [][]api.Kid {
	var all [][]api.Kid
	further := nearest[topic][rank(topic, self)+1:]
	for bits := range 1 << len(further) {
		var l []api.Kid
		for i, n := range further {
			if bits>>i&1 == 1 {
				l = append(l, kid(n))
			}
		}
		if len(l) <= limit {
			all = append(all, l)
		}
	}
	return all
}

// instead answers a copy of l with k at a place, in another's stead.
func instead(l []api.Kid, at int, k api.Kid) []api.Kid {
	out := slices.Clone(l)
	out[at] = k
	return out
}

// checked answers by the test's own rules what Check should: it holds l against itself, sorted by rank.
func checked(topic, self, limit int, l []api.Kid) api.Errno {
	if slices.Contains(noTopics, topic) || !isNode(self) || slices.Contains(noCaps, limit) || len(l) > limit {
		return api.ErrArg
	}
	ranks := []int{rank(topic, self)}
	for _, k := range l {
		if !isNode(k.Node) || !isIncarnation(k.Inc) || !slices.Contains(rightAges, k.Age) {
			return api.ErrArg
		}
		ranks = append(ranks, rank(topic, k.Node))
	}
	if !slices.IsSorted(ranks) || len(slices.Compact(ranks)) != len(l)+1 {
		return api.ErrArg
	}
	return api.OK
}

// asked is what Ask answers.
type asked struct {
	l       []api.Kid
	who, to int
	e       api.Errno
}

func sameAsked(a, b asked) bool {
	return slices.Equal(a.l, b.l) && a.who == b.who && a.to == b.to && a.e == b.e
}

// ask answers what Ask does.
func ask(topic, self, limit int, l []api.Kid, n, inc int) asked {
	out, who, to, e := Ask(topic, self, limit, l, n, inc)
	return asked{out, who, to, e}
}

// reckoned answers by the test's own rules what Ask should: it puts n among the children by rank; if they are too many then, the last one goes for a new first one, any other new one goes itself.
func reckoned(topic, self, limit int, l []api.Kid, n, inc int) asked {
	if e := checked(topic, self, limit, l); e != api.OK {
		return asked{e: e}
	}
	if !isNode(n) || rank(topic, n) <= rank(topic, self) || !isIncarnation(inc) {
		return asked{e: api.ErrArg}
	}
	places := map[int]api.Kid{}
	for _, k := range l {
		places[rank(topic, k.Node)] = k
	}
	places[rank(topic, n)] = api.Kid{Node: n, Inc: inc}
	var all []api.Kid
	for i := range mostNodes {
		if k, there := places[i]; there {
			all = append(all, k)
		}
	}
	if len(all) <= limit {
		return asked{l: all}
	}
	if all[0].Node == n {
		return asked{l: all[:limit], who: all[limit].Node + 1, to: n + 1}
	}
	return asked{l: l, who: n + 1, to: all[0].Node + 1}
}

func wantCheck(t *testing.T, topic, self, limit int, l []api.Kid, want api.Errno) {
	t.Helper()
	if e := Check(topic, self, limit, l); e != want {
		t.Errorf("Check(%d, %d, %d, %v) = %d, want %d", topic, self, limit, l, e, want)
	}
}

func wantAsk(t *testing.T, topic, self, limit int, l []api.Kid, n, inc int, want asked) {
	t.Helper()
	if got := ask(topic, self, limit, l, n, inc); !sameAsked(got, want) {
		t.Errorf("Ask(%d, %d, %d, %v, %d, %d) = %v, want %v", topic, self, limit, l, n, inc, got, want)
	}
}

func wantOlder(t *testing.T, topic, self, limit int, l []api.Kid, want []api.Kid, wantErr api.Errno) {
	t.Helper()
	if got, e := Older(topic, self, limit, l); !slices.Equal(got, want) || e != wantErr {
		t.Errorf("Older(%d, %d, %d, %v) = %v, %d, want %v, %d", topic, self, limit, l, got, e, want, wantErr)
	}
}

func wantDrop(t *testing.T, l []api.Kid, n int, want []api.Kid) {
	t.Helper()
	if got := Drop(l, n); !slices.Equal(got, want) {
		t.Errorf("Drop(%v, %d) = %v, want %v", l, n, got, want)
	}
	// Who is there is who would be dropped.
	if got, there := Has(l, n), len(want) < len(l); got != there {
		t.Errorf("Has(%v, %d) = %t, want %t", l, n, got, there)
	}
}

// wantRefused wants that Check refuses these children, and Ask and Older with it, whoever asks.
func wantRefused(t *testing.T, topic, self, limit int, l []api.Kid) {
	t.Helper()
	wantCheck(t, topic, self, limit, l, api.ErrArg)
	wantOlder(t, topic, self, limit, l, nil, api.ErrArg)
	for _, n := range []int{-1, 0, 4, 5, mostNodes} {
		wantAsk(t, topic, self, limit, l, n, 1, asked{e: api.ErrArg})
	}
	wantAsk(t, topic, self, limit, l, 5, 0, asked{e: api.ErrArg})
}

// P13.1: no children are right, for every topic, node and cap.
func TestNoKids(t *testing.T) {
	eachPlace(func(topic, self, limit int) {
		for _, l := range [][]api.Kid{nil, {}, kidsOf(self, -1)[:0]} {
			wantCheck(t, topic, self, limit, l, api.OK)
			wantOlder(t, topic, self, limit, l, nil, api.OK)
		}
	})
}

// P13.1: topics, nodes and caps just outside and far off, with and without children.
func TestNumbersThatAreNone(t *testing.T) {
	for _, l := range [][]api.Kid{nil, {}, kidsOf(4), kidsOf(3), kidsOf(0, 4), kidsOf(5)} {
		for _, topic := range noTopics {
			for self := range mostNodes {
				wantRefused(t, topic, self, 1, l)
				wantRefused(t, topic, self, mostCap, l)
			}
		}
		for _, self := range noNodes {
			for topic := range mostTopics {
				wantRefused(t, topic, self, 1, l)
				wantRefused(t, topic, self, mostCap, l)
			}
			wantRefused(t, self, self, mostCap, l)
		}
		for _, limit := range noCaps {
			eachTopicAndNode(func(topic, self int) { wantRefused(t, topic, self, limit, l) })
		}
	}
}

// P13.1: each set of nodes that are further off is right, up to the cap and no further.
func TestEachSetOfKids(t *testing.T) {
	eachTopicAndNode(func(topic, self int) {
		for _, l := range rightKids(topic, self, mostNodes) {
			for limit := 1; limit <= mostCap; limit++ {
				want := api.OK
				if len(l) > limit {
					want = api.ErrArg
				}
				wantCheck(t, topic, self, limit, l, want)
			}
		}
	})
}

// P13.1: as many as the cap, one more, and many more.
func TestHowMany(t *testing.T) {
	for topic := range mostTopics {
		self := nearest[topic][0]
		for limit := 1; limit <= mostCap; limit++ {
			further := kidsOf(nearest[topic][1:]...)
			wantCheck(t, topic, self, limit, further[:limit-1], api.OK)
			wantCheck(t, topic, self, limit, further[:limit], api.OK)
			wantCheck(t, topic, self, limit, further[len(further)-limit:], api.OK)
			for more := limit + 1; more <= len(further); more++ {
				wantRefused(t, topic, self, limit, further[:more])
			}
			for _, more := range []int{8, 9, 100, 256, 257, 1 << 16} {
				wantRefused(t, topic, self, limit, slices.Repeat(further[:1], more))
				wantRefused(t, topic, self, limit, make([]api.Kid, more))
			}
		}
	}
}

// P13.1: each number of a child just inside and outside, at each place of as many as the cap.
func TestNumbersOfAKid(t *testing.T) {
	for topic := range mostTopics {
		self := nearest[topic][1]
		for limit := 1; limit <= mostCap; limit++ {
			l := kidsOf(nearest[topic][3 : 3+limit]...)
			for at, k := range l {
				for _, inc := range rightIncs {
					for _, age := range rightAges {
						wantCheck(t, topic, self, limit, instead(l, at, api.Kid{Node: k.Node, Inc: inc, Age: age}), api.OK)
					}
				}
				for _, n := range noNodes {
					wantRefused(t, topic, self, limit, instead(l, at, api.Kid{Node: n, Inc: k.Inc, Age: k.Age}))
				}
				for _, inc := range noIncs {
					wantRefused(t, topic, self, limit, instead(l, at, api.Kid{Node: k.Node, Inc: inc, Age: k.Age}))
					wantRefused(t, topic, self, limit, instead(l, at, api.Kid{Node: k.Node, Inc: inc}))
				}
				for _, age := range noAges {
					wantRefused(t, topic, self, limit, instead(l, at, api.Kid{Node: k.Node, Inc: k.Inc, Age: age}))
				}
			}
		}
	}
}

// P13.1: every one, two and three nodes, for each topic, self and cap: further off and not, the same twice, self itself, the further one first.
func TestEachFewKids(t *testing.T) {
	var each func(topic, self int, l []api.Kid)
	each = func(topic, self int, l []api.Kid) {
		for limit := 1; limit <= mostCap; limit++ {
			wantCheck(t, topic, self, limit, l, checked(topic, self, limit, l))
		}
		for n := -1; n <= mostNodes && len(l) < 3; n++ {
			each(topic, self, append(slices.Clone(l), api.Kid{Node: n, Inc: 1}))
		}
	}
	eachTopicAndNode(func(topic, self int) { each(topic, self, nil) })
}

// P13.1: the edges of that, one by one: node 3 of topic 0 has 4, 2, 6 and 5 behind it.
func TestKidsInOrder(t *testing.T) {
	for _, c := range []struct {
		nodes []int
		want  api.Errno
	}{
		{[]int{4}, api.OK},
		{[]int{5}, api.OK},
		{[]int{4, 2, 6, 5}, api.OK},
		{[]int{4, 5}, api.OK},
		{[]int{3}, api.ErrArg},
		{[]int{0}, api.ErrArg},
		{[]int{1}, api.ErrArg},
		{[]int{3, 4}, api.ErrArg},
		{[]int{0, 4}, api.ErrArg},
		{[]int{4, 3}, api.ErrArg},
		{[]int{4, 0}, api.ErrArg},
		{[]int{4, 4}, api.ErrArg},
		{[]int{4, 2, 2}, api.ErrArg},
		{[]int{2, 4}, api.ErrArg},
		{[]int{4, 6, 2}, api.ErrArg},
		{[]int{4, 2, 5, 6}, api.ErrArg},
		{[]int{4, 2, 6, 4}, api.ErrArg},
	} {
		wantCheck(t, 0, 3, mostCap, kidsOf(c.nodes...), c.want)
		wantCheck(t, 1, 3, mostCap, kidsOf(c.nodes...), c.want)
	}
}

// P13.1: each node that asks of each set of children, for each topic, self and cap, against the test's own reckoning.
func TestAskOfEachSet(t *testing.T) {
	eachPlace(func(topic, self, limit int) {
		for _, l := range rightKids(topic, self, limit) {
			for n := -1; n <= mostNodes; n++ {
				wantAsk(t, topic, self, limit, l, n, 9, reckoned(topic, self, limit, l, n, 9))
			}
		}
	})
}

// P13.1: who is there already, at each place, of each age, with a lesser, the same and a greater incarnation: full or not, nobody is sent on.
func TestAskAgain(t *testing.T) {
	for topic := range mostTopics {
		self := nearest[topic][2]
		for n := 1; n <= mostCap; n++ {
			for at := range n {
				for _, known := range []int{1, 2, 3, 1000, mostInc - 1, mostInc} {
					for _, age := range rightAges {
						l := kidsOf(nearest[topic][3 : 3+n]...)
						l[at].Inc, l[at].Age = known, age
						for _, inc := range []int{1, known - 1, known, known + 1, mostInc} {
							want := asked{l: instead(l, at, api.Kid{Node: l[at].Node, Inc: inc, Age: 0})}
							if inc < 1 || inc > mostInc {
								want = asked{e: api.ErrArg}
							}
							for limit := n; limit <= mostCap; limit++ {
								wantAsk(t, topic, self, limit, l, l[at].Node, inc, want)
							}
						}
					}
				}
			}
		}
	}
}

// P13.1: where there is room: ahead of all, between them, behind all; the others stay as they are.
func TestAskWithRoom(t *testing.T) {
	// Of topic 0 the nearest one first: 1 7 0 3 4 2 6 5.
	for _, c := range []struct {
		limit int
		nodes []int
		n     int
		want  []int
	}{
		{1, nil, 7, []int{7}},
		{4, nil, 5, []int{5}},
		{2, []int{3}, 7, []int{7, 3}},
		{2, []int{3}, 5, []int{3, 5}},
		{3, []int{3, 6}, 0, []int{0, 3, 6}},
		{3, []int{3, 6}, 4, []int{3, 4, 6}},
		{3, []int{3, 6}, 2, []int{3, 2, 6}},
		{3, []int{3, 6}, 5, []int{3, 6, 5}},
		{4, []int{0, 4, 6}, 7, []int{7, 0, 4, 6}},
		{4, []int{0, 4, 6}, 3, []int{0, 3, 4, 6}},
		{4, []int{0, 4, 6}, 2, []int{0, 4, 2, 6}},
		{4, []int{0, 4, 6}, 5, []int{0, 4, 6, 5}},
	} {
		for _, inc := range rightIncs {
			want := kidsOf(c.want...)
			want[slices.Index(c.want, c.n)] = api.Kid{Node: c.n, Inc: inc}
			wantAsk(t, 0, 1, c.limit, kidsOf(c.nodes...), c.n, inc, asked{l: want})
			wantAsk(t, 1, 1, c.limit, kidsOf(c.nodes...), c.n, inc, asked{l: want})
		}
	}
}

// P13.1: where there is no room: a nearer one takes the place of the last one, who is sent to it; any other one is sent to the first one.
func TestAskWithoutRoom(t *testing.T) {
	for _, c := range []struct {
		nodes   []int
		n       int
		want    []int
		who, to int
	}{
		{[]int{0}, 7, []int{7}, 0, 7}, // the chapter's example
		{[]int{0}, 3, []int{0}, 3, 0},
		{[]int{0}, 5, []int{0}, 5, 0},
		{[]int{3, 6}, 7, []int{7, 3}, 6, 7},
		{[]int{3, 6}, 0, []int{0, 3}, 6, 0},
		{[]int{3, 6}, 4, []int{3, 6}, 4, 3},
		{[]int{3, 6}, 5, []int{3, 6}, 5, 3},
		{[]int{0, 3, 2}, 7, []int{7, 0, 3}, 2, 7},
		{[]int{0, 3, 2}, 4, []int{0, 3, 2}, 4, 0},
		{[]int{0, 3, 2}, 6, []int{0, 3, 2}, 6, 0},
		{[]int{0, 3, 2, 5}, 7, []int{7, 0, 3, 2}, 5, 7},
		{[]int{0, 3, 2, 5}, 4, []int{0, 3, 2, 5}, 4, 0},
		{[]int{0, 3, 2, 5}, 6, []int{0, 3, 2, 5}, 6, 0},
		{[]int{4, 2, 6, 5}, 3, []int{3, 4, 2, 6}, 5, 3},
		{[]int{7, 0, 3, 4}, 2, []int{7, 0, 3, 4}, 2, 7},
	} {
		for _, inc := range rightIncs {
			want := kidsOf(c.want...)
			if at := slices.Index(c.want, c.n); at >= 0 {
				want[at] = api.Kid{Node: c.n, Inc: inc}
			}
			wantAsk(t, 0, 1, len(c.nodes), kidsOf(c.nodes...), c.n, inc, asked{want, c.who + 1, c.to + 1, api.OK})
		}
	}
}

// P13.1: who is none, is self, is nearer than self, and incarnations that may not be: there already or not, with room and without.
func TestAskRefuses(t *testing.T) {
	eachPlace(func(topic, self, limit int) {
		further := nearest[topic][rank(topic, self)+1:]
		lists := [][]api.Kid{nil, kidsOf(further[:min(limit, len(further))]...), kidsOf(further[max(0, len(further)-limit):]...)}
		if len(further) > 0 {
			lists = append(lists, kidsOf(further[0]))
		}
		for _, l := range lists {
			for _, n := range append(slices.Clone(noNodes), nearest[topic][:rank(topic, self)+1]...) {
				for _, inc := range []int{0, 1, mostInc, mostInc + 1} {
					wantAsk(t, topic, self, limit, l, n, inc, asked{e: api.ErrArg})
				}
			}
			for _, n := range further {
				for _, inc := range noIncs {
					wantAsk(t, topic, self, limit, l, n, inc, asked{e: api.ErrArg})
				}
			}
		}
	})
}

// P13.1: each age from 0 to KidFor, at each place: one more, and who would be older than KidFor is left out.
func TestOlderOfEachAge(t *testing.T) {
	for topic := range mostTopics {
		self := nearest[topic][0]
		for n := 1; n <= mostCap; n++ {
			for at := range n {
				for _, age := range rightAges {
					var want []api.Kid
					l := kidsOf(nearest[topic][2 : 2+n]...)
					for i := range l {
						l[i].Age = i % mostAge
						if i == at {
							l[i].Age = age
						}
						if l[i].Age < 6 {
							want = append(want, api.Kid{Node: l[i].Node, Inc: l[i].Inc, Age: l[i].Age + 1})
						}
					}
					for limit := n; limit <= mostCap; limit++ {
						wantOlder(t, topic, self, limit, l, want, api.OK)
					}
				}
			}
		}
	}
}

// P13.1: each way that the ages of four can be.
func TestOlderOfEachAges(t *testing.T) {
	for way := range 7 * 7 * 7 * 7 {
		l := kidsOf(0, 3, 2, 5)
		var want []api.Kid
		for i, rest := 0, way; i < len(l); i, rest = i+1, rest/7 {
			l[i].Age = rest % 7
			if older := rest%7 + 1; older <= 6 {
				want = append(want, api.Kid{Node: l[i].Node, Inc: l[i].Inc, Age: older})
			}
		}
		wantOlder(t, 0, 1, 4, l, want, api.OK)
	}
}

// P13.1: again and again, till nobody is left, and beyond: who asks stays for KidFor ticks.
func TestOlderTillNobodyIsLeft(t *testing.T) {
	l := []api.Kid{{Node: 0, Inc: 3, Age: 6}, {Node: 3, Inc: 4, Age: 0}, {Node: 2, Inc: 5, Age: 3}, {Node: 5, Inc: mostInc, Age: 4}}
	for tick := 1; tick <= 20; tick++ {
		next, e := Older(0, 1, 4, l)
		if e != api.OK {
			t.Fatalf("Older of %v: %d", l, e)
		}
		var want []api.Kid
		for _, k := range []api.Kid{{Node: 3, Inc: 4}, {Node: 2, Inc: 5, Age: 3}, {Node: 5, Inc: mostInc, Age: 4}} {
			if k.Age += tick; k.Age <= mostAge {
				want = append(want, k)
			}
		}
		if !slices.Equal(next, want) {
			t.Fatalf("after %d ticks: %v, want %v", tick, next, want)
		}
		l = next
	}
	wantOlder(t, 0, 1, 4, []api.Kid{{Node: 0, Inc: 1, Age: 6}, {Node: 4, Inc: 1, Age: 6}, {Node: 2, Inc: 1, Age: 6}, {Node: 5, Inc: 1, Age: 6}}, nil, api.OK)
}

// P13.1: of children that are right: one that is there, and others that are not.
func TestDropAndHasOfRightKids(t *testing.T) {
	for topic := range mostTopics {
		for _, l := range rightKids(topic, nearest[topic][0], mostCap) {
			for _, n := range append([]int{0, 1, 2, 3, 4, 5, 6, 7}, noNodes...) {
				var want []api.Kid
				for _, k := range l {
					if k.Node != n {
						want = append(want, k)
					}
				}
				wantDrop(t, l, n, want)
			}
		}
	}
}

// P13.1: of any others: numbers that are no node's, the same twice, in no order, and of whatever incarnation and age.
func TestDropAndHasOfAny(t *testing.T) {
	odd := func(n, i int) api.Kid { return api.Kid{Node: n, Inc: -i, Age: 1000 + i} }
	wantDrop(t, nil, 0, nil)
	wantDrop(t, []api.Kid{}, 0, nil)
	wantDrop(t, []api.Kid{{}}, 0, nil)
	wantDrop(t, []api.Kid{{}}, 1, []api.Kid{{}})
	for _, n := range append([]int{0, 3, 7}, noNodes...) {
		wantDrop(t, []api.Kid{odd(n, 1)}, n, nil)
		wantDrop(t, []api.Kid{odd(n, 1), odd(n, 2), odd(n, 3)}, n, nil)
		wantDrop(t, []api.Kid{odd(n, 1), odd(5, 2), odd(n, 3)}, n, []api.Kid{odd(5, 2)})
		wantDrop(t, []api.Kid{odd(5, 1), odd(n, 2), odd(n, 3), odd(5, 4), odd(-5, 5), odd(n, 6), odd(4, 7)}, n, []api.Kid{odd(5, 1), odd(5, 4), odd(-5, 5), odd(4, 7)})
		wantDrop(t, []api.Kid{odd(n, 1), odd(5, 2)}, 5, []api.Kid{odd(n, 1)})
		wantDrop(t, []api.Kid{odd(n, 1), odd(5, 2)}, 6, []api.Kid{odd(n, 1), odd(5, 2)})
		wantDrop(t, slices.Repeat([]api.Kid{odd(n, 1), odd(1, 2)}, 1<<15), n, slices.Repeat([]api.Kid{odd(1, 2)}, 1<<15))
	}
	// The number is the node's alone, not the incarnation's, not the age's.
	wantDrop(t, []api.Kid{{Node: 1, Inc: 2, Age: 3}}, 2, []api.Kid{{Node: 1, Inc: 2, Age: 3}})
	wantDrop(t, []api.Kid{{Node: 1, Inc: 2, Age: 3}}, 3, []api.Kid{{Node: 1, Inc: 2, Age: 3}})
	wantDrop(t, []api.Kid{{Node: 1 << 32, Inc: 2}, {Node: 1<<32 + 1}}, 1, []api.Kid{{Node: 1 << 32, Inc: 2}, {Node: 1<<32 + 1}})
}

// wantGood wants what P13.2 tells of an answer: right, no more than the cap, and who is sent on goes to a nearer one, who is a child.
func wantGood(t *testing.T, topic, self, limit int, before []api.Kid, n int, got asked) {
	t.Helper()
	wantCheck(t, topic, self, limit, got.l, api.OK)
	if got.e != api.OK || len(got.l) > limit || (got.who == 0) != (got.to == 0) {
		t.Fatalf("Ask(%d, %d, %d, %v, %d): %v", topic, self, limit, before, n, got)
	}
	if got.who == 0 {
		if !Has(got.l, n) {
			t.Fatalf("Ask(%d, %d, %d, %v, %d): %v: neither taken nor sent on", topic, self, limit, before, n, got)
		}
		return
	}
	who, to := got.who-1, got.to-1
	if rank(topic, to) >= rank(topic, who) || rank(topic, to) <= rank(topic, self) || Has(got.l, who) || !Has(got.l, to) {
		t.Fatalf("Ask(%d, %d, %d, %v, %d): %v: sent on to one who is not nearer, or no child", topic, self, limit, before, n, got)
	}
	// Nobody is lost: each one was there, or asks, and is there, or is sent on.
	for _, k := range append(kidsOf(n), before...) {
		if k.Node != who && !Has(got.l, k.Node) {
			t.Fatalf("Ask(%d, %d, %d, %v, %d): %v: one is lost", topic, self, limit, before, n, got)
		}
	}
}

// P13.2: T6: however many ask, in each order that they can, there are never more than the cap.
func TestAskInEachOrder(t *testing.T) {
	for topic := range mostTopics {
		self := nearest[topic][2]
		for limit := 1; limit <= mostCap; limit++ {
			var each func(l []api.Kid, left []int)
			each = func(l []api.Kid, left []int) {
				for i, n := range left {
					got := ask(topic, self, limit, l, n, 1+n)
					wantGood(t, topic, self, limit, l, n, got)
					each(got.l, slices.Delete(slices.Clone(left), i, i+1))
				}
				// Who is nearer than all is always taken: once all have asked, the nearest one is there, with as many as may be.
				if len(left) == 0 && (len(l) != limit || l[0].Node != nearest[topic][3]) {
					t.Fatalf("of topic %d, self %d, cap %d: %v", topic, self, limit, l)
				}
			}
			each(nil, nearest[topic][3:])
		}
	}
}

// P13.2: who asks where it is sent, and whoever is sent on then, again and again: one is taken in the end, also where each node has as many as it may.
func TestSentOnEnds(t *testing.T) {
	r := rand.New(rand.NewSource(131))
	for range 3000 {
		topic, limit := r.Intn(mostTopics), 1+r.Intn(mostCap)
		all := make([][]api.Kid, mostNodes)
		for self := range all {
			sets := rightKids(topic, self, limit)
			all[self] = sets[r.Intn(len(sets))]
		}
		who, to := nearest[topic][mostNodes-1], nearest[topic][0]
		// Who is asked next is a child of the one that was asked last, and so further off.
		for steps := 0; ; steps++ {
			got := ask(topic, to, limit, all[to], who, 1)
			wantGood(t, topic, to, limit, all[to], who, got)
			all[to] = got.l
			if got.who == 0 {
				break
			}
			if who, to = got.who-1, got.to-1; steps > mostNodes {
				t.Fatalf("topic %d, cap %d: node %d is sent on and on", topic, limit, who)
			}
		}
	}
}

// mixedKids answers children that are right, or nearly.
func mixedKids(r *rand.Rand, topic, self, limit int) []api.Kid {
	sets := rightKids(topic, self, limit+r.Intn(2))
	l := slices.Clone(sets[r.Intn(len(sets))])
	for i := range l {
		l[i].Inc, l[i].Age = rightIncs[r.Intn(len(rightIncs))], r.Intn(mostAge+1)
	}
	if len(l) == 0 || r.Intn(4) > 0 {
		return l
	}
	at, other := r.Intn(len(l)), r.Intn(len(l))
	switch r.Intn(5) {
	case 0:
		l[at].Node = r.Intn(mostNodes+2) - 1
	case 1:
		l[at].Inc = noIncs[r.Intn(len(noIncs))]
	case 2:
		l[at].Age = noAges[r.Intn(len(noAges))]
	case 3:
		l[at], l[other] = l[other], l[at]
	case 4:
		l = slices.Insert(l, at, l[other])
	}
	return l
}

// P13.1, P13.2: mixed calls, each held against the test's own reckoning.
func TestMixedCalls(t *testing.T) {
	r := rand.New(rand.NewSource(130))
	right := 0
	for range 60000 {
		topic, self, limit := r.Intn(mostTopics), r.Intn(mostNodes), 1+r.Intn(mostCap)
		l, n, inc := mixedKids(r, topic, self, limit), r.Intn(mostNodes+2)-1, rightIncs[r.Intn(len(rightIncs))]
		if r.Intn(20) == 0 {
			inc = noIncs[r.Intn(len(noIncs))]
		}
		e := checked(topic, self, limit, l)
		wantCheck(t, topic, self, limit, l, e)
		wantAsk(t, topic, self, limit, l, n, inc, reckoned(topic, self, limit, l, n, inc))
		var older []api.Kid
		for _, k := range l {
			if e == api.OK && k.Age < mostAge {
				older = append(older, api.Kid{Node: k.Node, Inc: k.Inc, Age: k.Age + 1})
			}
		}
		wantOlder(t, topic, self, limit, l, older, e)
		if got := ask(topic, self, limit, l, n, inc); got.e == api.OK {
			wantGood(t, topic, self, limit, l, n, got)
			right++
		}
	}
	if right < 5000 {
		t.Errorf("only %d of the calls were right", right)
	}
}

// roomy answers l with children behind in its spare room: right ones and a wrong one.
func roomy(l []api.Kid) []api.Kid {
	return append(slices.Clone(l), kid(6), api.Kid{Node: -3, Inc: -3, Age: -3}, kid(5))[:len(l)]
}

// everything answers a copy of all that lies in the memory of l, its spare room too.
func everything(l []api.Kid) []api.Kid { return slices.Clone(l[:cap(l)]) }

// fill overwrites all that lies in the memory of l.
func fill(l []api.Kid, k api.Kid) {
	l = l[:cap(l)]
	for i := range l {
		l[i] = k
	}
}

// calls answers all calls that have l handed in, of topic 0, node 1 and a cap, by name: those that answer, and those that refuse.
func calls(l []api.Kid, limit int) map[string]func() asked {
	asks := func(n, inc int) func() asked {
		return func() asked { return ask(0, 1, limit, l, n, inc) }
	}
	drop := func(n int) func() asked {
		return func() asked { return asked{l: Drop(l, n), who: map[bool]int{true: 1}[Has(l, n)]} }
	}
	older := func(topic int) func() asked {
		return func() asked {
			got, e := Older(topic, 1, limit, l)
			return asked{l: got, e: e}
		}
	}
	return map[string]func() asked{
		"check":                func() asked { return asked{e: Check(0, 1, limit, l)} },
		"ask, nearer than all": asks(7, 5),
		"ask, between":         asks(3, 5),
		"ask, behind all":      asks(5, 5),
		"ask, the first one":   asks(0, 5),
		"ask, the last one":    asks(6, 5),
		"ask, refused":         asks(1, 5),
		"older":                older(0),
		"older, refused":       older(4),
		"drop the first one":   drop(0),
		"drop the last one":    drop(6),
		"drop nobody":          drop(-3),
	}
}

// R2, R6: what is handed in stays as it was, its spare room too; no answer shares memory with it, nor with another answer.
func TestAnswersAreNewMemory(t *testing.T) {
	for _, nodes := range [][]int{nil, {0}, {6}, {0, 6}, {0, 4, 6}, {0, 4, 2, 6}} {
		for limit := 1; limit <= mostCap; limit++ {
			for name := range calls(nil, limit) {
				l := roomy(kidsOf(nodes...))
				before := everything(l)
				call := calls(l, limit)[name]
				first, second := call(), call()
				want := second
				want.l = slices.Clone(second.l)
				if !slices.Equal(everything(l), before) {
					t.Errorf("%s of %v: what is handed in is changed", name, nodes)
				}
				fill(first.l, api.Kid{Node: -7, Inc: -7, Age: -7})
				if !slices.Equal(everything(l), before) {
					t.Errorf("%s of %v: an answer shares memory with what is handed in", name, nodes)
				}
				fill(l, api.Kid{Node: -9, Inc: -9, Age: -9})
				if !sameAsked(second, want) {
					t.Errorf("%s of %v: an answer shares memory with another one, or with what is handed in", name, nodes)
				}
			}
		}
	}
}

// R6: what lies behind the children is none of them; nothing of it is read or handed out.
func TestSpareRoomIsNotRead(t *testing.T) {
	for _, nodes := range [][]int{nil, {0}, {6}, {0, 6}, {0, 4, 6}, {0, 4, 2, 6}} {
		for limit := 1; limit <= mostCap; limit++ {
			l := roomy(kidsOf(nodes...))
			for name, call := range calls(l, limit) {
				want := calls(slices.Clip(kidsOf(nodes...)), limit)[name]()
				got := call()
				if !sameAsked(got, want) {
					t.Errorf("%s of %v with spare room: %v, want %v", name, nodes, got, want)
				}
				for _, k := range got.l[:cap(got.l)][len(got.l):] {
					if k.Inc == -3 {
						t.Errorf("%s of %v hands out what lies behind", name, nodes)
					}
				}
			}
			if Has(l, -3) {
				t.Errorf("Has(%v, -3): it lies behind", l)
			}
		}
	}
}

// R3: the same call answers the same, whatever was called between.
func TestNothingIsKept(t *testing.T) {
	l := kidsOf(0, 4, 6)
	want := ask(0, 1, 3, l, 7, 9)
	for n := -1; n <= mostNodes; n++ {
		ask(0, 1, 1, l, n, 1)
		ask(2, 2, 4, kidsOf(5, 1), n, mostInc)
		Drop(l, n)
		Has(l, n)
		if _, e := Older(0, 1, 3, l); e != api.OK {
			t.Fatalf("Older(%v): %d", l, e)
		}
		if got := ask(0, 1, 3, l, 7, 9); !sameAsked(got, want) || Check(0, 1, 3, l) != api.OK {
			t.Fatalf("Ask = %v, want %v", got, want)
		}
	}
}
