package msg

import (
	"math"
	"math/rand"
	"slices"
	"testing"

	"bellwether/api"
)

// The limits of the document, written out anew.
const (
	greatestNode  = 7
	greatestTopic = 3
	greatestCount = 1 << 30
	greatestEpoch = 1 << 30
	greatestValue = 1<<31 - 1
	greatestCall  = 40
	greatestHop   = 16
	longestPath   = 8
)

var kinds = []int{
	api.Ping, api.Join, api.Ack, api.Redirect, api.Refuse, api.Leave, api.Data,
	api.Nack, api.Gap, api.Pub, api.Any, api.Found, api.Nobody,
}

// field is one of a message's numbers.
type field struct {
	name string
	in   func(m *api.Msg) *int
}

var fields = []field{
	{"Kind", func(m *api.Msg) *int { return &m.Kind }},
	{"From", func(m *api.Msg) *int { return &m.From }},
	{"FromInc", func(m *api.Msg) *int { return &m.FromInc }},
	{"To", func(m *api.Msg) *int { return &m.To }},
	{"ToInc", func(m *api.Msg) *int { return &m.ToInc }},
	{"Topic", func(m *api.Msg) *int { return &m.Topic }},
	{"Epoch", func(m *api.Msg) *int { return &m.Epoch }},
	{"Seq", func(m *api.Msg) *int { return &m.Seq }},
	{"Last", func(m *api.Msg) *int { return &m.Last }},
	{"Value", func(m *api.Msg) *int { return &m.Value }},
	{"Node", func(m *api.Msg) *int { return &m.Node }},
	{"Inc", func(m *api.Msg) *int { return &m.Inc }},
	{"Count", func(m *api.Msg) *int { return &m.Count }},
	{"Hops", func(m *api.Msg) *int { return &m.Hops }},
}

// span is from where to where a number is right.
type span struct{ least, most int }

// own are the numbers that a kind has beside Kind, From and To, and where each of them is right.
var own = map[int]map[string]span{
	api.Ping:     {"FromInc": {1, greatestCount}},
	api.Refuse:   addressed(nil),
	api.Leave:    addressed(nil),
	api.Join:     addressed(map[string]span{"Epoch": {0, greatestEpoch}}),
	api.Ack:      addressed(map[string]span{"Epoch": {0, greatestEpoch}, "Seq": {1, greatestCount}, "Last": {0, greatestEpoch}}),
	api.Redirect: addressed(map[string]span{"Node": {0, greatestNode}}),
	api.Data:     addressed(map[string]span{"Epoch": {1, greatestEpoch}, "Seq": {1, greatestCount}, "Value": {0, greatestValue}}),
	api.Nack:     addressed(map[string]span{"Epoch": {1, greatestEpoch}, "Seq": {1, greatestCount}}),
	api.Gap:      addressed(map[string]span{"Epoch": {1, greatestEpoch}, "Seq": {1, greatestCount}, "Last": {1, greatestCount}}),
	api.Pub:      addressed(map[string]span{"Node": {0, greatestNode}, "Inc": {1, greatestCount}, "Count": {1, greatestCount}, "Value": {0, greatestValue}, "Hops": {0, greatestHop}}),
	api.Any:      addressed(map[string]span{"Node": {0, greatestNode}, "Inc": {1, greatestCount}, "Count": {1, greatestCall}, "Value": {0, greatestValue}, "Hops": {0, greatestHop}}),
	api.Found:    addressed(map[string]span{"Count": {1, greatestCall}, "Value": {0, greatestNode}}),
	api.Nobody:   addressed(map[string]span{"Count": {1, greatestCall}}),
}

// addressed answers the spans with those of every kind but Ping beside.
func addressed(spans map[string]span) map[string]span {
	all := map[string]span{"FromInc": {1, greatestCount}, "ToInc": {1, greatestCount}, "Topic": {0, greatestTopic}}
	for name, s := range spans {
		all[name] = s
	}
	return all
}

// hasTwice answers whether a number stands in l twice, each held against each.
func hasTwice(l []int) bool {
	for i := range l {
		for j := range i {
			if l[i] == l[j] {
				return true
			}
		}
	}
	return false
}

// allNodes answers whether each of l is a node.
func allNodes(l []int) bool {
	for _, n := range l {
		if n < 0 || n > greatestNode {
			return false
		}
	}
	return true
}

// isRight works out from the spans and the chapter's words whether m is right.
func isRight(m api.Msg) bool {
	spans, known := own[m.Kind]
	if !known || !allNodes([]int{m.From, m.To}) || m.From == m.To {
		return false
	}
	for _, f := range fields {
		if f.name == "Kind" || f.name == "From" || f.name == "To" {
			continue
		}
		s := spans[f.name]
		if n := *f.in(&m); n < s.least || n > s.most {
			return false
		}
	}
	lists := slices.Concat(m.Path, m.Todo)
	if !allNodes(lists) || hasTwice(lists) || len(m.Path) > longestPath || len(m.Todo) > longestPath {
		return false
	}
	switch m.Kind {
	case api.Ack:
		return len(m.Path) >= 1 && m.Path[0] == m.From && len(m.Todo) == 0
	case api.Any:
		return true
	case api.Redirect:
		return m.Node != m.From && m.Node != m.To && len(lists) == 0
	case api.Gap:
		return m.Last >= m.Seq && len(lists) == 0
	}
	return len(lists) == 0
}

// right answers a right message of a kind, none of its own numbers at an edge.
func right(kind int) api.Msg {
	m := api.Msg{Kind: kind, From: 1, FromInc: 3, To: 2, ToInc: 4, Topic: 2}
	switch kind {
	case api.Ping:
		m.ToInc, m.Topic = 0, 0
	case api.Join:
		m.Epoch = 17
	case api.Ack:
		m.Epoch, m.Seq, m.Last, m.Path = 17, 5, 3, []int{1, 6, 4}
	case api.Redirect:
		m.Node = 5
	case api.Data:
		m.Epoch, m.Seq, m.Value = 17, 5, 600
	case api.Nack:
		m.Epoch, m.Seq = 17, 5
	case api.Gap:
		m.Epoch, m.Seq, m.Last = 17, 5, 9
	case api.Pub:
		m.Node, m.Inc, m.Count, m.Value, m.Hops = 6, 8, 90, 100, 11
	case api.Any:
		m.Node, m.Inc, m.Count, m.Value, m.Hops, m.Path, m.Todo = 6, 8, 9, 100, 11, []int{4, 1}, []int{5, 2, 6}
	case api.Found:
		m.Count, m.Value = 9, 5
	case api.Nobody:
		m.Count = 9
	}
	return m
}

// readdressed answers m from and to others, and what hangs on them with it.
func readdressed(m api.Msg, from, to int) api.Msg {
	m.From, m.To = from, to
	if m.Kind == api.Ack {
		m.Path = []int{from}
	}
	if m.Kind == api.Redirect {
		for m.Node = 0; m.Node == from || m.Node == to; m.Node++ {
		}
	}
	return m
}

func wantCheck(t *testing.T, m api.Msg, isIt bool) {
	t.Helper()
	want := api.ErrMessage
	if isIt {
		want = api.OK
	}
	if got := Check(m); got != want {
		t.Errorf("Check(%+v) = %d, want %d", m, got, want)
	}
	if isRight(m) != isIt {
		t.Errorf("%+v: the test's own reckoning says %v, want %v", m, !isIt, isIt)
	}
}

func wantSame(t *testing.T, a, b api.Msg, want bool) {
	t.Helper()
	if Same(a, b) != want || Same(b, a) != want {
		t.Errorf("Same(%+v, %+v) = %v, turned %v, want %v", a, b, Same(a, b), Same(b, a), want)
	}
}

func wantUnlike(t *testing.T, l []int, want bool) {
	t.Helper()
	if Unlike(l) != want {
		t.Errorf("Unlike(%v) = %v, want %v", l, !want, want)
	}
}

// P6.1: the chapter's example, and what is least of all.
func TestCheckExamples(t *testing.T) {
	wantCheck(t, api.Msg{Kind: api.Ping, From: 0, FromInc: 1, To: 1}, true)
	wantCheck(t, api.Msg{}, false)
	wantCheck(t, api.Msg{Kind: api.Ping}, false)
	wantCheck(t, api.Msg{Kind: api.Ping, To: 1}, false)
}

// P6.1
func TestCheckRightOfEachKind(t *testing.T) {
	if len(kinds) != 13 || len(own) != 13 {
		t.Fatal("the test does not know thirteen kinds")
	}
	for _, kind := range kinds {
		m := right(kind)
		wantCheck(t, m, true)
		if m.Path == nil {
			m.Path = []int{}
		}
		if m.Todo == nil {
			m.Todo = []int{}
		}
		wantCheck(t, m, true)
	}
}

// P6.1: all of a kind's numbers at their least, all at their greatest.
func TestCheckAllEdgesAtOnce(t *testing.T) {
	for _, kind := range kinds {
		low, high := right(kind), right(kind)
		for _, f := range fields {
			if s, is := own[kind][f.name]; is {
				*f.in(&low), *f.in(&high) = s.least, s.most
			}
		}
		if kind == api.Redirect {
			low.Node, high.Node = 0, 7
		}
		wantCheck(t, low, true)
		wantCheck(t, high, true)
	}
}

// P6.1: each number of each kind by itself, at its edges and just beyond, and far.
func TestCheckEachNumbersEdges(t *testing.T) {
	for _, kind := range kinds {
		for _, f := range fields {
			s, is := own[kind][f.name]
			if !is {
				continue
			}
			m := right(kind)
			set := func(n int, isIt bool) {
				t.Helper()
				*f.in(&m) = n
				wantCheck(t, m, isIt)
			}
			if kind == api.Gap && f.name == "Last" {
				s.least = m.Seq
			}
			if kind == api.Gap && f.name == "Seq" {
				m.Last = greatestCount
			}
			set(s.least, true)
			set(s.most, true)
			for _, n := range []int{s.least - 1, s.most + 1, -1, math.MinInt, math.MinInt + 1, math.MaxInt, -s.most, 1<<32 + s.least, s.least - 1<<32, 1 << 62} {
				set(n, false)
			}
		}
	}
}

// P6.1
func TestCheckKinds(t *testing.T) {
	for _, kind := range kinds {
		m := right(kind)
		for _, n := range []int{0, -1, 14, 15, -kind, kind + 13, kind + 14, kind + 256, kind + 1<<32, kind - 1<<32, math.MinInt, math.MaxInt} {
			m.Kind = n
			wantCheck(t, m, n >= 1 && n <= 13 && isRight(m))
		}
		// With the fields of one kind it is none of another, unless it has the same ones.
		for _, other := range kinds {
			m.Kind = other
			wantCheck(t, m, isRight(m))
		}
	}
	m := right(api.Refuse)
	for kind, want := range map[int]bool{0: false, api.Ping: false, api.Join: true, api.Ack: false, api.Refuse: true, api.Leave: true, api.Data: false, api.Nobody: false, 14: false} {
		m.Kind = kind
		wantCheck(t, m, want)
	}
}

// P6.1: from each to each, alike, and beyond both bounds.
func TestCheckFromAndTo(t *testing.T) {
	numbers := []int{math.MinInt, -8, -2, -1, 0, 1, 2, 3, 4, 5, 6, 7, 8, 9, 256, 1 << 32, 1<<32 + 1, math.MaxInt}
	for _, kind := range kinds {
		for _, from := range numbers {
			for _, to := range numbers {
				m := readdressed(right(kind), from, to)
				wantCheck(t, m, from >= 0 && from < 8 && to >= 0 && to < 8 && from != to)
			}
		}
	}
}

// P6.1: a Ping goes to any incarnation and is of no topic.
func TestCheckPing(t *testing.T) {
	for _, n := range []int{1, 2, -1, 3, greatestCount, greatestCount + 1, math.MinInt, math.MaxInt} {
		m := right(api.Ping)
		m.ToInc = n
		wantCheck(t, m, false)
		m = right(api.Ping)
		m.Topic = n
		wantCheck(t, m, false)
	}
	for _, kind := range kinds[1:] {
		m := right(kind)
		m.ToInc = 0
		wantCheck(t, m, false)
		m.ToInc, m.Topic = 1, 0
		wantCheck(t, m, true)
	}
}

// P6.2: a field that is not the kind's own.
func TestCheckFieldsBesideTheKinds(t *testing.T) {
	tried := 0
	for _, kind := range kinds {
		for _, f := range fields[3:] {
			if _, is := own[kind][f.name]; is || f.name == "To" {
				continue
			}
			tried++
			for _, n := range []int{1, -1, 2, 3, 5, 7, 8, 16, 40, 1 << 30, 1 << 31, 1 << 32, 1 << 62, math.MinInt, math.MaxInt} {
				m := right(kind)
				*f.in(&m) = n
				wantCheck(t, m, false)
			}
			m := right(kind)
			*f.in(&m) = 0
			wantCheck(t, m, true)
		}
	}
	// Ten numbers of each of thirteen kinds, less those that are a kind's own.
	if tried != 13*10-24-(1+3+1+3+2+3+5+5+2+1) {
		t.Errorf("%d fields were tried", tried)
	}
}

// P6.2: a list that is not the kind's own.
func TestCheckListsBesideTheKinds(t *testing.T) {
	lists := [][]int{{0}, {1}, {2}, {7}, {8}, {-1}, {1, 2}, {1, 0}, {3, 3}, {0, 1, 2, 3, 4, 5, 6, 7}, make([]int, 9), make([]int, 300)}
	for _, kind := range kinds {
		for _, l := range lists {
			if kind != api.Ack && kind != api.Any {
				m := right(kind)
				m.Path = l
				wantCheck(t, m, false)
			}
			if kind != api.Any {
				m := right(kind)
				m.Todo = l
				wantCheck(t, m, false)
			}
		}
	}
	m := right(api.Ack)
	m.Todo = []int{7}
	wantCheck(t, m, false)
	m.Todo = m.Path
	wantCheck(t, m, false)
}

// P6.1: the node that a Redirect names, of each from and to.
func TestCheckRedirect(t *testing.T) {
	for from := range 8 {
		for to := range 8 {
			for node := -2; node < 10; node++ {
				m := right(api.Redirect)
				m.From, m.To, m.Node = from, to, node
				wantCheck(t, m, from != to && node >= 0 && node < 8 && node != from && node != to)
			}
		}
	}
	// Others may name whom they go from, whom they go to.
	for _, kind := range []int{api.Pub, api.Any} {
		for node := range 8 {
			m := right(kind)
			m.Node = node
			wantCheck(t, m, true)
		}
	}
}

// P6.1
func TestCheckGap(t *testing.T) {
	for _, c := range []struct {
		seq, last int
		want      bool
	}{
		{1, 1, true}, {1, 2, true}, {1, greatestCount, true}, {5, 5, true}, {greatestCount, greatestCount, true}, {greatestCount - 1, greatestCount, true},
		{1, 0, false}, {5, 4, false}, {5, 1, false}, {5, 0, false}, {5, -5, false}, {greatestCount, greatestCount - 1, false}, {greatestCount, 1, false},
		{0, 0, false}, {0, 5, false}, {-1, 5, false}, {-2, -1, false}, {math.MinInt, 5, false}, {math.MinInt, math.MinInt, false}, {math.MinInt, math.MaxInt, false},
		{1, greatestCount + 1, false}, {greatestCount, greatestCount + 1, false}, {greatestCount + 1, greatestCount + 1, false}, {greatestCount + 1, greatestCount, false}, {math.MaxInt, math.MaxInt, false}, {math.MaxInt, math.MinInt, false},
	} {
		m := right(api.Gap)
		m.Seq, m.Last = c.seq, c.last
		wantCheck(t, m, c.want)
	}
	// An Ack's Last is an epoch: it may be below its Seq, and below its Epoch.
	m := right(api.Ack)
	m.Epoch, m.Seq, m.Last = 9, 9, 0
	wantCheck(t, m, true)
}

// P6.1
func TestCheckAckPath(t *testing.T) {
	for _, c := range []struct {
		from int
		path []int
		want bool
	}{
		{0, []int{0}, true}, {7, []int{7}, true}, {3, []int{3, 0}, true}, {3, []int{3, 7}, true}, {3, []int{3, 2, 1, 0}, true},
		{0, []int{0, 1, 2, 3, 4, 5, 6}, true}, {0, []int{0, 1, 2, 3, 4, 5, 6, 7}, true}, {7, []int{7, 6, 5, 4, 3, 2, 1, 0}, true}, {3, []int{3, 1, 2, 7, 0, 5, 6, 4}, true},
		{0, nil, false}, {0, []int{}, false}, {3, nil, false},
		{0, []int{1}, false}, {3, []int{2}, false}, {3, []int{2, 3}, false}, {3, []int{0, 1, 2, 3}, false}, {7, []int{0, 1, 2, 3, 4, 5, 6, 7}, false}, {3, []int{-3}, false},
		{3, []int{3, 3}, false}, {3, []int{3, 1, 1}, false}, {3, []int{3, 1, 3}, false}, {3, []int{3, 1, 2, 4, 1}, false}, {0, []int{0, 1, 2, 3, 4, 5, 6, 0}, false}, {0, []int{0, 1, 2, 3, 4, 5, 6, 6}, false},
		{3, []int{3, 8}, false}, {3, []int{3, -1}, false}, {3, []int{3, 1, 9}, false}, {3, []int{3, 1, math.MinInt}, false}, {3, []int{3, math.MaxInt, 1}, false}, {3, []int{3, 1 << 32}, false}, {3, []int{3, 256}, false},
		{0, []int{0, 1, 2, 3, 4, 5, 6, 7, 8}, false}, {0, []int{0, 1, 2, 3, 4, 5, 6, 7, 7}, false}, {0, []int{0, 1, 2, 3, 4, 5, 6, 7, -1}, false}, {0, make([]int, 9), false}, {0, make([]int, 1<<20), false},
	} {
		m := readdressed(right(api.Ack), c.from, (c.from+1)%8)
		m.Path = c.path
		wantCheck(t, m, c.want)
	}
}

// shortLists answers each list of at most most numbers from -1 to 8.
func shortLists(most int) [][]int {
	all := [][]int{nil}
	for begin, length := 0, 1; length <= most; length++ {
		end := len(all)
		for _, l := range all[begin:end] {
			for n := -1; n <= 8; n++ {
				all = append(all, append(slices.Clone(l), n))
			}
		}
		begin = end
	}
	return all
}

// P6.1: each two short lists.
func TestCheckAnyShortLists(t *testing.T) {
	lists := shortLists(2)
	if len(lists) != 111 {
		t.Fatalf("%d lists", len(lists))
	}
	m := right(api.Any)
	for _, path := range lists {
		for _, todo := range lists {
			m.Path, m.Todo = path, todo
			both := slices.Concat(path, todo)
			wantCheck(t, m, allNodes(both) && !hasTwice(both))
		}
	}
}

// P6.1: all nodes, divided among both lists at each place; one of them changed; one too many.
func TestCheckAnyLongLists(t *testing.T) {
	for _, all := range [][]int{{0, 1, 2, 3, 4, 5, 6, 7}, {7, 6, 5, 4, 3, 2, 1, 0}, {3, 1, 4, 0, 5, 2, 6, 7}} {
		for cut := 0; cut <= 8; cut++ {
			m := right(api.Any)
			m.Path, m.Todo = slices.Clone(all[:cut]), slices.Clone(all[cut:])
			wantCheck(t, m, true)
			for _, l := range [][]int{m.Path, m.Todo} {
				for i, was := range l {
					for n := -1; n <= 8; n++ {
						l[i] = n
						wantCheck(t, m, n == was)
					}
					l[i] = was
				}
			}
			for n := -1; n <= 8; n++ {
				more := m
				more.Path = append(slices.Clone(m.Path), n)
				wantCheck(t, more, false)
				more = m
				more.Todo = append(slices.Clone(m.Todo), n)
				wantCheck(t, more, false)
			}
		}
	}
	for _, l := range [][]int{make([]int, 9), {0, 1, 2, 3, 4, 5, 6, 7, 8}, {-1, 0, 1, 2, 3, 4, 5, 6, 7}, make([]int, 1<<20), {math.MinInt}, {math.MaxInt}, {1 << 32}, {256}} {
		m := right(api.Any)
		m.Path, m.Todo = l, nil
		wantCheck(t, m, false)
		m.Path, m.Todo = nil, l
		wantCheck(t, m, false)
	}
	m := right(api.Any)
	m.Path, m.Todo = nil, nil
	wantCheck(t, m, true)
	m.Path, m.Todo = []int{}, []int{}
	wantCheck(t, m, true)
	// Nothing is asked of who is visited and who is to be.
	m.From, m.To, m.Path, m.Todo = 1, 2, []int{2, 1}, []int{0}
	wantCheck(t, m, true)
}

// mixed answers a message of a kind with a few of its parts taken anew.
func mixed(r *rand.Rand, kind int) api.Msg {
	edges := []int{math.MinInt, -1, 0, 1, 2, 3, 5, 6, 7, 8, 15, 16, 17, 39, 40, 41, 1<<30 - 1, 1 << 30, 1<<30 + 1, 1<<31 - 1, 1 << 31, 1 << 32, math.MaxInt}
	m := right(kind)
	for range r.Intn(4) {
		*fields[r.Intn(len(fields))].in(&m) = edges[r.Intn(len(edges))]
	}
	list := func() []int {
		l := r.Perm(8)[:r.Intn(9)]
		for range r.Intn(5) / 4 {
			l = append(l, r.Intn(12)-2)
		}
		return l
	}
	if r.Intn(3) == 0 {
		m.Path = list()
	}
	if r.Intn(6) == 0 {
		m.Todo = list()
	}
	return m
}

// P6.1, P6.2: a great many of all sorts, held against the test's own reckoning.
func TestCheckMixed(t *testing.T) {
	r := rand.New(rand.NewSource(6))
	found := map[bool]int{}
	for range 20000 {
		for _, kind := range kinds {
			m := mixed(r, kind)
			isIt := isRight(m)
			found[isIt]++
			if e := Check(m); (e == api.OK) != isIt || !isIt && e != api.ErrMessage {
				t.Fatalf("Check(%+v) = %d, is it right: %v", m, e, isIt)
			}
		}
	}
	if found[true] < 10000 || found[false] < 10000 {
		t.Errorf("right and wrong: %v", found)
	}
}

// unlikeEach answers a message with another number in each field, none of them one that may be.
func unlikeEach() api.Msg {
	m := api.Msg{Path: []int{-70, 800, 90}, Todo: []int{1000, math.MinInt}}
	for i, f := range fields {
		*f.in(&m) = 100 + i
	}
	return m
}

// P6.1
func TestSameOfItself(t *testing.T) {
	for _, kind := range kinds {
		wantSame(t, right(kind), right(kind), true)
		for _, other := range kinds {
			wantSame(t, right(kind), right(other), kind == other)
		}
	}
	m := unlikeEach()
	wantSame(t, m, m, true)
	wantSame(t, m, unlikeEach(), true)
	wantSame(t, api.Msg{}, api.Msg{}, true)
	wantSame(t, api.Msg{}, unlikeEach(), false)
}

// P6.1: each number changed by itself.
func TestSameWithANumberChanged(t *testing.T) {
	bases := []func() api.Msg{unlikeEach, func() api.Msg { return api.Msg{} }}
	for _, kind := range kinds {
		bases = append(bases, func() api.Msg { return right(kind) })
	}
	for _, base := range bases {
		for _, f := range fields {
			m := base()
			was := *f.in(&m)
			for _, n := range []int{was + 1, was - 1, -was - 1, was + 256, was + 1<<32, was ^ math.MinInt, math.MaxInt, math.MinInt} {
				*f.in(&m) = n
				wantSame(t, m, base(), false)
			}
			*f.in(&m) = was
			wantSame(t, m, base(), true)
		}
	}
	// Two fields that have changed places.
	for i, f := range fields {
		for _, g := range fields[:i] {
			m := unlikeEach()
			*f.in(&m), *g.in(&m) = *g.in(&m), *f.in(&m)
			wantSame(t, m, unlikeEach(), false)
		}
	}
}

// P6.1: each list changed in one place, made longer, made shorter, turned; nil and empty.
func TestSameWithAListChanged(t *testing.T) {
	for _, list := range []func(m *api.Msg) *[]int{
		func(m *api.Msg) *[]int { return &m.Path },
		func(m *api.Msg) *[]int { return &m.Todo },
	} {
		m := unlikeEach()
		l := *list(&m)
		differ := func(to []int) {
			t.Helper()
			*list(&m) = to
			wantSame(t, m, unlikeEach(), false)
		}
		for i := range l {
			changed := slices.Clone(l)
			changed[i]++
			differ(changed)
			differ(slices.Delete(slices.Clone(l), i, i+1))
			differ(slices.Insert(slices.Clone(l), i, l[i]))
			differ(l[:i])
		}
		differ(append(slices.Clone(l), 0))
		differ(append(slices.Clone(l), l[0]))
		differ(slices.Concat(l, l))
		differ(nil)
		differ([]int{})
		turned := slices.Clone(l)
		slices.Reverse(turned)
		differ(turned)
		*list(&m) = slices.Clone(l)
		wantSame(t, m, unlikeEach(), true)

		a, b := api.Msg{}, api.Msg{}
		*list(&b) = []int{}
		wantSame(t, a, b, true)
		*list(&b) = make([]int, 0, 5)
		wantSame(t, a, b, true)
		*list(&b) = []int{0}
		wantSame(t, a, b, false)
	}
	wantSame(t, api.Msg{Path: []int{1, 2}}, api.Msg{Path: []int{1}, Todo: []int{2}}, false)
	wantSame(t, api.Msg{Path: []int{1, 2}}, api.Msg{Todo: []int{1, 2}}, false)
	wantSame(t, api.Msg{Path: []int{1}, Todo: []int{2}}, api.Msg{Path: []int{2}, Todo: []int{1}}, false)
}

// R6: what lies behind a list is none of its numbers.
func TestSpareRoomIsNotRead(t *testing.T) {
	all := []int{1, 2, 1, 8, -1}
	wantSame(t, api.Msg{Path: all[:1], Todo: all[:2]}, api.Msg{Path: []int{1}, Todo: []int{1, 2}}, true)
	wantUnlike(t, all[:2], true)
	wantUnlike(t, all[:3], false)
	m := right(api.Ack)
	m.Path = all[:2]
	wantCheck(t, m, true)
	m = right(api.Any)
	m.Path, m.Todo = all[:1], all[1:2]
	wantCheck(t, m, true)
	m = right(api.Join)
	m.Path, m.Todo = all[:0], all[1:1]
	wantCheck(t, m, true)
}

// P6.1
func TestUnlikeKnown(t *testing.T) {
	const least, most = math.MinInt, math.MaxInt
	for _, c := range []struct {
		l    []int
		want bool
	}{
		{nil, true}, {[]int{}, true}, {[]int{0}, true}, {[]int{-1}, true}, {[]int{least}, true}, {[]int{most}, true},
		{[]int{0, 1}, true}, {[]int{1, 0}, true}, {[]int{5, -5}, true}, {[]int{least, most}, true}, {[]int{most, -most, least}, true}, {[]int{0, 1 << 32, 1 << 62, 1 << 31, -1 << 32}, true}, {[]int{3, 1, 2}, true},
		{[]int{0, 0}, false}, {[]int{5, 5}, false}, {[]int{-1, -1}, false}, {[]int{least, least}, false}, {[]int{most, most}, false},
		{[]int{1, 1, 2}, false}, {[]int{1, 2, 2}, false}, {[]int{1, 2, 1}, false}, {[]int{2, 1, 3, 2}, false}, {[]int{most, 0, least, 1, most}, false}, {[]int{least, 0, 5, least}, false}, {[]int{-3, 7, 1 << 40, -3}, false}, {[]int{4, 4, 4}, false}, {[]int{1, 2, 1, 2}, false},
	} {
		wantUnlike(t, c.l, c.want)
	}
}

// P6.1: each list of at most four numbers from -1 to 8, held against a plain reckoning.
func TestUnlikeEveryShortList(t *testing.T) {
	for _, l := range shortLists(4) {
		wantUnlike(t, l, !hasTwice(l))
	}
}

// P6.1: of many unlike ones, each two made alike.
func TestUnlikeTwoAnywhere(t *testing.T) {
	const length = 60
	l := make([]int, length)
	for i := range l {
		l[i] = (i*37%length - 30) * (1 << 50)
	}
	wantUnlike(t, l, true)
	for i := range l {
		for j := range i {
			was := l[i]
			l[i] = l[j]
			wantUnlike(t, l, false)
			l[i] = was
		}
	}
	wantUnlike(t, l, true)
}

// R1: a long list ends soon.
func TestUnlikeLong(t *testing.T) {
	const length = 1 << 20
	l := make([]int, length)
	for i := range l {
		l[i] = (i * 0x5deece66d) % length
	}
	if !Unlike(l) {
		t.Error("all unlike, but told alike")
	}
	was := l[length-1]
	l[length-1] = l[0]
	if Unlike(l) {
		t.Error("the first and the last alike, but told unlike")
	}
	l[length-1] = was
	l[length/2] = l[length/2+1]
	if Unlike(l) {
		t.Error("two side by side alike, but told unlike")
	}
	if Unlike(make([]int, length)) {
		t.Error("all alike, but told unlike")
	}
}

// roomy answers a copy of l with marked numbers behind, whole and as the part that is l: the rest is its spare room.
func roomy(l []int) (whole, part []int) {
	whole = slices.Concat(l, []int{-77, -78, -79, -80, -81, -82, -83, -84, -85, -86})
	return whole, whole[:len(l)]
}

// R2
func TestNothingHandedInIsChanged(t *testing.T) {
	lists := [][]int{nil, {1}, {1, 0}, {1, 6, 4}, {1, 7, 6, 5, 4, 3, 2, 0}, {7, 3, 7, 1}, {9, -9, 8}, {1, 2, 3, 4, 5, 6, 7, 8, 0}}
	for _, kind := range kinds {
		for _, p := range lists {
			for _, q := range lists {
				path, todo := slices.Clone(p), slices.Clone(q)
				wholePath, partPath := roomy(p)
				wholeTodo, partTodo := roomy(q)
				m := right(kind)
				m.Path, m.Todo = partPath, partTodo
				Check(m)
				Same(m, m)
				Same(m, right(kind))
				Unlike(partPath)
				Unlike(partTodo)
				wantPath, _ := roomy(path)
				wantTodo, _ := roomy(todo)
				if !slices.Equal(wholePath, wantPath) || !slices.Equal(wholeTodo, wantTodo) {
					t.Errorf("kind %d: %v, %v became %v, %v", kind, wantPath, wantTodo, wholePath, wholeTodo)
				}
			}
		}
	}
}

// R3: what was asked ahead is not to be seen in an answer.
func TestNothingIsKept(t *testing.T) {
	for _, kind := range kinds {
		wrong := right(kind)
		wrong.FromInc = 0
		for range 3 {
			wantCheck(t, right(kind), true)
			wantCheck(t, wrong, false)
			wantSame(t, right(kind), wrong, false)
			wantSame(t, wrong, wrong, true)
			wantUnlike(t, []int{kind, kind}, false)
			wantUnlike(t, []int{kind, -kind}, true)
		}
	}
}
