package wire

import (
	"bytes"
	"encoding/binary"
	"hash/crc32"
	"math"
	"math/rand"
	"slices"
	"testing"

	"bellwether/api"
	"bellwether/crc"
	"bellwether/msg"
)

// The limits of the document, written out anew.
const (
	greatestNode  = 7
	greatestTopic = 3
	greatestCount = 1 << 30
	greatestEpoch = 1 << 30
	greatestValue = 1<<31 - 1
	greatestCall  = 40
	greatestHop   = 16
	longestFrame  = 80
	bytesOfSum    = 4
	bytesOfPing   = 48
)

var kinds = []int{
	api.Ping, api.Join, api.Ack, api.Redirect, api.Refuse, api.Leave, api.Data,
	api.Nack, api.Gap, api.Pub, api.Any, api.Found, api.Nobody,
}

// number is one of a message's numbers: at which byte it begins, how many it has, as counted by hand from the chapter.
type number struct {
	name     string
	at, size int
	in       func(m *api.Msg) *int
}

var allNumbers = []number{
	{"Kind", 0, 1, func(m *api.Msg) *int { return &m.Kind }},
	{"From", 1, 1, func(m *api.Msg) *int { return &m.From }},
	{"To", 2, 1, func(m *api.Msg) *int { return &m.To }},
	{"Topic", 3, 1, func(m *api.Msg) *int { return &m.Topic }},
	{"FromInc", 4, 4, func(m *api.Msg) *int { return &m.FromInc }},
	{"ToInc", 8, 4, func(m *api.Msg) *int { return &m.ToInc }},
	{"Epoch", 12, 8, func(m *api.Msg) *int { return &m.Epoch }},
	{"Seq", 20, 4, func(m *api.Msg) *int { return &m.Seq }},
	{"Last", 24, 4, func(m *api.Msg) *int { return &m.Last }},
	{"Value", 28, 4, func(m *api.Msg) *int { return &m.Value }},
	{"Node", 32, 1, func(m *api.Msg) *int { return &m.Node }},
	{"Inc", 33, 4, func(m *api.Msg) *int { return &m.Inc }},
	{"Count", 37, 4, func(m *api.Msg) *int { return &m.Count }},
	{"Hops", 41, 1, func(m *api.Msg) *int { return &m.Hops }},
}

// pathAt is the byte at which Path's length stands.
const pathAt = 42

// span is from where to where a number is right.
type span struct{ least, most int }

// own are the numbers that a kind has beside Kind, From and To, and where each of them is right.
var own = map[int]map[string]span{
	api.Ping:     {"FromInc": {1, greatestCount}},
	api.Refuse:   addressed(nil),
	api.Leave:    addressed(nil),
	api.Join:     addressed(map[string]span{"Epoch": {0, greatestEpoch}}),
	api.Ack:      addressed(map[string]span{"Epoch": {0, greatestEpoch}, "Seq": {1, greatestCount}, "Last": {0, greatestEpoch}}),
	api.Redirect: addressed(map[string]span{"Node": {0, greatestNode}}),
	api.Data:     addressed(map[string]span{"Epoch": {1, greatestEpoch}, "Seq": {1, greatestCount}, "Value": {0, greatestValue}}),
	api.Nack:     addressed(map[string]span{"Epoch": {1, greatestEpoch}, "Seq": {1, greatestCount}}),
	api.Gap:      addressed(map[string]span{"Epoch": {1, greatestEpoch}, "Seq": {1, greatestCount}, "Last": {1, greatestCount}}),
	api.Pub:      addressed(map[string]span{"Node": {0, greatestNode}, "Inc": {1, greatestCount}, "Count": {1, greatestCount}, "Value": {0, greatestValue}, "Hops": {0, greatestHop}}),
	api.Any:      addressed(map[string]span{"Node": {0, greatestNode}, "Inc": {1, greatestCount}, "Count": {1, greatestCall}, "Value": {0, greatestValue}, "Hops": {0, greatestHop}}),
	api.Found:    addressed(map[string]span{"Count": {1, greatestCall}, "Value": {0, greatestNode}}),
	api.Nobody:   addressed(map[string]span{"Count": {1, greatestCall}}),
}

// addressed answers the spans with those of every kind but Ping beside.
func addressed(spans map[string]span) map[string]span {
	all := map[string]span{"FromInc": {1, greatestCount}, "ToInc": {1, greatestCount}, "Topic": {0, greatestTopic}}
	for name, s := range spans {
		all[name] = s
	}
	return all
}

// right answers a right message of a kind, its bytes unlike wherever they may be.
func right(kind int) api.Msg {
	m := api.Msg{Kind: kind, From: 1, FromInc: 0x11121314, To: 2, ToInc: 0x21222324, Topic: 3}
	switch kind {
	case api.Ping:
		m.ToInc, m.Topic = 0, 0
	case api.Join:
		m.Epoch = 0x31323334
	case api.Ack:
		m.Epoch, m.Seq, m.Last, m.Path = 0x31323334, 0x01424344, 0x25262728, []int{1, 6, 4}
	case api.Redirect:
		m.Node = 5
	case api.Data:
		m.Epoch, m.Seq, m.Value = 0x31323334, 0x01424344, 0x51525354
	case api.Nack:
		m.Epoch, m.Seq = 0x31323334, 0x01424344
	case api.Gap:
		m.Epoch, m.Seq, m.Last = 0x31323334, 0x01424344, 0x25262728
	case api.Pub:
		m.Node, m.Inc, m.Count, m.Value, m.Hops = 6, 0x2a2b2c2d, 0x3a3b3c3d, 0x51525354, 11
	case api.Any:
		m.Node, m.Inc, m.Count, m.Value, m.Hops, m.Path, m.Todo = 6, 0x2a2b2c2d, 39, 0x51525354, 11, []int{4, 1}, []int{5, 2, 6}
	case api.Found:
		m.Count, m.Value = 39, 5
	case api.Nobody:
		m.Count = 39
	}
	return m
}

// edges answers right messages of a kind: each number by itself at its least and at its greatest, then all of them at once.
func edges(kind int) []api.Msg {
	all := []api.Msg{right(kind)}
	low, high := right(kind), right(kind)
	for _, f := range allNumbers {
		s, is := own[kind][f.name]
		if !is {
			continue
		}
		for _, n := range []int{s.least, s.most} {
			m := right(kind)
			*f.in(&m) = n
			if kind == api.Gap && (f.name == "Last" && n < m.Seq || f.name == "Seq" && n > m.Last) {
				m.Seq, m.Last = n, n
			}
			all = append(all, m)
		}
		*f.in(&low), *f.in(&high) = s.least, s.most
	}
	for _, ends := range [][2]int{{0, 1}, {0, 7}, {7, 0}, {7, 6}} {
		m := right(kind)
		m.From, m.To = ends[0], ends[1]
		if kind == api.Ack {
			m.Path = []int{ends[0], 3}
		}
		all = append(all, m)
	}
	return append(all, low, high)
}

// withLists answers right messages with lists of all lengths that their kinds may have.
func withLists() []api.Msg {
	var all []api.Msg
	for length := 1; length <= 8; length++ {
		m := right(api.Ack)
		m.From, m.Path = 7, []int{7, 0, 6, 1, 5, 2, 4, 3}[:length]
		all = append(all, m)
	}
	order := []int{3, 0, 7, 1, 6, 2, 5, 4}
	for first := 0; first <= 8; first++ {
		for end := first; end <= 8; end++ {
			m := right(api.Any)
			m.Path, m.Todo = order[:first], order[first:end]
			all = append(all, m)
		}
	}
	return all
}

// manyRight answers all these together.
func manyRight() []api.Msg {
	all := withLists()
	for _, kind := range kinds {
		all = append(all, edges(kind)...)
	}
	return all
}

// reckoned works a message's bytes out by the library alone: not sealed, of any message.
func reckoned(m api.Msg) []byte {
	b := []byte{byte(m.Kind), byte(m.From), byte(m.To), byte(m.Topic)}
	b = binary.BigEndian.AppendUint32(b, uint32(m.FromInc))
	b = binary.BigEndian.AppendUint32(b, uint32(m.ToInc))
	b = binary.BigEndian.AppendUint64(b, uint64(m.Epoch))
	b = binary.BigEndian.AppendUint32(b, uint32(m.Seq))
	b = binary.BigEndian.AppendUint32(b, uint32(m.Last))
	b = binary.BigEndian.AppendUint32(b, uint32(m.Value))
	b = append(b, byte(m.Node))
	b = binary.BigEndian.AppendUint32(b, uint32(m.Inc))
	b = binary.BigEndian.AppendUint32(b, uint32(m.Count))
	b = append(b, byte(m.Hops))
	for _, l := range [][]int{m.Path, m.Todo} {
		b = append(b, byte(len(l)))
		for _, n := range l {
			b = append(b, byte(n))
		}
	}
	return b
}

// sealed answers a copy of b with the sum that the library reckons behind.
func sealed(b []byte) []byte {
	return binary.LittleEndian.AppendUint32(slices.Clone(b), crc32.ChecksumIEEE(b))
}

// replaced answers a copy of b with other bytes from at on.
func replaced(b []byte, at int, by ...byte) []byte {
	out := slices.Clone(b)
	copy(out[at:], by)
	return out
}

// isZero answers whether m is the zero value, its lists nil or empty.
func isZero(m api.Msg) bool {
	return same(m, api.Msg{})
}

// same holds two messages against each other by the test's own list of their numbers.
func same(a, b api.Msg) bool {
	for _, f := range allNumbers {
		if *f.in(&a) != *f.in(&b) {
			return false
		}
	}
	return slices.Equal(a.Path, b.Path) && slices.Equal(a.Todo, b.Todo)
}

func wantEncode(t *testing.T, m api.Msg, want []byte) {
	t.Helper()
	if got, err := Encode(m); !bytes.Equal(got, want) || err != api.OK {
		t.Errorf("Encode(%+v) = %v, %d, want %v", m, got, err, want)
	}
}

// wantNoFrame wants m to be refused, and no bytes beside the error.
func wantNoFrame(t *testing.T, m api.Msg) {
	t.Helper()
	if msg.Check(m) != api.ErrMessage {
		t.Errorf("%+v is right", m)
	}
	if got, err := Encode(m); len(got) != 0 || err != api.ErrMessage {
		t.Errorf("Encode(%+v) = %v, %d, want %d", m, got, err, api.ErrMessage)
	}
}

func wantDecode(t *testing.T, b []byte, want api.Msg) {
	t.Helper()
	if got, err := Decode(b); !same(got, want) || err != api.OK {
		t.Errorf("Decode(%v) = %+v, %d, want %+v", b, got, err, want)
	}
}

// wantError wants b to be refused, and no message beside the error.
func wantError(t *testing.T, b []byte, want api.Errno) {
	t.Helper()
	if got, err := Decode(b); !isZero(got) || err != want {
		t.Errorf("Decode of %d bytes %v = %+v, %d, want error %d", len(b), b[:min(len(b), longestFrame)], got, err, want)
	}
}

// P7.1: the chapter's example, byte by byte.
func TestPing(t *testing.T) {
	m := api.Msg{Kind: api.Ping, From: 5, FromInc: 258, To: 3}
	want := []byte{
		1, 5, 3, 0, // Kind, From, To, Topic
		0, 0, 1, 2, 0, 0, 0, 0, // FromInc, ToInc
		0, 0, 0, 0, 0, 0, 0, 0, // Epoch
		0, 0, 0, 0, 0, 0, 0, 0, 0, 0, 0, 0, // Seq, Last, Value
		0,                      // Node
		0, 0, 0, 0, 0, 0, 0, 0, // Inc, Count
		0,    // Hops
		0, 0, // Path, Todo
	}
	frame := sealed(want)
	if len(frame) != bytesOfPing {
		t.Fatalf("the test's own frame has %d bytes", len(frame))
	}
	wantEncode(t, m, frame)
	wantDecode(t, frame, m)
}

// P7.1: the bytes of each kind, written out one by one (the sum's beside).
func TestBytesOfEachKind(t *testing.T) {
	head := []byte{0, 1, 2, 3, 0x11, 0x12, 0x13, 0x14, 0x21, 0x22, 0x23, 0x24}
	epoch := []byte{0, 0, 0, 0, 0x31, 0x32, 0x33, 0x34}
	seq := []byte{0x01, 0x42, 0x43, 0x44}
	last := []byte{0x25, 0x26, 0x27, 0x28}
	value := []byte{0x51, 0x52, 0x53, 0x54}
	inc := []byte{0x2a, 0x2b, 0x2c, 0x2d}
	none := func(n int) []byte { return make([]byte, n) }
	want := map[int][][]byte{
		api.Ping:     {{1, 1, 2, 0, 0x11, 0x12, 0x13, 0x14, 0, 0, 0, 0}, none(30), {0, 0}},
		api.Join:     {head, epoch, none(22), {0, 0}},
		api.Ack:      {head, epoch, seq, last, none(14), {3, 1, 6, 4, 0}},
		api.Redirect: {head, none(20), {5}, none(9), {0, 0}},
		api.Refuse:   {head, none(30), {0, 0}},
		api.Leave:    {head, none(30), {0, 0}},
		api.Data:     {head, epoch, seq, none(4), value, none(10), {0, 0}},
		api.Nack:     {head, epoch, seq, none(18), {0, 0}},
		api.Gap:      {head, epoch, seq, last, none(14), {0, 0}},
		api.Pub:      {head, none(16), value, {6}, inc, {0x3a, 0x3b, 0x3c, 0x3d}, {11}, {0, 0}},
		api.Any:      {head, none(16), value, {6}, inc, {0, 0, 0, 39}, {11}, {2, 4, 1, 3, 5, 2, 6}},
		api.Found:    {head, none(16), {0, 0, 0, 5}, none(5), {0, 0, 0, 39}, {0}, {0, 0}},
		api.Nobody:   {head, none(25), {0, 0, 0, 39}, {0}, {0, 0}},
	}
	if len(want) != 13 || len(kinds) != 13 || len(own) != 13 {
		t.Fatal("the test does not know thirteen kinds")
	}
	for _, kind := range kinds {
		text := slices.Concat(want[kind]...)
		text[0] = byte(kind)
		m := right(kind)
		wantEncode(t, m, sealed(text))
		wantDecode(t, sealed(text), m)
		if b, _ := Encode(m); len(b) != bytesOfPing+len(m.Path)+len(m.Todo) {
			t.Errorf("kind %d: %d bytes", kind, len(b))
		}
	}
}

// P7.1: each number stands in so many bytes, where the chapter's order puts it, and nowhere else.
func TestWhereEachNumberStands(t *testing.T) {
	at := 0
	for _, f := range allNumbers {
		if f.at != at {
			t.Fatalf("%s: the test puts it at %d, want %d", f.name, f.at, at)
		}
		at += f.size
	}
	if at != pathAt {
		t.Fatalf("the test puts Path at %d, want %d", pathAt, at)
	}
	moved := 0
	for _, kind := range kinds {
		for _, f := range allNumbers {
			s, is := own[kind][f.name]
			if !is {
				continue
			}
			moved++
			a, b := right(kind), right(kind)
			*f.in(&a), *f.in(&b) = s.least, s.most
			if kind == api.Gap && f.name == "Last" {
				*f.in(&a) = a.Seq
			}
			if kind == api.Gap && f.name == "Seq" {
				*f.in(&b) = b.Last
			}
			x, _ := Encode(a)
			y, _ := Encode(b)
			if len(x) != len(y) || bytes.Equal(x, y) {
				t.Fatalf("kind %d, %s: %v and %v", kind, f.name, x, y)
			}
			for i := range x[:len(x)-bytesOfSum] {
				if (i < f.at || i >= f.at+f.size) && x[i] != y[i] {
					t.Errorf("kind %d: %s is to be seen in byte %d", kind, f.name, i)
				}
			}
		}
	}
	if moved != 1+12*3+(1+3+1+3+2+3+5+5+2+1) {
		t.Errorf("%d numbers were moved", moved)
	}
}

// P7.1, P7.2: each number at its edges, lists of each length.
func TestEncodeAndDecodeAtTheEdges(t *testing.T) {
	for _, m := range manyRight() {
		if msg.Check(m) != api.OK {
			t.Errorf("the test's own %+v is not right", m)
		}
		frame := sealed(reckoned(m))
		wantEncode(t, m, frame)
		wantDecode(t, frame, m)
		if len(frame) > longestFrame {
			t.Errorf("%+v has %d bytes", m, len(frame))
		}
	}
}

// P7.1: no nodes (nil and empty), one, MaxPath of them.
func TestLists(t *testing.T) {
	all := []int{7, 6, 5, 4, 3, 2, 1, 0}
	for _, c := range []struct {
		path, todo []int
		want       []byte
	}{
		{nil, nil, []byte{0, 0}},
		{[]int{}, []int{}, []byte{0, 0}},
		{nil, []int{}, []byte{0, 0}},
		{[]int{}, nil, []byte{0, 0}},
		{[]int{7}, nil, []byte{1, 7, 0}},
		{nil, []int{7}, []byte{0, 1, 7}},
		{[]int{0}, []int{7}, []byte{1, 0, 1, 7}},
		{[]int{7}, []int{0}, []byte{1, 7, 1, 0}},
		{all, nil, []byte{8, 7, 6, 5, 4, 3, 2, 1, 0, 0}},
		{nil, all, []byte{0, 8, 7, 6, 5, 4, 3, 2, 1, 0}},
		{all[:3], all[3:], []byte{3, 7, 6, 5, 5, 4, 3, 2, 1, 0}},
	} {
		m := right(api.Any)
		m.Path, m.Todo = c.path, c.todo
		frame := sealed(append(reckoned(m)[:pathAt], c.want...))
		wantEncode(t, m, frame)
		wantDecode(t, frame, m)
	}
	for _, path := range [][]int{{1}, {1, 0}, {1, 7, 6, 5, 4, 3, 2, 0}} {
		m := right(api.Ack)
		m.Path = path
		wantDecode(t, sealed(reckoned(m)), m)
		b, _ := Encode(m)
		m.Todo = []int{}
		wantEncode(t, m, b)
	}
	for _, kind := range kinds {
		m := right(kind)
		if kind != api.Ack && kind != api.Any {
			b, _ := Encode(m)
			m.Path, m.Todo = []int{}, []int{}
			wantEncode(t, m, b)
		}
	}
}

// P7.2
func TestDecodeWhatWasEncoded(t *testing.T) {
	for _, m := range manyRight() {
		b, err := Encode(m)
		if err != api.OK {
			t.Fatalf("Encode(%+v): %d", m, err)
		}
		wantDecode(t, b, m)
		if back, _ := Decode(b); !msg.Same(back, m) {
			t.Errorf("%+v came back as %+v", m, back)
		}
	}
}

// wrong answers messages that are not right: each with one fault of those that msg.Check looks for.
func wrong() []api.Msg {
	all := []api.Msg{{}, {Kind: api.Ping}, {Path: make([]int, 1<<16)}}
	fault := func(kind int, in func(m *api.Msg)) {
		m := right(kind)
		in(&m)
		all = append(all, m)
	}
	far := []int{-1, math.MinInt, math.MaxInt, 1 << 32, 1<<32 + 1, 1 << 62}
	for _, kind := range kinds {
		for _, f := range allNumbers {
			s, is := own[kind][f.name]
			beyond := []int{s.least - 1, s.most + 1}
			if !is {
				beyond = []int{1, 2, 255, 256}
			}
			switch f.name {
			case "Kind":
				beyond = []int{0, 14, 256, kind + 256}
			case "From", "To":
				beyond = []int{8, 255, 256, 257, 258}
			}
			for _, n := range append(beyond, far...) {
				fault(kind, func(m *api.Msg) { *f.in(m) = n })
			}
		}
		fault(kind, func(m *api.Msg) { m.To = m.From })
		for _, l := range [][]int{{8}, {-1}, {256}, {257}, {1, 8}, {1, 1}, {1, 3, 3}, {0, 1, 2, 3, 4, 5, 6, 7, 8}, {1, 0, 2, 3, 4, 5, 6, 7, 0}, make([]int, 256), make([]int, 300)} {
			fault(kind, func(m *api.Msg) { m.Path = l })
			fault(kind, func(m *api.Msg) { m.Todo = l })
		}
		if kind != api.Ack && kind != api.Any {
			fault(kind, func(m *api.Msg) { m.Path = []int{m.From} })
		}
		if kind != api.Any {
			fault(kind, func(m *api.Msg) { m.Todo = []int{0} })
		}
	}
	fault(api.Redirect, func(m *api.Msg) { m.Node = m.From })
	fault(api.Redirect, func(m *api.Msg) { m.Node = m.To })
	fault(api.Gap, func(m *api.Msg) { m.Last = m.Seq - 1 })
	fault(api.Ack, func(m *api.Msg) { m.Path = nil })
	fault(api.Ack, func(m *api.Msg) { m.Path = []int{2, 1} })
	fault(api.Any, func(m *api.Msg) { m.Todo = append(slices.Clone(m.Todo), m.Path[0]) })
	fault(api.Any, func(m *api.Msg) { m.Path = append(slices.Clone(m.Path), m.Todo[0]) })
	return all
}

// P7.1
func TestEncodeRefuses(t *testing.T) {
	for _, m := range wrong() {
		wantNoFrame(t, m)
	}
}

// fits answers whether a message's numbers have room in their bytes, and its lists in theirs.
func fits(m api.Msg) bool {
	for _, f := range allNumbers {
		n := *f.in(&m)
		if n < 0 || n >= 1<<62 || f.size < 8 && n >= 1<<(8*f.size) {
			return false
		}
	}
	for _, l := range [][]int{m.Path, m.Todo} {
		for _, n := range l {
			if n < 0 || n > 255 {
				return false
			}
		}
	}
	return len(m.Path)+len(m.Todo) <= longestFrame-bytesOfPing
}

// P7.1: bytes of a message that is not right, with a right sum.
func TestDecodeMessagesThatAreNotRight(t *testing.T) {
	tried := 0
	for _, m := range wrong() {
		if fits(m) {
			tried++
			wantError(t, sealed(reckoned(m)), api.ErrMessage)
		}
	}
	if tried < 700 {
		t.Errorf("%d were tried", tried)
	}
}

// P7.1: too few bytes for a sum.
func TestDecodeFewBytes(t *testing.T) {
	wantError(t, nil, api.ErrLen)
	wantError(t, []byte{}, api.ErrLen)
	frame := sealed(reckoned(right(api.Ping)))
	for n := range bytesOfSum {
		wantError(t, make([]byte, n), api.ErrLen)
		wantError(t, bytes.Repeat([]byte{255}, n), api.ErrLen)
		wantError(t, frame[:n], api.ErrLen)
	}
	wantError(t, []byte{0, 0, 0, 0}, api.ErrFrame) // the sum of nothing, and nothing in it
	wantError(t, []byte{0, 0, 0, 1}, api.ErrSum)
}

// P7.1: cut short at each place, at the end and at the beginning, and sealed anew.
func TestDecodeCutShort(t *testing.T) {
	for _, m := range append(withLists(), oneOfEach()...) {
		text := reckoned(m)
		frame := sealed(text)
		for n := range frame {
			for _, cut := range [][]byte{frame[:n], frame[len(frame)-n:]} {
				want := api.ErrSum
				if n < bytesOfSum {
					want = api.ErrLen
				}
				// Some bytes' last four may happen to be the sum of the others.
				if n >= bytesOfSum && bytes.Equal(sealed(cut[:n-bytesOfSum]), cut) {
					want = api.ErrFrame
				}
				wantError(t, cut, want)
			}
		}
		for n := range text {
			wantError(t, sealed(text[:n]), api.ErrFrame)
			// From its beginning on it would be a list that ends where the bytes do: no lists behind the numbers for that.
			if n > 0 {
				wantError(t, sealed(replaced(text[:n], 0, byte(n-1))), api.ErrFrame)
			}
		}
	}
}

// oneOfEach answers a right message of each kind.
func oneOfEach() []api.Msg {
	var all []api.Msg
	for _, kind := range kinds {
		all = append(all, right(kind))
	}
	return all
}

// P7.1: something behind the message.
func TestDecodeSomethingBehind(t *testing.T) {
	for _, m := range append(withLists(), oneOfEach()...) {
		text := reckoned(m)
		for more := 1; len(text)+more+bytesOfSum <= longestFrame; more++ {
			for _, x := range []byte{0, 1, 7, 255} {
				long := append(slices.Clone(text), bytes.Repeat([]byte{x}, more)...)
				wantError(t, sealed(long), api.ErrFrame)
			}
		}
		wantError(t, sealed(sealed(text)), api.ErrFrame)
		if twice := sealed(slices.Concat(text, text)); len(twice) > longestFrame {
			wantError(t, twice, api.ErrLen)
		}
		wantError(t, append(sealed(text), 0), api.ErrSum)
	}
}

// filled answers a message of a kind with lists so long that its frame has so many bytes.
func filled(kind, length int) api.Msg {
	m := right(kind)
	m.Path = make([]int, (length-bytesOfPing)/2)
	m.Todo = make([]int, length-bytesOfPing-len(m.Path))
	return m
}

// P7.1: as many bytes as there may be, and more.
func TestDecodeManyBytes(t *testing.T) {
	for _, kind := range kinds {
		at := sealed(reckoned(filled(kind, longestFrame)))
		above := sealed(reckoned(filled(kind, longestFrame+1)))
		if len(at) != 80 || len(above) != 81 {
			t.Fatalf("%d and %d bytes", len(at), len(above))
		}
		wantError(t, at, api.ErrMessage)
		wantError(t, above, api.ErrLen)
	}
	// With what is too long, nothing else is looked at.
	for _, n := range []int{81, 82, 100, 255, 256, 257, 336, 65536 + 48, 1 << 20} {
		wantError(t, make([]byte, n), api.ErrLen)
		wantError(t, sealed(make([]byte, n-bytesOfSum)), api.ErrLen)
		good := reckoned(right(api.Ping))
		wantError(t, sealed(append(good, make([]byte, n-len(good)-bytesOfSum)...)), api.ErrLen)
	}
	wantError(t, make([]byte, 80), api.ErrSum)
	wantError(t, sealed(make([]byte, 76)), api.ErrFrame)
	wantError(t, sealed(bytes.Repeat([]byte{255}, 76)), api.ErrFrame)
	wantError(t, sealed(append(reckoned(right(api.Ping)), make([]byte, 32)...)), api.ErrFrame)
}

// P7.1: each length of both lists, right or not, of a frame of each kind.
func TestDecodeLengthsOfLists(t *testing.T) {
	for _, m := range append(withLists(), oneOfEach()...) {
		text := reckoned(m)
		todoAt := pathAt + 1 + len(m.Path)
		for length := range 256 {
			changed := replaced(text, pathAt, byte(length))
			wantDivided(t, changed)
			changed = replaced(text, todoAt, byte(length))
			if length == len(m.Todo) {
				wantDecode(t, sealed(changed), m)
				continue
			}
			wantError(t, sealed(changed), api.ErrFrame)
		}
	}
	// Nothing behind the lengths at all.
	head := reckoned(right(api.Any))[:pathAt]
	for length := 1; length < 256; length++ {
		wantError(t, sealed(append(slices.Clone(head), byte(length))), api.ErrFrame)
		wantError(t, sealed(append(slices.Clone(head), byte(length), 0)), api.ErrFrame)
		wantError(t, sealed(append(slices.Clone(head), 0, byte(length))), api.ErrFrame)
		wantError(t, sealed(append(slices.Clone(head), byte(length), 255)), api.ErrFrame)
	}
}

// wantDivided works out from the two lengths in text alone whether both lists fill it, and wants that: ErrFrame, or what msg.Check says of it.
func wantDivided(t *testing.T, text []byte) {
	t.Helper()
	todoAt := pathAt + 1 + int(text[pathAt])
	if todoAt >= len(text) || todoAt+1+int(text[todoAt]) != len(text) {
		wantError(t, sealed(text), api.ErrFrame)
		return
	}
	m := api.Msg{}
	for _, f := range allNumbers {
		for _, x := range text[f.at : f.at+f.size] {
			*f.in(&m) = *f.in(&m)<<8 + int(x)
		}
	}
	for _, x := range text[pathAt+1 : todoAt] {
		m.Path = append(m.Path, int(x))
	}
	for _, x := range text[todoAt+1:] {
		m.Todo = append(m.Todo, int(x))
	}
	if e := msg.Check(m); e != api.OK {
		wantError(t, sealed(text), e)
		return
	}
	wantDecode(t, sealed(text), m)
}

// P7.1: numbers beyond what a field of a message may hold, and such as are no numbers at all.
func TestDecodeNumbersTooGreat(t *testing.T) {
	for _, kind := range kinds {
		text := reckoned(right(kind))
		for _, f := range allNumbers {
			full := bytes.Repeat([]byte{255}, f.size)
			if f.size < 8 {
				wantError(t, sealed(replaced(text, f.at, full...)), api.ErrMessage)
				full[0] = 128
				wantError(t, sealed(replaced(text, f.at, full...)), api.ErrMessage)
				continue
			}
			// An epoch from Ring on is no number (4); below it, it is one, but not of a right message.
			for _, c := range []struct {
				epoch uint64
				want  api.Errno
			}{
				{1 << 62, api.ErrFrame}, {1<<62 + 1, api.ErrFrame}, {1<<63 - 1, api.ErrFrame}, {1 << 63, api.ErrFrame}, {1<<63 + 1, api.ErrFrame}, {1<<63 + 5, api.ErrFrame}, {1<<64 - 1, api.ErrFrame},
				{1<<62 - 1, api.ErrMessage}, {1 << 61, api.ErrMessage}, {1 << 32, api.ErrMessage}, {1<<32 + 1, api.ErrMessage}, {greatestEpoch + 1, api.ErrMessage},
			} {
				wantError(t, sealed(replaced(text, f.at, binary.BigEndian.AppendUint64(nil, c.epoch)...)), c.want)
			}
		}
	}
}

// P7.1: each value of each byte of a frame, sealed anew: what is then decoded is what those bytes say.
func TestDecodeEachByteSealedAnew(t *testing.T) {
	for _, m := range oneOfEach() {
		text := reckoned(m)
		for i := range text {
			for x := range 256 {
				changed := replaced(text, i, byte(x))
				if i == 12 && x >= 64 {
					wantError(t, sealed(changed), api.ErrFrame)
					continue
				}
				wantDivided(t, changed)
			}
		}
	}
}

// P7.1: of several errors the first in the chapter's order.
func TestOrderOfErrors(t *testing.T) {
	wrongMessage := right(api.Ping)
	wrongMessage.To = wrongMessage.From
	text := reckoned(wrongMessage)
	noFrame := append(slices.Clone(text), 0)
	noNumber := replaced(text, 12, 255)
	wrongSum := func(b []byte) []byte {
		out := sealed(b)
		out[len(out)-1] ^= 1
		return out
	}
	wantError(t, sealed(text), api.ErrMessage)
	wantError(t, sealed(noFrame), api.ErrFrame)  // no frame, and no right message
	wantError(t, sealed(noNumber), api.ErrFrame) // likewise
	wantError(t, sealed(text[:len(text)-1]), api.ErrFrame)
	wantError(t, wrongSum(text), api.ErrSum)    // no right message
	wantError(t, wrongSum(noFrame), api.ErrSum) // no frame, and no right message
	wantError(t, wrongSum(noNumber), api.ErrSum)
	wantError(t, wrongSum(text[:5]), api.ErrSum)
	wantError(t, wrongSum(append(noNumber, make([]byte, 33)...)), api.ErrLen) // 81 bytes, and all the rest
	wantError(t, wrongSum(append(noNumber, make([]byte, 32)...)), api.ErrSum)
	wantError(t, sealed(append(noNumber, make([]byte, 33)...)), api.ErrLen)
}

// P7.2: each byte changed by each mask.
func TestOneByteChanged(t *testing.T) {
	for _, m := range append(oneOfEach(), withLists()[7], withLists()[8]) {
		frame, _ := Encode(m)
		for i := range frame {
			for mask := 1; mask < 256; mask++ {
				frame[i] ^= byte(mask)
				if got, err := Decode(frame); err != api.ErrSum || !isZero(got) {
					t.Fatalf("%+v, byte %d changed by %x: %+v, %d", m, i, mask, got, err)
				}
				frame[i] ^= byte(mask)
			}
		}
		wantDecode(t, frame, m)
	}
}

// masks answers changes of up to four bytes: one bit, two bits, runs of bits, all of some bytes, and many of no rule.
func masks() []uint32 {
	var l []uint32
	for i := range 32 {
		for j := i; j < 32; j++ {
			l = append(l, 1<<i|1<<j, (1<<(j-i+1)-1)<<i)
		}
	}
	for some := 1; some < 16; some++ {
		mask := uint32(0)
		for i := range 4 {
			if some>>i&1 == 1 {
				mask |= 255 << (8 * i)
			}
		}
		l = append(l, mask)
	}
	l = append(l, 0xEDB88320, 0x04C11DB7, 0xDB710641, 0x82608EDB, 0x80000001)
	r := rand.New(rand.NewSource(7))
	for range 300 {
		if mask := r.Uint32(); mask != 0 {
			l = append(l, mask, mask>>16|1, mask&^0xff|1)
		}
	}
	return l
}

// P7.2: up to four bytes side by side changed, at each place, those of the sum too.
func TestFourBytesSideBySideChanged(t *testing.T) {
	all := masks()
	for _, m := range oneOfEach() {
		frame, _ := Encode(m)
		for i := 0; i+4 <= len(frame); i++ {
			for _, mask := range all {
				changed := slices.Clone(frame)
				for k := range 4 {
					changed[i+k] ^= byte(mask >> (8 * k))
				}
				if got, err := Decode(changed); err != api.ErrSum || !isZero(got) {
					t.Fatalf("%+v, bytes from %d on changed by %x: %+v, %d", m, i, mask, got, err)
				}
			}
		}
	}
}

// P7.2: one message's bytes, four by four, in another right one's stead.
func TestFourBytesOfAnother(t *testing.T) {
	all := oneOfEach()
	for _, m := range all {
		frame, _ := Encode(m)
		for _, other := range all {
			from, _ := Encode(other)
			for i := 0; i+4 <= min(len(frame), len(from)); i++ {
				changed := replaced(frame, i, from[i:i+4]...)
				if bytes.Equal(changed, frame) {
					continue
				}
				wantError(t, changed, api.ErrSum)
			}
		}
	}
}

// P7.1: bytes of no rule are no frames; sealed, they are what they say.
func TestDecodeMixedBytes(t *testing.T) {
	r := rand.New(rand.NewSource(77))
	found := map[api.Errno]int{}
	for range 20000 {
		text := reckoned(right(kinds[r.Intn(len(kinds))]))
		for range r.Intn(3) {
			text[r.Intn(len(text))] = byte(r.Intn(1 << r.Intn(9)))
		}
		if r.Intn(4) == 0 {
			text = text[:r.Intn(len(text)+1)]
		}
		m, err := Decode(crc.Seal(text))
		found[err]++
		if err != api.OK && !isZero(m) {
			t.Fatalf("%v: %+v beside error %d", text, m, err)
		}
		if again, _ := Encode(m); err == api.OK && !bytes.Equal(again, crc.Seal(text)) {
			t.Fatalf("%v was decoded to %+v, and encoded to %v", text, m, again)
		}
		if err != api.OK && err != api.ErrFrame && err != api.ErrMessage {
			t.Fatalf("%v: error %d", text, err)
		}
	}
	if found[api.OK] < 1000 || found[api.ErrFrame] < 1000 || found[api.ErrMessage] < 1000 {
		t.Errorf("found %v", found)
	}
	for range 20000 {
		b := make([]byte, r.Intn(100))
		r.Read(b)
		want := api.ErrSum
		if len(b) < bytesOfSum || len(b) > longestFrame {
			want = api.ErrLen
		}
		wantError(t, b, want)
	}
}

// roomyList answers a copy of l with marked numbers behind, whole and as the part that is l: the rest is its spare room.
func roomyList(l []int) (whole, part []int) {
	whole = slices.Concat(l, []int{3, 2, -77, -78, 1 << 40, 0, 1, 5, 300, -1, -2, -3})
	return whole, whole[:len(l)]
}

// roomyBytes does the same to bytes.
func roomyBytes(b []byte) (whole, part []byte) {
	whole = slices.Concat(b, bytes.Repeat([]byte{0xa5}, 200))
	return whole, whole[:len(b)]
}

// fill overwrites a list and its spare room.
func fill[T any](l []T, by T) {
	l = l[:cap(l)]
	for i := range l {
		l[i] = by
	}
}

// R2, R6: the lists of a message, right or not, and what lies behind them.
func TestEncodeLeavesWhatIsHandedIn(t *testing.T) {
	for _, m := range append(manyRight(), wrong()...) {
		want, wantErr := Encode(m)
		wholePath, path := roomyList(m.Path)
		wholeTodo, todo := roomyList(m.Todo)
		roomy := m
		roomy.Path, roomy.Todo = path, todo
		got, err := Encode(roomy)
		if !bytes.Equal(got, want) || err != wantErr {
			t.Errorf("Encode(%+v) with spare room = %v, %d, want %v, %d", m, got, err, want, wantErr)
		}
		wantPath, _ := roomyList(m.Path)
		wantTodo, _ := roomyList(m.Todo)
		if !slices.Equal(wholePath, wantPath) || !slices.Equal(wholeTodo, wantTodo) || !same(roomy, m) {
			t.Errorf("%+v: its lists became %v, %v", m, wholePath, wholeTodo)
		}
	}
}

// R2, R6: the bytes of a frame, right or not, and what lies behind them.
func TestDecodeLeavesWhatIsHandedIn(t *testing.T) {
	var all [][]byte
	for _, m := range manyRight() {
		frame := sealed(reckoned(m))
		all = append(all, frame, frame[:len(frame)-5], sealed(frame), replaced(frame, 7, 0xee))
	}
	for _, m := range wrong()[:500] {
		all = append(all, sealed(reckoned(m)))
	}
	all = append(all, nil, make([]byte, 3), make([]byte, 4), make([]byte, 200))
	for _, b := range all {
		want, wantErr := Decode(b)
		whole, part := roomyBytes(b)
		got, err := Decode(part)
		if !same(got, want) || err != wantErr {
			t.Errorf("Decode(%v) with spare room = %+v, %d, want %+v, %d", b, got, err, want, wantErr)
		}
		if wantWhole, _ := roomyBytes(b); !bytes.Equal(whole, wantWhole) {
			t.Errorf("%v became %v", wantWhole, whole)
		}
	}
}

// R2: what is answered shares no memory with what was handed in, nor with another answer, nor its lists with each other.
func TestAnswersAreNewMemory(t *testing.T) {
	for _, m := range manyRight() {
		want := sealed(reckoned(m))
		_, path := roomyList(m.Path)
		_, todo := roomyList(m.Todo)
		handed := m
		handed.Path, handed.Todo = path, todo
		first, _ := Encode(handed)
		second, _ := Encode(handed)
		fill(first, 0x5a)
		if !same(handed, m) || !bytes.Equal(second, want) {
			t.Errorf("%+v: the first frame shares memory", m)
		}
		fill(path, 99)
		fill(todo, 99)
		if !bytes.Equal(second, want) {
			t.Errorf("%+v: the second frame shares memory with the lists", m)
		}

		_, frame := roomyBytes(want)
		a, _ := Decode(frame)
		b, _ := Decode(frame)
		fill(a.Path, 99)
		if !slices.Equal(a.Todo, m.Todo) {
			t.Errorf("%+v: Todo shares memory with Path", m)
		}
		fill(a.Todo, 98)
		for _, n := range a.Path {
			if n != 99 {
				t.Errorf("%+v: Path shares memory with Todo", m)
			}
		}
		if !bytes.Equal(frame, want) || !same(b, m) {
			t.Errorf("%+v: the first message shares memory", m)
		}
		fill(frame, 0x5a)
		if !same(b, m) {
			t.Errorf("%+v: the second message shares memory with the frame", m)
		}
	}
}

// R3: what was asked ahead is not to be seen in an answer.
func TestNothingIsKept(t *testing.T) {
	for range 3 {
		for _, m := range oneOfEach() {
			frame := sealed(reckoned(m))
			wantEncode(t, m, frame)
			wantDecode(t, frame, m)
			m.FromInc = 0
			wantNoFrame(t, m)
			wantError(t, sealed(reckoned(m)), api.ErrMessage)
			wantError(t, frame[1:], api.ErrSum)
			wantError(t, nil, api.ErrLen)
		}
	}
}
