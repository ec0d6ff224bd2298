package script

import (
	"bytes"
	"errors"
	"math"
	"math/rand"
	"slices"
	"testing"

	"bellwether/api"
)

// The limits of the document, written out anew.
const (
	fullScript = 4000 // bytes
	fullSteps  = 800
	size       = 5 // bytes of a step
	greatest   = 255
)

// A step's fields, in the order of their bytes.
const (
	kindField = iota
	nodeField
	topicField
	valueField
	maskField
)

// farOff are numbers that no field may have where it is asked.
var farOff = []int{-1, -2, -8, -255, -256, 256, 257, 512, 1 << 16, 1 << 32, 1<<32 + 1, 1<<32 + 2, 1 << 62, math.MinInt, math.MinInt + 1, math.MaxInt - 1, math.MaxInt}

// anything are numbers for a field that is not asked.
var anything = append([]int{0, 1, 2, 3, 4, 5, 7, 8, 9, 127, 128, 254, 255}, farOff...)

// span is the least and the greatest that a number may be.
type span struct{ least, most int }

func (s span) holds(n int) bool { return s.least <= n && n <= s.most }

// spans are those of a config's numbers.
var spans = [7]span{{1, 8}, {1, 4}, {1, 4}, {1, 8}, {1, 16}, {1, 16}, {2, 32}}

// config answers the config of these numbers.
func config(n [7]int) api.Config {
	return api.Config{Nodes: n[0], Topics: n[1], Kids: n[2], Depth: n[3], Keep: n[4], Window: n[5], Queue: n[6]}
}

// leasts and mosts answer the numbers of the configs at the bounds.
func leasts() (n [7]int) {
	for i, s := range spans {
		n[i] = s.least
	}
	return n
}
func mosts() (n [7]int) {
	for i, s := range spans {
		n[i] = s.most
	}
	return n
}

// middles are a right config's numbers, no bound among them.
var middles = [7]int{5, 3, 2, 6, 9, 7, 12}

// rightConfigs answers right configs.
func rightConfigs() []api.Config {
	return []api.Config{config(leasts()), config(mosts()), config(middles)}
}

// wrongConfigs answers configs each of which has one number that is wrong, and some in which many are.
func wrongConfigs() []api.Config {
	all := []api.Config{{}, config([7]int{-1, -1, -1, -1, -1, -1, -1}), config([7]int{9, 5, 5, 9, 17, 17, 33})}
	for i, s := range spans {
		for _, base := range [][7]int{leasts(), mosts(), middles} {
			for _, n := range append([]int{s.least - 1, s.most + 1}, farOff...) {
				base[i] = n
				all = append(all, config(base))
			}
		}
	}
	return all
}

// step answers the step of these fields.
func step(n [size]int) api.Step {
	return api.Step{Kind: n[0], Node: n[1], Topic: n[2], Value: n[3], Mask: n[4]}
}

// stepsOf answers n steps, all unlike, each field a byte.
func stepsOf(n int) []api.Step {
	l := make([]api.Step, n)
	for i := range l {
		l[i] = step([size]int{i % 256, i / 256, (i*7 + 1) % 256, (i*31 + 2) % 256, 255 - i%256})
	}
	return l
}

// bytesOf answers n bytes, each step's unlike the others'.
func bytesOf(n int) []byte {
	var b []byte
	for _, s := range stepsOf(n/size + 1) {
		b = append(b, byte(s.Kind), byte(s.Node), byte(s.Topic), byte(s.Value), byte(s.Mask))
	}
	return b[:n:n]
}

// with answers a copy of l with s at a place, in another's stead.
func with(l []api.Step, at int, s api.Step) []api.Step {
	out := slices.Clone(l)
	out[at] = s
	return out
}

// places answers a list's first places, midst and last ones.
func places(n int) []int {
	var all []int
	for _, at := range []int{0, 1, n / 2, n - 2, n - 1} {
		if at >= 0 && at < n && !slices.Contains(all, at) {
			all = append(all, at)
		}
	}
	return all
}

// asks answers what a kind asks of each field, the kind aside; the fields that it lacks are not asked.
func asks(c api.Config, kind int) map[int]span {
	node, topic, value := span{0, c.Nodes - 1}, span{0, c.Topics - 1}, span{0, greatest}
	switch kind {
	case api.Tick, api.Crash, api.Start:
		return map[int]span{nodeField: node}
	case api.Create, api.Subscribe, api.Unsubscribe, api.Anycast, api.Poll:
		return map[int]span{nodeField: node, topicField: topic}
	case api.Publish:
		return map[int]span{nodeField: node, topicField: topic, valueField: value}
	case api.Deliver, api.Drop, api.Twice:
		return map[int]span{valueField: value}
	case api.Corrupt:
		return map[int]span{valueField: value, topicField: {0, greatest}, maskField: {1, greatest}}
	}
	return nil
}

// kinds are the thirteen.
var kinds = []int{
	api.Tick, api.Deliver, api.Drop, api.Twice, api.Corrupt, api.Crash, api.Start,
	api.Create, api.Subscribe, api.Unsubscribe, api.Publish, api.Anycast, api.Poll,
}

// noKinds are numbers of no kind.
var noKinds = append([]int{0, 14, 15, 16, 128, 254, 255}, farOff...)

// rightSteps answers right steps of a kind: at the least, and at the greatest, of all that it asks.
func rightSteps(c api.Config, kind int) [][size]int {
	low, high := [size]int{kind}, [size]int{kind}
	for field, s := range asks(c, kind) {
		low[field], high[field] = s.least, s.most
	}
	return [][size]int{low, high}
}

// wrongAt answers the error that a wrong number in a field is told by.
func wrongAt(field int) api.Errno {
	if field == nodeField {
		return api.ErrNode
	}
	return api.ErrArg
}

// reckoned answers what Check does of a right config.
func reckoned(c api.Config, n [size]int) api.Errno {
	if !slices.Contains(kinds, n[kindField]) {
		return api.ErrArg
	}
	asked := asks(c, n[kindField])
	for _, field := range []int{nodeField, topicField, valueField, maskField} {
		if s, ok := asked[field]; ok && !s.holds(n[field]) {
			return wrongAt(field)
		}
	}
	return api.OK
}

func wantConfig(t *testing.T, c api.Config, want api.Errno) {
	t.Helper()
	if e := Config(c); e != want {
		t.Errorf("Config(%v) = %d, want %d", c, e, want)
	}
}

func wantCheck(t *testing.T, c api.Config, n [size]int, want api.Errno) {
	t.Helper()
	if e := Check(c, step(n)); e != want {
		t.Errorf("Check(%v, %v) = %d, want %d", c, n, e, want)
	}
}

// wantParse wants these steps and no error, or this error and nothing beside it.
func wantParse(t *testing.T, b []byte, want []api.Step, wantErr api.Errno) {
	t.Helper()
	l, e := Parse(b)
	if !slices.Equal(l, want) || e != wantErr {
		t.Errorf("Parse of %d bytes = %d steps, %d, want %d steps, %d", len(b), len(l), e, len(want), wantErr)
	}
}

// wantBytes wants these bytes and no error, or this error and nothing beside it.
func wantBytes(t *testing.T, l []api.Step, want []byte, wantErr api.Errno) {
	t.Helper()
	b, e := Bytes(l)
	if !bytes.Equal(b, want) || e != wantErr {
		t.Errorf("Bytes of %d steps = %d bytes, %d, want %d bytes, %d", len(l), len(b), e, len(want), wantErr)
	}
}

// P9.1: each number at each value that it may have, and beyond both ends, whatever the others are.
func TestConfigOfEachNumber(t *testing.T) {
	for i, s := range spans {
		for _, base := range [][7]int{leasts(), mosts(), middles} {
			for n := s.least; n <= s.most; n++ {
				base[i] = n
				wantConfig(t, config(base), api.OK)
			}
			for _, n := range append([]int{s.least - 1, s.least - 2, s.most + 1, s.most + 2, s.most * 2, greatest}, farOff...) {
				base[i] = n
				wantConfig(t, config(base), api.ErrConfig)
			}
		}
	}
}

// P9.1
func TestConfigOfManyWrong(t *testing.T) {
	for _, c := range wrongConfigs() {
		wantConfig(t, c, api.ErrConfig)
	}
	for i := range spans {
		for j := range spans {
			if i != j {
				n := middles
				n[i], n[j] = spans[i].least-1, spans[j].most+1
				wantConfig(t, config(n), api.ErrConfig)
			}
		}
	}
}

// P9.1: a great many, held against the spans.
func TestMixedConfigs(t *testing.T) {
	r := rand.New(rand.NewSource(1))
	for range 50000 {
		var n [7]int
		want := api.OK
		for i, s := range spans {
			n[i] = s.least + r.Intn(s.most-s.least+1)
			if r.Intn(14) == 0 {
				n[i] = s.least - 2 + r.Intn(s.most-s.least+5)
			}
			if !s.holds(n[i]) {
				want = api.ErrConfig
			}
		}
		wantConfig(t, config(n), want)
	}
}

// P9.1: no bytes, fewer than a step has, a step, and more.
func TestParseOfFewBytes(t *testing.T) {
	wantParse(t, nil, nil, api.OK)
	wantParse(t, []byte{}, nil, api.OK)
	b := []byte{1, 2, 3, 4, 5, 6, 7, 8, 9, 10, 11, 12}
	first, second := step([size]int{1, 2, 3, 4, 5}), step([size]int{6, 7, 8, 9, 10})
	for n := range size {
		wantParse(t, b[:n], nil, api.OK)
	}
	for n := size; n < 2*size; n++ {
		wantParse(t, b[:n], []api.Step{first}, api.OK)
	}
	for n := 2 * size; n <= len(b); n++ {
		wantParse(t, b[:n], []api.Step{first, second}, api.OK)
	}
}

// P9.1
func TestParseOfEachLength(t *testing.T) {
	for n := range fullScript + 1 {
		wantParse(t, bytesOf(n), stepsOf(n/size), api.OK)
		wantParse(t, make([]byte, n), make([]api.Step, n/size), api.OK)
	}
	for _, n := range []int{1, 2, 3, 4, 5, 6, 96, fullScript, 1 << 16} {
		wantParse(t, bytesOf(fullScript+n), nil, api.ErrLen)
		wantParse(t, make([]byte, fullScript+n), nil, api.ErrLen)
	}
}

// P9.1: each byte in each field, in the first step, in a middle one, in the last.
func TestParseOfEachByte(t *testing.T) {
	for _, n := range []int{1, 3, 7} {
		for _, at := range places(n) {
			for field := range size {
				for x := range greatest + 1 {
					b := bytesOf(n * size)
					b[at*size+field] = byte(x)
					s := [size]int{}
					for i := range s {
						s[i] = int(b[at*size+i])
					}
					wantParse(t, b, with(stepsOf(n), at, step(s)), api.OK)
				}
			}
		}
	}
}

// P9.1, the chapter's example: five zeros are a step that is not right.
func TestParseOfWrongSteps(t *testing.T) {
	wantParse(t, []byte{0, 0, 0, 0, 0}, []api.Step{{}}, api.OK)
	l, _ := Parse([]byte{0, 0, 0, 0, 0, 1, 0, 0, 0, 0, 1, 8, 0, 0, 0, 255, 255, 255, 255, 255, 5, 255, 255, 255, 255, 5, 0, 0, 0, 0})
	want := []api.Errno{api.ErrArg, api.OK, api.ErrNode, api.ErrArg, api.OK, api.ErrArg}
	if len(l) != len(want) {
		t.Fatalf("%d steps, want %d", len(l), len(want))
	}
	for _, c := range rightConfigs() {
		for i, s := range l {
			if e := Check(c, s); e != want[i] {
				t.Errorf("Check(%v, %v) = %d, want %d", c, s, e, want[i])
			}
		}
	}
}

// P9.1
func TestBytesOfEachLength(t *testing.T) {
	wantBytes(t, nil, nil, api.OK)
	wantBytes(t, []api.Step{}, nil, api.OK)
	for n := range fullSteps + 1 {
		wantBytes(t, stepsOf(n), bytesOf(n*size), api.OK)
		wantBytes(t, make([]api.Step, n), make([]byte, n*size), api.OK)
	}
	for _, n := range []int{1, 2, 5, 200, fullScript, 1 << 16} {
		wantBytes(t, make([]api.Step, fullSteps+n), nil, api.ErrLen)
	}
	wantBytes(t, stepsOf(fullSteps+1), nil, api.ErrLen)
}

// P9.1: each field at its bounds and beyond them, in the first step, in a middle one, in the last.
func TestBytesOfEachField(t *testing.T) {
	for _, n := range []int{1, 2, 3, 10, fullSteps} {
		for _, at := range places(n) {
			for field := range size {
				for _, x := range []int{0, 1, 127, 128, 254, greatest} {
					want := bytesOf(n * size)
					want[at*size+field] = byte(x)
					wantBytes(t, with(stepsOf(n), at, withField(stepsOf(n)[at], field, x)), want, api.OK)
				}
				for _, x := range append([]int{greatest + 1}, farOff...) {
					wantBytes(t, with(stepsOf(n), at, withField(stepsOf(n)[at], field, x)), nil, api.ErrArg)
				}
			}
		}
	}
}

// withField answers s with another number in a field.
func withField(s api.Step, field, n int) api.Step {
	all := [size]int{s.Kind, s.Node, s.Topic, s.Value, s.Mask}
	all[field] = n
	return step(all)
}

// P9.1, R4: a field that is no byte is told ahead of too many steps, wherever it is.
func TestBytesTellsTheFieldFirst(t *testing.T) {
	for _, n := range []int{fullSteps + 1, fullSteps + 2, fullScript + 1} {
		for _, at := range append(places(n), fullSteps-1, fullSteps) {
			for field := range size {
				for _, x := range []int{-1, greatest + 1, math.MinInt, math.MaxInt} {
					wantBytes(t, with(make([]api.Step, n), at, withField(api.Step{}, field, x)), nil, api.ErrArg)
				}
			}
		}
	}
}

// P9.1: a kind that is none is told, whatever else is wrong.
func TestCheckOfEachKind(t *testing.T) {
	for _, c := range rightConfigs() {
		for _, kind := range kinds {
			for _, n := range rightSteps(c, kind) {
				wantCheck(t, c, n, api.OK)
			}
		}
		for _, kind := range noKinds {
			for _, x := range append([]int{0, 1}, farOff...) {
				wantCheck(t, c, [size]int{kind, x, 0, 0, 1}, api.ErrArg)
				wantCheck(t, c, [size]int{kind, x, x, x, x}, api.ErrArg)
			}
		}
	}
}

// P9.1: of each kind each field that is asked at each end, and beyond it.
func TestCheckOfEachFieldAsked(t *testing.T) {
	for _, c := range rightConfigs() {
		for _, kind := range kinds {
			for field, s := range asks(c, kind) {
				for _, n := range rightSteps(c, kind) {
					for _, x := range []int{s.least, (s.least + s.most) / 2, s.most} {
						n[field] = x
						wantCheck(t, c, n, api.OK)
					}
					for _, x := range append([]int{s.least - 1, s.least - 2, s.most + 1, s.most + 2}, farOff...) {
						n[field] = x
						wantCheck(t, c, n, wrongAt(field))
					}
				}
			}
		}
	}
}

// P9.1: a node and a topic may be any of the config's, and no other, of configs of each size.
func TestCheckOfEachNodeAndTopic(t *testing.T) {
	for nodes := 1; nodes <= spans[0].most; nodes++ {
		for topics := 1; topics <= spans[1].most; topics++ {
			c := config(middles)
			c.Nodes, c.Topics = nodes, topics
			for _, kind := range kinds {
				for node := -1; node <= nodes+1; node++ {
					for topic := -1; topic <= topics+1; topic++ {
						n := [size]int{kind, node, topic, 1, 1}
						wantCheck(t, c, n, reckoned(c, n))
					}
				}
			}
		}
	}
}

// P9.1: of each kind each field that is not asked, at any number.
func TestCheckOfEachFieldNotAsked(t *testing.T) {
	for _, c := range rightConfigs() {
		for _, kind := range kinds {
			asked := asks(c, kind)
			for field := nodeField; field < size; field++ {
				if _, ok := asked[field]; ok {
					continue
				}
				for _, n := range rightSteps(c, kind) {
					for _, x := range anything {
						n[field] = x
						wantCheck(t, c, n, api.OK)
					}
				}
			}
		}
	}
}

// P9.1: all that is not asked at once.
func TestCheckOfAllNotAsked(t *testing.T) {
	for _, c := range rightConfigs() {
		for _, kind := range kinds {
			for _, x := range anything {
				n := [size]int{kind, x, x, x, x}
				for field, s := range asks(c, kind) {
					n[field] = s.most
				}
				wantCheck(t, c, n, api.OK)
			}
		}
	}
}

// P9.1, R4: a wrong config comes ahead of all that is wrong with the step, or of nothing wrong.
func TestCheckTellsTheConfigFirst(t *testing.T) {
	for _, c := range wrongConfigs() {
		for _, kind := range append([]int{0, 14, -1}, kinds...) {
			for _, n := range [][size]int{{kind, 0, 0, 0, 1}, {kind, -1, 0, 0, 1}, {kind, 0, 9, 300, 0}, {kind, 9, -1, -1, 256}} {
				wantCheck(t, c, n, api.ErrConfig)
			}
		}
	}
}

// P9.1, R4: where the node is asked and wrong, it is told ahead of the others.
func TestCheckTellsTheNodeFirst(t *testing.T) {
	for _, c := range rightConfigs() {
		for _, kind := range kinds {
			_, nodeAsked := asks(c, kind)[nodeField]
			for _, node := range []int{c.Nodes, -1, math.MaxInt, math.MinInt} {
				for _, x := range farOff {
					for _, n := range [][size]int{{kind, node, x, 0, 1}, {kind, node, 0, x, 1}, {kind, node, 0, 0, x}, {kind, node, x, x, x}} {
						if nodeAsked {
							wantCheck(t, c, n, api.ErrNode)
						} else {
							wantCheck(t, c, n, reckoned(c, n))
						}
					}
				}
			}
		}
	}
}

// P9.1: a great many, held against the reckoning.
func TestMixedSteps(t *testing.T) {
	r := rand.New(rand.NewSource(2))
	met := map[api.Errno]int{}
	for range 200000 {
		var numbers [7]int
		for i, s := range spans {
			numbers[i] = s.least + r.Intn(s.most-s.least+1)
		}
		c := config(numbers)
		n := [size]int{r.Intn(16) - 1, r.Intn(c.Nodes+2) - 1, r.Intn(c.Topics+2) - 1, r.Intn(greatest+1) + r.Intn(3) - 1, r.Intn(greatest+3) - 1}
		if r.Intn(4) == 0 {
			n[r.Intn(size)] = anything[r.Intn(len(anything))]
		}
		want := reckoned(c, n)
		met[want]++
		wantCheck(t, c, n, want)
	}
	for _, e := range []api.Errno{api.OK, api.ErrNode, api.ErrArg} {
		if met[e] < 1000 {
			t.Errorf("%d was met %d times alone", e, met[e])
		}
	}
}

// P9.2: the steps of what is written are those that were given.
func TestWhatIsWrittenIsRead(t *testing.T) {
	r := rand.New(rand.NewSource(3))
	for range 2000 {
		l := make([]api.Step, r.Intn(fullSteps+1)>>r.Intn(10))
		for i := range l {
			var n [size]int
			for field := range n {
				n[field] = r.Intn(greatest + 1)
			}
			l[i] = step(n)
		}
		b, e := Bytes(l)
		if e != api.OK || len(b) != len(l)*size {
			t.Fatalf("Bytes of %d steps: %d bytes, %d", len(l), len(b), e)
		}
		wantParse(t, b, l, api.OK)
	}
}

// P9.2: the bytes of what is read are those that were given, but for what is left at the end.
func TestWhatIsReadIsWritten(t *testing.T) {
	r := rand.New(rand.NewSource(4))
	for range 2000 {
		b := make([]byte, r.Intn(fullScript+1)>>r.Intn(12))
		for i := range b {
			b[i] = byte(r.Intn(256))
		}
		l, e := Parse(b)
		if e != api.OK {
			t.Fatalf("Parse of %d bytes: %d", len(b), e)
		}
		wantBytes(t, l, b[:len(b)-len(b)%size], api.OK)
	}
}

// P9.2: right steps of each kind are right when they are read again.
func TestRightStepsStayRight(t *testing.T) {
	for _, c := range rightConfigs() {
		var l []api.Step
		for _, kind := range kinds {
			for _, n := range rightSteps(c, kind) {
				l = append(l, step(n))
			}
		}
		b, e := Bytes(l)
		if e != api.OK {
			t.Fatalf("Bytes: %d", e)
		}
		again, e := Parse(b)
		if e != api.OK || !slices.Equal(again, l) {
			t.Fatalf("Parse: %d steps, %d", len(again), e)
		}
		for _, s := range again {
			if e := Check(c, s); e != api.OK {
				t.Errorf("Check(%v, %v) = %d", c, s, e)
			}
		}
	}
}

// roomy answers a copy of l with spare room of n marks behind.
func roomy[T any](l []T, n int, mark T) []T {
	out := slices.Clone(l)
	for range n {
		out = append(out, mark)
	}
	return out[:len(l)]
}

// fill writes mark all over l, its spare room too.
func fill[T any](l []T, mark T) {
	l = l[:cap(l)]
	for i := range l {
		l[i] = mark
	}
}

// wrongStep is a step of which no field is a byte.
var wrongStep = api.Step{Kind: -1, Node: 256, Topic: -1, Value: 256, Mask: math.MaxInt}

// R2, R6: what is handed in stays as it was, its spare room too, which is not read either.
func TestWhatIsHandedInStays(t *testing.T) {
	for _, n := range []int{0, 1, 4, 5, 6, 9, 10, 3999, fullScript, fullScript + 1} {
		b := roomy(bytesOf(n), 9, 77)
		before := slices.Clone(b[:n+9])
		want := []api.Step(nil)
		wantErr := api.ErrLen
		if n <= fullScript {
			want, wantErr = stepsOf(n/size), api.OK
		}
		wantParse(t, b, want, wantErr)
		if !bytes.Equal(b[:n+9], before) {
			t.Errorf("Parse changed its %d bytes, or what is behind them", n)
		}
	}
	for _, n := range []int{0, 1, 2, 3, 799, fullSteps} {
		for _, l := range [][]api.Step{stepsOf(n), with(append(stepsOf(n), api.Step{}), n, wrongStep), make([]api.Step, fullSteps+1)} {
			l = roomy(l, 9, wrongStep)
			before := slices.Clone(l[:len(l)+9])
			Bytes(l)
			if !slices.Equal(l[:len(l)+9], before) {
				t.Errorf("Bytes changed its %d steps, or what is behind them", n)
			}
		}
		wantBytes(t, roomy(stepsOf(n), 9, wrongStep), bytesOf(n*size), api.OK)
	}
}

// R2: what is answered shares no memory with what was handed in, nor with another answer.
func TestAnswersAreNewMemory(t *testing.T) {
	for _, n := range []int{0, 1, 2, 3, 10, fullSteps} {
		b, l := roomy(bytesOf(n*size), 9, 77), roomy(stepsOf(n), 9, wrongStep)
		b0, l0 := slices.Clone(b[:len(b)+9]), slices.Clone(l[:n+9])
		steps, _ := Parse(b)
		others, _ := Parse(b)
		written, _ := Bytes(l)
		writtenToo, _ := Bytes(l)
		fill(others, wrongStep)
		fill(writtenToo, 99)
		if !slices.Equal(steps, stepsOf(n)) || !bytes.Equal(written, bytesOf(n*size)) {
			t.Errorf("%d steps: two answers share memory", n)
		}
		if !bytes.Equal(b[:len(b)+9], b0) || !slices.Equal(l[:n+9], l0) {
			t.Errorf("%d steps: an answer shares memory with what was handed in", n)
		}
		fill(b, 88)
		fill(l, wrongStep)
		if !slices.Equal(steps, stepsOf(n)) || !bytes.Equal(written, bytesOf(n*size)) {
			t.Errorf("%d steps: what was handed in shares memory with an answer", n)
		}
	}
}

// R3: what is asked between changes nothing, be it refused or not.
func TestNothingIsKept(t *testing.T) {
	c := config(middles)
	for range 3 {
		wantParse(t, bytesOf(12), stepsOf(2), api.OK)
		wantParse(t, make([]byte, fullScript+1), nil, api.ErrLen)
		wantParse(t, nil, nil, api.OK)
		wantBytes(t, stepsOf(3), bytesOf(15), api.OK)
		wantBytes(t, []api.Step{wrongStep}, nil, api.ErrArg)
		wantBytes(t, make([]api.Step, fullSteps+1), nil, api.ErrLen)
		wantBytes(t, nil, nil, api.OK)
		wantConfig(t, c, api.OK)
		wantConfig(t, api.Config{}, api.ErrConfig)
		wantCheck(t, c, [size]int{api.Tick, 4}, api.OK)
		wantCheck(t, c, [size]int{api.Tick, 5}, api.ErrNode)
		wantCheck(t, config(mosts()), [size]int{api.Tick, 5}, api.OK)
		wantCheck(t, api.Config{}, [size]int{api.Tick, 0}, api.ErrConfig)
		wantCheck(t, c, [size]int{api.Poll, 4, 3}, api.ErrArg)
		wantCheck(t, c, [size]int{api.Poll, 4, 2}, api.OK)
	}
}

// DOC.md, 'Ways': inside, a wrong number is an error that tells its field and wraps why.
func TestAWrongNumberIsAWrappedError(t *testing.T) {
	err := within(node, 3, 0, 2)
	var wrong fieldError
	if !errors.Is(err, errOutside) || !errors.As(err, &wrong) || wrong.field != node {
		t.Errorf("%v is no error of the node", err)
	}
	if err.Error() != "Node: outside its bounds" {
		t.Errorf("it says %q", err.Error())
	}
	if err := within(node, 2, 0, 2); err != nil {
		t.Errorf("a right number: %v", err)
	}
}
