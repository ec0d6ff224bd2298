package bag

import (
	"bytes"
	"math"
	"math/rand"
	"slices"
	"testing"

	"bellwether/api"
)

// The limits of the document, written out anew.
const (
	nodes    = 8
	fullBag  = 300
	longest  = 80
	greatest = 255 // of the masks
)

// farOff are numbers that are no node's, no place, no mask.
var farOff = []int{-1, -2, -8, -256, math.MinInt, math.MinInt + 1, 1 << 32, 1<<32 + 1, 1 << 62, math.MaxInt}

// lengths are how many frames the bags that are tried have.
var lengths = []int{0, 1, 2, 3, 10, 298, 299, 300}

// counted answers n bytes, those of unlike seeds unlike.
func counted(n, seed int) []byte {
	b := make([]byte, n)
	for i := range b {
		b[i] = byte(seed*31 + i*7 + 1)
	}
	return b
}

// bagOf answers a right bag of n frames, all unlike, of all nodes and of all lengths.
func bagOf(n int) []api.Frame {
	l := make([]api.Frame, n)
	for i := range l {
		l[i] = api.Frame{To: i % nodes, Bytes: counted(i*7%(longest+1), i)}
	}
	return l
}

// rightFrames answers right frames at all their edges.
func rightFrames() []api.Frame {
	var all []api.Frame
	for to := range nodes {
		for _, b := range [][]byte{nil, {}, {0}, {255}, counted(2, to), counted(longest-1, to), counted(longest, to)} {
			all = append(all, api.Frame{To: to, Bytes: b})
		}
	}
	return all
}

// wrongFrames answers frames that are not right.
func wrongFrames() []api.Frame {
	all := []api.Frame{{To: nodes}, {To: nodes + 1}, {To: 255}, {To: 256}, {To: -1, Bytes: make([]byte, longest+1)}}
	for _, to := range farOff {
		all = append(all, api.Frame{To: to}, api.Frame{To: to, Bytes: counted(longest, 3)})
	}
	for _, n := range []int{longest + 1, longest + 2, 2 * longest, 256, 1 << 16} {
		all = append(all, api.Frame{Bytes: make([]byte, n)}, api.Frame{To: nodes - 1, Bytes: make([]byte, n)})
	}
	return all
}

// cloned answers a copy of l that shares nothing with it.
func cloned(l []api.Frame) []api.Frame {
	out := make([]api.Frame, len(l))
	for i, f := range l {
		out[i] = api.Frame{To: f.To, Bytes: append([]byte{}, f.Bytes...)}
	}
	return out
}

// with answers a copy of l with f at a place, in another's stead.
func with(l []api.Frame, at int, f api.Frame) []api.Frame {
	out := slices.Clone(l)
	out[at] = f
	return out
}

// without answers a copy of l that lacks the frame at a place.
func without(l []api.Frame, at int) []api.Frame {
	return append(append([]api.Frame{}, l[:at]...), l[at+1:]...)
}

// places answers a bag's first places, midst and last ones.
func places(n int) []int {
	var all []int
	for _, at := range []int{0, 1, n / 2, n - 2, n - 1} {
		if at >= 0 && at < n && !slices.Contains(all, at) {
			all = append(all, at)
		}
	}
	return all
}

// noPlaces answers numbers that are no place among n.
func noPlaces(n int) []int {
	return append([]int{n, n + 1, fullBag, fullBag + 1}, farOff...)
}

func sameFrame(a, b api.Frame) bool {
	return a.To == b.To && bytes.Equal(a.Bytes, b.Bytes)
}

func sameBag(a, b []api.Frame) bool {
	return slices.EqualFunc(a, b, sameFrame)
}

func wantCheck(t *testing.T, l []api.Frame, want api.Errno) {
	t.Helper()
	if e := Check(l); e != want {
		t.Errorf("Check of %d frames = %d, want %d", len(l), e, want)
	}
}

// wantBag wants a bag and no error, or this error and nothing beside it.
func wantBag(t *testing.T, call string, got []api.Frame, e api.Errno, want []api.Frame, wantErr api.Errno) {
	t.Helper()
	if wantErr != api.OK && len(want) != 0 {
		t.Fatal("the test wants a bag beside an error")
	}
	if !sameBag(got, want) || e != wantErr {
		t.Errorf("%s = %d frames, %d, want %d frames, %d", call, len(got), e, len(want), wantErr)
	}
}

func wantPut(t *testing.T, l []api.Frame, f api.Frame, want []api.Frame, wantErr api.Errno) {
	t.Helper()
	got, e := Put(l, f)
	wantBag(t, "Put", got, e, want, wantErr)
}

func wantTake(t *testing.T, l []api.Frame, at int, wantFrame api.Frame, want []api.Frame, wantErr api.Errno) {
	t.Helper()
	f, rest, e := Take(l, at)
	wantBag(t, "Take", rest, e, want, wantErr)
	if !sameFrame(f, wantFrame) {
		t.Errorf("Take at %d = %v, want %v", at, f, wantFrame)
	}
}

func wantTwice(t *testing.T, l []api.Frame, at int, want []api.Frame, wantErr api.Errno) {
	t.Helper()
	got, e := Twice(l, at)
	wantBag(t, "Twice", got, e, want, wantErr)
}

func wantCorrupt(t *testing.T, l []api.Frame, at, place, mask int, want []api.Frame, wantErr api.Errno) {
	t.Helper()
	got, e := Corrupt(l, at, place, mask)
	wantBag(t, "Corrupt", got, e, want, wantErr)
}

// wantNothing wants Take, Twice and Corrupt at a place to tell this error, and nothing beside it.
func wantNothing(t *testing.T, l []api.Frame, at int, want api.Errno) {
	t.Helper()
	wantTake(t, l, at, api.Frame{}, nil, want)
	wantTwice(t, l, at, nil, want)
	for _, place := range []int{0, -1, longest, math.MaxInt} {
		for _, mask := range []int{1, 0, greatest + 1} {
			wantCorrupt(t, l, at, place, mask, nil, want)
		}
	}
}

// P8.1
func TestCheckOfEachLength(t *testing.T) {
	wantCheck(t, nil, api.OK)
	wantCheck(t, []api.Frame{}, api.OK)
	for n := range fullBag + 1 {
		wantCheck(t, bagOf(n), api.OK)
		wantCheck(t, make([]api.Frame, n), api.OK)
	}
	for _, n := range []int{fullBag + 1, fullBag + 2, 2 * fullBag, 512, 1 << 16} {
		wantCheck(t, bagOf(n), api.ErrLen)
		wantCheck(t, make([]api.Frame, n), api.ErrLen)
	}
}

// P8.1: at the bag's beginning, in its midst, at its end.
func TestCheckOfEachFrame(t *testing.T) {
	for _, n := range lengths {
		l := bagOf(n)
		for _, at := range places(n) {
			for _, f := range rightFrames() {
				wantCheck(t, with(l, at, f), api.OK)
			}
			for _, f := range wrongFrames() {
				wantCheck(t, with(l, at, f), api.ErrArg)
			}
		}
	}
}

// P8.1: one wrong frame, wherever it is; many of them.
func TestCheckOfAWrongFrameAnywhere(t *testing.T) {
	for at := range fullBag {
		wantCheck(t, with(bagOf(fullBag), at, api.Frame{To: nodes}), api.ErrArg)
		wantCheck(t, with(bagOf(at+1), at, api.Frame{Bytes: make([]byte, longest+1)}), api.ErrArg)
	}
	wantCheck(t, wrongFrames(), api.ErrArg)
}

// R4: that there are too many comes ahead of what they are.
func TestCheckTellsTheLengthFirst(t *testing.T) {
	l := bagOf(fullBag + 1)
	for _, at := range places(len(l)) {
		for _, f := range wrongFrames() {
			wantCheck(t, with(l, at, f), api.ErrLen)
		}
	}
}

// P8.1, R4: whatever else is wrong, all others tell Check's error first.
func TestTheBagsErrorComesFirst(t *testing.T) {
	tooMany, wrong := bagOf(fullBag+1), with(bagOf(5), 2, api.Frame{To: nodes})
	wrongAndFull := with(bagOf(fullBag), fullBag-1, api.Frame{Bytes: make([]byte, longest+1)})
	for _, c := range []struct {
		l    []api.Frame
		want api.Errno
	}{{tooMany, api.ErrLen}, {with(tooMany, 0, api.Frame{To: -1}), api.ErrLen}, {wrong, api.ErrArg}, {wrongAndFull, api.ErrArg}} {
		for _, f := range []api.Frame{{}, {To: nodes}, {To: 3, Bytes: []byte{1}}, {Bytes: make([]byte, longest+1)}} {
			wantPut(t, c.l, f, nil, c.want)
		}
		for _, at := range append(places(len(c.l)), noPlaces(len(c.l))...) {
			wantNothing(t, c.l, at, c.want)
		}
	}
}

// P8.1: each right frame into bags that have room.
func TestPutOfEachRightFrame(t *testing.T) {
	for _, n := range lengths {
		for _, f := range rightFrames() {
			if n < fullBag {
				wantPut(t, bagOf(n), f, append(bagOf(n), f), api.OK)
			} else {
				wantPut(t, bagOf(n), f, nil, api.ErrFull)
			}
		}
	}
	wantPut(t, []api.Frame{}, api.Frame{}, make([]api.Frame, 1), api.OK)
}

// P8.1, R4: into an empty bag, into others with room, into a full one: a wrong frame is told first.
func TestPutOfEachWrongFrame(t *testing.T) {
	for _, n := range lengths {
		for _, f := range wrongFrames() {
			wantPut(t, bagOf(n), f, nil, api.ErrArg)
		}
	}
	wantPut(t, []api.Frame{}, api.Frame{To: nodes}, nil, api.ErrArg)
}

// P8.1, P8.2: a bag is filled frame by frame, and emptied from either end.
func TestPutTillFull(t *testing.T) {
	all := bagOf(fullBag)
	var l []api.Frame
	for i, f := range all {
		next, e := Put(l, f)
		wantBag(t, "Put", next, e, all[:i+1], api.OK)
		l = next
	}
	wantPut(t, l, api.Frame{}, nil, api.ErrFull)
	first, last := l, l
	for i, f := range all {
		wantTake(t, first, 0, f, all[i+1:], api.OK)
		_, first, _ = Take(first, 0)
		end := len(last) - 1
		wantTake(t, last, end, all[end], all[:end], api.OK)
		_, last, _ = Take(last, end)
	}
	if len(first) != 0 || len(last) != 0 {
		t.Errorf("%d and %d frames are left", len(first), len(last))
	}
	wantNothing(t, first, 0, api.ErrNone)
}

// P8.2: what is put last is taken last, as it was, and all others stay in their order.
func TestWhatIsPutIsTaken(t *testing.T) {
	for _, n := range []int{0, 1, 2, 3, 10, 299} {
		for _, f := range rightFrames() {
			l, e := Put(bagOf(n), f)
			if e != api.OK {
				t.Fatalf("Put into %d frames: %d", n, e)
			}
			wantTake(t, l, n, f, bagOf(n), api.OK)
			for at := range min(n, 3) {
				got, rest, e := Take(l, at)
				if !sameFrame(got, bagOf(n)[at]) || e != api.OK {
					t.Errorf("Take at %d = %v, %d", at, got, e)
				}
				wantTake(t, rest, n-1, f, without(bagOf(n), at), api.OK)
			}
		}
	}
}

// P8.1
func TestTakeAndTwiceAtEachPlace(t *testing.T) {
	for _, n := range lengths {
		l := bagOf(n)
		for at := range n {
			f := bagOf(n)[at]
			wantTake(t, l, at, f, without(bagOf(n), at), api.OK)
			if n < fullBag {
				wantTwice(t, l, at, append(bagOf(n), f), api.OK)
			} else {
				wantTwice(t, l, at, nil, api.ErrFull)
			}
		}
	}
}

// P8.1: of each right frame, whatever stands beside it.
func TestTakeAndTwiceOfEachFrame(t *testing.T) {
	for _, f := range rightFrames() {
		wantTake(t, []api.Frame{f}, 0, f, nil, api.OK)
		wantTwice(t, []api.Frame{f}, 0, []api.Frame{f, f}, api.OK)
		for at := range 3 {
			l := with(bagOf(3), at, f)
			wantTake(t, l, at, f, without(l, at), api.OK)
			wantTwice(t, l, at, append(slices.Clone(l), f), api.OK)
		}
	}
}

// P8.1, R4: below 0, behind the last, in an empty bag (the chapter's example), in a full one: that there is no such place comes first.
func TestNoSuchPlace(t *testing.T) {
	for _, n := range lengths {
		for _, at := range noPlaces(n) {
			wantNothing(t, bagOf(n), at, api.ErrNone)
		}
	}
	for _, empty := range [][]api.Frame{nil, {}, make([]api.Frame, 0, 5)} {
		for _, at := range append(noPlaces(0), 1, 2) {
			wantNothing(t, empty, at, api.ErrNone)
		}
	}
}

// P8.1: a frame that is twice there is taken twice, and each one stays when the other goes.
func TestTwiceThenTake(t *testing.T) {
	for _, n := range []int{1, 2, 10, 299} {
		for _, at := range places(n) {
			l, e := Twice(bagOf(n), at)
			if e != api.OK {
				t.Fatalf("Twice of %d frames at %d: %d", n, at, e)
			}
			f := bagOf(n)[at]
			wantTake(t, l, n, f, bagOf(n), api.OK)
			wantTake(t, l, at, f, append(without(bagOf(n), at), f), api.OK)
		}
	}
}

// corrupted answers a copy of l with mask put to one byte, bit by bit.
func corrupted(l []api.Frame, at, place, mask int) []api.Frame {
	out := cloned(l)
	b := &out[at].Bytes[place]
	for bit := byte(1); bit != 0; bit <<= 1 {
		if byte(mask)&bit == 0 {
			continue
		}
		if *b&bit == 0 {
			*b += bit
		} else {
			*b -= bit
		}
	}
	return out
}

// P8.1: each byte of frames of all lengths, at each place, and each mask.
func TestCorruptEachByte(t *testing.T) {
	l := []api.Frame{{To: 1, Bytes: counted(longest, 1)}, {To: 0}, {To: 7, Bytes: []byte{0}}, {To: 2, Bytes: counted(3, 5)}}
	for at, f := range l {
		for place := range f.Bytes {
			for mask := 1; mask <= greatest; mask++ {
				want := corrupted(l, at, place, mask)
				wantCorrupt(t, l, at, place, mask, want, api.OK)
				if sameBag(want, l) {
					t.Fatalf("the test's own mask %d changes nothing", mask)
				}
			}
		}
	}
}

// P8.1: in bags of each length, a full one too.
func TestCorruptAtEachPlace(t *testing.T) {
	for _, n := range lengths {
		l := bagOf(n)
		for at, f := range l {
			if last := len(f.Bytes) - 1; last >= 0 {
				wantCorrupt(t, l, at, 0, 1, corrupted(l, at, 0, 1), api.OK)
				wantCorrupt(t, l, at, last, greatest, corrupted(l, at, last, greatest), api.OK)
			}
		}
	}
}

// P8.1, R4: a wrong place or mask, ahead of a place that is behind the last byte.
func TestCorruptTellsTheFirstError(t *testing.T) {
	wrongMasks := append([]int{0, 256, 257, 511, 512, 1 << 16}, farOff...)
	below := []int{-1, -2, -80, -256, math.MinInt, math.MinInt + 1}
	l := []api.Frame{{To: 1, Bytes: counted(longest, 1)}, {To: 0}, {To: 7, Bytes: []byte{0}}, {To: 2, Bytes: []byte{}}, {To: 3, Bytes: counted(5, 2)}}
	for at, f := range l {
		n := len(f.Bytes)
		behind := []int{n, n + 1, longest, longest + 1, 1 << 16, 1 << 32, math.MaxInt}
		for _, mask := range wrongMasks {
			for _, place := range append(append([]int{0, n - 1}, behind...), below...) {
				wantCorrupt(t, l, at, place, mask, nil, api.ErrArg)
			}
		}
		for mask := 1; mask <= greatest; mask++ {
			for _, place := range below {
				wantCorrupt(t, l, at, place, mask, nil, api.ErrArg)
			}
			for _, place := range behind {
				if place >= n {
					wantCorrupt(t, l, at, place, mask, nil, api.ErrLen)
				}
			}
		}
	}
}

// P8.1: the same mask once more gives back what was.
func TestCorruptTwiceGivesBack(t *testing.T) {
	for _, n := range []int{1, 2, 10, 300} {
		l := bagOf(n)
		l[0].Bytes = counted(longest, 9)
		for _, at := range places(n) {
			for place := range l[at].Bytes {
				for _, mask := range []int{1, 2, 0x55, 0x80, 254, 255} {
					once, e := Corrupt(l, at, place, mask)
					if e != api.OK || sameBag(once, l) {
						t.Fatalf("Corrupt at %d, %d by %d: %d", at, place, mask, e)
					}
					wantCorrupt(t, once, at, place, mask, l, api.OK)
				}
			}
		}
	}
}

// roomy answers l with wrong frames behind in its spare room, and each frame's bytes with marks behind in theirs.
func roomy(l []api.Frame) []api.Frame {
	out := make([]api.Frame, 0, len(l)+4)
	for _, f := range l {
		b := append(make([]byte, 0, len(f.Bytes)+5), f.Bytes...)
		copy(b[len(b):cap(b)], []byte{0xa1, 0xa2, 0xa3, 0xa4, 0xa5})
		out = append(out, api.Frame{To: f.To, Bytes: b})
	}
	for i := len(out); i < cap(out); i++ {
		out[:cap(out)][i] = api.Frame{To: -100 - i, Bytes: counted(longest+1, i)}
	}
	return out
}

// everything answers a copy of all that lies in the memory of l, its spare room too: of each frame how it is, and how it is with its bytes' spare room.
func everything(l []api.Frame) []api.Frame {
	var out []api.Frame
	for _, f := range l[:cap(l)] {
		out = append(out, f, api.Frame{To: cap(f.Bytes), Bytes: f.Bytes[:cap(f.Bytes)]})
	}
	return cloned(out)
}

// fill overwrites all that lies in the memory of l.
func fill(l []api.Frame) {
	l = l[:cap(l)]
	for i := range l {
		fillBytes(l[i].Bytes)
		l[i] = api.Frame{To: -999, Bytes: []byte("filled")}
	}
}

func fillBytes(b []byte) {
	b = b[:cap(b)]
	for i := range b {
		b[i] = 0x5a
	}
}

// answer is what one call answers: a bag, the frame that Take takes beside it, an error.
type answer struct {
	f api.Frame
	l []api.Frame
	e api.Errno
}

// calls answers all calls of a bag of at least two frames, by name: those that answer, and those that refuse.
func calls(l []api.Frame, f api.Frame) map[string]func() answer {
	last := len(l) - 1
	bag := func(got []api.Frame, e api.Errno) answer { return answer{l: got, e: e} }
	take := func(f api.Frame, rest []api.Frame, e api.Errno) answer { return answer{f, rest, e} }
	return map[string]func() answer{
		"check":             func() answer { return answer{e: Check(l)} },
		"put":               func() answer { return bag(Put(l, f)) },
		"put a wrong one":   func() answer { return bag(Put(l, api.Frame{To: nodes, Bytes: f.Bytes})) },
		"take the first":    func() answer { return take(Take(l, 0)) },
		"take the last":     func() answer { return take(Take(l, last)) },
		"take none":         func() answer { return take(Take(l, last+1)) },
		"first twice":       func() answer { return bag(Twice(l, 0)) },
		"last twice":        func() answer { return bag(Twice(l, last)) },
		"none twice":        func() answer { return bag(Twice(l, -1)) },
		"corrupt the first": func() answer { return bag(Corrupt(l, 0, 0, 255)) },
		"corrupt the last":  func() answer { return bag(Corrupt(l, last, len(l[last].Bytes)-1, 1)) },
		"corrupt none":      func() answer { return bag(Corrupt(l, last+1, 0, 1)) },
		"corrupt wrongly":   func() answer { return bag(Corrupt(l, 0, 0, 256)) },
		"corrupt behind":    func() answer { return bag(Corrupt(l, 0, len(l[0].Bytes), 1)) },
	}
}

// sharp answers a bag of n frames of which the first and the last have bytes.
func sharp(n int) []api.Frame {
	l := bagOf(n)
	l[0].Bytes, l[n-1].Bytes = counted(longest, 7), counted(4, 11)
	return l
}

// R2, R6: what is handed in stays as it was, its spare room too; no answer shares memory with it, nor with another answer.
func TestAnswersAreNewMemory(t *testing.T) {
	for _, n := range []int{2, 3, 10, 299, 300} {
		for name := range calls(sharp(2), api.Frame{}) {
			l, more := roomy(sharp(n)), roomy([]api.Frame{{To: 5, Bytes: counted(9, 1)}})
			before, moreBefore := everything(l), everything(more)
			call := calls(l, more[0])[name]
			first, second := call(), call()
			want := answer{cloned([]api.Frame{second.f})[0], cloned(second.l), second.e}
			unchanged := func() bool {
				return sameBag(everything(l), before) && sameBag(everything(more), moreBefore)
			}
			if !unchanged() {
				t.Errorf("%s of %d: what is handed in is changed", name, n)
			}
			fill(first.l)
			fillBytes(first.f.Bytes)
			if !unchanged() {
				t.Errorf("%s of %d: an answer shares memory with what is handed in", name, n)
			}
			fill(l)
			fill(more)
			if !sameFrame(second.f, want.f) || !sameBag(second.l, want.l) || second.e != want.e {
				t.Errorf("%s of %d: an answer shares memory with another one, or with what is handed in", name, n)
			}
		}
	}
}

// wantApart wants no two of these bytes to share memory, their spare room too.
func wantApart(t *testing.T, name string, all [][]byte) {
	t.Helper()
	for i, b := range all {
		for j := range b[:cap(b)] {
			b[:cap(b)][j] = byte(i + 1)
		}
	}
	for i, b := range all {
		for _, x := range b[:cap(b)] {
			if x != byte(i+1) {
				t.Fatalf("%s: the bytes %d share memory with others", name, i)
			}
		}
	}
}

// R2: no two lists of one answer share memory, even where those that are handed in do.
func TestListsOfOneAnswerAreApart(t *testing.T) {
	for name := range calls(sharp(2), api.Frame{}) {
		// All frames have bytes out of one array: the first and the last the same ones, the others lie in their spare room.
		array := counted(longest, 3)
		l := []api.Frame{{To: 1, Bytes: array[:10]}, {To: 2, Bytes: array[5:20]}, {To: 3, Bytes: array[20:]}, {To: 4, Bytes: array[:10]}}
		in := cloned(l)
		got := calls(l, api.Frame{To: 5, Bytes: l[0].Bytes[:4]})[name]()
		alike := calls(in, api.Frame{To: 5, Bytes: in[0].Bytes[:4]})[name]()
		if !sameFrame(got.f, alike.f) || !sameBag(got.l, alike.l) || got.e != alike.e {
			t.Errorf("%s: frames that share bytes are answered otherwise than those that do not", name)
		}
		if !sameBag(l, in) {
			t.Errorf("%s: what is handed in is changed", name)
		}
		all := [][]byte{array, got.f.Bytes}
		for _, f := range got.l[:cap(got.l)] {
			all = append(all, f.Bytes)
		}
		wantApart(t, name, all)
	}
}

// R2, R6: a frame put into the bag that it is of, a frame of the bag's spare room.
func TestPutOfTheBagsOwn(t *testing.T) {
	l := roomy(sharp(3))
	spare := l[:4]
	spare[3] = api.Frame{To: 6, Bytes: counted(8, 8)}
	for _, f := range spare {
		want := append(sharp(3), cloned([]api.Frame{f})[0])
		got, e := Put(l, f)
		wantBag(t, "Put", got, e, want, api.OK)
		fill(got)
		if !sameBag(spare, append(sharp(3), api.Frame{To: 6, Bytes: counted(8, 8)})) {
			t.Fatal("what is handed in is changed")
		}
	}
}

// R6: what lies behind a list is none of its frames, what lies behind a frame none of its bytes; neither is handed out.
func TestSpareRoomIsNotRead(t *testing.T) {
	for _, n := range []int{0, 1, 2, 10, 299, 300} {
		l := roomy(bagOf(n))
		wantCheck(t, l, api.OK)
		wantNothing(t, l, n, api.ErrNone)
		if n < fullBag {
			wantPut(t, l, api.Frame{To: 1, Bytes: make([]byte, longest, 2*longest)}, append(bagOf(n), api.Frame{To: 1, Bytes: make([]byte, longest)}), api.OK)
		}
		for at := range min(n, 10) {
			bytesOf := len(l[at].Bytes)
			wantTake(t, l, at, bagOf(n)[at], without(bagOf(n), at), api.OK)
			wantCorrupt(t, l, at, bytesOf, 1, nil, api.ErrLen)
			wantCorrupt(t, l, at, bytesOf+4, 1, nil, api.ErrLen)
		}
	}
	wantCheck(t, bagOf(fullBag + 1)[:fullBag], api.OK)
	for name, call := range calls(roomy(sharp(6)), roomy(sharp(2))[0]) {
		got := call()
		for _, f := range got.l[len(got.l):cap(got.l)] {
			if f.To != 0 || len(f.Bytes) != 0 {
				t.Errorf("%s: %v lies behind what is answered", name, f)
			}
		}
		for _, f := range append(got.l, got.f) {
			for _, x := range f.Bytes[len(f.Bytes):cap(f.Bytes)] {
				if x != 0 {
					t.Errorf("%s: %d lies behind a frame's bytes", name, x)
				}
			}
		}
	}
}

// reckoned works out by the test's own plain rules what a call answers: of Put (0), Take (1), Twice (2), Corrupt (3).
func reckoned(kind int, l []api.Frame, f api.Frame, at, place, mask int) answer {
	wrong := func(f api.Frame) bool { return f.To < 0 || f.To >= nodes || len(f.Bytes) > longest }
	room, there := len(l) < fullBag, at >= 0 && at < len(l)
	switch {
	case len(l) > fullBag:
		return answer{e: api.ErrLen}
	case slices.ContainsFunc(l, wrong), kind == 0 && wrong(f):
		return answer{e: api.ErrArg}
	case kind != 0 && !there:
		return answer{e: api.ErrNone}
	case (kind == 0 || kind == 2) && !room:
		return answer{e: api.ErrFull}
	case kind == 3 && (place < 0 || mask < 1 || mask > greatest):
		return answer{e: api.ErrArg}
	case kind == 3 && place >= len(l[at].Bytes):
		return answer{e: api.ErrLen}
	}
	switch kind {
	case 0:
		return answer{l: append(cloned(l), f)}
	case 1:
		return answer{f: l[at], l: without(l, at)}
	case 2:
		return answer{l: append(cloned(l), l[at])}
	}
	return answer{l: corrupted(l, at, place, mask)}
}

// called answers what the package answers to the same.
func called(kind int, l []api.Frame, f api.Frame, at, place, mask int) (a answer) {
	switch kind {
	case 0:
		a.l, a.e = Put(l, f)
	case 1:
		a.f, a.l, a.e = Take(l, at)
	case 2:
		a.l, a.e = Twice(l, at)
	case 3:
		a.l, a.e = Corrupt(l, at, place, mask)
	}
	return a
}

// mixedFrame answers a frame, now and then a wrong one.
func mixedFrame(r *rand.Rand, faults int) api.Frame {
	if r.Intn(1000) < faults {
		all := wrongFrames()
		return all[r.Intn(len(all))]
	}
	return api.Frame{To: r.Intn(nodes), Bytes: counted(r.Intn(longest+1), r.Int())}
}

// P8.1, P8.2: a great many calls of all sorts, one upon the other, held against the test's own reckoning.
func TestMixedCalls(t *testing.T) {
	r := rand.New(rand.NewSource(8))
	told := map[api.Errno]int{}
	for _, n := range []int{0, 1, 2, 5, 290, 299, 300, 301} {
		var l []api.Frame
		for range 3000 {
			if len(l) == 0 || r.Intn(100) == 0 || len(l) > n+5 {
				l = bagOf(n)
				if n > 0 && r.Intn(4) == 0 {
					l[r.Intn(n)] = mixedFrame(r, 900)
				}
			}
			kind, f, at := r.Intn(4), mixedFrame(r, 200), r.Intn(len(l)+3)-1
			place, mask := r.Intn(longest+5)-2, r.Intn(300)-10
			want, got := reckoned(kind, l, f, at, place, mask), called(kind, l, f, at, place, mask)
			if !sameFrame(got.f, want.f) || !sameBag(got.l, want.l) || got.e != want.e {
				t.Fatalf("call %d of %d frames with %v, %d, %d, %d: %d frames, %d, want %d frames, %d", kind, len(l), f, at, place, mask, len(got.l), got.e, len(want.l), want.e)
			}
			told[got.e]++
			if got.e == api.OK {
				l = got.l
			}
		}
	}
	for _, e := range []api.Errno{api.OK, api.ErrLen, api.ErrArg, api.ErrNone, api.ErrFull} {
		if told[e] < 100 {
			t.Errorf("error %d was told %d times", e, told[e])
		}
	}
}

// R3: a call hangs on its arguments alone, whatever was called, or refused, ahead of it.
func TestNothingIsKept(t *testing.T) {
	l := []api.Frame{{To: 1, Bytes: []byte{1, 2}}, {To: 7}}
	f := api.Frame{To: 2, Bytes: []byte{9}}
	for range 3 {
		wantPut(t, l, api.Frame{To: nodes}, nil, api.ErrArg)
		wantPut(t, l, f, []api.Frame{l[0], l[1], f}, api.OK)
		wantTake(t, l, 2, api.Frame{}, nil, api.ErrNone)
		wantTake(t, l, 0, l[0], l[1:], api.OK)
		wantTwice(t, bagOf(fullBag), 0, nil, api.ErrFull)
		wantTwice(t, l, 1, []api.Frame{l[0], l[1], l[1]}, api.OK)
		wantCorrupt(t, l, 1, 0, 1, nil, api.ErrLen)
		wantCorrupt(t, l, 0, 1, 255, []api.Frame{{To: 1, Bytes: []byte{1, 253}}, {To: 7}}, api.OK)
		wantCheck(t, bagOf(fullBag+1), api.ErrLen)
		wantCheck(t, l, api.OK)
	}
}
