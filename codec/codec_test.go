package codec

import (
	"bytes"
	"math"
	"math/big"
	"slices"
	"testing"

	"bellwether/api"
)

var sizes = []int{1, 2, 4, 8}

// greatest are the greatest numbers of the sizes.
var greatest = map[int]int{1: 255, 2: 65535, 4: 4294967295, 8: api.Ring - 1}

// wrongSizes are sizes that no number has.
func wrongSizes() []int {
	l := []int{
		math.MinInt, math.MinInt + 1, math.MinInt + 8, -api.Ring, -1 << 32, -256, -8, -4, -2, -1,
		0, 3, 5, 6, 7, 9, 10, 12, 15, 16, 17, 24, 32, 64, 255, 256, 257, 1 << 31, 1 << 32, 1<<32 + 1, 1<<32 + 8, api.Ring, math.MaxInt - 1, math.MaxInt,
	}
	for size := 9; size < 300; size++ {
		l = append(l, size)
	}
	return l
}

// rightNumbers answers numbers of size bytes: the edges of each byte, and some beside them.
func rightNumbers(size int) []int {
	l := []int{0, 1, 2, 9, 64, 127, 128, 254, 255, greatest[size], greatest[size] - 1, greatest[size] / 2, greatest[size]/2 + 1}
	for bit := range 62 {
		for _, n := range []int{1<<bit - 1, 1 << bit, 1<<bit + 1, 0x0123456789abcdef >> bit, 0x3edcba9876543210 >> bit} {
			if n <= greatest[size] {
				l = append(l, n)
			}
		}
	}
	return l
}

// wrongNumbers answers numbers that are not of size bytes.
func wrongNumbers(size int) []int {
	l := []int{
		-1, -2, -255, -256, -greatest[size], -greatest[size] - 1, -api.Ring, -api.Ring - 1, math.MinInt, math.MinInt + 1, math.MinInt + 255,
		greatest[size] + 1, greatest[size] + 2, 2*greatest[size] + 1, api.Ring, api.Ring + 1, math.MaxInt - 1, math.MaxInt,
	}
	for bit := range 63 {
		if n := 1 << bit; n > greatest[size] {
			l = append(l, n, n+1)
		}
	}
	return l
}

// bytesOf works the bytes of a number out, without bounds.
func bytesOf(size, n int) []byte {
	return big.NewInt(int64(n)).FillBytes(make([]byte, size))
}

// roomy answers a copy of b with marked bytes behind, whole and as the part that is b: the rest is its spare room.
func roomy(b []byte) (whole, part []byte) {
	whole = slices.Concat(b, bytes.Repeat([]byte{0xa5}, 400))
	return whole, whole[:len(b)]
}

// counted answers n values of a plain rule, each from 0 to 255.
func counted(n, rule int) []int {
	l := make([]int, n)
	for i := range l {
		l[i] = (i*rule + rule) & 255
	}
	return l
}

func wantPut(t *testing.T, b []byte, size, n int, want []byte, wantErr api.Errno) {
	t.Helper()
	got, err := Put(b, size, n)
	if !bytes.Equal(got, want) || err != wantErr {
		t.Errorf("Put(%v, %d, %d) = %v, %d, want %v, %d", b, size, n, got, err, want, wantErr)
	}
}

func wantGet(t *testing.T, b []byte, at, size, want, wantNext int, wantErr api.Errno) {
	t.Helper()
	n, next, err := Get(b, at, size)
	if n != want || next != wantNext || err != wantErr {
		t.Errorf("Get(%v, %d, %d) = %d, %d, %d, want %d, %d, %d", b, at, size, n, next, err, want, wantNext, wantErr)
	}
}

func wantPutList(t *testing.T, b []byte, l []int, want []byte, wantErr api.Errno) {
	t.Helper()
	got, err := PutList(b, l)
	if !bytes.Equal(got, want) || err != wantErr {
		t.Errorf("PutList(%v, %v) = %v, %d, want %v, %d", b, l, got, err, want, wantErr)
	}
}

func wantGetList(t *testing.T, b []byte, at int, want []int, wantNext int, wantErr api.Errno) {
	t.Helper()
	l, next, err := GetList(b, at)
	if !slices.Equal(l, want) || next != wantNext || err != wantErr {
		t.Errorf("GetList(%v, %d) = %v, %d, %d, want %v, %d, %d", b, at, l, next, err, want, wantNext, wantErr)
	}
}

// P4.1, P4.3: the chapter's example, and the edges written out.
func TestPutKnownNumbers(t *testing.T) {
	ff := []byte{255, 255, 255, 255, 255, 255, 255, 255}
	for _, c := range []struct {
		size, n int
		want    []byte
	}{
		{4, 258, []byte{0, 0, 1, 2}},
		{1, 0, []byte{0}}, {1, 1, []byte{1}}, {1, 128, []byte{128}}, {1, 255, ff[:1]},
		{2, 0, []byte{0, 0}}, {2, 1, []byte{0, 1}}, {2, 256, []byte{1, 0}}, {2, 258, []byte{1, 2}}, {2, 65535, ff[:2]},
		{4, 0, []byte{0, 0, 0, 0}}, {4, 0x01020304, []byte{1, 2, 3, 4}}, {4, 1 << 31, []byte{128, 0, 0, 0}}, {4, 1<<32 - 1, ff[:4]},
		{8, 0, make([]byte, 8)}, {8, 258, []byte{0, 0, 0, 0, 0, 0, 1, 2}}, {8, 1 << 32, []byte{0, 0, 0, 1, 0, 0, 0, 0}},
		{8, 0x0102030405060708, []byte{1, 2, 3, 4, 5, 6, 7, 8}}, {8, api.Ring - 1, append([]byte{63}, ff[:7]...)},
	} {
		wantPut(t, nil, c.size, c.n, c.want, api.OK)
		wantPut(t, []byte{}, c.size, c.n, c.want, api.OK)
		wantPut(t, []byte{7, 0, 9}, c.size, c.n, append([]byte{7, 0, 9}, c.want...), api.OK)
		wantGet(t, c.want, 0, c.size, c.n, c.size, api.OK)
	}
}

// P4.1
func TestPutEveryNumberOfOneAndTwoBytes(t *testing.T) {
	for n := range 1 << 8 {
		wantPut(t, []byte{byte(n)}, 1, n, []byte{byte(n), byte(n)}, api.OK)
	}
	for n := range 1 << 16 {
		wantPut(t, nil, 2, n, []byte{byte(n / 256), byte(n % 256)}, api.OK)
	}
}

// P4.1
func TestPutOfEachSize(t *testing.T) {
	long := bytes.Repeat([]byte{1, 2, 3}, 70000)
	for _, size := range sizes {
		for _, n := range rightNumbers(size) {
			wantPut(t, []byte{255, 0}, size, n, append([]byte{255, 0}, bytesOf(size, n)...), api.OK)
		}
		if got, err := Put(long, size, 77); err != api.OK || !bytes.Equal(got, slices.Concat(long, bytesOf(size, 77))) {
			t.Errorf("%d bytes behind many: %d bytes, %d", size, len(got), err)
		}
		for _, n := range wrongNumbers(size) {
			wantPut(t, nil, size, n, nil, api.ErrArg)
			wantPut(t, []byte{1, 2, 3}, size, n, nil, api.ErrArg)
		}
	}
}

// P4.1
func TestPutOfWrongSizes(t *testing.T) {
	for _, size := range wrongSizes() {
		for _, n := range []int{0, 1, 255, 256, -1, api.Ring - 1, api.Ring, math.MinInt, math.MaxInt} {
			wantPut(t, nil, size, n, nil, api.ErrArg)
			wantPut(t, []byte{1, 2, 3}, size, n, nil, api.ErrArg)
		}
	}
}

// P4.1: at every place, from the first to the one where the number no longer stands whole.
func TestGetAtEachPlace(t *testing.T) {
	for _, size := range sizes {
		for length := range 3 * size {
			b := make([]byte, length)
			for i := range b {
				b[i] = byte(i*5 + 3)
			}
			for at := range length + size + 2 {
				if at+size > length {
					wantGet(t, b, at, size, 0, 0, api.ErrLen)
					continue
				}
				want := int(new(big.Int).SetBytes(b[at : at+size]).Uint64())
				if want >= api.Ring || want < 0 {
					wantGet(t, b, at, size, 0, 0, api.ErrArg)
					continue
				}
				wantGet(t, b, at, size, want, at+size, api.OK)
			}
		}
	}
}

// P4.1
func TestGetAtTheEdges(t *testing.T) {
	for _, size := range sizes {
		n := greatest[size]
		b := append([]byte{255, 254, 253}, bytesOf(size, n)...)
		wantGet(t, b, 3, size, n, len(b), api.OK)
		wantGet(t, append(b, 1, 2), 3, size, n, len(b), api.OK)
		wantGet(t, b[:len(b)-1], 3, size, 0, 0, api.ErrLen)
		for _, at := range []int{
			-1, -2, -size, -len(b), -api.Ring, math.MinInt, math.MinInt + 1, math.MinInt + size,
			4, len(b) - 1, len(b), len(b) + 1, 1 << 31, 1 << 32, 1<<32 + 3, api.Ring, math.MaxInt - size - 1, math.MaxInt - size, math.MaxInt - size + 1, math.MaxInt - 1, math.MaxInt,
		} {
			if at >= 0 && at+size <= len(b) && at+size > 0 {
				continue
			}
			wantGet(t, b, at, size, 0, 0, api.ErrLen)
			wantGet(t, nil, at, size, 0, 0, api.ErrLen)
			wantGet(t, []byte{}, at, size, 0, 0, api.ErrLen)
		}
		wantGet(t, nil, 0, size, 0, 0, api.ErrLen)
	}
}

// P4.1
func TestGetOfNumbersNotBelowRing(t *testing.T) {
	for first := range 256 {
		for _, rest := range []byte{0, 1, 255} {
			b := append([]byte{byte(first)}, bytes.Repeat([]byte{rest}, 7)...)
			if first >= 64 {
				wantGet(t, b, 0, 8, 0, 0, api.ErrArg)
				wantGet(t, slices.Concat([]byte{0, 0}, b, []byte{0}), 2, 8, 0, 0, api.ErrArg)
				continue
			}
			wantGet(t, b, 0, 8, int(new(big.Int).SetBytes(b).Int64()), 8, api.OK)
		}
	}
	wantGet(t, []byte{64, 0, 0, 0, 0, 0, 0, 0}, 0, 8, 0, 0, api.ErrArg)
	wantGet(t, []byte{63, 255, 255, 255, 255, 255, 255, 255}, 0, 8, api.Ring-1, 8, api.OK)
}

// P4.1, R4: a wrong size is told ahead of a wrong place, and that ahead of a wrong number.
func TestGetTellsTheFirstError(t *testing.T) {
	ff := bytes.Repeat([]byte{255}, 9)
	for _, size := range wrongSizes() {
		for _, at := range []int{0, 1, 9, -1, 10, math.MinInt, math.MaxInt} {
			wantGet(t, ff, at, size, 0, 0, api.ErrArg)
			wantGet(t, nil, at, size, 0, 0, api.ErrArg)
		}
	}
	wantGet(t, ff, 0, 8, 0, 0, api.ErrArg)
	wantGet(t, ff, 1, 8, 0, 0, api.ErrArg)
	wantGet(t, ff, 2, 8, 0, 0, api.ErrLen)
	wantGet(t, ff, -1, 8, 0, 0, api.ErrLen)
	wantGet(t, ff[:7], 0, 8, 0, 0, api.ErrLen)
}

// P4.2
func TestPutListOfEachLength(t *testing.T) {
	for _, b := range [][]byte{nil, {}, {9}, {255, 0, 3, 1}} {
		wantPutList(t, b, nil, append(slices.Clone(b), 0), api.OK)
		wantPutList(t, b, []int{}, append(slices.Clone(b), 0), api.OK)
		wantPutList(t, b, []int{0}, append(slices.Clone(b), 1, 0), api.OK)
		wantPutList(t, b, []int{255}, append(slices.Clone(b), 1, 255), api.OK)
		wantPutList(t, b, []int{0, 255, 7}, append(slices.Clone(b), 3, 0, 255, 7), api.OK)
		for n := range 256 {
			l := counted(n, 7)
			want := append(slices.Clone(b), byte(n))
			for _, x := range l {
				want = append(want, byte(x))
			}
			wantPutList(t, b, l, want, api.OK)
		}
		for _, n := range []int{256, 257, 300, 511, 512, 513, 65536, 1 << 20} {
			if got, err := PutList(b, counted(n, 3)); len(got) != 0 || err != api.ErrLen {
				t.Errorf("PutList of %d values: %v, %d, want ErrLen", n, got, err)
			}
		}
	}
}

// P4.2: each value that may be, and those that may not, at each place.
func TestPutListOfEachValue(t *testing.T) {
	for n := range 256 {
		wantPutList(t, []byte{1}, []int{n}, []byte{1, 1, byte(n)}, api.OK)
	}
	for _, wrong := range []int{-1, -2, -255, -256, math.MinInt, math.MinInt + 1, 256, 257, 511, 512, 1 << 16, 1 << 32, 1<<32 + 5, api.Ring, math.MaxInt} {
		for _, length := range []int{1, 2, 5, 254, 255} {
			for _, at := range []int{0, length / 2, length - 1} {
				l := counted(length, 11)
				l[at] = wrong
				wantPutList(t, nil, l, nil, api.ErrArg)
				wantPutList(t, []byte{1, 2}, l, nil, api.ErrArg)
			}
		}
	}
}

// P4.2, R4: too many values are told ahead of a wrong one.
func TestPutListTellsTheFirstError(t *testing.T) {
	for _, wrong := range []int{-1, 256, math.MinInt, math.MaxInt} {
		for _, length := range []int{256, 257, 1000} {
			for _, at := range []int{0, 254, 255, length - 1} {
				l := counted(length, 11)
				l[at] = wrong
				if got, err := PutList([]byte{1}, l); len(got) != 0 || err != api.ErrLen {
					t.Errorf("PutList of %d values, %d at %d: %v, %d, want ErrLen", length, wrong, at, got, err)
				}
			}
		}
	}
}

// P4.2: bytes that end at every place within the list, at its end and behind it.
func TestGetListOfEachLength(t *testing.T) {
	for length := range 256 {
		l := counted(length, 13)
		b := []byte{200, 100, byte(length)}
		for _, x := range l {
			b = append(b, byte(x))
		}
		for end := range len(b) {
			wantGetList(t, b[:end], 2, nil, 0, api.ErrLen)
		}
		wantGetList(t, b, 2, l, len(b), api.OK)
		wantGetList(t, append(b, 0), 2, l, len(b), api.OK)
		wantGetList(t, append(b, 255, 255), 2, l, len(b), api.OK)
	}
}

// P4.2
func TestGetListAtEachPlace(t *testing.T) {
	b := []byte{2, 1, 255, 0, 1, 0}
	wantGetList(t, b, 0, []int{1, 255}, 3, api.OK)
	wantGetList(t, b, 1, []int{255}, 3, api.OK)
	wantGetList(t, b, 2, nil, 0, api.ErrLen)
	wantGetList(t, b, 3, nil, 4, api.OK)
	wantGetList(t, b, 4, []int{0}, 6, api.OK)
	wantGetList(t, b, 5, nil, 6, api.OK)
	for _, at := range []int{
		-1, -2, -6, -256, -api.Ring, math.MinInt, math.MinInt + 1,
		6, 7, 255, 256, 1 << 31, 1 << 32, 1<<32 + 3, api.Ring, math.MaxInt - 256, math.MaxInt - 255, math.MaxInt - 1, math.MaxInt,
	} {
		wantGetList(t, b, at, nil, 0, api.ErrLen)
		wantGetList(t, nil, at, nil, 0, api.ErrLen)
		wantGetList(t, []byte{}, at, nil, 0, api.ErrLen)
	}
	wantGetList(t, nil, 0, nil, 0, api.ErrLen)
	wantGetList(t, []byte{1}, 0, nil, 0, api.ErrLen)
	wantGetList(t, []byte{2, 5}, 0, nil, 0, api.ErrLen)
}

// P4.3
func TestNumbersPutAreGot(t *testing.T) {
	for _, size := range sizes {
		var b []byte
		numbers := rightNumbers(size)
		for _, n := range numbers {
			out, err := Put(b, size, n)
			if err != api.OK {
				t.Fatalf("Put of %d at %d bytes: %d", n, size, err)
			}
			wantGet(t, out, len(b), size, n, len(out), api.OK)
			b = out
		}
		at := 0
		for _, n := range numbers {
			wantGet(t, b, at, size, n, at+size, api.OK)
			at += size
		}
		wantGet(t, b, at, size, 0, 0, api.ErrLen)
	}
}

// P4.3: numbers of all sizes and lists, one behind the other.
func TestMixedPutAreGot(t *testing.T) {
	b, err := []byte(nil), api.OK
	lengths := []int{0, 1, 2, 8, 100, 254, 255}
	for _, length := range lengths {
		for _, size := range sizes {
			if b, err = Put(b, size, greatest[size]-length); err != api.OK {
				t.Fatal(err)
			}
			if b, err = PutList(b, counted(length, size)); err != api.OK {
				t.Fatal(err)
			}
		}
	}
	at := 0
	for _, length := range lengths {
		for _, size := range sizes {
			n, next, err := Get(b, at, size)
			if n != greatest[size]-length || next != at+size || err != api.OK {
				t.Fatalf("a number of %d bytes at %d: %d, %d, %d", size, at, n, next, err)
			}
			l, end, err := GetList(b, next)
			if !slices.Equal(l, counted(length, size)) || end != next+1+length || err != api.OK {
				t.Fatalf("a list of %d at %d: %v, %d, %d", length, next, l, end, err)
			}
			at = end
		}
	}
	if at != len(b) {
		t.Errorf("%d of %d bytes are got", at, len(b))
	}
}

// R2, R6: what is handed in stays as it was, its spare room too, and no answer shares memory with it.
func TestPutSharesNoMemory(t *testing.T) {
	for _, size := range sizes {
		for _, head := range [][]byte{nil, {1}, {1, 2, 3}} {
			whole, b := roomy(head)
			before := slices.Clone(whole)
			first, _ := Put(b, size, greatest[size])
			second, _ := Put(b, size, 0)
			for _, wrong := range []int{-1, greatest[size] + 1} {
				Put(b, size, wrong)
			}
			Put(b, 3, 0)
			if !bytes.Equal(whole, before) {
				t.Errorf("%d bytes behind %v: what was handed in is changed", size, head)
			}
			fill(first)
			if !bytes.Equal(whole, before) || !bytes.Equal(second, append(slices.Clone(head), make([]byte, size)...)) {
				t.Errorf("%d bytes behind %v: an answer's memory is shared", size, head)
			}
		}
	}
}

// R2, R6
func TestPutListSharesNoMemory(t *testing.T) {
	for _, length := range []int{0, 1, 5, 255} {
		for _, head := range [][]byte{nil, {1}, {1, 2, 3}} {
			whole, b := roomy(head)
			before := slices.Clone(whole)
			values := append(counted(length, 3), -1, 256, math.MaxInt)
			valuesBefore := slices.Clone(values)
			first, err := PutList(b, values[:length])
			second, _ := PutList(b, values[:length])
			PutList(b, values)
			PutList(b, counted(300, 1))
			if err != api.OK || !slices.Equal(values, valuesBefore) || !bytes.Equal(whole, before) {
				t.Errorf("%d values behind %v: what was handed in is changed", length, head)
			}
			want := slices.Clone(second)
			fill(first)
			if !bytes.Equal(whole, before) || !bytes.Equal(second, want) {
				t.Errorf("%d values behind %v: an answer's memory is shared", length, head)
			}
		}
	}
}

// R2, R6: what lies behind the length of b is not read.
func TestGettingLeavesTheBytes(t *testing.T) {
	whole, b := roomy([]byte{0, 1, 2, 3, 4, 5, 6, 7, 3, 9, 8, 7})
	before := slices.Clone(whole)
	for _, size := range sizes {
		for at := -1; at <= len(whole); at++ {
			if _, _, err := Get(b, at, size); at+size > len(b) && err != api.ErrLen {
				t.Errorf("Get at %d of %d bytes reads behind the end: %d", at, size, err)
			}
		}
	}
	for at := -1; at <= len(whole); at++ {
		GetList(b, at)
	}
	wantGetList(t, b[:11], 8, nil, 0, api.ErrLen)
	l, next, err := GetList(b, 8)
	if !slices.Equal(l, []int{9, 8, 7}) || next != 12 || err != api.OK {
		t.Errorf("GetList = %v, %d, %d", l, next, err)
	}
	other, _, _ := GetList(b, 8)
	fill(l)
	if !bytes.Equal(whole, before) || !slices.Equal(other, []int{9, 8, 7}) {
		t.Error("what was handed in is changed, or an answer's memory is shared")
	}
}

// fill overwrites a list and its spare room.
func fill[T byte | int](l []T) {
	l = l[:cap(l)]
	for i := range l {
		l[i] = 0x5a
	}
}

// R3: a call hangs on its arguments alone, whatever was called, or refused, ahead of it.
func TestNothingIsKept(t *testing.T) {
	for range 3 {
		wantPut(t, []byte{9}, 3, 1, nil, api.ErrArg)
		wantPut(t, []byte{9}, 4, 258, []byte{9, 0, 0, 1, 2}, api.OK)
		wantGet(t, []byte{9, 0, 0, 1, 2}, 2, 4, 0, 0, api.ErrLen)
		wantGet(t, []byte{9, 0, 0, 1, 2}, 1, 4, 258, 5, api.OK)
		wantPutList(t, []byte{9}, []int{4, 256}, nil, api.ErrArg)
		wantPutList(t, []byte{9}, []int{4, 5}, []byte{9, 2, 4, 5}, api.OK)
		wantGetList(t, []byte{9, 2, 4}, 1, nil, 0, api.ErrLen)
		wantGetList(t, []byte{9, 2, 4, 5}, 1, []int{4, 5}, 4, api.OK)
	}
}
