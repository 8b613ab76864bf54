package ints

import (
	"bytes"
	"encoding/binary"
	"math"
	"math/big"
	mathbits "math/bits"
	"slices"
	"testing"

	"catchment/api"
)

const (
	least    = math.MinInt64
	greatest = math.MaxInt64
)

// W and P are the chapter's words, by the library.
func W(v int64) []byte  { return binary.AppendVarint(nil, v) }
func P(v uint64) []byte { return binary.AppendUvarint(nil, v) }

func join(parts ...[]byte) []byte {
	return slices.Concat(parts...)
}

// filled is n numbers, each told by its place.
func filled(n int, tell func(i int) int64) []int64 {
	l := make([]int64, n)
	for i := range l {
		l[i] = tell(i)
	}
	return l
}

// mixed is a number with bits here and there, of at most so many.
func mixed(i, width int) int64 {
	return int64(uint64(i+1) * 0x9e3779b97f4a7c15 >> (64 - width))
}

// lists has none, one, equal ones, unlike ones, the ends of the whole numbers, differences that go round, each width, and as many numbers as may be.
func lists() [][]int64 {
	out := [][]int64{
		nil, {}, {0}, {1}, {-1}, {7}, {63}, {64}, {-64}, {-65}, {least}, {greatest}, {least + 1}, {greatest - 1},
		{0, 0}, {7, 7, 7}, {-3, -3, -3, -3}, {least, least}, {greatest, greatest, greatest},
		{1, -1}, {5, 6, 4}, {9, 2, 9}, {8, 9, 8}, {1, 2, 3}, {3, 2, 1}, {100, 101, 102, 103, 100}, {7, 7, 8, 8, 8, 7},
		{least, greatest}, {greatest, least}, {least, greatest, least, greatest}, {least, 0, greatest}, {greatest, 0, least}, {0, least}, {least, 0}, {-1, greatest}, {greatest, -1},
		{least, least + 1, greatest - 1, greatest}, {1 << 62, -1 << 62, 1 << 62}, {-1 << 62, -1<<62 - 1, 1 << 62},
	}
	for _, n := range []int{2, 3, 7, 8, 9, 17, 64, 255, api.MaxRows} {
		out = append(out,
			filled(n, func(int) int64 { return 0 }), filled(n, func(int) int64 { return greatest }), filled(n, func(int) int64 { return least }),
			filled(n, func(i int) int64 { return int64(i) }), filled(n, func(i int) int64 { return int64(-i) }), filled(n, func(i int) int64 { return int64(i * i * 1000) }),
			filled(n, func(i int) int64 { return int64(i / 5) }), filled(n, func(i int) int64 { return int64(i%3) * 1000000 }), filled(n, func(i int) int64 { return int64(i%2) * least }),
			filled(n, func(i int) int64 { return greatest - int64(i) }), filled(n, func(i int) int64 { return least + int64(i%4) }))
		for width := 1; width <= 64; width++ {
			out = append(out, filled(n, func(i int) int64 { return mixed(i, width) }), filled(n, func(i int) int64 { return least + mixed(i, width) }))
		}
	}
	return out
}

// written is what the chapter's table says, reckoned another way: differences and packed bits by great numbers, unlike ones by a map.
func written(codec byte, l []int64) []byte {
	var b []byte
	switch codec {
	case 0:
		for _, v := range l {
			b = append(b, W(v)...)
		}
	case 1:
		for i, v := range l {
			if i > 0 {
				v = roundedDifference(l[i-1], v)
			}
			b = append(b, W(v)...)
		}
	case 2:
		for i := 0; i < len(l); {
			end := i
			for end < len(l) && l[end] == l[i] {
				end++
			}
			b = append(append(b, W(l[i])...), P(uint64(end-i))...)
			i = end
		}
	case 3:
		b = writtenByPlaces(l)
	case 4:
		b = writtenByHeights(l)
	}
	return b
}

func roundedDifference(low, high int64) int64 {
	d := new(big.Int).Sub(big.NewInt(high), big.NewInt(low))
	if d.IsInt64() {
		return d.Int64()
	}
	round := new(big.Int).Lsh(big.NewInt(int64(-d.Sign())), 64)
	return d.Add(d, round).Int64()
}

func difference(low, high int64) uint64 {
	return new(big.Int).Sub(big.NewInt(high), big.NewInt(low)).Uint64()
}

func writtenByPlaces(l []int64) []byte {
	place := map[int64]uint64{}
	for _, v := range l {
		place[v] = 0
	}
	var unlike []int64
	for v := range place {
		unlike = append(unlike, v)
	}
	slices.Sort(unlike)
	b := P(uint64(len(unlike)))
	for i, v := range unlike {
		place[v] = uint64(i)
		if i == 0 {
			b = append(b, W(v)...)
		} else {
			b = append(b, P(difference(unlike[i-1], v))...)
		}
	}
	var places []uint64
	for _, v := range l {
		places = append(places, place[v])
	}
	return append(b, packed(places, widthOf(places))...)
}

func writtenByHeights(l []int64) []byte {
	if len(l) == 0 {
		return nil
	}
	low := slices.Min(l)
	var heights []uint64
	for _, v := range l {
		heights = append(heights, difference(low, v))
	}
	w := widthOf(heights)
	return join(W(low), P(uint64(w)), packed(heights, w))
}

func widthOf(l []uint64) int {
	w := 0
	for _, v := range l {
		w = max(w, mathbits.Len64(v))
	}
	return w
}

func packed(l []uint64, w int) []byte {
	all := new(big.Int)
	for i, v := range l {
		one := new(big.Int).SetUint64(v)
		all.Or(all, one.Lsh(one, uint(i*w)))
	}
	b := make([]byte, (len(l)*w+7)/8)
	all.FillBytes(b)
	slices.Reverse(b)
	return b
}

// tails has what may stand behind a list's bytes, where nothing may.
func tails() [][]byte {
	return [][]byte{{0}, {1}, {2, 1}, {127}, {128}, {255}, {128, 0}, {0, 0, 0, 0}, bytes.Repeat([]byte{255}, 30), bytes.Repeat([]byte{2, 1}, 300)}
}

func wantEncode(t *testing.T, codec byte, l []int64, want []byte) {
	t.Helper()
	if got, ok := Encode(codec, l); !ok || !bytes.Equal(got, want) {
		t.Errorf("Encode(%d, %d) = %d, %t; want %d", codec, l, got, ok, want)
	}
}

func wantNoEncode(t *testing.T, codec byte, l []int64) {
	t.Helper()
	if got, ok := Encode(codec, l); ok || len(got) > 0 {
		t.Errorf("Encode(%d, %d) = %d, %t; want none, false", codec, l, got, ok)
	}
}

func wantBest(t *testing.T, l []int64, want []byte) {
	t.Helper()
	if got, ok := Best(l); !ok || !bytes.Equal(got, want) {
		t.Errorf("Best(%d) = %d, %t; want %d", l, got, ok, want)
	}
}

func wantRead(t *testing.T, b []byte, want []int64) {
	t.Helper()
	if got, e := Read(b, len(want)); e != api.OK || !slices.Equal(got, want) {
		t.Errorf("Read(%d, %d) = %d, %d; want %d", b, len(want), got, e, want)
	}
}

func wantRefused(t *testing.T, b []byte, n int, e api.Errno) {
	t.Helper()
	if got, gotE := Read(b, n); gotE != e || len(got) > 0 {
		t.Errorf("Read(%d, %d) = %d, %d; want none, %d", b, n, got, gotE, e)
	}
}

func TestP51EachNumberByItself(t *testing.T) {
	wantEncode(t, 0, nil, nil)
	wantEncode(t, 0, []int64{}, nil)
	wantEncode(t, 0, []int64{0}, []byte{0})
	wantEncode(t, 0, []int64{-1, 1, -2}, []byte{1, 2, 3})
	wantEncode(t, 0, []int64{64, 7, 7}, []byte{128, 1, 14, 14})
	wantEncode(t, 0, []int64{least}, append(bytes.Repeat([]byte{255}, 9), 1))
	wantEncode(t, 0, []int64{greatest}, append(append([]byte{254}, bytes.Repeat([]byte{255}, 8)...), 1))
	wantEncode(t, 0, make([]int64, api.MaxRows), make([]byte, api.MaxRows))
}

func TestP51Differences(t *testing.T) {
	wantEncode(t, 1, nil, nil)
	wantEncode(t, 1, []int64{5}, []byte{10})
	wantEncode(t, 1, []int64{-5}, []byte{9})
	wantEncode(t, 1, []int64{7, 7, 7}, []byte{14, 0, 0})
	wantEncode(t, 1, []int64{1000, 1001, 999}, []byte{208, 15, 2, 3})
	wantEncode(t, 1, []int64{least, greatest}, join(W(least), []byte{1}))
	wantEncode(t, 1, []int64{greatest, least}, join(W(greatest), []byte{2}))
	wantEncode(t, 1, []int64{-1, greatest}, join([]byte{1}, W(least)))
	wantEncode(t, 1, []int64{0, least, 0}, join([]byte{0}, W(least), W(least)))
	wantEncode(t, 1, []int64{-2, greatest}, join([]byte{3}, W(least+1)))
	wantEncode(t, 1, filled(api.MaxRows, func(i int) int64 { return int64(i + 1) }), bytes.Repeat([]byte{2}, api.MaxRows))
}

func TestP51Runs(t *testing.T) {
	wantEncode(t, 2, nil, nil)
	wantEncode(t, 2, []int64{5}, []byte{10, 1})
	wantEncode(t, 2, []int64{5, 5}, []byte{10, 2})
	wantEncode(t, 2, []int64{5, 6}, []byte{10, 1, 12, 1})
	wantEncode(t, 2, []int64{5, 5, -1, -1, -1, 5}, []byte{10, 2, 1, 3, 10, 1})
	wantEncode(t, 2, []int64{5, -1, -1}, []byte{10, 1, 1, 2})
	wantEncode(t, 2, []int64{least, least, greatest}, join(W(least), []byte{2}, W(greatest), []byte{1}))
	wantEncode(t, 2, slices.Repeat([]int64{3}, 127), []byte{6, 127})
	wantEncode(t, 2, slices.Repeat([]int64{3}, 128), []byte{6, 128, 1})
	wantEncode(t, 2, slices.Repeat([]int64{3}, api.MaxRows), []byte{6, 128, 2})
}

func TestP51Places(t *testing.T) {
	wantEncode(t, 3, nil, []byte{0})
	wantEncode(t, 3, []int64{}, []byte{0})
	wantEncode(t, 3, []int64{5}, []byte{1, 10})
	wantEncode(t, 3, []int64{5, 5, 5}, []byte{1, 10})
	wantEncode(t, 3, slices.Repeat([]int64{-1}, api.MaxRows), []byte{1, 1})
	wantEncode(t, 3, []int64{5, 4}, []byte{2, 8, 1, 1})
	wantEncode(t, 3, []int64{4, 5}, []byte{2, 8, 1, 2})
	wantEncode(t, 3, []int64{30, -1, 30, 2}, []byte{3, 1, 3, 28, 2 | 2<<4 | 1<<6})
	wantEncode(t, 3, []int64{0, 1, 2, 3, 0}, []byte{4, 0, 1, 1, 1, 1<<2 | 2<<4 | 3<<6, 0})
	wantEncode(t, 3, []int64{greatest, least}, join([]byte{2}, W(least), P(math.MaxUint64), []byte{1}))
	wantEncode(t, 3, []int64{0, least}, join([]byte{2}, W(least), P(1<<63), []byte{1}))
}

func TestP51WidthOfPlaces(t *testing.T) {
	for _, c := range []struct{ unlike, width int }{{1, 0}, {2, 1}, {3, 2}, {4, 2}, {5, 3}, {8, 3}, {9, 4}, {16, 4}, {17, 5}, {32, 5}, {33, 6}, {64, 6}, {65, 7}, {128, 7}, {129, 8}, {255, 8}, {256, 8}} {
		falling := filled(c.unlike, func(i int) int64 { return int64(c.unlike - 1 - i) })
		var places []uint64
		for _, v := range falling {
			places = append(places, uint64(v))
		}
		b := join(P(uint64(c.unlike)), []byte{0}, bytes.Repeat([]byte{1}, c.unlike-1), packed(places, c.width))
		wantEncode(t, 3, falling, b)
		wantRead(t, join([]byte{3}, b), falling)
	}
}

func TestP51Heights(t *testing.T) {
	wantEncode(t, 4, nil, nil)
	wantEncode(t, 4, []int64{}, nil)
	wantEncode(t, 4, []int64{5}, []byte{10, 0})
	wantEncode(t, 4, []int64{-7, -7, -7}, []byte{13, 0})
	wantEncode(t, 4, slices.Repeat([]int64{9}, api.MaxRows), []byte{18, 0})
	wantEncode(t, 4, []int64{8, 10, 9, 8, 11}, []byte{16, 2, 2<<2 | 1<<4, 3})
	wantEncode(t, 4, []int64{-1, 254}, []byte{1, 8, 0, 255})
	wantEncode(t, 4, []int64{-1, 255}, []byte{1, 9, 0, 0, 2})
	wantEncode(t, 4, []int64{-1, greatest}, join([]byte{1, 64}, make([]byte, 15), []byte{128}))
	wantEncode(t, 4, []int64{0, greatest}, join([]byte{0, 63}, make([]byte, 7), []byte{128}, bytes.Repeat([]byte{255}, 7), []byte{63}))
	wantEncode(t, 4, []int64{greatest, least}, join(W(least), []byte{64}, bytes.Repeat([]byte{255}, 8), make([]byte, 8)))
}

func TestP51WidthOfHeights(t *testing.T) {
	for w := 1; w <= 64; w++ {
		top := uint64(1)<<w - 1
		for _, low := range []int64{least, least + 1, -1, 0} {
			if w == 64 && low != least {
				continue
			}
			l := []int64{low + int64(top), low, low + int64(top/2)}
			b := join(W(low), []byte{byte(w)}, packed([]uint64{top, 0, top / 2}, w))
			wantEncode(t, 4, l, b)
			wantRead(t, join([]byte{4}, b), l)
		}
	}
}

func TestP51EachCodecOfManyLists(t *testing.T) {
	for _, l := range lists() {
		for codec := range byte(5) {
			wantEncode(t, codec, l, written(codec, l))
		}
	}
}

func TestP51NoSuchCodec(t *testing.T) {
	for codec := 5; codec <= 255; codec++ {
		wantNoEncode(t, byte(codec), nil)
		wantNoEncode(t, byte(codec), []int64{7})
		wantNoEncode(t, byte(codec), make([]int64, api.MaxRows+1))
	}
}

func TestP51TooManyNumbers(t *testing.T) {
	for codec := range byte(5) {
		for _, n := range []int{api.MaxRows + 1, api.MaxRows + 2, 2 * api.MaxRows, 1 << 16} {
			wantNoEncode(t, codec, make([]int64, n))
			wantNoEncode(t, codec, filled(n, func(i int) int64 { return int64(i) * least }))
		}
	}
}

func TestP52Best(t *testing.T) {
	wantBest(t, []int64{1, -50, 60, 9}, []byte{0, 2, 99, 120, 18})
	wantBest(t, []int64{64, 65}, []byte{1, 128, 1, 2})
	wantBest(t, []int64{9, 9, 9, 9, 5, 5, 5, 5, 5}, []byte{2, 18, 4, 10, 5})
	wantBest(t, []int64{1000000, -1000000, 1000000, 1000000, -1000000}, []byte{3, 2, 255, 136, 122, 128, 137, 122, 13})
	wantBest(t, filled(9, func(i int) int64 { return int64(1000 + i) }), []byte{4, 208, 15, 4, 16, 50, 84, 118, 8})
	wantBest(t, slices.Repeat([]int64{least}, api.MaxRows), join([]byte{3, 1}, W(least)))
	wantBest(t, filled(api.MaxRows, func(i int) int64 { return int64(i % 2) }), join([]byte{4, 0, 1}, bytes.Repeat([]byte{170}, api.MaxRows/8)))
}

func TestP52OfSeveralWithAsFewBytesTheLeastCodec(t *testing.T) {
	wantBest(t, nil, []byte{0})
	wantBest(t, []int64{}, []byte{0})
	wantBest(t, []int64{7}, []byte{0, 14})
	wantBest(t, []int64{least}, join([]byte{0}, W(least)))
	wantBest(t, []int64{0, 0}, []byte{0, 0, 0})
	wantBest(t, []int64{1, 2}, []byte{0, 2, 4})
	wantBest(t, []int64{100, 100}, []byte{1, 200, 1, 0})
	wantBest(t, []int64{300, 301, 303}, []byte{1, 216, 4, 2, 4})
	wantBest(t, []int64{7, 7, 7}, []byte{2, 14, 3})
	wantBest(t, slices.Repeat([]int64{100}, 127), []byte{2, 200, 1, 127})
	wantBest(t, slices.Repeat([]int64{100}, 128), []byte{3, 1, 200, 1})
	wantBest(t, []int64{1000, 1002, 1000, 1002, 1000, 1002}, []byte{3, 2, 208, 15, 2, 42})
}

func TestP52BestOfManyLists(t *testing.T) {
	for _, l := range lists() {
		best := join([]byte{0}, written(0, l))
		for codec := byte(1); codec < 5; codec++ {
			if b := join([]byte{codec}, written(codec, l)); len(b) < len(best) {
				best = b
			}
		}
		wantBest(t, l, best)
	}
}

func TestP52TooManyNumbers(t *testing.T) {
	for _, n := range []int{api.MaxRows + 1, api.MaxRows + 2, 2 * api.MaxRows, 1 << 16} {
		for _, l := range [][]int64{make([]int64, n), filled(n, func(i int) int64 { return int64(i) })} {
			if got, ok := Best(l); ok || len(got) > 0 {
				t.Errorf("Best of %d numbers = %d, %t; want none, false", n, got, ok)
			}
		}
	}
}

func TestP53Read(t *testing.T) {
	wantRead(t, []byte{0, 2, 1, 128, 1}, []int64{1, -1, 64})
	wantRead(t, join([]byte{0}, W(least), W(greatest)), []int64{least, greatest})
	wantRead(t, []byte{1, 10, 2, 3}, []int64{5, 6, 4})
	wantRead(t, join([]byte{1}, W(least), []byte{1, 2}), []int64{least, greatest, least})
	wantRead(t, join([]byte{1, 1}, W(least), W(least)), []int64{-1, greatest, -1})
	wantRead(t, []byte{2, 10, 2, 1, 3, 10, 1}, []int64{5, 5, -1, -1, -1, 5})
	wantRead(t, []byte{2, 6, 128, 2}, slices.Repeat([]int64{3}, api.MaxRows))
	wantRead(t, []byte{3, 2, 4, 7, 5}, []int64{9, 2, 9})
	wantRead(t, []byte{3, 1, 10}, []int64{5, 5, 5, 5})
	wantRead(t, join([]byte{3, 2}, W(least), P(math.MaxUint64), []byte{1}), []int64{greatest, least})
	wantRead(t, join([]byte{3, 3, 1}, P(1), P(greatest), []byte{2 | 1<<2}), []int64{greatest, 0, -1})
	wantRead(t, []byte{4, 16, 1, 2}, []int64{8, 9, 8})
	wantRead(t, []byte{4, 13, 0}, []int64{-7, -7})
	wantRead(t, join([]byte{4}, W(least), []byte{64}, bytes.Repeat([]byte{255}, 8), make([]byte, 8)), []int64{greatest, least})
}

func TestP53NoNumbers(t *testing.T) {
	for _, b := range [][]byte{{0}, {1}, {2}, {3, 0}, {4}} {
		wantRead(t, b, nil)
		for _, tail := range tails() {
			wantRefused(t, join(b, tail), 0, api.ErrMore)
		}
	}
	wantRefused(t, []byte{3}, 0, api.ErrEnd)
}

func TestP53CountOfNumbers(t *testing.T) {
	for _, b := range [][]byte{nil, {}, {0}, {0, 2}, {5}, {255}, {2, 2, 0}, {3, 0}, {4, 2, 65}, make([]byte, 258), bytes.Repeat([]byte{2}, 600)} {
		for _, n := range []int{-1, -2, -256, math.MinInt, api.MaxRows + 1, 2 * api.MaxRows, 1 << 32, math.MaxInt} {
			wantRefused(t, b, n, api.ErrArg)
		}
	}
}

func TestP53NoByte(t *testing.T) {
	for _, n := range []int{0, 1, 2, 255, api.MaxRows} {
		wantRefused(t, nil, n, api.ErrEnd)
		wantRefused(t, []byte{}, n, api.ErrEnd)
	}
}

func TestP53NoCodec(t *testing.T) {
	for codec := 5; codec <= 255; codec++ {
		for _, n := range []int{0, 1, 2, api.MaxRows} {
			wantRefused(t, []byte{byte(codec)}, n, api.ErrCodec)
			for _, tail := range tails() {
				wantRefused(t, join([]byte{byte(codec)}, tail), n, api.ErrCodec)
			}
		}
	}
}

// fault is bytes of which the last one brings the error.
type fault struct {
	b []byte
	n int
	e api.Errno
}

// faults has each error that is met from the left, of each codec.
func faults() []fault {
	overlong, beyond := []byte{129, 0}, append(bytes.Repeat([]byte{255}, 9), 2)
	return []fault{
		{join([]byte{0}, overlong), 1, api.ErrVar},
		{join([]byte{0}, beyond), 1, api.ErrVar},
		{join([]byte{0, 2}, overlong), 2, api.ErrVar},
		{join([]byte{0, 2, 4}, beyond), api.MaxRows, api.ErrVar},
		{join([]byte{1}, overlong), 1, api.ErrVar},
		{join([]byte{1, 2}, beyond), 2, api.ErrVar},
		{join([]byte{1, 2, 2}, overlong), api.MaxRows, api.ErrVar},

		{join([]byte{2}, overlong), 1, api.ErrVar},
		{join([]byte{2, 2}, overlong), 1, api.ErrVar},
		{join([]byte{2, 2}, beyond), 1, api.ErrVar},
		{join([]byte{2, 2, 1}, overlong), 2, api.ErrVar},
		{[]byte{2, 2, 0}, 1, api.ErrForm},
		{[]byte{2, 2, 0}, api.MaxRows, api.ErrForm},
		{[]byte{2, 2, 1, 4, 0}, 2, api.ErrForm},
		{[]byte{2, 2, 2}, 1, api.ErrForm},
		{[]byte{2, 2, 1, 4, 2}, 2, api.ErrForm},
		{[]byte{2, 2, 2, 4, 2}, 3, api.ErrForm},
		{join([]byte{2, 2}, P(api.MaxRows+1)), api.MaxRows, api.ErrForm},
		{join([]byte{2, 2}, P(1<<32+1)), 1, api.ErrForm},
		{join([]byte{2, 2}, P(1<<63)), 1, api.ErrForm},
		{join([]byte{2, 2, 1, 4}, P(math.MaxUint64)), api.MaxRows, api.ErrForm},

		{join([]byte{3}, overlong), 1, api.ErrVar},
		{join([]byte{3}, beyond), 0, api.ErrVar},
		{[]byte{3, 0}, 1, api.ErrForm},
		{[]byte{3, 0}, api.MaxRows, api.ErrForm},
		{[]byte{3, 1}, 0, api.ErrForm},
		{[]byte{3, 3}, 2, api.ErrForm},
		{join([]byte{3}, P(api.MaxRows+1)), api.MaxRows, api.ErrForm},
		{join([]byte{3}, P(1<<32+1)), 1, api.ErrForm},
		{join([]byte{3}, P(math.MaxUint64)), api.MaxRows, api.ErrForm},
		{join([]byte{3, 1}, overlong), 1, api.ErrVar},
		{join([]byte{3, 2, 2}, overlong), 2, api.ErrVar},
		{join([]byte{3, 2, 2}, beyond), 2, api.ErrVar},
		{[]byte{3, 2, 2, 0}, 2, api.ErrForm},
		{[]byte{3, 3, 2, 1, 0}, 3, api.ErrForm},
		{join([]byte{3, 2}, W(greatest), P(1)), 2, api.ErrForm},
		{join([]byte{3, 2}, W(0), P(1<<63)), 2, api.ErrForm},
		{join([]byte{3, 2}, W(1), P(greatest)), 2, api.ErrForm},
		{join([]byte{3, 2}, W(-1), P(1<<63+1)), 2, api.ErrForm},
		{join([]byte{3, 2}, W(least+1), P(math.MaxUint64)), 2, api.ErrForm},
		{join([]byte{3, 3}, W(least), P(math.MaxUint64), P(1)), 3, api.ErrForm},
		{join([]byte{3, 3}, W(-1), P(1), P(1<<63)), 3, api.ErrForm},

		{join([]byte{4}, overlong), 1, api.ErrVar},
		{join([]byte{4, 2}, overlong), 1, api.ErrVar},
		{join([]byte{4, 2}, beyond), 1, api.ErrVar},
		{[]byte{4, 2, 65}, 1, api.ErrForm},
		{[]byte{4, 2, 127}, api.MaxRows, api.ErrForm},
		{join([]byte{4, 2}, P(256)), 2, api.ErrForm},
		{join([]byte{4, 2}, P(1<<32)), 1, api.ErrForm},
		{join([]byte{4, 2}, P(math.MaxUint64)), 1, api.ErrForm},
	}
}

func TestP53TheFirstErrorFromTheLeft(t *testing.T) {
	for _, f := range faults() {
		wantRefused(t, f.b, f.n, f.e)
		for _, tail := range tails() {
			wantRefused(t, join(f.b, tail), f.n, f.e)
		}
		wantCutOff(t, f.b, f.n)
	}
}

// wantCutOff holds what is left of b, when it ends early, against ErrEnd.
func wantCutOff(t *testing.T, b []byte, n int) {
	t.Helper()
	for end := range b {
		// Of long ones it is enough to cut near the ends.
		if end < 64 || end > len(b)-20 {
			wantRefused(t, b[:end:end], n, api.ErrEnd)
		}
	}
}

func TestP53JustBesideTheFaults(t *testing.T) {
	wantRead(t, []byte{2, 2, 1, 4, 1}, []int64{1, 2})
	wantRead(t, []byte{2, 2, 2, 4, 1}, []int64{1, 1, 2})
	wantRead(t, []byte{3, 2, 2, 1, 2}, []int64{1, 2})
	wantRead(t, join([]byte{3, 2}, W(greatest-1), P(1), []byte{2}), []int64{greatest - 1, greatest})
	wantRead(t, join([]byte{3, 2}, W(0), P(greatest), []byte{2}), []int64{0, greatest})
	wantRead(t, join([]byte{3, 2}, W(-1), P(1<<63), []byte{2}), []int64{-1, greatest})
	wantRead(t, join([]byte{3, 2}, W(least+1), P(math.MaxUint64-1), []byte{2}), []int64{least + 1, greatest})
	wantRead(t, join([]byte{4}, W(-1), []byte{64}, make([]byte, 15), []byte{128}), []int64{-1, greatest})
}

func TestP53CutOffBytes(t *testing.T) {
	for _, l := range lists() {
		for codec := range byte(5) {
			wantCutOff(t, join([]byte{codec}, written(codec, l)), len(l))
		}
	}
}

func TestP53ByteTooMany(t *testing.T) {
	for _, l := range lists() {
		for codec := range byte(5) {
			b := join([]byte{codec}, written(codec, l))
			for _, tail := range tails() {
				wantRefused(t, join(b, tail), len(l), api.ErrMore)
			}
		}
	}
	wantRefused(t, make([]byte, 1<<16), api.MaxRows, api.ErrMore)
}

// readButNotWritten has bytes that have no fault from the left, nor too few or too many of them, but that no list is written as.
func readButNotWritten() []fault {
	zeros, ones := make([]byte, 8), bytes.Repeat([]byte{255}, 8)
	all := [][]fault{
		runsThatGoOn(),
		{
			// A place that isn't used: the second one, the first one, the middle one.
			{b: []byte{3, 2, 2, 1, 0}, n: 2}, {b: []byte{3, 2, 2, 1, 3}, n: 2}, {b: []byte{3, 3, 0, 1, 1, 2<<2 | 2<<4}, n: 3},
			{b: join([]byte{3, 2, 2, 1}, make([]byte, api.MaxRows/8)), n: api.MaxRows},
			// A place that isn't there.
			{b: []byte{3, 3, 0, 1, 1, 1<<2 | 3<<4}, n: 3}, {b: []byte{3, 3, 0, 1, 1, 1<<2 | 2<<4 | 3<<6}, n: 4}, {b: []byte{3, 3, 0, 1, 1, 3 | 3<<2 | 3<<4}, n: 3},
			// A bit behind the last place, or the last height.
			{b: []byte{3, 2, 0, 1, 2 | 4}, n: 2}, {b: []byte{3, 2, 0, 1, 2 | 128}, n: 2}, {b: []byte{4, 0, 1, 2 | 4}, n: 2}, {b: []byte{4, 0, 1, 2 | 128}, n: 2}, {b: []byte{4, 0, 9, 0, 0, 2 | 4}, n: 2},
			// A width that isn't the least one.
			{b: []byte{4, 2, 1, 0}, n: 1}, {b: []byte{4, 0, 2, 1 << 2}, n: 2}, {b: []byte{4, 0, 8, 0, 127}, n: 2}, {b: join([]byte{4, 0, 64}, zeros, zeros), n: 2}, {b: join([]byte{4, 0, 64}, zeros, ones[:7], []byte{127}), n: 2},
			// A least number that isn't there.
			{b: []byte{4, 0, 1, 3}, n: 2}, {b: []byte{4, 0, 1, 1}, n: 1}, {b: []byte{4, 0, 2, 1 | 2<<2}, n: 2}, {b: join([]byte{4}, W(least), []byte{64}, ones, ones), n: 2},
			// A height that leads beyond the greatest number.
			{b: join([]byte{4}, W(greatest), []byte{1, 2}), n: 2}, {b: join([]byte{4}, W(greatest), []byte{1, 1}), n: 1}, {b: join([]byte{4, 0, 64}, zeros, zeros[:7], []byte{128}), n: 2}, {b: join([]byte{4, 1, 64}, zeros, ones), n: 2}, {b: join([]byte{4}, W(least+1), []byte{64}, ones, zeros), n: 2},
		},
	}
	return slices.Concat(all...)
}

// runsThatGoOn has equal numbers that stand together, but in two runs.
func runsThatGoOn() []fault {
	return []fault{
		{b: []byte{2, 2, 1, 2, 1}, n: 2}, {b: []byte{2, 2, 1, 2, 2}, n: 3}, {b: []byte{2, 2, 2, 2, 1}, n: 3},
		{b: []byte{2, 14, 1, 2, 1, 2, 1}, n: 3}, {b: []byte{2, 2, 1, 2, 1, 14, 1}, n: 3},
		{b: []byte{2, 0, 128, 1, 0, 128, 1}, n: api.MaxRows},
		{b: join([]byte{2}, W(least), []byte{1}, W(least), []byte{1}), n: 2},
	}
}

func TestP53ReadButNotWrittenSo(t *testing.T) {
	for _, f := range readButNotWritten() {
		wantRefused(t, f.b, f.n, api.ErrForm)
		wantCutOff(t, f.b, f.n)
		for _, tail := range tails() {
			wantRefused(t, join(f.b, tail), f.n, api.ErrMore)
		}
	}
}

func TestP53ShortBytesAreReadIfTheyAreWrittenSo(t *testing.T) {
	edges := []byte{0, 1, 2, 3, 4, 5, 9, 63, 64, 65, 127, 128, 129, 130, 254, 255}
	for codec := range byte(5) {
		for n := range 5 {
			for two := range 1 << 16 {
				holdTogether(t, []byte{codec, byte(two), byte(two >> 8)}, n)
			}
			for i := range 1 << 16 {
				holdTogether(t, []byte{codec, edges[i&15], edges[i>>4&15], edges[i>>8&15], edges[i>>12]}, n)
			}
		}
	}
}

// holdTogether holds what is read against what the chapter's table makes of it.
func holdTogether(t *testing.T, b []byte, n int) {
	t.Helper()
	l, e := Read(b, n)
	switch e {
	case api.OK:
		if len(l) != n || !bytes.Equal(written(b[0], l), b[1:]) {
			t.Fatalf("Read(%d, %d) = %d", b, n, l)
		}
	case api.ErrEnd, api.ErrVar, api.ErrMore, api.ErrForm:
		if len(l) > 0 {
			t.Fatalf("Read(%d, %d) = %d, %d", b, n, l, e)
		}
	default:
		t.Fatalf("Read(%d, %d) answers the error %d", b, n, e)
	}
}

func TestP54ReadOfBest(t *testing.T) {
	for _, l := range lists() {
		best, ok := Best(l)
		if !ok {
			t.Fatalf("Best(%d) refuses", l)
		}
		wantRead(t, best, l)
		for codec := range byte(5) {
			if b, ok := Encode(codec, l); !ok || 1+len(b) < len(best) {
				t.Errorf("Best(%d) has more bytes than the codec %d", l, codec)
			}
		}
	}
}

func TestP54ReadOfEachCodec(t *testing.T) {
	for _, l := range lists() {
		for codec := range byte(5) {
			b, ok := Encode(codec, l)
			if !ok {
				t.Fatalf("Encode(%d, %d) refuses", codec, l)
			}
			wantRead(t, join([]byte{codec}, b), l)
		}
	}
}

func TestP54AllShortLists(t *testing.T) {
	values := []int64{least, least + 1, -1, 0, 1, 2, greatest}
	for i := range 7 * 7 * 7 * 7 {
		l := []int64{values[i%7], values[i/7%7], values[i/49%7], values[i/343]}
		for n := range 5 {
			best, _ := Best(l[:n])
			wantRead(t, best, l[:n])
			for codec := range byte(5) {
				b := written(codec, l[:n])
				wantEncode(t, codec, l[:n], b)
				wantRead(t, join([]byte{codec}, b), l[:n])
			}
		}
	}
}

func TestWhatIsHandedInStays(t *testing.T) {
	whole := []int64{9, 2, 9, 5, 5, 77, 78, 79}
	l := slices.Clone(whole)
	for codec := range byte(6) {
		Encode(codec, l[:5])
	}
	Best(l[:5])
	if !slices.Equal(l, whole) {
		t.Error("a list that was handed in has been changed:", l)
	}
	inputs := [][]byte{{0, 2, 1}, {1, 10, 2}, {2, 14, 2}, {3, 2, 4, 7, 1}, {4, 16, 1, 1}, {3, 2, 4, 7, 0}, {4, 16, 1, 0}, {2, 14, 1}}
	for _, in := range inputs {
		b := append(slices.Clone(in), 77, 78, 79)
		Read(b[:len(in)], 2)
		if !bytes.Equal(b, append(slices.Clone(in), 77, 78, 79)) {
			t.Error("bytes that were handed in have been changed:", b)
		}
	}
}

func TestAnswersAreNewMemory(t *testing.T) {
	l := []int64{9, 2, 9}
	for codec := range byte(5) {
		one, _ := Encode(codec, l)
		two, _ := Encode(codec, l)
		in := join([]byte{codec}, two)
		first, _ := Read(in, 3)
		second, _ := Read(in, 3)
		for i := range one {
			one[i]++
		}
		for i := range first {
			first[i]++
		}
		if want := written(codec, l); !bytes.Equal(two, want) || !bytes.Equal(in[1:], want) || !slices.Equal(second, l) {
			t.Error("answers share memory:", codec, two, in, second)
		}
	}
	one, _ := Best(l)
	two, _ := Best(l)
	one[0]++
	if one[0] == two[0] || !slices.Equal(l, []int64{9, 2, 9}) {
		t.Error("answers share memory:", one, two, l)
	}
}

func TestExamplesOfTheChapter(t *testing.T) {
	wantEncode(t, 0, []int64{1, -1}, []byte{2, 1})
	wantEncode(t, 1, []int64{5, 6, 4}, []byte{10, 2, 3})
	wantEncode(t, 2, []int64{7, 7, 7}, []byte{14, 3})
	wantEncode(t, 3, []int64{9, 2, 9}, []byte{2, 4, 7, 5})
	wantEncode(t, 4, []int64{8, 9, 8}, []byte{16, 1, 2})
	wantBest(t, []int64{7, 7, 7}, []byte{2, 14, 3})
}
