package bits

import (
	"bytes"
	"math"
	"math/big"
	"slices"
	"testing"

	"catchment/api"
)

// counts has how many numbers a list may have: none, few, those at whose end a byte ends in odd widths, and the most.
func counts() []int {
	return []int{0, 1, 2, 3, 4, 5, 7, 8, 9, 15, 16, 17, 63, 64, 65, 255, api.MaxRows}
}

func greatest(w int) uint64 {
	return uint64(1)<<w - 1
}

func full(n, w int) []uint64 {
	return slices.Repeat([]uint64{greatest(w)}, n)
}

// lists has lists of n numbers that fit in the width: alike ones, one odd one at each end, and mixed bits.
func lists(n, w int) [][]uint64 {
	out := [][]uint64{make([]uint64, n), full(n, w)}
	if n == 0 {
		return out
	}
	first, last := make([]uint64, n), full(n, w)
	first[0], last[n-1] = greatest(w), 0
	mixed := make([]uint64, n)
	for i := range mixed {
		mixed[i] = uint64(i+1) * 0x9e3779b97f4a7c15 & greatest(w)
	}
	return append(out, first, last, mixed)
}

// packed is what the chapter's words say, reckoned another way: all numbers as one great number, its lowest byte first.
func packed(l []uint64, w int) []byte {
	all := new(big.Int)
	for i, n := range l {
		one := new(big.Int).SetUint64(n)
		all.Or(all, one.Lsh(one, uint(i*w)))
	}
	b := make([]byte, (len(l)*w+7)/8)
	all.FillBytes(b)
	slices.Reverse(b)
	return b
}

func wantPack(t *testing.T, l []uint64, w int, want []byte) {
	t.Helper()
	if got, ok := Pack(l, w); !ok || !bytes.Equal(got, want) {
		t.Errorf("Pack(%d, %d) = %d, %t; want %d", l, w, got, ok, want)
	}
}

func wantNoPack(t *testing.T, l []uint64, w int) {
	t.Helper()
	if got, ok := Pack(l, w); ok || len(got) > 0 {
		t.Errorf("Pack(%d, %d) = %d, %t; want none, false", l, w, got, ok)
	}
}

func wantUnpack(t *testing.T, b []byte, n, w int, want []uint64, e api.Errno) {
	t.Helper()
	if got, gotE := Unpack(b, n, w); gotE != e || !slices.Equal(got, want) {
		t.Errorf("Unpack(%d, %d, %d) = %d, %d; want %d, %d", b, n, w, got, gotE, want, e)
	}
}

func wantWidth(t *testing.T, l []uint64, want int) {
	t.Helper()
	if got := Width(l); got != want {
		t.Errorf("Width(%d) = %d; want %d", l, got, want)
	}
}

func TestP41Width(t *testing.T) {
	wantWidth(t, nil, 0)
	wantWidth(t, []uint64{}, 0)
	wantWidth(t, []uint64{0}, 0)
	wantWidth(t, make([]uint64, api.MaxRows), 0)
	wantWidth(t, []uint64{1}, 1)
	wantWidth(t, []uint64{0, 1, 0}, 1)
	wantWidth(t, []uint64{1, 2}, 2)
	wantWidth(t, []uint64{4, 3}, 3)
	wantWidth(t, []uint64{255, 0}, 8)
	wantWidth(t, []uint64{256}, 9)
	wantWidth(t, []uint64{math.MaxUint64, 1}, 64)
	for w := 1; w <= 64; w++ {
		for _, l := range [][]uint64{{greatest(w)}, {0, greatest(w)}, {greatest(w), 0}, {1 << (w - 1)}, {1, 1 << (w - 1), 0}} {
			wantWidth(t, l, w)
		}
		if w < 64 {
			wantWidth(t, []uint64{greatest(w) + 1}, w+1)
			wantWidth(t, []uint64{greatest(w), greatest(w) + 1, 0}, w+1)
		}
	}
}

func TestP41WidthOfMoreNumbersThanCanBePacked(t *testing.T) {
	l := make([]uint64, 3*api.MaxRows)
	wantWidth(t, l, 0)
	l[len(l)-1] = 77
	wantWidth(t, l, 7)
}

func TestP41WidthIsTheLeastThatPacks(t *testing.T) {
	for w := range 65 {
		for _, l := range lists(9, w) {
			least := Width(l)
			if _, ok := Pack(l, least); !ok {
				t.Errorf("Pack(%d) refuses the width %d", l, least)
			}
			wantNoPack(t, l, least-1)
		}
	}
}

func TestP41Pack(t *testing.T) {
	wantPack(t, nil, 9, nil)
	wantPack(t, []uint64{0, 0, 0}, 0, nil)
	wantPack(t, []uint64{0}, 1, []byte{0})
	wantPack(t, []uint64{1}, 1, []byte{1})
	wantPack(t, []uint64{0, 1}, 1, []byte{2})
	wantPack(t, []uint64{1, 0, 0, 0, 0, 0, 0, 1}, 1, []byte{129})
	wantPack(t, []uint64{1, 0, 0, 0, 0, 0, 0, 1, 1}, 1, []byte{129, 1})
	wantPack(t, []uint64{7, 255, 0, 1}, 8, []byte{7, 255, 0, 1})
	wantPack(t, []uint64{1, 2}, 4, []byte{33})
	wantPack(t, []uint64{0xabc, 0xdef}, 12, []byte{0xbc, 0xfa, 0xde})
	wantPack(t, []uint64{0x1ff, 0, 0x1ff}, 9, []byte{255, 1, 252, 7})
	wantPack(t, []uint64{0x102}, 16, []byte{2, 1})
	wantPack(t, []uint64{0x0807060504030201, math.MaxUint64}, 64, []byte{1, 2, 3, 4, 5, 6, 7, 8, 255, 255, 255, 255, 255, 255, 255, 255})
	wantPack(t, []uint64{1, 1<<62 | 1}, 63, []byte{1, 0, 0, 0, 0, 0, 0, 128, 0, 0, 0, 0, 0, 0, 0, 32})
}

func TestP41PackInEachWidth(t *testing.T) {
	for w := range 65 {
		for _, n := range counts() {
			for _, l := range lists(n, w) {
				wantPack(t, l, w, packed(l, w))
			}
		}
	}
}

func TestP41EachBitStandsWhereTheWordsSay(t *testing.T) {
	for w := 1; w <= 64; w++ {
		for k := range 5 * w {
			l := make([]uint64, 5)
			l[k/w] = 1 << (k % w)
			want := make([]byte, (5*w+7)/8)
			want[k/8] = 1 << (k % 8)
			wantPack(t, l, w, want)
			wantUnpack(t, want, 5, w, l, api.OK)
		}
	}
}

func TestP41PackRefusesWidths(t *testing.T) {
	for _, w := range []int{-1, -2, -8, -64, math.MinInt, 65, 66, 72, 128, 256, math.MaxInt} {
		wantNoPack(t, nil, w)
		wantNoPack(t, []uint64{0}, w)
		wantNoPack(t, []uint64{1, math.MaxUint64}, w)
	}
}

func TestP41PackRefusesTooManyNumbers(t *testing.T) {
	for _, w := range []int{0, 1, 3, 8, 64} {
		wantPack(t, full(api.MaxRows, w), w, bytes.Repeat([]byte{255}, api.MaxRows/8*w))
		wantNoPack(t, make([]uint64, api.MaxRows+1), w)
		wantNoPack(t, full(api.MaxRows+1, w), w)
		wantNoPack(t, make([]uint64, 1<<16), w)
	}
}

func TestP41PackRefusesNumbersWithMoreBits(t *testing.T) {
	for w := range 64 {
		next := greatest(w) + 1
		for _, l := range [][]uint64{{next}, {0, next}, {next, 0}, {greatest(w), next, greatest(w)}, {next, next}, {math.MaxUint64}, {0, 1 << 63}} {
			wantNoPack(t, l, w)
		}
		many := make([]uint64, api.MaxRows)
		many[api.MaxRows-1] = next
		wantNoPack(t, many, w)
	}
}

func TestP42Unpack(t *testing.T) {
	wantUnpack(t, nil, 0, 0, nil, api.OK)
	wantUnpack(t, []byte{}, 0, 9, nil, api.OK)
	wantUnpack(t, nil, 0, 64, nil, api.OK)
	wantUnpack(t, nil, 3, 0, []uint64{0, 0, 0}, api.OK)
	wantUnpack(t, nil, api.MaxRows, 0, make([]uint64, api.MaxRows), api.OK)
	wantUnpack(t, []byte{0}, 1, 1, []uint64{0}, api.OK)
	wantUnpack(t, []byte{1}, 1, 1, []uint64{1}, api.OK)
	wantUnpack(t, []byte{2}, 2, 1, []uint64{0, 1}, api.OK)
	wantUnpack(t, []byte{129}, 8, 1, []uint64{1, 0, 0, 0, 0, 0, 0, 1}, api.OK)
	wantUnpack(t, []byte{129, 1}, 9, 1, []uint64{1, 0, 0, 0, 0, 0, 0, 1, 1}, api.OK)
	wantUnpack(t, []byte{7, 255, 0, 1}, 4, 8, []uint64{7, 255, 0, 1}, api.OK)
	wantUnpack(t, []byte{0xbc, 0xfa, 0xde}, 2, 12, []uint64{0xabc, 0xdef}, api.OK)
	wantUnpack(t, []byte{255, 1, 252, 7}, 3, 9, []uint64{0x1ff, 0, 0x1ff}, api.OK)
	wantUnpack(t, []byte{1, 2, 3, 4, 5, 6, 7, 8}, 1, 64, []uint64{0x0807060504030201}, api.OK)
	wantUnpack(t, bytes.Repeat([]byte{255}, 8*api.MaxRows), api.MaxRows, 64, full(api.MaxRows, 64), api.OK)
}

func TestP42UnpackInEachWidth(t *testing.T) {
	for w := range 65 {
		for _, n := range counts() {
			for _, l := range lists(n, w) {
				wantUnpack(t, packed(l, w), n, w, l, api.OK)
			}
		}
	}
}

func TestP42UnpackRefusesArguments(t *testing.T) {
	// Some bytes have the wrong count too, or would have the right one if the product went round.
	for _, b := range [][]byte{nil, {}, {0}, {255}, make([]byte, 33), make([]byte, 65)} {
		for _, n := range []int{-1, -8, math.MinInt, math.MinInt + 1, api.MaxRows + 1, 2 * api.MaxRows, 1 << 32, 1 << 62, math.MaxInt} {
			for _, w := range []int{-1, 0, 1, 2, 8, 64, 65} {
				wantUnpack(t, b, n, w, nil, api.ErrArg)
			}
		}
		for _, w := range []int{-1, -8, math.MinInt, 65, 72, 128, 1 << 32, 1 << 62, math.MaxInt} {
			for _, n := range []int{-1, 0, 1, 2, 8, api.MaxRows, api.MaxRows + 1} {
				wantUnpack(t, b, n, w, nil, api.ErrArg)
			}
		}
	}
}

func TestP42UnpackRefusesAnotherCountOfBytes(t *testing.T) {
	for w := range 65 {
		for _, n := range counts() {
			for _, l := range lists(n, w) {
				b := packed(l, w)
				wantUnpack(t, append(slices.Clone(b), 0), n, w, nil, api.ErrForm)
				wantUnpack(t, append(slices.Clone(b), 1), n, w, nil, api.ErrForm)
				if len(b) > 0 {
					wantUnpack(t, b[:len(b)-1], n, w, nil, api.ErrForm)
					wantUnpack(t, b[1:], n, w, nil, api.ErrForm)
					wantUnpack(t, nil, n, w, nil, api.ErrForm)
				}
			}
		}
	}
	wantUnpack(t, []byte{0}, 0, 64, nil, api.ErrForm)
	wantUnpack(t, []byte{0}, 9, 0, nil, api.ErrForm)
	wantUnpack(t, make([]byte, 1<<16), 2, 8, nil, api.ErrForm)
}

func TestP42UnpackRefusesBitsBehindTheLastOne(t *testing.T) {
	for w := range 65 {
		for _, n := range counts() {
			for _, l := range lists(n, w) {
				for k := n * w; k%8 != 0; k++ {
					b := packed(l, w)
					b[k/8] |= 1 << (k % 8)
					wantUnpack(t, b, n, w, nil, api.ErrForm)
				}
			}
		}
	}
}

func TestP43UnpackOfPack(t *testing.T) {
	for w := range 65 {
		for _, n := range counts() {
			for _, l := range lists(n, w) {
				b, ok := Pack(l, w)
				if !ok {
					t.Fatalf("Pack(%d, %d) refuses", l, w)
				}
				wantUnpack(t, b, n, w, l, api.OK)
			}
		}
	}
}

func TestP43PackOfUnpack(t *testing.T) {
	for two := range 1 << 16 {
		b := []byte{byte(two), byte(two >> 8)}
		for w := 1; w <= 16; w++ {
			holdTogether(t, b, 16/w, w)
		}
	}
	for w := range 65 {
		for n := range 20 {
			b := bytes.Repeat([]byte{0x9d}, (n*w+7)/8)
			if used := n * w % 8; used > 0 {
				b[len(b)-1] &= 1<<used - 1
			}
			if !holdTogether(t, b, n, w) {
				t.Errorf("Unpack(%d, %d, %d) refuses", b, n, w)
			}
		}
	}
}

// holdTogether packs what was unpacked, and tells whether there was something.
func holdTogether(t *testing.T, b []byte, n, w int) bool {
	t.Helper()
	l, e := Unpack(b, n, w)
	if e != api.OK {
		if len(l) > 0 || e != api.ErrForm {
			t.Fatalf("Unpack(%d, %d, %d) = %d, %d", b, n, w, l, e)
		}
		return false
	}
	wantPack(t, l, w, b)
	return true
}

func TestWhatIsHandedInStays(t *testing.T) {
	l := []uint64{5, 1, 7, 8, 9}
	Width(l[:3])
	Pack(l[:3], 3)
	Pack(l[:3], 2)
	if !slices.Equal(l, []uint64{5, 1, 7, 8, 9}) {
		t.Error("Pack has changed what it was given:", l)
	}
	b := []byte{205, 1, 7, 8}
	Unpack(b[:2], 3, 3)
	Unpack(b[:2], 3, 2)
	if !bytes.Equal(b, []byte{205, 1, 7, 8}) {
		t.Error("Unpack has changed what it was given:", b)
	}
}

func TestAnswersAreNewMemory(t *testing.T) {
	l, b := []uint64{1, 2}, []byte{1, 2}
	one, _ := Pack(l, 8)
	two, _ := Pack(l, 8)
	first, _ := Unpack(b, 2, 8)
	second, _ := Unpack(b, 2, 8)
	one[0], first[0] = 9, 9
	if l[0] != 1 || two[0] != 1 || b[0] != 1 || second[0] != 1 {
		t.Error("answers share memory:", l, two, b, second)
	}
}

func TestExamplesOfTheChapter(t *testing.T) {
	wantPack(t, []uint64{5, 1, 7}, 3, []byte{205, 1})
	wantPack(t, []uint64{1, 1, 0, 1}, 1, []byte{11})
	wantUnpack(t, []byte{11}, 4, 1, []uint64{1, 1, 0, 1}, api.OK)
	wantUnpack(t, []byte{27}, 4, 1, nil, api.ErrForm)
	wantWidth(t, []uint64{5}, 3)
}
