package varint

import (
	"bytes"
	"encoding/binary"
	"math"
	"slices"
	"testing"

	"catchment/api"
)

// numbers has, sorted, 0 and its neighbours, the edges of each count of bits, some numbers between, and the greatest ones.
func numbers() []uint64 {
	out := []uint64{0, 1, 2, 126, 127, 128, 129, 255, 256, 300, 16383, 16384, 2097151, 2097152, math.MaxUint64 - 1, math.MaxUint64}
	for bit := range 64 {
		edge := uint64(1) << bit
		out = append(out, edge-1, edge, edge+1, edge|edge>>1, edge*3, edge*0x5b)
	}
	slices.Sort(out)
	return slices.Compact(out)
}

// wholes has 0, the least and the greatest whole number, the edges of each count of bits, and their opposites.
func wholes() []int64 {
	out := []int64{0, math.MinInt64, math.MinInt64 + 1, math.MaxInt64, math.MaxInt64 - 1}
	for bit := range 63 {
		edge := int64(1) << bit
		out = append(out, edge-1, edge, edge+1, -edge-1, -edge, -edge+1, edge|edge>>1, -(edge | edge>>1))
	}
	slices.Sort(out)
	return slices.Compact(out)
}

// tails has what may stand behind a number.
func tails() [][]byte {
	return [][]byte{nil, {}, {0}, {1}, {127}, {128}, {255}, {128, 0}, {0, 0, 0}, bytes.Repeat([]byte{255}, 12), bytes.Repeat([]byte{128}, 12)}
}

// run has n times c, and the last ones behind them.
func run(n int, c byte, last ...byte) []byte {
	return append(bytes.Repeat([]byte{c}, n), last...)
}

func wantGet(t *testing.T, b []byte, n uint64, used int, e api.Errno) {
	t.Helper()
	gotN, gotUsed, gotE := Get(b)
	if gotN != n || gotUsed != used || gotE != e {
		t.Errorf("Get(%d) = %d, %d, %d; want %d, %d, %d", b, gotN, gotUsed, gotE, n, used, e)
	}
}

func wantGetInt(t *testing.T, b []byte, n int64, used int, e api.Errno) {
	t.Helper()
	gotN, gotUsed, gotE := GetInt(b)
	if gotN != n || gotUsed != used || gotE != e {
		t.Errorf("GetInt(%d) = %d, %d, %d; want %d, %d, %d", b, gotN, gotUsed, gotE, n, used, e)
	}
}

// wantRefused holds Get and GetInt of b against an error.
func wantRefused(t *testing.T, b []byte, e api.Errno) {
	t.Helper()
	wantGet(t, b, 0, 0, e)
	wantGetInt(t, b, 0, 0, e)
}

func TestP31Put(t *testing.T) {
	for _, c := range []struct {
		n    uint64
		want []byte
	}{
		{0, []byte{0}}, {1, []byte{1}}, {127, []byte{127}}, {128, []byte{128, 1}}, {129, []byte{129, 1}}, {255, []byte{255, 1}}, {256, []byte{128, 2}}, {300, []byte{172, 2}},
		{1<<14 - 1, []byte{255, 127}}, {1 << 14, []byte{128, 128, 1}},
		{1<<21 - 1, []byte{255, 255, 127}}, {1 << 21, []byte{128, 128, 128, 1}},
		{math.MaxUint32, []byte{255, 255, 255, 255, 15}},
		{1<<63 - 1, run(8, 255, 127)}, {1 << 63, run(9, 128, 1)}, {math.MaxUint64, run(9, 255, 1)},
	} {
		if got := Put(c.n); !bytes.Equal(got, c.want) {
			t.Errorf("Put(%d) = %d; want %d", c.n, got, c.want)
		}
	}
	for _, n := range numbers() {
		if got := Put(n); !bytes.Equal(got, binary.AppendUvarint(nil, n)) {
			t.Errorf("Put(%d) = %d", n, got)
		}
	}
}

func TestP31GreatestOfEachCountOfBytesAndTheNext(t *testing.T) {
	for count := 1; count <= 9; count++ {
		greatest := uint64(1)<<(7*count) - 1
		full := run(count-1, 255, 127)
		next := run(count, 128, 1)
		if got := Put(greatest); !bytes.Equal(got, full) {
			t.Errorf("Put(%d) = %d; want %d", greatest, got, full)
		}
		if got := Put(greatest + 1); !bytes.Equal(got, next) {
			t.Errorf("Put(%d) = %d; want %d", greatest+1, got, next)
		}
		wantGet(t, full, greatest, count, api.OK)
		wantGet(t, next, greatest+1, count+1, api.OK)
	}
}

func TestP31Get(t *testing.T) {
	wantGet(t, []byte{0}, 0, 1, api.OK)
	wantGet(t, []byte{0, 0}, 0, 1, api.OK)
	wantGet(t, []byte{0, 128}, 0, 1, api.OK)
	wantGet(t, []byte{5}, 5, 1, api.OK)
	wantGet(t, []byte{127, 255}, 127, 1, api.OK)
	wantGet(t, []byte{128, 1}, 128, 2, api.OK)
	wantGet(t, []byte{172, 2}, 300, 2, api.OK)
	wantGet(t, []byte{172, 2, 172}, 300, 2, api.OK)
	wantGet(t, []byte{128, 128, 1}, 1<<14, 3, api.OK)
	wantGet(t, []byte{129, 128, 1}, 1<<14+1, 3, api.OK)
	wantGet(t, run(8, 255, 127), 1<<63-1, 9, api.OK)
	wantGet(t, run(9, 128, 1), 1<<63, 10, api.OK)
	wantGet(t, run(9, 255, 1), math.MaxUint64, 10, api.OK)
	wantGet(t, run(9, 255, 1, 255), math.MaxUint64, 10, api.OK)
}

func TestP31BytesThatEnd(t *testing.T) {
	wantRefused(t, nil, api.ErrEnd)
	wantRefused(t, []byte{}, api.ErrEnd)
	for count := 1; count <= 9; count++ {
		wantRefused(t, run(count, 128), api.ErrEnd)
		wantRefused(t, run(count, 255), api.ErrEnd)
		wantRefused(t, run(count-1, 255, 128), api.ErrEnd)
	}
	for _, n := range numbers() {
		b := Put(n)
		for end := range len(b) {
			wantRefused(t, b[:end], api.ErrEnd)
		}
	}
}

func TestP31SpareLastByte(t *testing.T) {
	for count := 1; count <= 9; count++ {
		for _, tail := range tails() {
			wantRefused(t, append(run(count, 128, 0), tail...), api.ErrVar)
			wantRefused(t, append(run(count, 255, 0), tail...), api.ErrVar)
		}
	}
	wantRefused(t, []byte{129, 0}, api.ErrVar)
	wantRefused(t, []byte{172, 130, 0}, api.ErrVar)
}

func TestP31TenthByte(t *testing.T) {
	for last := range 256 {
		for _, c := range []byte{128, 129, 200, 255} {
			for _, tail := range tails() {
				b := append(run(9, c, byte(last)), tail...)
				if last == 1 {
					n, _ := binary.Uvarint(b)
					wantGet(t, b, n, 10, api.OK)
				} else {
					wantRefused(t, b, api.ErrVar)
				}
			}
		}
	}
	for count := 10; count <= 24; count++ {
		wantRefused(t, run(count, 128), api.ErrVar)
		wantRefused(t, run(count, 255), api.ErrVar)
		wantRefused(t, run(count, 128, 0), api.ErrVar)
		wantRefused(t, run(count, 255, 1), api.ErrVar)
	}
	wantRefused(t, run(1<<20, 255), api.ErrVar)
}

func TestP31TenthByteBehindALastOneIsNobodysFault(t *testing.T) {
	for place := range 9 {
		b := run(12, 255)
		b[place] = 1
		n, used := binary.Uvarint(b)
		wantGet(t, b, n, used, api.OK)
		if used != place+1 {
			t.Error(place, used)
		}
	}
}

func TestP32PutInt(t *testing.T) {
	for _, c := range []struct {
		n    int64
		want []byte
	}{
		{0, []byte{0}}, {-1, []byte{1}}, {1, []byte{2}}, {-2, []byte{3}}, {2, []byte{4}}, {63, []byte{126}}, {-64, []byte{127}}, {64, []byte{128, 1}}, {-65, []byte{129, 1}}, {150, []byte{172, 2}},
		{1 << 62, run(9, 128, 1)}, {-1 << 62, run(8, 255, 127)},
		{math.MaxInt64, append([]byte{254}, run(8, 255, 1)...)}, {math.MinInt64, run(9, 255, 1)},
	} {
		if got := PutInt(c.n); !bytes.Equal(got, c.want) {
			t.Errorf("PutInt(%d) = %d; want %d", c.n, got, c.want)
		}
		wantGetInt(t, c.want, c.n, len(c.want), api.OK)
	}
	for _, n := range wholes() {
		if got := PutInt(n); !bytes.Equal(got, binary.AppendVarint(nil, n)) {
			t.Errorf("PutInt(%d) = %d", n, got)
		}
	}
}

func TestP32WrittenAsTheNumberThatTheWordsName(t *testing.T) {
	for n := int64(-70000); n <= 70000; n++ {
		as := uint64(2 * n)
		if n < 0 {
			as = uint64(-2*n - 1)
		}
		if !bytes.Equal(PutInt(n), Put(as)) {
			t.Fatalf("PutInt(%d) = %d; want %d", n, PutInt(n), Put(as))
		}
		if got, _, e := GetInt(Put(as)); got != n || e != api.OK {
			t.Fatalf("GetInt(Put(%d)) = %d, %d; want %d", as, got, e, n)
		}
	}
}

func TestP32GetInt(t *testing.T) {
	wantGetInt(t, []byte{0, 1}, 0, 1, api.OK)
	wantGetInt(t, []byte{1, 0}, -1, 1, api.OK)
	wantGetInt(t, []byte{2, 255}, 1, 1, api.OK)
	wantGetInt(t, []byte{172, 2, 9}, 150, 2, api.OK)
	wantGetInt(t, []byte{173, 2, 9}, -151, 2, api.OK)
	wantGetInt(t, run(9, 255, 1, 1), math.MinInt64, 10, api.OK)
	wantGetInt(t, append([]byte{254}, run(8, 255, 1, 128)...), math.MaxInt64, 10, api.OK)
	wantRefused(t, []byte{128, 0}, api.ErrVar)
	wantRefused(t, []byte{129, 0}, api.ErrVar)
	wantRefused(t, []byte{129}, api.ErrEnd)
	wantRefused(t, run(9, 255, 2), api.ErrVar)
}

func TestP33GetOfPut(t *testing.T) {
	for _, n := range numbers() {
		for _, tail := range tails() {
			b := Put(n)
			wantGet(t, append(slices.Clone(b), tail...), n, len(b), api.OK)
		}
	}
	for _, n := range wholes() {
		for _, tail := range tails() {
			b := PutInt(n)
			wantGetInt(t, append(slices.Clone(b), tail...), n, len(b), api.OK)
		}
	}
}

func TestP33PutOfWhatGetTook(t *testing.T) {
	for _, b := range shortRuns(5) {
		n, used, e := Get(b)
		m, usedInt, eInt := GetInt(b)
		if used != usedInt || e != eInt {
			t.Fatalf("Get(%d) took %d, %d, GetInt %d, %d", b, used, e, usedInt, eInt)
		}
		if e == api.OK && (!bytes.Equal(Put(n), b[:used]) || !bytes.Equal(PutInt(m), b[:used])) {
			t.Fatalf("%d is taken as %d and %d, which are put as %d and %d", b, n, m, Put(n), PutInt(m))
		}
		if e != api.OK && (n != 0 || m != 0 || used != 0) {
			t.Fatalf("beside an error of %d stand %d, %d, %d", b, n, m, used)
		}
	}
}

// shortRuns has all bytes of up to most places, out of those at the edges, each also behind seven bytes that go on.
func shortRuns(most int) [][]byte {
	out := [][]byte{{}}
	last := out
	for range most {
		var longer [][]byte
		for _, b := range last {
			for _, c := range []byte{0, 1, 2, 127, 128, 129, 255} {
				longer = append(longer, append(slices.Clone(b), c))
			}
		}
		out = append(out, longer...)
		last = longer
	}
	for _, b := range slices.Clone(out) {
		out = append(out, append(run(7, 170), b...))
	}
	return out
}

func TestP33GreaterNumbersHaveNoFewerBytes(t *testing.T) {
	before := 1
	for _, n := range numbers() {
		if len(Put(n)) < before {
			t.Errorf("Put(%d) has fewer bytes than a lesser number", n)
		}
		before = len(Put(n))
	}
	if before != 10 {
		t.Error("the greatest number has", before, "bytes")
	}
}

func TestWhatIsHandedInStays(t *testing.T) {
	b := append(Put(300), 7, 8, 9)
	given := b[:2]
	Get(given)
	GetInt(given)
	if !bytes.Equal(b, []byte{172, 2, 7, 8, 9}) {
		t.Error("Get has changed what it was given:", b)
	}
	one, two := Put(300), Put(300)
	one[0] = 0
	if !bytes.Equal(two, []byte{172, 2}) || !bytes.Equal(Put(300), []byte{172, 2}) {
		t.Error("answers of Put share memory")
	}
}

func TestExamplesOfTheChapter(t *testing.T) {
	if got := Put(0); !bytes.Equal(got, []byte{0}) {
		t.Error("Put(0):", got)
	}
	if got := Put(300); !bytes.Equal(got, []byte{172, 2}) {
		t.Error("Put(300):", got)
	}
	if got := PutInt(-1); !bytes.Equal(got, []byte{1}) {
		t.Error("PutInt(-1):", got)
	}
	wantGet(t, []byte{128, 0}, 0, 0, api.ErrVar)
	wantGet(t, []byte{128}, 0, 0, api.ErrEnd)
	wantGet(t, run(10, 255, 1), 0, 0, api.ErrVar)
}
