package column

import (
	"bytes"
	"encoding/binary"
	"math"
	"slices"
	"strings"
	"testing"

	"catchment/api"
	"catchment/ints"
)

const (
	least    = math.MinInt64
	greatest = math.MaxInt64
)

// P, B and N are the chapter's words.
func P(v uint64) []byte { return binary.AppendUvarint(nil, v) }

func B(l ...int64) []byte {
	b, _ := ints.Best(l)
	return b
}

func N(l ...int64) []byte {
	b := B(l...)
	return join(P(uint64(len(b))), b)
}

func join(parts ...[]byte) []byte {
	return slices.Concat(parts...)
}

// column is what a test writes or reads.
type column struct {
	k api.Kind
	l []api.Value
}

// filled is n values, each told by its place.
func filled(n int, tell func(i int) api.Value) []api.Value {
	l := make([]api.Value, n)
	for i := range l {
		l[i] = tell(i)
	}
	return l
}

func same(n int, v api.Value) []api.Value {
	return filled(n, func(int) api.Value { return v })
}

// mixed is a number with bits here and there.
func mixed(i int) uint64 {
	return uint64(i+1) * 0x9e3779b97f4a7c15
}

// fillings has each kind's values by their places, from few unlike ones to many.
func fillings() map[api.Kind][]func(i int) api.Value {
	long := strings.Repeat("x", api.MaxText-2)
	return map[api.Kind][]func(i int) api.Value{
		api.Whole: {
			func(int) api.Value { return int64(7) },
			func(i int) api.Value { return int64(i) },
			func(i int) api.Value { return int64(i%2) * least },
			func(i int) api.Value { return greatest - int64(i%5) },
			func(i int) api.Value { return int64(mixed(i)) },
		},
		api.Truth: {
			func(int) api.Value { return true },
			func(int) api.Value { return false },
			func(i int) api.Value { return i%2 == 0 },
			func(i int) api.Value { return mixed(i)>>40&1 == 1 },
		},
		api.Text: {
			func(int) api.Value { return "" },
			func(int) api.Value { return "a" },
			func(int) api.Value { return long + "yz" },
			func(i int) api.Value { return strings.Repeat("b", i%(api.MaxText+1)) },
			func(i int) api.Value { return string([]byte{byte(i)}) },
			func(i int) api.Value { return long + string([]byte{byte(i), byte(i >> 3)}) },
			func(i int) api.Value { return []string{"ab", "a", "", "abc", "\xff", "é"}[mixed(i)>>50%6] },
			func(i int) api.Value { return []string{"brown", "green", "violet"}[mixed(i)>>50%3] },
		},
	}
}

// columns has of each kind lists of many lengths, with nulls in none, some and all of the places.
func columns() []column {
	var out []column
	for k, tells := range fillings() {
		for _, n := range []int{0, 1, 2, 3, 7, 8, 9, 15, 16, 17, 64, 255, api.MaxRows} {
			for _, tell := range tells {
				for _, isNull := range nullPatterns(n) {
					out = append(out, column{k, filled(n, func(i int) api.Value {
						if isNull(i) {
							return nil
						}
						return tell(i)
					})})
				}
			}
		}
	}
	return append(out, edges()...)
}

func nullPatterns(n int) []func(i int) bool {
	return []func(i int) bool{
		func(int) bool { return false },
		func(int) bool { return true },
		func(i int) bool { return i == 0 },
		func(i int) bool { return i == n-1 },
		func(i int) bool { return i == n/2 },
		func(i int) bool { return i != n/2 },
		func(i int) bool { return mixed(i)>>33&1 == 1 },
	}
}

func edges() []column {
	return []column{
		{api.Whole, []api.Value{int64(least)}}, {api.Whole, []api.Value{int64(greatest)}}, {api.Whole, []api.Value{int64(least), nil, int64(greatest)}}, {api.Whole, []api.Value{int64(greatest), int64(least)}}, {api.Whole, []api.Value{int64(0), int64(-1), nil}},
		{api.Text, []api.Value{"a", "ab", "abc", ""}}, {api.Text, []api.Value{"abc", "ab", "a", "abc", "ab", "a"}}, {api.Text, []api.Value{"\xff", "\x80\x80", "a\xc3", "\x00"}}, {api.Text, []api.Value{"\x00", "", "\x00\x00", nil, ""}},
		{api.Text, []api.Value{"abc", "abc"}}, {api.Text, []api.Value{"abcd", "abcd"}}, {api.Text, []api.Value{"ab", "ab"}},
		{api.Text, []api.Value{"B", "a", "Z", "é", "~"}},
	}
}

// written is what the chapter's words say, reckoned another way: bits one by one, unlike texts by a map.
func written(k api.Kind, l []api.Value) []byte {
	var there, truths []bool
	var wholes []int64
	var texts []string
	for _, v := range l {
		there = append(there, v != nil)
		switch x := v.(type) {
		case int64:
			wholes = append(wholes, x)
		case bool:
			truths = append(truths, x)
		case string:
			texts = append(texts, x)
		}
	}
	b := []byte{0}
	if slices.Contains(there, false) {
		b = join([]byte{1}, packed(there))
	}
	switch k {
	case api.Whole:
		return join(b, B(wholes...))
	case api.Truth:
		return join(b, packed(truths))
	}
	one, other := textsOneByOne(texts), textsInPlaces(texts)
	if len(other) < len(one) {
		one = other
	}
	return join(b, one)
}

func packed(l []bool) []byte {
	b := make([]byte, (len(l)+7)/8)
	for i, is := range l {
		if is {
			b[i/8] |= 1 << (i % 8)
		}
	}
	return b
}

func lengthsAndBytes(l []string) []byte {
	var lengths []int64
	for _, s := range l {
		lengths = append(lengths, int64(len(s)))
	}
	return join(N(lengths...), []byte(strings.Join(l, "")))
}

func textsOneByOne(l []string) []byte {
	return join([]byte{0}, lengthsAndBytes(l))
}

func textsInPlaces(l []string) []byte {
	place := map[string]int64{}
	for _, s := range l {
		place[s] = 0
	}
	var unlike []string
	for s := range place {
		unlike = append(unlike, s)
	}
	slices.Sort(unlike)
	for i, s := range unlike {
		place[s] = int64(i)
	}
	var places []int64
	for _, s := range l {
		places = append(places, place[s])
	}
	return inPlaces(unlike, places)
}

// inPlaces is the second way of writing texts, whether they rise and are used or not.
func inPlaces(unlike []string, places []int64) []byte {
	return join([]byte{1}, P(uint64(len(unlike))), lengthsAndBytes(unlike), B(places...))
}

func wantWrite(t *testing.T, k api.Kind, l []api.Value, want []byte) {
	t.Helper()
	if got, e := Write(k, l); e != api.OK || !bytes.Equal(got, want) {
		t.Errorf("Write(%d, %#v) = %d, %d; want %d", k, l, got, e, want)
	}
}

func wantNoWrite(t *testing.T, k api.Kind, l []api.Value, e api.Errno) {
	t.Helper()
	if got, gotE := Write(k, l); gotE != e || len(got) > 0 {
		t.Errorf("Write(%d, %d values) = %d, %d; want none, %d", k, len(l), got, gotE, e)
	}
}

func wantRead(t *testing.T, k api.Kind, b []byte, want []api.Value) {
	t.Helper()
	if got, e := Read(k, b, len(want)); e != api.OK || !slices.Equal(got, want) {
		t.Errorf("Read(%d, %d, %d) = %#v, %d; want %#v", k, b, len(want), got, e, want)
	}
}

func wantNoRead(t *testing.T, k api.Kind, b []byte, n int, e api.Errno) {
	t.Helper()
	if got, gotE := Read(k, b, n); gotE != e || len(got) > 0 {
		t.Errorf("Read(%d, %d, %d) = %#v, %d; want none, %d", k, b, n, got, gotE, e)
	}
}

// isRefusal is whether e is an error that bytes may be refused by.
func isRefusal(e api.Errno) bool {
	return slices.Contains([]api.Errno{api.ErrEnd, api.ErrVar, api.ErrMore, api.ErrForm, api.ErrCodec}, e)
}

func wantRefused(t *testing.T, k api.Kind, b []byte, n int) {
	t.Helper()
	if got, e := Read(k, b, n); !isRefusal(e) || len(got) > 0 {
		t.Errorf("Read(%d, %d, %d) = %#v, %d; want a refusal", k, b, n, got, e)
	}
}

func kinds() []api.Kind {
	return []api.Kind{api.Whole, api.Truth, api.Text}
}

func TestP61WholeNumbers(t *testing.T) {
	wantWrite(t, api.Whole, nil, []byte{0, 0})
	wantWrite(t, api.Whole, []api.Value{}, []byte{0, 0})
	wantWrite(t, api.Whole, []api.Value{int64(7)}, []byte{0, 0, 14})
	wantWrite(t, api.Whole, []api.Value{nil}, []byte{1, 0, 0})
	wantWrite(t, api.Whole, []api.Value{nil, nil, nil}, []byte{1, 0, 0})
	wantWrite(t, api.Whole, []api.Value{int64(7), int64(7), int64(7)}, []byte{0, 2, 14, 3})
	wantWrite(t, api.Whole, []api.Value{nil, int64(1), int64(-1)}, []byte{1, 6, 0, 2, 1})
	wantWrite(t, api.Whole, []api.Value{int64(1), int64(-1), nil}, []byte{1, 3, 0, 2, 1})
	wantWrite(t, api.Whole, []api.Value{int64(1), nil, int64(-1)}, []byte{1, 5, 0, 2, 1})
	wantWrite(t, api.Whole, []api.Value{int64(least)}, join([]byte{0, 0}, bytes.Repeat([]byte{255}, 9), []byte{1}))
	wantWrite(t, api.Whole, []api.Value{int64(greatest)}, join([]byte{0, 0, 254}, bytes.Repeat([]byte{255}, 8), []byte{1}))
	wantWrite(t, api.Whole, []api.Value{int64(least), nil, int64(greatest)}, join([]byte{1, 5}, B(least, greatest)))
	wantWrite(t, api.Whole, same(8, int64(0)), []byte{0, 2, 0, 8})
	wantWrite(t, api.Whole, same(9, int64(0)), []byte{0, 2, 0, 9})
	wantWrite(t, api.Whole, same(api.MaxRows, int64(0)), []byte{0, 3, 1, 0})
	wantWrite(t, api.Whole, append(same(api.MaxRows-1, nil), int64(5)), join([]byte{1}, make([]byte, 31), []byte{128, 0, 10}))
}

func TestP61Nulls(t *testing.T) {
	wantWrite(t, api.Whole, append(same(7, nil), int64(5)), []byte{1, 128, 0, 10})
	wantWrite(t, api.Whole, append(same(8, nil), int64(5)), []byte{1, 0, 1, 0, 10})
	wantWrite(t, api.Whole, append([]api.Value{int64(5)}, same(8, nil)...), []byte{1, 1, 0, 0, 10})
	for _, k := range kinds() {
		none := written(k, nil)[1:]
		for n := 1; n <= api.MaxRows; n++ {
			wantWrite(t, k, same(n, nil), join([]byte{1}, make([]byte, (n+7)/8), none))
		}
	}
}

func TestP61Truths(t *testing.T) {
	wantWrite(t, api.Truth, nil, []byte{0})
	wantWrite(t, api.Truth, []api.Value{}, []byte{0})
	wantWrite(t, api.Truth, []api.Value{nil}, []byte{1, 0})
	wantWrite(t, api.Truth, []api.Value{true}, []byte{0, 1})
	wantWrite(t, api.Truth, []api.Value{false}, []byte{0, 0})
	wantWrite(t, api.Truth, []api.Value{false, true, true, nil}, []byte{1, 7, 6})
	wantWrite(t, api.Truth, []api.Value{nil, false, nil, true, nil}, []byte{1, 10, 2})
	wantWrite(t, api.Truth, same(7, true), []byte{0, 127})
	wantWrite(t, api.Truth, same(8, true), []byte{0, 255})
	wantWrite(t, api.Truth, same(9, true), []byte{0, 255, 1})
	wantWrite(t, api.Truth, same(9, false), []byte{0, 0, 0})
	wantWrite(t, api.Truth, append(same(8, true), nil), []byte{1, 255, 0, 255})
	wantWrite(t, api.Truth, append(same(8, nil), true), []byte{1, 0, 1, 1})
	wantWrite(t, api.Truth, same(api.MaxRows, true), join([]byte{0}, bytes.Repeat([]byte{255}, 32)))
}

func TestP61TextsOneByOne(t *testing.T) {
	wantWrite(t, api.Text, nil, []byte{0, 0, 1, 0})
	wantWrite(t, api.Text, []api.Value{}, []byte{0, 0, 1, 0})
	wantWrite(t, api.Text, []api.Value{nil}, []byte{1, 0, 0, 1, 0})
	wantWrite(t, api.Text, []api.Value{""}, []byte{0, 0, 2, 0, 0})
	wantWrite(t, api.Text, []api.Value{"a"}, []byte{0, 0, 2, 0, 2, 'a'})
	wantWrite(t, api.Text, []api.Value{"", nil, ""}, []byte{1, 5, 0, 3, 0, 0, 0})
	wantWrite(t, api.Text, []api.Value{nil, "b", "ab", nil}, []byte{1, 6, 0, 3, 0, 2, 4, 'b', 'a', 'b'})
	wantWrite(t, api.Text, []api.Value{"abc", "ab", "a"}, []byte{0, 0, 4, 0, 6, 4, 2, 'a', 'b', 'c', 'a', 'b', 'a'})
	wantWrite(t, api.Text, []api.Value{"\xff", "\xc3", "\x00"}, []byte{0, 0, 3, 2, 2, 3, 255, 195, 0})
	long := strings.Repeat("é", api.MaxText/2)
	wantWrite(t, api.Text, []api.Value{long}, join([]byte{0, 0, 3, 0, 128, 1}, []byte(long)))
	wantWrite(t, api.Text, same(api.MaxRows, ""), []byte{0, 0, 3, 3, 1, 0})
}

func TestP61TextsByPlaces(t *testing.T) {
	wantWrite(t, api.Text, []api.Value{"abcdef", "abcdef", "abcdef"}, []byte{0, 1, 1, 2, 0, 12, 'a', 'b', 'c', 'd', 'e', 'f', 2, 0, 3})
	wantWrite(t, api.Text, []api.Value{"xyzuvw", "abcde", nil, "xyzuvw", "xyzuvw"}, join([]byte{1, 27, 1, 2, 3, 0, 10, 12}, []byte("abcdexyzuvw"), B(1, 0, 1, 1)))
	wantWrite(t, api.Text, []api.Value{"abcd", "abcde", "abcd", "abcde", "abcd"}, join([]byte{0, 1, 2, 3, 0, 8, 10}, []byte("abcdabcde"), B(0, 1, 0, 1, 0)))
	wantWrite(t, api.Text, []api.Value{"\xff\xff\xff\xff", "é é é", "\xff\xff\xff\xff", "\xff\xff\xff\xff"}, join([]byte{0, 1, 2, 3, 0, 16, 8}, []byte("é é é\xff\xff\xff\xff"), B(1, 0, 1, 1)))
	long := strings.Repeat("z", api.MaxText)
	wantWrite(t, api.Text, same(api.MaxRows, long), join([]byte{0, 1, 1, 3, 0, 128, 1}, []byte(long), []byte{3, 1, 0}))
	wantWrite(t, api.Text, append(same(api.MaxRows-1, long), ""), join([]byte{0, 1, 2}, N(0, api.MaxText), []byte(long), B(append(slices.Repeat([]int64{1}, api.MaxRows-1), 0)...)))
}

func TestP61OfTwoWaysWithAsManyBytesTheFirst(t *testing.T) {
	if one, other := textsOneByOne([]string{"abc", "abc"}), textsInPlaces([]string{"abc", "abc"}); len(one) != len(other) {
		t.Fatalf("%d and %d haven't as many bytes", one, other)
	}
	wantWrite(t, api.Text, []api.Value{"ab", "ab"}, []byte{0, 0, 3, 0, 4, 4, 'a', 'b', 'a', 'b'})
	wantWrite(t, api.Text, []api.Value{"abc", "abc"}, []byte{0, 0, 3, 0, 6, 6, 'a', 'b', 'c', 'a', 'b', 'c'})
	wantWrite(t, api.Text, []api.Value{"abcd", "abcd"}, []byte{0, 1, 1, 2, 0, 8, 'a', 'b', 'c', 'd', 0, 0, 0})
}

func TestP61UnlikeTextsAlone(t *testing.T) {
	var all []string
	l := filled(api.MaxRows, func(i int) api.Value {
		s := string([]byte{byte(255 - i), 'x', byte(i)})
		all = append(all, s)
		return s
	})
	wantWrite(t, api.Text, l, join([]byte{0}, textsOneByOne(all)))
}

func TestP61ManyColumns(t *testing.T) {
	ways := [2]int{}
	for _, c := range columns() {
		b := written(c.k, c.l)
		wantWrite(t, c.k, c.l, b)
		if c.k == api.Text && b[0] == 0 {
			ways[b[1]]++
		}
	}
	if ways[0] == 0 || ways[1] == 0 {
		t.Error("a way of writing texts isn't met:", ways)
	}
}

func TestP61KindsThatColumnsArentOf(t *testing.T) {
	for k := range 256 {
		if k >= 1 && k <= 3 {
			continue
		}
		for _, l := range [][]api.Value{nil, {}, {nil}, {int64(7)}, {true}, {"a"}, {strings.Repeat("a", api.MaxText+1)}, make([]api.Value, api.MaxRows+1)} {
			wantNoWrite(t, api.Kind(k), l, api.ErrKind)
		}
	}
}

func TestP61ValuesOfAnotherKind(t *testing.T) {
	of := map[api.Kind]api.Value{api.Whole: int64(1), api.Truth: true, api.Text: "a"}
	for k, own := range of {
		for other, strange := range of {
			if other == k {
				continue
			}
			for _, l := range [][]api.Value{{strange}, {strange, own}, {own, strange}, {nil, strange}, {own, nil, strange, nil, own}, append(same(api.MaxRows-1, own), strange)} {
				wantNoWrite(t, k, l, api.ErrKind)
			}
		}
	}
	for _, k := range kinds() {
		for _, strange := range []api.Value{7, int32(7), uint64(7), 7.0, byte(7), []byte("a"), api.Cell{}, api.Whole} {
			wantNoWrite(t, k, []api.Value{nil, strange}, api.ErrKind)
		}
	}
}

func TestP61TooManyValues(t *testing.T) {
	for k, tells := range fillings() {
		for _, n := range []int{api.MaxRows + 1, api.MaxRows + 2, 2 * api.MaxRows, 1 << 16} {
			wantNoWrite(t, k, same(n, nil), api.ErrLong)
			for _, tell := range tells {
				wantNoWrite(t, k, filled(n, tell), api.ErrLong)
			}
		}
	}
}

func TestP61TextsThatAreTooLong(t *testing.T) {
	for _, long := range []string{strings.Repeat("a", api.MaxText+1), strings.Repeat("\xff", api.MaxText+1), strings.Repeat("é", api.MaxText/2) + "a", strings.Repeat("é", api.MaxText), strings.Repeat("a", 1<<16)} {
		for _, l := range [][]api.Value{{long}, {nil, long}, {"a", long, "b"}, {long, nil}, append(same(api.MaxRows-1, ""), long), append(same(api.MaxRows, ""), long)} {
			wantNoWrite(t, api.Text, l, api.ErrLong)
		}
	}
}

func TestP61AnotherKindIsToldAheadOfWhatIsTooLong(t *testing.T) {
	long := strings.Repeat("a", api.MaxText+1)
	wantNoWrite(t, api.Text, []api.Value{long, int64(7)}, api.ErrKind)
	wantNoWrite(t, api.Text, []api.Value{int64(7), long}, api.ErrKind)
	wantNoWrite(t, api.Whole, []api.Value{int64(7), long}, api.ErrKind)
	wantNoWrite(t, api.Truth, []api.Value{long}, api.ErrKind)
	wantNoWrite(t, api.Whole, append(same(api.MaxRows+1, int64(7)), true), api.ErrKind)
	wantNoWrite(t, api.Truth, append(same(api.MaxRows, true), "a"), api.ErrKind)
	wantNoWrite(t, api.Text, append(same(1<<16, nil), false), api.ErrKind)
}

func TestP62Read(t *testing.T) {
	wantRead(t, api.Whole, []byte{0, 0}, nil)
	wantRead(t, api.Truth, []byte{0}, nil)
	wantRead(t, api.Text, []byte{0, 0, 1, 0}, nil)
	wantRead(t, api.Whole, []byte{1, 0, 0}, []api.Value{nil, nil, nil})
	wantRead(t, api.Truth, []byte{1, 0}, []api.Value{nil, nil})
	wantRead(t, api.Text, []byte{1, 0, 0, 1, 0}, []api.Value{nil})
	wantRead(t, api.Whole, []byte{1, 5, 0, 14, 14}, []api.Value{int64(7), nil, int64(7)})
	wantRead(t, api.Whole, []byte{0, 2, 14, 3}, []api.Value{int64(7), int64(7), int64(7)})
	wantRead(t, api.Whole, join([]byte{0, 0}, bytes.Repeat([]byte{255}, 9), []byte{1}), []api.Value{int64(least)})
	wantRead(t, api.Whole, join([]byte{0, 0, 254}, bytes.Repeat([]byte{255}, 8), []byte{1}), []api.Value{int64(greatest)})
	wantRead(t, api.Truth, []byte{1, 10, 2}, []api.Value{nil, false, nil, true, nil})
	wantRead(t, api.Truth, []byte{0, 255}, same(8, true))
	wantRead(t, api.Truth, []byte{0, 255, 1}, same(9, true))
	wantRead(t, api.Text, []byte{1, 6, 0, 3, 0, 2, 4, 'b', 'a', 'b'}, []api.Value{nil, "b", "ab", nil})
	wantRead(t, api.Text, []byte{0, 0, 2, 0, 0}, []api.Value{""})
	wantRead(t, api.Text, []byte{0, 0, 3, 2, 2, 3, 255, 195, 0}, []api.Value{"\xff", "\xc3", "\x00"})
	wantRead(t, api.Text, join([]byte{1, 27, 1, 2, 3, 0, 10, 12}, []byte("abcdexyzuvw"), B(1, 0, 1, 1)), []api.Value{"xyzuvw", "abcde", nil, "xyzuvw", "xyzuvw"})
	long := strings.Repeat("z", api.MaxText)
	wantRead(t, api.Text, join([]byte{0, 1, 1, 3, 0, 128, 1}, []byte(long), []byte{3, 1, 0}), same(api.MaxRows, long))
}

func TestP62KindsThatColumnsArentOf(t *testing.T) {
	for k := range 256 {
		if k >= 1 && k <= 3 {
			continue
		}
		for _, b := range [][]byte{nil, {}, {0}, {0, 0}, {0, 0, 1, 0}, {2}, {1, 0}} {
			for _, n := range []int{0, 1, -1, api.MaxRows, api.MaxRows + 1, math.MinInt} {
				wantNoRead(t, api.Kind(k), b, n, api.ErrKind)
			}
		}
	}
}

func TestP62CountOfValues(t *testing.T) {
	for _, k := range kinds() {
		for _, b := range [][]byte{nil, {}, {0}, {0, 0}, {0, 0, 1, 0}, {2}, {1, 0}, make([]byte, 40), {0, 3, 1, 0}} {
			for _, n := range []int{-1, -2, -256, math.MinInt, api.MaxRows + 1, 2 * api.MaxRows, 1 << 32, math.MaxInt} {
				wantNoRead(t, k, b, n, api.ErrArg)
			}
		}
	}
}

func TestP62OtherCountsThanWereWritten(t *testing.T) {
	wantRefused(t, api.Whole, []byte{0, 0, 14}, 0)
	wantRefused(t, api.Whole, []byte{0, 0, 14}, 2)
	wantRefused(t, api.Truth, []byte{0, 0}, 0)
	wantRefused(t, api.Truth, []byte{0, 1}, 9)
	wantRefused(t, api.Text, []byte{0, 0, 2, 0, 2, 'a'}, 0)
	wantRefused(t, api.Text, []byte{0, 0, 2, 0, 2, 'a'}, 2)
	wantRefused(t, api.Whole, []byte{1, 5, 0, 14, 14}, 2)
	wantRefused(t, api.Whole, []byte{1, 5, 0, 14, 14}, 9)
	// Where nulls may stand behind the last one within the byte, the bytes are those of more values too.
	wantRead(t, api.Whole, []byte{1, 5, 0, 14, 14}, []api.Value{int64(7), nil, int64(7), nil})
}

func TestP62NoByte(t *testing.T) {
	for _, k := range kinds() {
		for n := range api.MaxRows + 1 {
			wantRefused(t, k, nil, n)
			wantRefused(t, k, []byte{}, n)
		}
	}
}

func TestP62FirstByte(t *testing.T) {
	for _, c := range edges() {
		b := written(c.k, c.l)
		for first := range 256 {
			if byte(first) != b[0] {
				wantRefused(t, c.k, join([]byte{byte(first)}, b[1:]), len(c.l))
			}
			if first > 1 {
				wantRefused(t, c.k, []byte{byte(first)}, 0)
				wantRefused(t, c.k, join([]byte{byte(first)}, b[1:]), len(c.l))
			}
		}
	}
}

func TestP62FirstByteOfTexts(t *testing.T) {
	for _, texts := range [][]string{nil, {"a"}, {"abc", "abc"}, {"abcd", "abcd"}} {
		var l []api.Value
		for _, s := range texts {
			l = append(l, s)
		}
		b := written(api.Text, l)
		for first := range 256 {
			if byte(first) != b[1] {
				wantRefused(t, api.Text, join([]byte{b[0], byte(first)}, b[2:]), len(l))
			}
		}
		for first := 2; first < 256; first++ {
			wantRefused(t, api.Text, join([]byte{0, byte(first)}, textsOneByOne(texts)[1:]), len(l))
			wantRefused(t, api.Text, join([]byte{0, byte(first)}, textsInPlaces(texts)[1:]), len(l))
		}
	}
}

func TestP62CutOffBytes(t *testing.T) {
	for _, c := range columns() {
		b := written(c.k, c.l)
		for end := range b {
			// Of long ones it is enough to cut near the ends.
			if end < 48 || end > len(b)-48 {
				wantRefused(t, c.k, b[:end:end], len(c.l))
				// What stands behind the end of what is handed in doesn't count.
				wantRefused(t, c.k, b[:end], len(c.l))
			}
		}
	}
}

func TestP62ByteTooMany(t *testing.T) {
	for _, c := range columns() {
		b := written(c.k, c.l)
		for _, tail := range [][]byte{{0}, {1}, {2, 1}, {128}, {255}, make([]byte, 40)} {
			wantRefused(t, c.k, join(b, tail), len(c.l))
		}
	}
	for _, k := range kinds() {
		for n := range api.MaxRows + 1 {
			wantRefused(t, k, make([]byte, 1<<15), n)
		}
	}
}

func TestP62BitsBehindTheLastOne(t *testing.T) {
	for n := 1; n <= 17; n++ {
		for spare := n; spare < (n+7)/8*8; spare++ {
			nulls := make([]byte, (n+7)/8)
			nulls[spare/8] |= 1 << (spare % 8)
			wantRefused(t, api.Whole, join([]byte{1}, nulls, []byte{0}), n)
			wantRefused(t, api.Whole, join([]byte{1}, nulls, []byte{0, 14}), n)
			wantRefused(t, api.Truth, join([]byte{1}, nulls), n)
			wantRefused(t, api.Truth, join([]byte{0}, nulls), n)
			wantRefused(t, api.Text, join([]byte{1}, nulls, []byte{0, 1, 0}), n)
		}
	}
	wantRefused(t, api.Truth, []byte{1, 3, 7}, 4)
}

func TestP62Lengths(t *testing.T) {
	ample := bytes.Repeat([]byte{'a'}, 300)
	for _, length := range []int64{-1, -64, least, api.MaxText + 1, 128, 256, 257, 1 << 32, 1<<32 + 1, greatest} {
		for _, left := range []int{0, 1, int(length & 255), 300} {
			wantRefused(t, api.Text, join([]byte{0, 0}, N(length), ample[:left]), 1)
			wantRefused(t, api.Text, join([]byte{0, 0}, N(1, length), ample[:left]), 2)
			wantRefused(t, api.Text, join([]byte{0, 1, 1}, N(length), ample[:left], B(0, 0, 0)), 3)
			wantRefused(t, api.Text, join([]byte{0, 0}, N(2, length, 3), ample[:left]), 3)
		}
	}
	for length := range int64(api.MaxText + 1) {
		wantRead(t, api.Text, join([]byte{0, 0}, N(length), ample[:length]), []api.Value{string(ample[:length])})
		for left := range length {
			wantRefused(t, api.Text, join([]byte{0, 0}, N(length), ample[:left]), 1)
			wantRefused(t, api.Text, join([]byte{0, 1, 1}, N(length), ample[:left]), 3)
		}
	}
}

func TestP62NumbersBytesByTheirCount(t *testing.T) {
	// How many bytes the lengths have: fewer, more, more than are left, far more than there can be.
	for _, count := range []uint64{0, 1, 3, 4, 5, 127, 128, 1 << 31, 1 << 32, 1<<32 + 2, 1 << 63, 1<<63 + 2, math.MaxUint64} {
		wantRefused(t, api.Text, join([]byte{0, 0}, P(count), []byte{0, 2, 'a'}), 1)
		wantRefused(t, api.Text, join([]byte{0, 1, 1}, P(count), []byte{0, 12}, []byte("abcdef"), B(0, 0, 0)), 3)
	}
	wantRead(t, api.Text, join([]byte{0, 0}, P(2), []byte{0, 2, 'a'}), []api.Value{"a"})
	// A count with more bytes than it needs, and one that doesn't end.
	wantRefused(t, api.Text, []byte{0, 0, 130, 0, 0, 2, 'a'}, 1)
	wantRefused(t, api.Text, join([]byte{0, 0}, bytes.Repeat([]byte{255}, 12), []byte{0, 2, 'a'}), 1)
	wantRefused(t, api.Text, []byte{0, 0, 128}, 1)
	// No such codec, of lengths, places and whole numbers.
	wantRefused(t, api.Text, []byte{0, 0, 2, 5, 2, 'a'}, 1)
	wantRefused(t, api.Text, []byte{0, 1, 1, 2, 0, 8, 'a', 'b', 'c', 'd', 5, 0, 0}, 2)
	wantRefused(t, api.Whole, []byte{0, 5, 14}, 1)
	wantRefused(t, api.Whole, []byte{0, 255}, 0)
}

func TestP62PlacesThatArentThere(t *testing.T) {
	for _, places := range [][]int64{{0, 0, 1}, {1, 1, 1}, {-1, 0, 0}, {0, 0, 256}, {0, least, 0}, {0, 0, greatest}, {0, 1 << 32, 0}} {
		wantRefused(t, api.Text, join([]byte{0}, inPlaces([]string{"abcdef"}, places)), 3)
	}
	wantRead(t, api.Text, join([]byte{0}, inPlaces([]string{"abcdef"}, []int64{0, 0, 0})), same(3, "abcdef"))
	wantRefused(t, api.Text, join([]byte{0}, inPlaces(nil, []int64{0})), 1)
	wantRefused(t, api.Text, join([]byte{0}, inPlaces(nil, nil)), 0)
}

func TestP62MoreUnlikeTextsThanTexts(t *testing.T) {
	for _, count := range []uint64{3, 4, api.MaxRows, api.MaxRows + 1, 1 << 32, 1 << 63, 1<<63 + 1, math.MaxUint64} {
		wantRefused(t, api.Text, join([]byte{0, 1}, P(count), N(4), []byte("abcd"), B(0, 0)), 2)
	}
	wantRefused(t, api.Text, join([]byte{0}, inPlaces([]string{"abcd", "bcde", "cdef"}, []int64{0, 1})), 2)
	wantRefused(t, api.Text, join([]byte{0, 1, 129, 0}, N(4), []byte("abcd"), B(0, 0)), 2)
}

func TestP62NullsThatArent(t *testing.T) {
	wantRefused(t, api.Whole, []byte{1, 0}, 0)
	wantRefused(t, api.Truth, []byte{1}, 0)
	wantRefused(t, api.Text, []byte{1, 0, 1, 0}, 0)
	wantRefused(t, api.Whole, []byte{1, 1, 0, 14}, 1)
	wantRefused(t, api.Truth, []byte{1, 255, 170}, 8)
	wantRefused(t, api.Text, []byte{1, 3, 0, 3, 0, 2, 2, 'a', 'a'}, 2)
	for k, tells := range fillings() {
		for _, tell := range tells {
			for _, n := range []int{1, 8, 9, api.MaxRows} {
				all := packed(slices.Repeat([]bool{true}, n))
				wantRefused(t, k, join([]byte{1}, all, written(k, filled(n, tell))[1:]), n)
			}
		}
	}
}

func TestP62UnlikeTextsThatDontRiseOrArentUsed(t *testing.T) {
	wantRead(t, api.Text, join([]byte{0}, inPlaces([]string{"abcd", "bcde"}, []int64{0, 1, 0, 1})), []api.Value{"abcd", "bcde", "abcd", "bcde"})
	for _, c := range []struct {
		unlike []string
		places []int64
	}{
		{[]string{"bcde", "abcd"}, []int64{0, 1, 0, 1}},
		{[]string{"bcde", "abcd"}, []int64{1, 0, 1, 0}},
		{[]string{"abcd", "abcd"}, []int64{0, 1, 0, 1}},
		{[]string{"abcd", "abcd"}, []int64{0, 0, 0, 0}},
		{[]string{"abcd", "bcde"}, []int64{0, 0, 0, 0}},
		{[]string{"abcd", "bcde"}, []int64{1, 1, 1, 1}},
		{[]string{"", "abcd"}, []int64{1, 1, 1, 1}},
		{[]string{"abcde", "abcd"}, []int64{0, 1, 0, 1}},
		{[]string{"é", "z", "zzzz"}, []int64{0, 2, 0, 1}},
	} {
		wantRefused(t, api.Text, join([]byte{0}, inPlaces(c.unlike, c.places)), len(c.places))
		wantRefused(t, api.Text, join([]byte{1, 30}, inPlaces(c.unlike, c.places)), 5)
	}
}

func TestP62TheWayThatHasntFewerBytes(t *testing.T) {
	for _, l := range [][]string{nil, {""}, {"a"}, {"a", "a"}, {"abc", "abc"}, {"abcd", "abcd"}, {"abcdef", "abcdef", "abcdef"}, {"a", "b", "c"}, slices.Repeat([]string{""}, api.MaxRows), slices.Repeat([]string{"ab"}, api.MaxRows)} {
		one, other := textsOneByOne(l), textsInPlaces(l)
		if len(other) < len(one) {
			one, other = other, one
		}
		values := filled(len(l), func(i int) api.Value { return l[i] })
		wantRead(t, api.Text, join([]byte{0}, one), values)
		wantRefused(t, api.Text, join([]byte{0}, other), len(l))
	}
}

func TestP62NumbersThatArentAsBestWritesThem(t *testing.T) {
	for _, l := range [][]int64{{7}, {7, 7, 7}, {1, 2}, {least, greatest}, {5, 5, 5, 5, 6}} {
		best, _ := ints.Best(l)
		for codec := range byte(5) {
			b, _ := ints.Encode(codec, l)
			b = join([]byte{codec}, b)
			if bytes.Equal(b, best) {
				continue
			}
			wantRefused(t, api.Whole, join([]byte{0}, b), len(l))
		}
	}
	// Lengths, and places, by another codec.
	lengths, _ := ints.Encode(1, []int64{1})
	wantRefused(t, api.Text, join([]byte{0, 0, 2, 1}, lengths, []byte{'a'}), 1)
	lengths, _ = ints.Encode(1, []int64{6})
	wantRefused(t, api.Text, join([]byte{0, 1, 1, 2, 1}, lengths, []byte("abcdef"), B(0, 0, 0)), 3)
	places, _ := ints.Encode(0, []int64{0, 0, 0})
	wantRefused(t, api.Text, join([]byte{0, 1, 1}, N(6), []byte("abcdef"), []byte{0}, places), 3)
	wantRefused(t, api.Whole, []byte{0, 0, 142, 0}, 1)
}

func TestP62ShortBytesAreReadIfTheyAreWrittenSo(t *testing.T) {
	some := []byte{0, 1, 2, 3, 4, 5, 14, 97, 127, 128, 129, 255}
	for _, k := range kinds() {
		for n := range 4 {
			for two := range 1 << 16 {
				holdTogether(t, k, []byte{byte(two), byte(two >> 8)}, n)
			}
			all := [][]byte{{0}, {1}}
			for range 4 {
				all = longer(all, some)
				for _, b := range all {
					holdTogether(t, k, b, n)
				}
			}
		}
	}
}

// longer is each of the bytes with each of some behind it.
func longer(all [][]byte, some []byte) [][]byte {
	var out [][]byte
	for _, b := range all {
		for _, c := range some {
			out = append(out, join(b, []byte{c}))
		}
	}
	return out
}

func TestP62ChangedBytesAreReadIfTheyAreWrittenSo(t *testing.T) {
	for _, c := range append(edges(), column{api.Text, []api.Value{"brown", "green", nil, "brown", "violet", "brown", "green", "violet", "violet"}}, column{api.Whole, filled(9, func(i int) api.Value { return int64(i*i - 9) })}, column{api.Truth, filled(9, func(i int) api.Value { return i%3 == 0 })}) {
		b := written(c.k, c.l)
		for i := range b {
			for to := range 256 {
				changed := bytes.Clone(b)
				changed[i] = byte(to)
				holdTogether(t, c.k, changed, len(c.l))
			}
		}
	}
}

// holdTogether holds what is read against what the chapter's words make of it.
func holdTogether(t *testing.T, k api.Kind, b []byte, n int) {
	t.Helper()
	l, e := Read(k, b, n)
	if e == api.OK && (len(l) != n || !bytes.Equal(written(k, l), b)) {
		t.Fatalf("Read(%d, %d, %d) = %#v", k, b, n, l)
	}
	if e != api.OK && (!isRefusal(e) || len(l) > 0) {
		t.Fatalf("Read(%d, %d, %d) = %#v, %d", k, b, n, l, e)
	}
}

func TestP63ReadOfWrite(t *testing.T) {
	for _, c := range columns() {
		b, e := Write(c.k, c.l)
		if e != api.OK {
			t.Fatalf("Write(%d, %#v) answers %d", c.k, c.l, e)
		}
		wantRead(t, c.k, b, c.l)
	}
}

func TestP63WriteOfWhatWasRead(t *testing.T) {
	for _, c := range columns() {
		b := written(c.k, c.l)
		l, e := Read(c.k, b, len(c.l))
		if e != api.OK {
			t.Fatalf("Read(%d, %d, %d) answers %d", c.k, b, len(c.l), e)
		}
		wantWrite(t, c.k, l, b)
	}
}

func TestP63AllShortColumns(t *testing.T) {
	some := map[api.Kind][]api.Value{
		api.Whole: {nil, int64(0), int64(-1), int64(64), int64(least), int64(greatest)},
		api.Truth: {nil, false, true},
		api.Text:  {nil, "", "a", "ab", "abcd", "\xffbcd"},
	}
	for k, values := range some {
		all := [][]api.Value{nil}
		for range 5 {
			var next [][]api.Value
			for _, l := range all {
				for _, v := range values {
					next = append(next, append(slices.Clone(l), v))
				}
			}
			all = next
			for _, l := range all {
				b := written(k, l)
				wantWrite(t, k, l, b)
				wantRead(t, k, b, l)
			}
		}
	}
}

func TestWhatIsHandedInStays(t *testing.T) {
	for _, c := range columns() {
		b := written(c.k, c.l)
		room := append(slices.Clone(c.l), "spare", int64(9), true)
		before := slices.Clone(room)
		Write(c.k, room[:len(c.l)])
		if !slices.Equal(room, before) {
			t.Fatalf("Write(%d, %#v) has changed what it was given", c.k, c.l)
		}
		roomy := append(bytes.Clone(b), 1, 2, 3, 4, 5, 6, 7, 8)
		same := bytes.Clone(roomy)
		Read(c.k, roomy[:len(b)], len(c.l))
		if !bytes.Equal(roomy, same) {
			t.Fatalf("Read(%d, %d) has changed what it was given", c.k, b)
		}
	}
}

func TestAnswersAreNewMemory(t *testing.T) {
	for _, c := range columns() {
		want := written(c.k, c.l)
		one, _ := Write(c.k, c.l)
		two, _ := Write(c.k, c.l)
		clear(one)
		if !bytes.Equal(two, want) {
			t.Fatalf("answers of Write(%d, %#v) share memory", c.k, c.l)
		}
		given := bytes.Clone(want)
		first, _ := Read(c.k, given, len(c.l))
		second, _ := Read(c.k, given, len(c.l))
		clear(given)
		clear(first)
		if !slices.Equal(second, c.l) {
			t.Fatalf("answers of Read(%d, %d) share memory", c.k, want)
		}
	}
}

func TestExamplesOfTheChapter(t *testing.T) {
	wantWrite(t, api.Whole, []api.Value{int64(7), nil, int64(7)}, []byte{1, 5, 0, 14, 14})
	wantWrite(t, api.Truth, []api.Value{true, false}, []byte{0, 1})
	wantWrite(t, api.Text, []api.Value{"a", "a"}, []byte{0, 0, 3, 0, 2, 2, 97, 97})
	wantRead(t, api.Text, []byte{0, 0, 3, 0, 2, 2, 97, 97}, []api.Value{"a", "a"})
}
