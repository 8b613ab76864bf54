package keyfile

import (
	"encoding/binary"
	"hash/crc32"
	"math"
	"math/rand"
	"slices"
	"strings"
	"testing"

	"catchment/api"
	"catchment/column"
)

const (
	least    = math.MinInt64
	greatest = math.MaxInt64
)

// P is the chapter's word.
func P(n int) []byte { return binary.AppendUvarint(nil, uint64(n)) }

func join(parts ...[]byte) []byte {
	return slices.Concat(parts...)
}

// seal is reckoned by the library's sum.
func seal(b []byte) []byte {
	return binary.LittleEndian.AppendUint32(slices.Clone(b), crc32.ChecksumIEEE(b))
}

// unsealed is a sealed text without its seal.
func unsealed(b []byte) []byte {
	return slices.Clone(b[:len(b)-4])
}

// source is what a file is made of: what is handed in, and the keys that this comes to.
type source struct {
	kind api.Kind
	l    []api.Value
	keys []api.Value
}

// parts is a file's bytes, each by itself.
type parts struct {
	magic, kind, count, column []byte
}

// partsOf follows the chapter's words; whether there may be such a file, it doesn't ask.
func partsOf(k api.Kind, keys []api.Value) *parts {
	return &parts{[]byte("KF1"), P(int(k)), P(len(keys)), columnOf(k, keys)}
}

func columnOf(k api.Kind, l []api.Value) []byte {
	b, e := column.Write(k, l)
	if e != api.OK {
		panic("no column")
	}
	return b
}

// text is the bytes ahead of the seal.
func (p *parts) text() []byte {
	return join(p.magic, p.kind, p.count, p.column)
}

func (p *parts) bytes() []byte {
	return seal(p.text())
}

// listOf is these as values.
func listOf[T any](l ...T) []api.Value {
	var out []api.Value
	for _, one := range l {
		out = append(out, one)
	}
	return out
}

// numbersFrom is n numbers from the first on, each so much above the one ahead.
func numbersFrom(first, step int64, n int) []api.Value {
	var out []api.Value
	for i := range n {
		out = append(out, first+step*int64(i))
	}
	return out
}

// textsFrom is n rising texts, each of that many bytes, at least two.
func textsFrom(n, length int) []api.Value {
	var out []api.Value
	for i := range n {
		out = append(out, string([]byte{byte('A' + i/16), byte('A' + i%16)})+strings.Repeat("x", length-2))
	}
	return out
}

// oneWithinTheOther is the texts of so many equal signs, from none up to n.
func oneWithinTheOther(sign string, n int) []api.Value {
	var out []api.Value
	for i := range n + 1 {
		out = append(out, strings.Repeat(sign, i))
	}
	return out
}

// risingNumbers has lists of numbers, each rising.
func risingNumbers() [][]api.Value {
	var out [][]api.Value
	for _, one := range []int64{0, 1, -1, 7, 63, 64, -64, -65, 127, 128, 1 << 31, -1 << 31, 1 << 62, least, least + 1, greatest, greatest - 1} {
		out = append(out, listOf(one))
	}
	out = append(out, nil, listOf[int64](3, 5), listOf[int64](-5, -3), listOf[int64](-1, 0), listOf[int64](-1, 0, 1), listOf[int64](least, greatest))
	out = append(out, listOf[int64](least, least+1, -1, 0, 1, greatest-1, greatest), listOf[int64](least, 0), listOf[int64](0, greatest), listOf[int64](-7, 300, 1<<40))
	for _, n := range []int{2, 3, 8, 9, 64, 100, api.MaxRows - 1, api.MaxRows} {
		for _, step := range []int64{1, 2, 1000, 1 << 54} {
			out = append(out, numbersFrom(0, step, n), numbersFrom(-step*int64(n), step, n), numbersFrom(-step*int64(n/2), step, n))
		}
	}
	return append(out, numbersFrom(least, 1, api.MaxRows), numbersFrom(greatest-api.MaxRows+1, 1, api.MaxRows), numbersFrom(least, 1<<56, api.MaxRows))
}

// risingTexts has lists of texts, each rising byte by byte.
func risingTexts() [][]api.Value {
	longest := strings.Repeat("m", api.MaxText)
	var out [][]api.Value
	for _, one := range []string{"", "a", "b", "é", "\x00", "\xff", "\xc3", "a\xffb", "\U0010ffff", "3", "KF1", longest, strings.Repeat("é", api.MaxText/2), strings.Repeat("\xff", api.MaxText)} {
		out = append(out, listOf(one))
	}
	out = append(out, nil, listOf("", "a"), listOf("a", "ab"), listOf("a", "ab", "abc", "b"), listOf("", "\x00", "\x00\x00", "\x01"), listOf("Z", "a"), listOf("", longest))
	out = append(out, listOf("e", "z", "é"), listOf("a", "\xc3", "é", "\xc3\xff", "\xff"), listOf(longest[1:], longest), listOf(longest[1:]+"l", longest, longest[1:]+"n"), listOf("-1", "0", "10", "9"))
	out = append(out, oneWithinTheOther("a", api.MaxText), oneWithinTheOther("\xff", api.MaxText), oneWithinTheOther("é", api.MaxText/2), oneWithinTheOther("\x00", 7))
	for _, n := range []int{2, 3, 64, 100, api.MaxRows - 1, api.MaxRows} {
		out = append(out, textsFrom(n, 2), textsFrom(n, 3), textsFrom(n, api.MaxText))
	}
	return out
}

// mixed is the list in another order, always the same one.
func mixed(l []api.Value) []api.Value {
	out := slices.Clone(l)
	rand.New(rand.NewSource(int64(len(l)))).Shuffle(len(out), func(i, j int) {
		out[i], out[j] = out[j], out[i]
	})
	return out
}

func reversed(l []api.Value) []api.Value {
	out := slices.Clone(l)
	slices.Reverse(out)
	return out
}

// handedIn has what comes to just these keys: in several orders, once and more often.
func handedIn(keys []api.Value) [][]api.Value {
	each := slices.Clone(keys)
	for i := range keys {
		each = append(each, slices.Repeat(keys[i:i+1], i%4)...)
	}
	out := [][]api.Value{keys, reversed(keys), mixed(keys), slices.Concat(keys, keys), slices.Concat(reversed(keys), keys, mixed(keys)), mixed(slices.Repeat(keys, 5)), each, mixed(each)}
	if len(keys) > 0 {
		first, last := keys[:1], keys[len(keys)-1:]
		out = append(out, slices.Concat(last, keys), slices.Concat(keys, first), slices.Concat(slices.Repeat(last, 2*api.MaxRows), keys, slices.Repeat(first, 3)))
	}
	return out
}

// sources has files of many sorts.
func sources() []source {
	var out []source
	for _, keys := range risingNumbers() {
		for _, l := range handedIn(keys) {
			out = append(out, source{api.Whole, l, keys})
		}
	}
	for _, keys := range risingTexts() {
		for _, l := range handedIn(keys) {
			out = append(out, source{api.Text, l, keys})
		}
	}
	return out
}

// smallSources has few files of few bytes, of all sorts.
func smallSources() []source {
	var out []source
	for _, keys := range [][]api.Value{nil, listOf[int64](7), listOf[int64](3, 5), listOf[int64](-1, 0, 1), listOf[int64](least, greatest), listOf[int64](-300, 5, 70000, 1<<40), numbersFrom(1000, 1, 9), numbersFrom(0, 3, 20)} {
		out = append(out, source{api.Whole, keys, keys})
	}
	for _, keys := range [][]api.Value{nil, listOf(""), listOf("a"), listOf("", "a"), listOf("a", "ab", "b"), listOf("é", "\xff"), listOf("KF1", "x"), oneWithinTheOther("a", 6), textsFrom(9, 2)} {
		out = append(out, source{api.Text, keys, keys})
	}
	return out
}

// own is a type of whole numbers, and ownText one of texts, none of whose values is a value.
type (
	own     int64
	ownText string
)

// noValues has what is no value of any kind.
func noValues() []api.Value {
	n := int64(3)
	return []api.Value{3, int8(3), int32(3), uint(3), uint64(3), byte(3), 3.0, float32(3), complex(3, 0), 'a', own(3), ownText("3"), []byte("a"), []rune("a"), []int64{3}, []string{"a"}, [1]int64{3}, map[string]int{}, struct{}{}, struct{ N int64 }{3}, &n, new(string), func() {}, make(chan int), api.ErrArg, api.Whole, api.Cell{Kind: api.Whole, N: 3}, []api.Value{int64(3)}, (*int64)(nil), []int64(nil)}
}

// wrongValues has what is no key of a set of that kind.
func wrongValues(k api.Kind) []api.Value {
	out := append(noValues(), nil, true, false)
	if k == api.Whole {
		return append(out, "", "3", "a", strings.Repeat("a", api.MaxText+1))
	}
	return append(out, int64(0), int64(3), int64(least), int64('a'))
}

func written(t *testing.T, k api.Kind, l []api.Value) []byte {
	t.Helper()
	b, e := Write(k, l)
	if e != api.OK {
		t.Fatalf("Write(%d, %q) = %d", k, l, e)
	}
	return b
}

func opened(t *testing.T, b []byte) *Set {
	t.Helper()
	s, e := Open(b)
	if e != api.OK || s == nil {
		t.Fatalf("Open(%q) = %v, %d", b, s, e)
	}
	return s
}

func setFrom(t *testing.T, c source) *Set {
	t.Helper()
	return opened(t, written(t, c.kind, c.l))
}

// wantSet holds what the set tells of itself against its kind and keys.
func wantSet(t *testing.T, s *Set, k api.Kind, keys []api.Value) {
	t.Helper()
	if s.Kind() != k || s.Len() != len(keys) {
		t.Errorf("kind %d, %d keys; want %d, %d", s.Kind(), s.Len(), k, len(keys))
	}
	if got := s.Keys(); !slices.Equal(got, keys) {
		t.Errorf("Keys = %q; want %q", got, keys)
	}
}
