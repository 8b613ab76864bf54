package keyfile

import (
	"bytes"
	"slices"
	"strings"
	"testing"

	"catchment/api"
)

// TestExamples has the chapter's examples, the sum's bytes too.
func TestExamples(t *testing.T) {
	b := written(t, api.Whole, listOf[int64](5, 3, 5))
	if want := []byte{'K', 'F', '1', 1, 2, 0, 0, 6, 10, 165, 34, 59, 92}; !bytes.Equal(b, want) {
		t.Fatalf("Write(Whole; 5, 3, 5) = %d; want %d", b, want)
	}
	s := opened(t, b)
	wantSet(t, s, api.Whole, listOf[int64](3, 5))
	if !s.Has(int64(3)) || s.Has("3") {
		t.Errorf("Has(3) = %t, Has(\"3\") = %t", s.Has(int64(3)), s.Has("3"))
	}
}

// TestP111KnownBytes has bytes that were put together by hand, each from the chapters' words.
func TestP111KnownBytes(t *testing.T) {
	longest := strings.Repeat("a", api.MaxText)
	for _, c := range []struct {
		k    api.Kind
		l    []api.Value
		want string
	}{
		{api.Whole, nil, "KF1\x01\x00" + "\x00\x00"},
		{api.Whole, listOf[int64](7), "KF1\x01\x01" + "\x00\x00\x0e"},
		{api.Whole, listOf[int64](1, -1, 0), "KF1\x01\x03" + "\x00\x00\x01\x00\x02"},
		{api.Whole, listOf[int64](greatest, least), "KF1\x01\x02" + "\x00\x01" + strings.Repeat("\xff", 9) + "\x01" + "\x01"},
		{api.Whole, listOf[int64](1003, 1001, 1002, 1000), "KF1\x01\x04" + "\x00\x04\xd0\x0f\x02\xe4"},
		{api.Whole, numbersFrom(0, 1, 256), "KF1\x01\x80\x02" + "\x00\x01\x00" + strings.Repeat("\x02", 255)},
		{api.Text, nil, "KF1\x03\x00" + "\x00\x00\x01\x00"},
		{api.Text, listOf(""), "KF1\x03\x01" + "\x00\x00\x02\x00\x00"},
		{api.Text, listOf("a", ""), "KF1\x03\x02" + "\x00\x00\x03\x00\x00\x02" + "a"},
		{api.Text, listOf("ab", "a", "ab", "ab"), "KF1\x03\x02" + "\x00\x00\x03\x00\x02\x04" + "aab"},
		{api.Text, listOf("\xff", "é"), "KF1\x03\x02" + "\x00\x00\x03\x00\x04\x02" + "é\xff"},
		{api.Text, listOf(longest, longest), "KF1\x03\x01" + "\x00\x00\x03\x00\x80\x01" + longest},
	} {
		if got, want := written(t, c.k, c.l), seal([]byte(c.want)); !bytes.Equal(got, want) {
			t.Errorf("Write(%d, %q) =\n%q; want\n%q", c.k, c.l, got, want)
		}
	}
}

// TestP111P113WriteOfManySorts: neither the order of what is handed in nor how often it is changes a byte.
func TestP111P113WriteOfManySorts(t *testing.T) {
	for _, c := range sources() {
		if got, want := written(t, c.kind, c.l), partsOf(c.kind, c.keys).bytes(); !bytes.Equal(got, want) {
			t.Fatalf("Write(%d, %q) = %q; want %q", c.kind, c.l, got, want)
		}
	}
}

func TestP111AnyOrder(t *testing.T) {
	want := map[api.Kind][]byte{
		api.Whole: partsOf(api.Whole, listOf[int64](-9, 0, 4, 1000)).bytes(),
		api.Text:  partsOf(api.Text, listOf("", "a", "ab", "b")).bytes(),
	}
	everyOrder(listOf[int64](0, -9, 1000, 4), func(l []api.Value) {
		if got := written(t, api.Whole, l); !bytes.Equal(got, want[api.Whole]) {
			t.Errorf("Write(Whole, %d) = %d", l, got)
		}
	})
	everyOrder(listOf("b", "", "ab", "a"), func(l []api.Value) {
		if got := written(t, api.Text, l); !bytes.Equal(got, want[api.Text]) {
			t.Errorf("Write(Text, %q) = %d", l, got)
		}
	})
}

// everyOrder hands on the list in each of its orders.
func everyOrder(l []api.Value, try func(l []api.Value)) {
	var from func(at int)
	from = func(at int) {
		if at == len(l) {
			try(slices.Clone(l))
		}
		for i := at; i < len(l); i++ {
			l[at], l[i] = l[i], l[at]
			from(at + 1)
			l[at], l[i] = l[i], l[at]
		}
	}
	from(0)
}

func TestRule4ListsOfNothing(t *testing.T) {
	for _, k := range []api.Kind{api.Whole, api.Text} {
		a, b := written(t, k, nil), written(t, k, []api.Value{})
		if !bytes.Equal(a, b) {
			t.Errorf("of nil %d, of none %d", a, b)
		}
		s := opened(t, a)
		wantSet(t, s, k, nil)
		wantHasJust(t, s, nil, append(listOf[int64](0, 1, -1), "", "a"))
	}
}

func wantNoWrite(t *testing.T, k api.Kind, l []api.Value, want api.Errno) {
	t.Helper()
	if b, e := Write(k, l); e != want || len(b) != 0 {
		t.Errorf("Write(%d, %d values) = %d, %d; want %d", k, len(l), b, e, want)
	}
}

func TestP111OtherKinds(t *testing.T) {
	long := strings.Repeat("a", api.MaxText+1)
	lists := [][]api.Value{nil, {}, {nil}, {true}, {false, true}, {int64(1)}, {"a"}, {long}, {int64(1), "a"}, {3}, numbersFrom(0, 1, api.MaxRows+1), textsFrom(api.MaxRows+1, 3)}
	for k := range 256 {
		if k := api.Kind(k); k != api.Whole && k != api.Text {
			for _, l := range lists {
				wantNoWrite(t, k, l, api.ErrKind)
			}
		}
	}
}

// keysOf has a few keys of that kind.
func keysOf(k api.Kind) []api.Value {
	if k == api.Whole {
		return listOf[int64](4, -4, 4, 9, 0)
	}
	return listOf("b", "", "b", "ab", "é")
}

func TestP111ValuesOfAnotherKind(t *testing.T) {
	for _, k := range []api.Kind{api.Whole, api.Text} {
		good := keysOf(k)
		for _, v := range wrongValues(k) {
			wantNoWrite(t, k, []api.Value{v}, api.ErrKind)
			wantNoWrite(t, k, slices.Repeat([]api.Value{v}, api.MaxRows+1), api.ErrKind)
			for at := range len(good) + 1 {
				wantNoWrite(t, k, slices.Insert(slices.Clone(good), at, v), api.ErrKind)
				wantNoWrite(t, k, slices.Insert(slices.Clone(good), at, v, v), api.ErrKind)
			}
			wantNoWrite(t, k, append(slices.Repeat(good, 100), v), api.ErrKind)
		}
		other := api.Whole + api.Text - k
		wantNoWrite(t, k, keysOf(other), api.ErrKind)
		wantNoWrite(t, k, append(slices.Clone(good), keysOf(other)...), api.ErrKind)
	}
}

func TestP111TooManyKeys(t *testing.T) {
	for _, n := range []int{api.MaxRows + 1, api.MaxRows + 2, 2 * api.MaxRows, 100000} {
		numbers := numbersFrom(-7, 3, n)
		wantNoWrite(t, api.Whole, numbers, api.ErrLong)
		wantNoWrite(t, api.Whole, reversed(numbers), api.ErrLong)
		wantNoWrite(t, api.Whole, mixed(slices.Concat(numbers, numbers)), api.ErrLong)
		wantNoWrite(t, api.Whole, slices.Concat(slices.Repeat(numbers[:1], n), numbers), api.ErrLong)
	}
	for _, length := range []int{2, 3, api.MaxText} {
		texts := textsFrom(api.MaxRows+1, length)
		wantNoWrite(t, api.Text, texts, api.ErrLong)
		wantNoWrite(t, api.Text, reversed(texts), api.ErrLong)
		wantNoWrite(t, api.Text, mixed(slices.Repeat(texts, 3)), api.ErrLong)
	}
}

// TestP111ManyValuesOfFewKeys: just unlike ones are counted.
func TestP111ManyValuesOfFewKeys(t *testing.T) {
	for _, n := range []int{1, 2, api.MaxRows - 1, api.MaxRows} {
		for _, times := range []int{2, api.MaxRows + 1} {
			numbers, texts := numbersFrom(-100, 5, n), textsFrom(n, 4)
			if b := written(t, api.Whole, mixed(slices.Repeat(numbers, times))); !bytes.Equal(b, partsOf(api.Whole, numbers).bytes()) {
				t.Errorf("%d numbers, %d times: %d", n, times, b)
			}
			if b := written(t, api.Text, mixed(slices.Repeat(texts, times))); !bytes.Equal(b, partsOf(api.Text, texts).bytes()) {
				t.Errorf("%d texts, %d times: %d", n, times, b)
			}
		}
	}
	if b := written(t, api.Text, slices.Repeat(listOf(""), 1000000)); !bytes.Equal(b, partsOf(api.Text, listOf("")).bytes()) {
		t.Errorf("the empty text, a million times: %d", b)
	}
}

func TestP111TextsThatAreTooLong(t *testing.T) {
	good := keysOf(api.Text)
	for _, long := range []string{
		strings.Repeat("a", api.MaxText+1), strings.Repeat("z", api.MaxText+1), strings.Repeat("\x00", api.MaxText+1), strings.Repeat("\xff", api.MaxText+1),
		strings.Repeat("é", api.MaxText/2) + "a", strings.Repeat("é", api.MaxText/2+1), strings.Repeat("\U0010ffff", api.MaxText/4) + "a", strings.Repeat("a", 1000000),
	} {
		wantNoWrite(t, api.Text, listOf(long), api.ErrLong)
		for at := range len(good) + 1 {
			wantNoWrite(t, api.Text, slices.Insert(slices.Clone(good), at, api.Value(long)), api.ErrLong)
			wantNoWrite(t, api.Text, slices.Insert(slices.Clone(good), at, api.Value(long), api.Value(long)), api.ErrLong)
		}
		wantNoWrite(t, api.Text, append(textsFrom(api.MaxRows-1, 3), long), api.ErrLong)
		wantNoWrite(t, api.Text, append(textsFrom(api.MaxRows, 3), long), api.ErrLong)
		wantNoWrite(t, api.Text, append(listOf(long), textsFrom(api.MaxRows+1, 3)...), api.ErrLong)
	}
}

// TestP111OrderOfErrors: a value of another kind is told ahead of all that is too long, wherever they stand.
func TestP111OrderOfErrors(t *testing.T) {
	long := api.Value(strings.Repeat("a", api.MaxText+1))
	for _, v := range wrongValues(api.Text) {
		wantNoWrite(t, api.Text, []api.Value{v, long}, api.ErrKind)
		wantNoWrite(t, api.Text, []api.Value{long, v}, api.ErrKind)
		wantNoWrite(t, api.Text, append(textsFrom(api.MaxRows+1, 3), v), api.ErrKind)
		wantNoWrite(t, api.Text, append([]api.Value{v}, textsFrom(api.MaxRows+1, 3)...), api.ErrKind)
		wantNoWrite(t, api.Text, slices.Concat([]api.Value{long}, textsFrom(api.MaxRows+1, 3), []api.Value{v}), api.ErrKind)
	}
	for _, v := range wrongValues(api.Whole) {
		wantNoWrite(t, api.Whole, append(numbersFrom(0, 1, api.MaxRows+1), v), api.ErrKind)
		wantNoWrite(t, api.Whole, append([]api.Value{v}, numbersFrom(0, 1, api.MaxRows+1)...), api.ErrKind)
	}
}

func TestP112P113OpenOfWrite(t *testing.T) {
	for _, c := range sources() {
		wantSet(t, setFrom(t, c), c.kind, c.keys)
	}
}

// nearby has values that lie around a key, and such as look like it.
func nearby(key api.Value) []api.Value {
	if n, ok := key.(int64); ok {
		return append(listOf(n-1, n, n+1, -n, n^1, n<<32, n+1<<32, n^least), int(n), uint64(n), own(n), float64(n))
	}
	s := key.(string)
	near := listOf(s, s+"\x00", s+"a", s+"\xff", "a"+s, s+s, strings.ToUpper(s), s+strings.Repeat("x", 2*api.MaxText))
	if len(s) > 0 {
		last := len(s) - 1
		near = append(near, listOf(s[:last], s[1:], s[:last]+string([]byte{s[last] + 1}), s[:last]+string([]byte{s[last] - 1}))...)
	}
	return append(near, []byte(s), ownText(s))
}

// probes has values of every kind, and of none; some of them may be keys.
func probes() []api.Value {
	out := append(noValues(), nil, true, false)
	out = append(out, listOf[int64](least, least+1, -1, 0, 1, 3, 4, 5, 97, greatest-1, greatest)...)
	return append(out, listOf("", "\x00", "3", "5", "0", "a", "true", "null", "nil", "é", "\xff", "\xff\xff", "\U0010ffff", strings.Repeat("a", api.MaxText), strings.Repeat("a", api.MaxText+1))...)
}

// wantHasJust: of what is tried, the set has just what is among the keys.
func wantHasJust(t *testing.T, s *Set, keys, tried []api.Value) {
	t.Helper()
	for _, v := range tried {
		if got, want := s.Has(v), among(keys, v); got != want {
			t.Fatalf("Has(%#v) = %t; the keys are %q", v, got, keys)
		}
	}
}

// among looks at each of the keys; what isn't comparable is none of them.
func among(keys []api.Value, v api.Value) bool {
	for _, key := range keys {
		switch key := key.(type) {
		case int64:
			if n, ok := v.(int64); ok && n == key {
				return true
			}
		case string:
			if s, ok := v.(string); ok && s == key {
				return true
			}
		}
	}
	return false
}

func TestP112P113HasOfEachKeyAndOfNothingElse(t *testing.T) {
	for _, keys := range risingNumbers() {
		wantHasOf(t, source{api.Whole, mixed(keys), keys})
	}
	for _, keys := range risingTexts() {
		wantHasOf(t, source{api.Text, mixed(keys), keys})
	}
}

func wantHasOf(t *testing.T, c source) {
	t.Helper()
	s := setFrom(t, c)
	wantHasJust(t, s, c.keys, probes())
	for _, key := range c.keys {
		if !s.Has(key) {
			t.Fatalf("Has(%#v) is false; the keys are %q", key, c.keys)
		}
		wantHasJust(t, s, c.keys, nearby(key))
	}
}

// TestP113HasOfNumbersAndTextsThatLookAlike: a set of the one kind has nothing of the other one.
func TestP113HasOfNumbersAndTextsThatLookAlike(t *testing.T) {
	numbers := setFrom(t, source{kind: api.Whole, l: listOf[int64](0, 1, 3, 97)})
	texts := setFrom(t, source{kind: api.Text, l: listOf("0", "1", "3", "a", "", "true", "null")})
	for _, v := range []api.Value{"0", "1", "3", "a", "", "\x00", "\x01", "\x03", "97", nil, true, false, 3, 97} {
		if numbers.Has(v) {
			t.Errorf("a set of whole numbers has %#v", v)
		}
	}
	for _, v := range []api.Value{int64(0), int64(1), int64(3), int64(97), nil, true, false, 3, 97, byte('a'), 'a'} {
		if texts.Has(v) {
			t.Errorf("a set of texts has %#v", v)
		}
	}
}
