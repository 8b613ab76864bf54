package value

import (
	"errors"
	"math"
	"strings"
	"testing"

	"catchment/api"
)

type (
	ownText   string
	ownNumber int64
	ownTruth  bool
)

// risingValues has values of every kind and their edges, each ahead of the next one.
func risingValues() []api.Value {
	return []api.Value{
		nil,
		int64(math.MinInt64), int64(math.MinInt64 + 1), int64(-5), int64(-1), int64(0), int64(1), int64(7), int64(1 << 40), int64(math.MaxInt64 - 1), int64(math.MaxInt64),
		false, true,
		"", "\x00", "\x00a", "A", "B", "a", "a\x00", "aa", "ab", "b",
		strings.Repeat("b", api.MaxText-1), strings.Repeat("b", api.MaxText),
		"z", "\u007f", "\x80", "é", "\ue000", "\uffff", "\U00010000", "\xff", "\xff\xff",
	}
}

// cellsOfNumbers has, in the same order, the cells of risingValues up to the first text.
func cellsOfNumbers() []api.Cell {
	return []api.Cell{
		{},
		{Kind: api.Whole, N: math.MinInt64}, {Kind: api.Whole, N: math.MinInt64 + 1}, {Kind: api.Whole, N: -5}, {Kind: api.Whole, N: -1}, {Kind: api.Whole}, {Kind: api.Whole, N: 1}, {Kind: api.Whole, N: 7}, {Kind: api.Whole, N: 1 << 40}, {Kind: api.Whole, N: math.MaxInt64 - 1}, {Kind: api.Whole, N: math.MaxInt64},
		{Kind: api.Truth}, {Kind: api.Truth, N: 1},
	}
}

func noValues() []api.Value {
	n := int64(7)
	s := "a"
	var none *int64
	return []api.Value{
		7, int8(7), int16(7), int32(7), uint(7), uint8(7), uint16(7), uint32(7), uint64(7), uintptr(7), 'a', byte('a'),
		float32(7), 7.0, complex(7, 0), ownText("a"), ownNumber(7), ownTruth(true),
		&n, &s, none, []byte("a"), []rune{97}, []api.Value{}, []api.Value(nil), [1]int64{7}, map[string]int{}, struct{}{},
		errors.New("a"), api.OK, api.Whole, api.Yes, api.Cell{}, func() {}, make(chan int),
	}
}

func TestP11OfGivesTheValueOfACell(t *testing.T) {
	for _, c := range []struct {
		cell api.Cell
		want api.Value
	}{
		{api.Cell{}, nil},
		{api.Cell{Kind: api.Whole, N: 7}, int64(7)},
		{api.Cell{Kind: api.Whole}, int64(0)},
		{api.Cell{Kind: api.Whole, N: -1}, int64(-1)},
		{api.Cell{Kind: api.Whole, N: math.MinInt64}, int64(math.MinInt64)},
		{api.Cell{Kind: api.Whole, N: math.MaxInt64}, int64(math.MaxInt64)},
		{api.Cell{Kind: api.Truth}, false},
		{api.Cell{Kind: api.Truth, N: 1}, true},
		{api.Cell{Kind: api.Text}, ""},
		{api.Cell{Kind: api.Text, S: "a"}, "a"},
		{api.Cell{Kind: api.Text, S: "\xff\x00é"}, "\xff\x00é"},
		{api.Cell{Kind: api.Text, S: strings.Repeat("x", api.MaxText)}, strings.Repeat("x", api.MaxText)},
		{api.Cell{Kind: api.Text, S: strings.Repeat("é", api.MaxText/2)}, strings.Repeat("é", api.MaxText/2)},
	} {
		if got, e := Of(c.cell); got != c.want || e != api.OK {
			t.Errorf("Of(%v) = %v, %d; want %v, 0", c.cell, got, e, c.want)
		}
	}
}

func TestP11OfRefuses(t *testing.T) {
	long := strings.Repeat("x", api.MaxText+1)
	for _, c := range []struct {
		cell api.Cell
		want api.Errno
	}{
		{api.Cell{N: 1}, api.ErrArg},
		{api.Cell{N: -1}, api.ErrArg},
		{api.Cell{N: math.MinInt64}, api.ErrArg},
		{api.Cell{S: "a"}, api.ErrArg},
		{api.Cell{S: "\x00"}, api.ErrArg},
		{api.Cell{S: long}, api.ErrArg},
		{api.Cell{Kind: api.Whole, S: "a"}, api.ErrArg},
		{api.Cell{Kind: api.Whole, N: 7, S: "a"}, api.ErrArg},
		{api.Cell{Kind: api.Whole, S: long}, api.ErrArg},
		{api.Cell{Kind: api.Truth, N: 2}, api.ErrArg},
		{api.Cell{Kind: api.Truth, N: 3}, api.ErrArg},
		{api.Cell{Kind: api.Truth, N: -1}, api.ErrArg},
		{api.Cell{Kind: api.Truth, N: math.MinInt64}, api.ErrArg},
		{api.Cell{Kind: api.Truth, N: math.MaxInt64}, api.ErrArg},
		{api.Cell{Kind: api.Truth, N: 1 << 32}, api.ErrArg},
		{api.Cell{Kind: api.Truth, S: "a"}, api.ErrArg},
		{api.Cell{Kind: api.Truth, N: 1, S: "a"}, api.ErrArg},
		{api.Cell{Kind: api.Truth, N: 1, S: long}, api.ErrArg},
		{api.Cell{Kind: api.Text, N: 1}, api.ErrArg},
		{api.Cell{Kind: api.Text, N: -1, S: "a"}, api.ErrArg},
		{api.Cell{Kind: api.Text, N: 1, S: long}, api.ErrArg},
		{api.Cell{Kind: api.Text, S: long}, api.ErrLong},
		{api.Cell{Kind: api.Text, S: strings.Repeat("é", api.MaxText/2) + "a"}, api.ErrLong},
		{api.Cell{Kind: api.Text, S: strings.Repeat("x", 1<<16)}, api.ErrLong},
	} {
		if got, e := Of(c.cell); got != nil || e != c.want {
			t.Errorf("Of(%v) = %v, %d; want nil, %d", c.cell, got, e, c.want)
		}
	}
}

func TestP11OfRefusesKindsThatThereArent(t *testing.T) {
	long := strings.Repeat("x", api.MaxText+1)
	for k := 4; k <= 255; k++ {
		for _, c := range []api.Cell{{}, {N: 1}, {S: "a"}, {N: 2, S: long}} {
			c.Kind = api.Kind(k)
			if got, e := Of(c); got != nil || e != api.ErrKind {
				t.Errorf("Of(%v) = %v, %d; want nil, %d", c, got, e, api.ErrKind)
			}
		}
	}
}

func TestP12CellOfAValue(t *testing.T) {
	values := risingValues()
	for i, want := range cellsOfNumbers() {
		if got, ok := Cell(values[i]); got != want || !ok {
			t.Errorf("Cell(%v) = %v, %v; want %v, true", values[i], got, ok, want)
		}
	}
	texts := []string{"", "a", "\x00", "\xff", "é", strings.Repeat("x", api.MaxText), strings.Repeat("x", api.MaxText+1)}
	for _, s := range texts {
		want := api.Cell{Kind: api.Text, S: s}
		if got, ok := Cell(s); got != want || !ok {
			t.Errorf("Cell(%q) = %v, %v; want %v, true", s, got, ok, want)
		}
	}
}

func TestP12CellOfWhatIsNoValue(t *testing.T) {
	for _, v := range noValues() {
		if got, ok := Cell(v); got != (api.Cell{}) || ok {
			t.Errorf("Cell(%T %v) = %v, %v; want zero, false", v, v, got, ok)
		}
	}
}

func TestP12KindOf(t *testing.T) {
	for _, c := range []struct {
		v    api.Value
		want api.Kind
	}{
		{nil, api.Null},
		{int64(0), api.Whole}, {int64(7), api.Whole}, {int64(math.MinInt64), api.Whole}, {int64(math.MaxInt64), api.Whole},
		{false, api.Truth}, {true, api.Truth},
		{"", api.Text}, {"a", api.Text}, {strings.Repeat("x", api.MaxText+1), api.Text},
	} {
		if got := KindOf(c.v); got != c.want {
			t.Errorf("KindOf(%v) = %d; want %d", c.v, got, c.want)
		}
	}
}

func TestP13Compare(t *testing.T) {
	for _, c := range []struct {
		a, b api.Value
		want int
	}{
		{nil, nil, 0},
		{nil, int64(-5), -1}, {nil, int64(math.MinInt64), -1}, {nil, false, -1}, {nil, "", -1},
		{int64(math.MaxInt64), false, -1}, {int64(5), "", -1}, {int64(0), nil, 1},
		{true, "a", -1}, {true, "", -1}, {false, true, -1}, {true, false, 1}, {true, true, 0}, {false, int64(9), 1},
		{int64(math.MinInt64), int64(math.MaxInt64), -1}, {int64(math.MaxInt64), int64(math.MinInt64), 1},
		{int64(7), int64(7), 0}, {int64(-7), int64(7), -1}, {int64(10), int64(9), 1}, {int64(1 << 32), int64(1), 1},
		{"a", "a", 0}, {"a", "ab", -1}, {"ab", "b", -1}, {"10", "9", -1}, {"B", "a", -1}, {"", "a", -1}, {"a", "", 1},
		{"\x7f", "\x80", -1}, {"\xff", "a", 1}, {"\uffff", "\U00010000", -1},
		{"0", int64(0), 1}, {"", nil, 1}, {false, int64(0), 1}, {true, int64(1), 1},
	} {
		if got := Compare(c.a, c.b); got != c.want {
			t.Errorf("Compare(%v, %v) = %d; want %d", c.a, c.b, got, c.want)
		}
	}
}

func TestP13Number(t *testing.T) {
	for _, n := range []int64{0, 1, -1, 7, 1 << 40, math.MinInt64, math.MaxInt64} {
		if got := Number(n); got != n {
			t.Errorf("Number(%d) = %d", n, got)
		}
	}
}

func numberPanics(v api.Value) (panics bool) {
	defer func() { panics = recover() != nil }()
	Number(v)
	return false
}

func TestP13NumberPanicsOfWhatIsNone(t *testing.T) {
	for _, v := range append(noValues(), nil, false, true, "", "a", "7") {
		if !numberPanics(v) {
			t.Errorf("Number(%T %v) doesn't panic", v, v)
		}
	}
}

func TestP14ThreeValues(t *testing.T) {
	const n, u, y = api.No, api.Unknown, api.Yes
	for _, c := range []struct{ a, b, and, or api.Three }{
		{n, n, n, n}, {n, u, n, u}, {n, y, n, y},
		{u, n, n, u}, {u, u, u, u}, {u, y, u, y},
		{y, n, n, y}, {y, u, u, y}, {y, y, y, y},
	} {
		if got := And(c.a, c.b); got != c.and {
			t.Errorf("And(%d, %d) = %d; want %d", c.a, c.b, got, c.and)
		}
		if got := Or(c.a, c.b); got != c.or {
			t.Errorf("Or(%d, %d) = %d; want %d", c.a, c.b, got, c.or)
		}
	}
	if Not(n) != y || Not(u) != u || Not(y) != n {
		t.Errorf("Not: %d %d %d", Not(n), Not(u), Not(y))
	}
	if Is(true) != y || Is(false) != n {
		t.Errorf("Is: %d %d", Is(true), Is(false))
	}
}

func TestP14BeyondYesCountsAsUnknown(t *testing.T) {
	for i := 3; i <= 255; i++ {
		odd := api.Three(i)
		if got := Not(odd); got != api.Unknown {
			t.Errorf("Not(%d) = %d; want Unknown", i, got)
		}
		for k := 0; k <= 255; k++ {
			other := api.Three(k)
			if And(odd, other) != And(api.Unknown, other) || And(other, odd) != And(other, api.Unknown) {
				t.Errorf("And of %d and %d: %d, %d", i, k, And(odd, other), And(other, odd))
			}
			if Or(odd, other) != Or(api.Unknown, other) || Or(other, odd) != Or(other, api.Unknown) {
				t.Errorf("Or of %d and %d: %d, %d", i, k, Or(odd, other), Or(other, odd))
			}
		}
		if And(odd, odd) != api.Unknown || Or(odd, odd) != api.Unknown {
			t.Errorf("%d with itself: %d, %d", i, And(odd, odd), Or(odd, odd))
		}
	}
}

func TestP15OfAndCellAreContraries(t *testing.T) {
	for _, v := range risingValues() {
		c, ok := Cell(v)
		if !ok || c.Kind != KindOf(v) {
			t.Errorf("Cell(%v) = %v, %v", v, c, ok)
		}
		if got, e := Of(c); got != v || e != api.OK {
			t.Errorf("Of(Cell(%v)) = %v, %d", v, got, e)
		}
	}
	numbers := []int64{math.MinInt64, -1, 0, 1, 2, 7, math.MaxInt64}
	texts := []string{"", "a", "\xff", strings.Repeat("x", api.MaxText), strings.Repeat("x", api.MaxText+1)}
	for k := 0; k <= 5; k++ {
		for _, n := range numbers {
			for _, s := range texts {
				cellThereAndBack(t, api.Cell{Kind: api.Kind(k), N: n, S: s})
			}
		}
	}
}

func cellThereAndBack(t *testing.T, c api.Cell) {
	t.Helper()
	v, e := Of(c)
	if e != api.OK {
		return
	}
	if got, ok := Cell(v); got != c || !ok {
		t.Errorf("Cell(Of(%v)) = %v, %v", c, got, ok)
	}
}

func TestP15CompareIsATotalOrder(t *testing.T) {
	all := risingValues()
	for i, a := range all {
		for k, b := range all {
			want := 0
			if i < k {
				want = -1
			} else if i > k {
				want = 1
			}
			if got := Compare(a, b); got != want {
				t.Errorf("Compare(%v, %v) = %d; want %d", a, b, got, want)
			}
		}
	}
	for _, a := range all {
		for _, b := range all {
			if (Compare(a, b) == 0) != (a == b) || Compare(a, b) != -Compare(b, a) {
				t.Errorf("%v and %v: %d, %d", a, b, Compare(a, b), Compare(b, a))
			}
			for _, c := range all {
				if Compare(a, b) <= 0 && Compare(b, c) <= 0 && Compare(a, c) > 0 {
					t.Errorf("%v, %v, %v don't rise", a, b, c)
				}
			}
		}
	}
}

func TestP15NotOfAndIsOrOfTheNots(t *testing.T) {
	for i := 0; i <= 255; i++ {
		for k := 0; k <= 255; k++ {
			a, b := api.Three(i), api.Three(k)
			if Not(And(a, b)) != Or(Not(a), Not(b)) || Not(Or(a, b)) != And(Not(a), Not(b)) {
				t.Errorf("%d and %d", i, k)
			}
		}
	}
}

func TestExamplesOfTheChapter(t *testing.T) {
	if v, e := Of(api.Cell{Kind: api.Whole, N: 7}); v != int64(7) || e != api.OK {
		t.Error("Of(Whole, 7)", v, e)
	}
	if v, e := Of(api.Cell{Kind: api.Truth, N: 2}); v != nil || e != api.ErrArg {
		t.Error("Of(Truth, 2)", v, e)
	}
	if v, e := Of(api.Cell{Kind: api.Null, N: 1}); v != nil || e != api.ErrArg {
		t.Error("Of(Null, 1)", v, e)
	}
	if Compare(nil, int64(-5)) != -1 || Compare(true, "a") != -1 {
		t.Error("Compare", Compare(nil, int64(-5)), Compare(true, "a"))
	}
	if c, ok := Cell(7); ok || c != (api.Cell{}) {
		t.Error("Cell(7 as an int)", c, ok)
	}
	if got := And(api.Yes, api.Unknown); got != api.Unknown {
		t.Error("And(Yes, Unknown)", got)
	}
}
