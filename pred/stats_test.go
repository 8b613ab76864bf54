package pred

import (
	"math"
	"slices"
	"strings"
	"testing"

	"catchment/api"
)

const (
	lastSign = "\U0010ffff" // the one that has no next
	no       = 1
	unknown  = 2
	yes      = 4
)

// flags is the three flags of a sum of no, unknown and yes.
func flags(sum int) [3]bool {
	return [3]bool{sum&no > 0, sum&unknown > 0, sum&yes > 0}
}

// some is statistics with bounds; a high that is nil: there is no Max.
func some(rows, nulls int, low, high any) api.Stat {
	st := api.Stat{Rows: rows, Nulls: nulls, Some: true, Min: cellOf(low)}
	if high != nil {
		st.High, st.Max = true, cellOf(high)
	}
	return st
}

func wantStats(t *testing.T, l []api.Value, want api.Stat) {
	t.Helper()
	if got := Stats(l); got != want {
		t.Errorf("Stats(%q) = %+v; want %+v", l, got, want)
	}
}

func TestP93StatsOfNothingAndOfNulls(t *testing.T) {
	wantStats(t, nil, api.Stat{})
	wantStats(t, []api.Value{}, api.Stat{})
	wantStats(t, []api.Value{nil}, api.Stat{Rows: 1, Nulls: 1})
	wantStats(t, make([]api.Value, api.MaxRows), api.Stat{Rows: api.MaxRows, Nulls: api.MaxRows})
}

func TestP93StatsOfWholeNumbers(t *testing.T) {
	const least, greatest = int64(math.MinInt64), int64(math.MaxInt64)
	for _, n := range []int64{least, -1, 0, 1, 7, greatest} {
		wantStats(t, []api.Value{n}, some(1, 0, n, n))
		wantStats(t, []api.Value{n, n, n}, some(3, 0, n, n))
		wantStats(t, []api.Value{nil, n, nil}, some(3, 2, n, n))
	}
	wantStats(t, []api.Value{int64(3), int64(5), nil}, some(3, 1, 3, 5))
	wantStats(t, []api.Value{int64(5), int64(-3), int64(4)}, some(3, 0, -3, 5))
	wantStats(t, []api.Value{int64(-5), int64(-3)}, some(2, 0, -5, -3))
	wantStats(t, []api.Value{greatest, int64(0), least}, some(3, 0, least, greatest))
}

func TestP93StatsOfTruths(t *testing.T) {
	wantStats(t, []api.Value{false}, some(1, 0, false, false))
	wantStats(t, []api.Value{true, nil}, some(2, 1, true, true))
	wantStats(t, []api.Value{true, true}, some(2, 0, true, true))
	wantStats(t, []api.Value{true, false, true}, some(3, 0, false, true))
	wantStats(t, []api.Value{nil, false, true, nil}, some(4, 2, false, true))
}

func TestP93StatsOfTexts(t *testing.T) {
	for _, c := range []struct {
		l         []api.Value
		low, high any
	}{
		{[]api.Value{""}, "", ""},
		{[]api.Value{"a"}, "a", "a"},
		{[]api.Value{"abc"}, "abc", "abc"},
		{[]api.Value{"abcd"}, "abcd", "abcd"},
		{[]api.Value{"abcde"}, "abcd", "abce"},
		{[]api.Value{"", "abcd"}, "", "abcd"},
		{[]api.Value{"b", "abcdef"}, "abcd", "b"},
		{[]api.Value{"abcdef", "abcde"}, "abcd", "abce"},
		{[]api.Value{"abcd", "abcde"}, "abcd", "abce"},
		{[]api.Value{"B", "a"}, "B", "a"},
		{[]api.Value{"a", "é"}, "a", "é"},
		{[]api.Value{"日本日本"}, "日本日本", "日本日本"},
		{[]api.Value{"日本日本x"}, "日本日本", "日本日\u672d"},
		{[]api.Value{"éééé", "ééééé"}, "éééé", "éééê"},
		{[]api.Value{"\U0001f600\U0001f600\U0001f600\U0001f600\U0001f600"}, "\U0001f600\U0001f600\U0001f600\U0001f600", "\U0001f600\U0001f600\U0001f600\U0001f601"},
		{[]api.Value{"abc\ud7ffx"}, "abc\ud7ff", "abc\ue000"},
		{[]api.Value{"\ufffd"}, "\ufffd", "\ufffd"},
		{[]api.Value{"aaa\ufffda"}, "aaa\ufffd", "aaa\ufffe"},
		{[]api.Value{"abc" + lastSign + "x"}, "abc" + lastSign, "abd"},
		{[]api.Value{"a" + strings.Repeat(lastSign, 4)}, "a" + strings.Repeat(lastSign, 3), "b"},
		{[]api.Value{strings.Repeat(lastSign, 4)}, strings.Repeat(lastSign, 4), strings.Repeat(lastSign, 4)},
		{[]api.Value{strings.Repeat(lastSign, 5)}, strings.Repeat(lastSign, 4), nil},
		{[]api.Value{"a", strings.Repeat(lastSign, 4) + "a"}, "a", nil},
		{[]api.Value{strings.Repeat("a", api.MaxText)}, "aaaa", "aaab"},
		{[]api.Value{"a", "\xff"}, "", nil},
		{[]api.Value{"\xff", "a"}, "", nil},
		{[]api.Value{"a\xff", "b"}, "", nil},
		{[]api.Value{"b", "c", "d\xe6\x97", "e"}, "", nil},
		{[]api.Value{"abcdef\xff"}, "", nil},
		{[]api.Value{"\xed\xa0\x80"}, "", nil},
		{[]api.Value{"a", strings.Repeat("a", api.MaxText-1) + "\x80", "b"}, "", nil},
		{[]api.Value{"\x80"}, "", nil},
	} {
		wantStats(t, c.l, some(len(c.l), 0, c.low, c.high))
		wantStats(t, append([]api.Value{nil}, c.l...), some(len(c.l)+1, 1, c.low, c.high))
		slices.Reverse(c.l)
		wantStats(t, append(c.l, nil, nil), some(len(c.l)+2, 2, c.low, c.high))
	}
}

// samples has values of one kind by turns: their edges, texts that are cut among them.
func samples() [][]api.Value {
	return [][]api.Value{
		{int64(math.MinInt64), int64(-1), int64(0), int64(6), int64(7), int64(8), int64(math.MaxInt64)},
		{false, true},
		{"", "a", "abc", "abcd", "abcde", "abce", "b", "日本日本日", strings.Repeat(lastSign, 4), strings.Repeat(lastSign, 5)},
		{"", "abcde", "\x80", "a\xff", "\xff\xff\xff\xff\xff"},
	}
}

// listsOf has all lists of at most n values of one kind, nulls among them.
func listsOf(n int) [][]api.Value {
	var out [][]api.Value
	for _, l := range samples() {
		l = append([]api.Value{nil}, l...)
		for _, places := range lists(len(l), n) {
			var values []api.Value
			for _, i := range places {
				values = append(values, l[i])
			}
			out = append(out, values)
		}
	}
	return out
}

func TestP93BoundsAreShortAndHoldAllValues(t *testing.T) {
	for _, l := range listsOf(3) {
		st := Stats(l)
		nulls := 0
		for _, v := range l {
			if v == nil {
				nulls++
				continue
			}
			c := cellOf(v)
			if st.Min.Kind != c.Kind || c.N < st.Min.N || c.S < st.Min.S || st.High && (st.Max.Kind != c.Kind || c.N > st.Max.N || c.S > st.Max.S) {
				t.Fatalf("Stats(%q) = %+v doesn't hold %q", l, st, v)
			}
		}
		if st.Rows != len(l) || st.Nulls != nulls || st.Some != (nulls < len(l)) || len([]rune(st.Min.S)) > api.MaxBound || len([]rune(st.Max.S)) > api.MaxBound {
			t.Fatalf("Stats(%q) = %+v", l, st)
		}
		if !st.Some && (st.High || st.Min != api.Cell{}) || !st.High && st.Max != (api.Cell{}) {
			t.Fatalf("Stats(%q) = %+v: what isn't there isn't zero", l, st)
		}
	}
}

func wantMay(t *testing.T, p api.Pred, stats []api.Stat, sum int) {
	t.Helper()
	if got := May(p, fourFields(), stats); got != flags(sum) {
		t.Errorf("May(%v, %+v) = %v; want %v", p, stats, got, flags(sum))
	}
}

// statsWith is statistics of the four fields, that field's being st.
func statsWith(field uint32, st api.Stat) []api.Stat {
	out := []api.Stat{some(9, 0, 1, 1), some(9, 0, "else", "else"), some(9, 0, true, true), some(9, 0, 2, 2)}
	for i, f := range fourFields().Fields {
		if f.Id == field {
			out[i] = st
		}
	}
	return out
}

// between asks which answers come of whole numbers from low to high, one by one.
func between(op byte, low, high, v int) int {
	sum := 0
	for x := low; x <= high; x++ {
		is := op == api.Eq && x == v || op == api.Lt && x < v || op == api.Le && x <= v
		if is {
			sum |= yes
		} else {
			sum |= no
		}
	}
	return sum
}

func TestP94MayOfWholeNumbers(t *testing.T) {
	const beyond = 99 // a number that a column without a Max can have
	for low := -3; low <= 3; low++ {
		for high := low; high <= 3; high++ {
			for v := -5; v <= 5; v++ {
				for _, op := range []byte{api.Eq, api.Lt, api.Le} {
					for _, field := range []uint32{ofWhole, ofMore} {
						p := on(op, field, v)
						wantMay(t, p, statsWith(field, some(9, 0, low, high)), between(op, low, high, v))
						wantMay(t, p, statsWith(field, some(9, 1, low, high)), between(op, low, high, v)|unknown)
						wantMay(t, p, statsWith(field, some(9, 0, low, nil)), between(op, low, beyond, v))
						wantMay(t, p, statsWith(field, some(9, 8, low, nil)), between(op, low, beyond, v)|unknown)
					}
				}
			}
		}
	}
}

func TestP94MayOfTruths(t *testing.T) {
	for _, c := range []struct {
		op        byte
		v         bool
		low, high bool
		want      int
	}{
		{api.Eq, false, false, false, yes}, {api.Eq, false, false, true, no | yes}, {api.Eq, false, true, true, no},
		{api.Eq, true, false, false, no}, {api.Eq, true, false, true, no | yes}, {api.Eq, true, true, true, yes},
		{api.Lt, false, false, false, no}, {api.Lt, false, false, true, no}, {api.Lt, false, true, true, no},
		{api.Lt, true, false, false, yes}, {api.Lt, true, false, true, no | yes}, {api.Lt, true, true, true, no},
		{api.Le, false, false, false, yes}, {api.Le, false, false, true, no | yes}, {api.Le, false, true, true, no},
		{api.Le, true, false, false, yes}, {api.Le, true, false, true, yes}, {api.Le, true, true, true, yes},
	} {
		wantMay(t, on(c.op, ofTruth, c.v), statsWith(ofTruth, some(9, 0, c.low, c.high)), c.want)
		wantMay(t, on(c.op, ofTruth, c.v), statsWith(ofTruth, some(9, 2, c.low, c.high)), c.want|unknown)
	}
}

func TestP94MayOfTexts(t *testing.T) {
	for _, c := range []struct {
		low, high  any
		v          string
		eq, lt, le int
	}{
		{"b", "d", "a", no, no, no},
		{"b", "d", "az", no, no, no},
		{"b", "d", "b", no | yes, no, no | yes},
		{"b", "d", "c", no | yes, no | yes, no | yes},
		{"b", "d", "d", no | yes, no | yes, yes},
		{"b", "d", "d\x00", no, yes, yes},
		{"b", "d", "e", no, yes, yes},
		{"b", nil, "a", no, no, no},
		{"b", nil, "b", no | yes, no, no | yes},
		{"b", nil, "c", no | yes, no | yes, no | yes},
		{"b", nil, "\xff\xff", no | yes, no | yes, no | yes},
		{"", nil, "", no | yes, no, no | yes},
		{"", "", "", yes, no, yes},
		{"", "", "a", no, yes, yes},
		{"abc", "abc", "abc", yes, no, yes},
		{"abcd", "abcd", "abcd", no | yes, no, yes},
		{"abcd", "abce", "abcd", no | yes, no, no | yes},
		{"abcd", "abce", "abcde", no | yes, no | yes, no | yes},
		{"日本日", "日本日", "日本日", yes, no, yes},
		{"日本日本", "日本日本", "日本日本", no | yes, no, yes},
		{"\U0001f600\U0001f600\U0001f600", "\U0001f600\U0001f600\U0001f600", "\U0001f600\U0001f600\U0001f600", yes, no, yes},
		{"abcde", "abcde", "abcde", no | yes, no, yes},
		{"abcd", "abcd", "abc", no, no, no},
	} {
		for op, want := range map[byte]int{api.Eq: c.eq, api.Lt: c.lt, api.Le: c.le, api.Like: no | yes} {
			wantMay(t, on(op, ofText, c.v), statsWith(ofText, some(9, 0, c.low, c.high)), want)
			wantMay(t, on(op, ofText, c.v), statsWith(ofText, some(9, 1, c.low, c.high)), want|unknown)
		}
	}
}

func TestP94MayOfIsNull(t *testing.T) {
	for _, f := range fourFields().Fields {
		p := on(api.IsNull, f.Id, nil)
		wantMay(t, p, statsWith(f.Id, api.Stat{}), 0)
		wantMay(t, p, statsWith(f.Id, api.Stat{Rows: 5, Nulls: 5}), yes)
		wantMay(t, p, statsWith(f.Id, api.Stat{Rows: 5, Some: true}), no)
		wantMay(t, p, statsWith(f.Id, api.Stat{Rows: 5, Nulls: 1, Some: true}), no|yes)
		wantMay(t, p, statsWith(f.Id, api.Stat{Rows: 5, Nulls: -1, Some: true}), no)
	}
}

func TestP94MayWhereSomeIsntSet(t *testing.T) {
	for _, f := range fourFields().Fields {
		for _, v := range []any{nil, 0, 7, "", "a", false, api.Cell{Kind: badKind}} {
			for _, op := range []byte{api.Eq, api.Lt, api.Le, api.Like, 0, 9, 255} {
				p := on(op, f.Id, v)
				wantMay(t, p, statsWith(f.Id, api.Stat{}), 0)
				wantMay(t, p, statsWith(f.Id, api.Stat{Rows: 5}), 0)
				wantMay(t, p, statsWith(f.Id, api.Stat{Rows: 5, Nulls: -1}), 0)
				wantMay(t, p, statsWith(f.Id, api.Stat{Rows: 5, Nulls: 1}), unknown)
				wantMay(t, p, statsWith(f.Id, api.Stat{Rows: 5, Nulls: 5, High: true, Min: cellOf(7), Max: cellOf(7)}), unknown)
			}
		}
	}
}

func TestP94MayOfFieldsWithoutStatistics(t *testing.T) {
	full := statsWith(ofWhole, some(9, 0, 1, 1))
	for op := range 256 {
		if op >= api.And && op <= api.Not {
			continue
		}
		for _, v := range []any{nil, 7, "a", true} {
			for i, f := range fourFields().Fields {
				for short := 0; short <= i; short++ {
					wantMay(t, on(byte(op), f.Id, v), full[:short], no|unknown|yes)
				}
			}
			for _, field := range []uint32{0, 1, 2, ofNone, ofMore - 1} {
				wantMay(t, on(byte(op), field, v), full, no|unknown|yes)
			}
			if got := May(on(byte(op), 1, v), api.Schema{}, full); got != flags(no|unknown|yes) {
				t.Error("without fields:", op, got)
			}
		}
	}
	wantMay(t, on(api.Eq, ofWhole, 1), full[:1], yes)
	wantMay(t, on(api.Eq, ofMore, 2), append(slices.Clone(full), some(9, 9, 7, 7)), yes)
}

func TestP94MayOfAnIdThatStandsTwice(t *testing.T) {
	s := api.Schema{Fields: []api.Field{{Id: 1, Kind: api.Whole}, {Id: 2, Kind: api.Whole}, {Id: 2, Kind: api.Whole}}}
	stats := []api.Stat{some(1, 0, 1, 1), some(1, 0, 2, 2), some(1, 0, 3, 3)}
	if May(on(api.Eq, 2, 2), s, stats) != flags(yes) || May(on(api.Eq, 2, 3), s, stats) != flags(no) {
		t.Error("another one than the first is told of")
	}
}

func TestP94MayOfOpsThatAreNone(t *testing.T) {
	for op := range 256 {
		if op >= api.Eq && op <= api.Not {
			continue
		}
		for _, f := range fourFields().Fields {
			for _, nulls := range []int{0, 1} {
				wantMay(t, on(byte(op), f.Id, 7), statsWith(f.Id, some(9, nulls, 7, 7)), no|unknown|yes)
				wantMay(t, on(byte(op), f.Id, 7), statsWith(f.Id, some(9, nulls, 8, nil)), no|unknown|yes)
			}
		}
		p := and(on(api.Eq, ofWhole, 1))
		p.Op = byte(op)
		wantMay(t, p, statsWith(ofWhole, some(9, 0, 1, 1)), no|unknown|yes)
	}
}

func TestP94MayOfValuesAndBoundsThatAreRefused(t *testing.T) {
	for _, r := range refusedCells() {
		for _, op := range []byte{api.Eq, api.Lt, api.Le} { // null is ahead of every bound
			wantMay(t, on(op, ofWhole, r.c), statsWith(ofWhole, some(9, 0, 7, 8)), no)
			wantMay(t, on(op, ofText, r.c), statsWith(ofText, some(9, 1, "", nil)), no|unknown)
			wantMay(t, on(op, ofTruth, r.c), statsWith(ofTruth, some(9, 0, false, false)), no)
		}
		wantMay(t, on(api.Like, ofText, r.c), statsWith(ofText, some(9, 0, "a", "b")), no|yes)
		// A Min that counts as null is ahead of every value, and so is such a Max.
		wantMay(t, on(api.Eq, ofWhole, 7), statsWith(ofWhole, some(9, 0, r.c, 8)), no|yes)
		wantMay(t, on(api.Lt, ofWhole, 7), statsWith(ofWhole, some(9, 0, r.c, 8)), no|yes)
		wantMay(t, on(api.Le, ofWhole, 7), statsWith(ofWhole, some(9, 0, r.c, 8)), no|yes)
		wantMay(t, on(api.Eq, ofWhole, 7), statsWith(ofWhole, some(9, 0, 7, r.c)), no)
		wantMay(t, on(api.Lt, ofWhole, 8), statsWith(ofWhole, some(9, 0, 7, r.c)), yes)
		wantMay(t, on(api.Le, ofWhole, 7), statsWith(ofWhole, some(9, 0, 7, r.c)), yes)
		// All three count as null: they are the same.
		wantMay(t, on(api.Eq, ofWhole, nil), statsWith(ofWhole, some(9, 0, r.c, r.c)), yes)
		wantMay(t, on(api.Lt, ofWhole, nil), statsWith(ofWhole, some(9, 0, r.c, r.c)), no)
		wantMay(t, on(api.Le, ofWhole, nil), statsWith(ofWhole, some(9, 0, r.c, r.c)), yes)
		for _, other := range refusedCells() {
			wantMay(t, on(api.Eq, ofText, other.c), statsWith(ofText, some(9, 0, r.c, api.Cell{})), yes)
			wantMay(t, on(api.Eq, ofText, other.c), statsWith(ofText, some(9, 0, r.c, r.c)), yes)
		}
		// Without High there is no Max, whatever stands there.
		wantMay(t, on(api.Eq, ofWhole, nil), statsWith(ofWhole, some(9, 0, r.c, nil)), no|yes)
	}
}

func TestP94MayWithoutHighHasNoMax(t *testing.T) {
	for v := 6; v <= 9; v++ {
		for _, op := range []byte{api.Eq, api.Lt, api.Le} {
			st := some(9, 0, 7, 8)
			st.High = false
			wantMay(t, on(op, ofWhole, v), statsWith(ofWhole, st), between(op, 7, 99, v))
		}
	}
	st := some(9, 0, "a", "a")
	st.High = false
	wantMay(t, on(api.Eq, ofText, "a"), statsWith(ofText, st), no|yes)
}

func TestP94MayGoesByTheOrderOfKinds(t *testing.T) {
	rising := []any{7, true, "a"}
	for i, field := range []uint32{ofWhole, ofTruth, ofText} {
		stats := statsWith(field, some(9, 0, rising[i], rising[i]))
		for k, v := range rising {
			wantMay(t, on(api.Eq, field, v), stats, between(api.Eq, i, i, k))
			wantMay(t, on(api.Lt, field, v), stats, between(api.Lt, i, i, k))
			wantMay(t, on(api.Le, field, v), stats, between(api.Le, i, i, k))
		}
	}
}

// eightSets has statistics of four fields, and, by each sum of flags, a predicate that has just these.
func eightSets() ([]api.Stat, [8]api.Pred) {
	stats := []api.Stat{some(9, 0, 1, 5), some(9, 3, "b", "d"), {Rows: 9, Nulls: 9}, {}}
	return stats, [8]api.Pred{
		0:                  on(api.Eq, ofMore, 7),
		no:                 on(api.Eq, ofWhole, 7),
		unknown:            on(api.Eq, ofTruth, true),
		no | unknown:       on(api.Eq, ofText, "a"),
		yes:                on(api.Lt, ofWhole, 7),
		no | yes:           on(api.Eq, ofWhole, 3),
		unknown | yes:      on(api.Lt, ofText, "e"),
		no | unknown | yes: on(api.Like, ofText, "b%"),
	}
}

// picked tells all that comes, by join, of one answer of each of the sets, beginning with first.
func picked(sets []int, first int, join func(a, b int) int) int {
	if len(sets) == 0 {
		return 1 << first
	}
	sum := 0
	for answer := range 3 {
		if sets[0]&(1<<answer) > 0 {
			sum |= picked(sets[1:], join(first, answer), join)
		}
	}
	return sum
}

func lesser(a, b int) int  { return min(a, b) }
func greater(a, b int) int { return max(a, b) }

// turned is the contraries of a sum of flags.
func turned(sum int) int {
	out := sum & unknown
	if sum&no > 0 {
		out |= yes
	}
	if sum&yes > 0 {
		out |= no
	}
	return out
}

func TestP94MayOfKidsTogether(t *testing.T) {
	stats, nodes := eightSets()
	for sum, p := range nodes {
		wantMay(t, p, stats, sum)
	}
	for _, l := range lists(8, 3) {
		var kids []api.Pred
		for _, sum := range l {
			kids = append(kids, nodes[sum])
		}
		all, one := picked(l, 2, lesser), picked(l, 0, greater)
		wantMay(t, and(kids...), stats, all)
		wantMay(t, or(kids...), stats, one)
		wantMay(t, not(and(kids...)), stats, turned(all))
		wantMay(t, not(or(kids...)), stats, turned(one))
		if len(l) == 2 {
			wantMay(t, and(kids[0], or(kids...)), stats, picked([]int{l[0], one}, 2, lesser))
			wantMay(t, or(and(kids...), kids[1]), stats, picked([]int{all, l[1]}, 0, greater))
		}
	}
	wantMay(t, and(), nil, yes)
	wantMay(t, or(), nil, no)
}

func TestP94MayOfNot(t *testing.T) {
	stats, nodes := eightSets()
	for sum, p := range nodes {
		wantMay(t, not(p), stats, turned(sum))
		wantMay(t, not(not(p)), stats, sum)
		for _, q := range nodes {
			wantMay(t, not(p, q), stats, turned(sum))
			wantMay(t, not(p, q, not()), stats, turned(sum))
		}
	}
	wantMay(t, not(), stats, unknown)
	wantMay(t, not(), nil, unknown)
	wantMay(t, not(not()), stats, unknown)
}

func TestP94MayLeavesOutWhatANodeDoesntAskFor(t *testing.T) {
	stats, nodes := eightSets()
	for sum, p := range nodes {
		p.Kids = nodes[:]
		wantMay(t, p, stats, sum)
		for _, q := range []api.Pred{and(nodes[sum]), or(nodes[sum])} {
			q.Field, q.Value = ofNone, cellOf(7)
			wantMay(t, q, stats, sum)
		}
		q := not(nodes[sum])
		q.Field, q.Value = ofMore, cellOf("a")
		wantMay(t, q, stats, turned(sum))
	}
	wantMay(t, on(api.IsNull, ofText, "z"), stats, no|yes)
}

func TestP94MayOfManyAndDeepNodes(t *testing.T) {
	stats, nodes := eightSets()
	for sum, p := range nodes {
		if sum > 0 {
			wantMay(t, flat(api.And, 1000, p), stats, sum)
			wantMay(t, flat(api.Or, 1000, p), stats, sum)
		}
		for _, ops := range [][]byte{{api.And}, {api.Or}, {api.And, api.Or}} {
			if got := May(chain(1<<16, p, ops...), fourFields(), stats); got != flags(sum) {
				t.Error("deep ones:", ops, sum, got)
			}
		}
		if got := May(chain(1<<16, p, api.Not), fourFields(), stats); got != flags(turned(sum)) {
			t.Error("deep ones:", sum, got)
		}
	}
}

// leaves has predicates on one field, such as may not be among them.
func leaves(field uint32, l []api.Value) []api.Pred {
	out := []api.Pred{on(api.IsNull, field, nil), {Op: 9, Field: field}, not()}
	cells := []api.Cell{{}, {Kind: badKind}, {Kind: api.Truth, N: 2}, cellOf(strings.Repeat("a", api.MaxText+1)), cellOf(7), cellOf(true), cellOf("abcd"), cellOf("a%"), cellOf("_%d%")}
	for _, v := range l {
		cells = append(cells, cellOf(v))
	}
	for op := byte(api.Eq); op <= api.Like; op++ {
		for _, c := range cells {
			out = append(out, on(op, field, c))
		}
	}
	return out
}

// wantFlag asks that the flag of each row's answer is set.
func wantFlag(t *testing.T, p api.Pred, s api.Schema, rows [][]api.Value, stats []api.Stat) {
	t.Helper()
	may := May(p, s, stats)
	for _, row := range rows {
		if got := Eval(p, s, row); !may[got] {
			t.Fatalf("%v answers %d of %q; by %+v may be %v", p, got, row, stats, may)
		}
	}
}

func rowsOfOne(l []api.Value) [][]api.Value {
	var out [][]api.Value
	for _, v := range l {
		out = append(out, []api.Value{v})
	}
	return out
}

func TestP95MayOfOneFieldHasEvalsAnswers(t *testing.T) {
	for i, l := range samples() {
		s := api.Schema{Id: 1, Fields: []api.Field{{Id: 1, Name: "a", Kind: cellOf(samples()[i][0]).Kind}}}
		preds := leaves(1, l)
		for _, p := range slices.Clone(preds) {
			preds = append(preds, not(p))
		}
		withNull := append([]api.Value{nil}, l...)
		for _, places := range lists(len(withNull), 3) {
			var values []api.Value
			for _, place := range places {
				values = append(values, withNull[place])
			}
			stats := []api.Stat{Stats(values)}
			for _, p := range preds {
				wantFlag(t, p, s, rowsOfOne(values), stats)
			}
		}
	}
}

func TestP95MayOfPairsHasEvalsAnswers(t *testing.T) {
	s := fourFields()
	numbers := []api.Value{int64(6), int64(7), int64(8)}
	texts := []api.Value{nil, "", "abcd", "abcde", "b", "a\xff"}
	preds := append(leaves(ofWhole, numbers), leaves(ofText, texts[1:])...)
	preds = append(preds, on(api.Eq, ofNone, 7), and(), or(), on(api.Eq, ofTruth, true))
	for _, places := range lists(len(texts), 2) {
		rows := [][]api.Value{}
		var first, second []api.Value
		for i, place := range places {
			rows = append(rows, []api.Value{numbers[(i+place)%3], texts[place], i == 0, nil})
			first, second = append(first, numbers[(i+place)%3]), append(second, texts[place])
		}
		stats := []api.Stat{Stats(first), Stats(second)}
		for _, p := range preds {
			for _, q := range preds {
				wantFlag(t, and(p, q), s, rows, stats)
				wantFlag(t, or(not(p), q), s, rows, stats)
			}
		}
	}
}

func TestP95RowsWithoutYesNeedNotBeRead(t *testing.T) {
	s := fourFields()
	left := 0
	for first := int64(0); first < 100; first += 10 {
		var rows [][]api.Value
		var column []api.Value
		for n := first; n < first+10; n++ {
			rows = append(rows, []api.Value{n, nil, nil, nil})
			column = append(column, n)
		}
		p := and(not(on(api.Lt, ofWhole, 25)), on(api.Le, ofWhole, 40))
		found := slices.ContainsFunc(rows, func(row []api.Value) bool { return Eval(p, s, row) == api.Yes })
		may := May(p, s, []api.Stat{Stats(column)})
		if may[api.Yes] != found {
			t.Errorf("from %d on: %v, though there is one: %v", first, may, found)
		}
		if !may[api.Yes] {
			left++
		}
	}
	if left != 7 {
		t.Error("left out:", left)
	}
}

func TestExamplesOfTheChapter(t *testing.T) {
	s := api.Schema{Id: 1, Fields: []api.Field{{Id: 1, Name: "id", Kind: api.Whole, Need: true}}}
	st := Stats([]api.Value{int64(3), int64(5), nil})
	if st.Rows != 3 || st.Nulls != 1 || st.Min != cellOf(3) || st.Max != cellOf(5) {
		t.Error("Stats:", st)
	}
	for _, c := range []struct {
		p    api.Pred
		want int
	}{{on(api.Eq, 1, 7), no | unknown}, {on(api.Lt, 1, 9), unknown | yes}, {not(on(api.Eq, 1, 7)), unknown | yes}} {
		if got := May(c.p, s, []api.Stat{st}); got != flags(c.want) {
			t.Error("May:", c.p, got)
		}
	}
	if st := Stats([]api.Value{"abcdef", "b"}); st.Min != cellOf("abcd") || st.Max != cellOf("b") {
		t.Error("Stats of texts:", st)
	}
}
