package schema

import (
	"math"
	"reflect"
	"slices"
	"strings"
	"testing"

	"catchment/api"
)

const top = math.MaxUint32

func key(k api.Kind) api.Field {
	return api.Field{Id: 1, Name: "id", Kind: k, Need: true}
}

// shape is a schema with the Id 1 of these fields.
func shape(l ...api.Field) api.Schema {
	return api.Schema{Id: 1, Fields: l}
}

// wide is a schema of n fields, all kinds among them, whose Ids rise by one.
func wide(n int) api.Schema {
	s := shape()
	for i := range n {
		s.Fields = append(s.Fields, api.Field{Id: uint32(i + 1), Name: "f" + string(rune('a'+i)), Kind: api.Kind(i%3 + 1), Need: i == 0})
	}
	return s
}

// exampleSchema is the one of the chapter's examples.
func exampleSchema() api.Schema {
	return shape(key(api.Whole), api.Field{Id: 2, Name: "name", Kind: api.Text})
}

// named is a schema that may be just if the name may.
func named(name string) api.Schema {
	return shape(key(api.Whole), api.Field{Id: 2, Name: name, Kind: api.Truth})
}

func copied(s api.Schema) api.Schema {
	return api.Schema{Id: s.Id, Fields: slices.Clone(s.Fields)}
}

// with is s with its field at that place changed.
func with(s api.Schema, place int, change func(f *api.Field)) api.Schema {
	s = copied(s)
	change(&s.Fields[place])
	return s
}

func sameSchema(a, b api.Schema) bool {
	return a.Id == b.Id && slices.Equal(a.Fields, b.Fields)
}

// goodNames has names that may be: the edges of each range of signs, of the length, and of the first sign.
func goodNames() []string {
	return []string{
		"a", "z", "_", "m", "__", "_1", "a0", "a9", "z_9", "a1b2", "age", "é", "é1", "日本", "ид",
		"\u0080", "\u00a0", "\u07ff", "\u0800", "\ud7ff", "\ue000", "\ufffd", "a\ufffdb", "\uffff", "\U00010000", "\U0010ffff",
		"É", "\u0660", "²", // capital letters and digits above U+007F are signs above it
		strings.Repeat("a", api.MaxName), "_" + strings.Repeat("9", api.MaxName-1),
		strings.Repeat("é", api.MaxName/2), strings.Repeat("\U0010ffff", api.MaxName/4), "a" + strings.Repeat("日", 5),
	}
}

// badNames has names that may not be; each sign of ASCII that may not be is tried besides.
func badNames() []string {
	return []string{
		"", "0", "9", "1a", "0_", "5é", "A", "Z", "aB", "Name", " ", " a", "a ", "a b", "a-b", "a.b", "\x00", "a\x00", "\x7f", "a\x7f", "a\n",
		strings.Repeat("a", api.MaxName+1), strings.Repeat("é", api.MaxName/2) + "a", strings.Repeat("\U0010ffff", api.MaxName/4) + "a", strings.Repeat("a", 1<<16),
		"\x80", "a\x80", "\xff", "a\xffb", "\xc3", "a\xc3", "\xa9", "é\xc3", "\xe6\x97", "a\xed\xa0\x80", "\xc0\xaf", "\xf4\x90\x80\x80", "\xc1\xa1", "\xef\xbf\xbd\xef\xbf",
	}
}

func goodSchemas() []api.Schema {
	out := []api.Schema{
		exampleSchema(),
		shape(key(api.Whole)), shape(key(api.Text)),
		{Id: top, Fields: []api.Field{key(api.Whole)}},
		shape(api.Field{Id: top, Name: "k", Kind: api.Text, Need: true}),
		{Id: 7, Fields: []api.Field{{Id: 5, Name: "k", Kind: api.Text, Need: true}, {Id: 9, Name: "b", Kind: api.Truth}, {Id: 300, Name: "c", Kind: api.Whole}, {Id: 1 << 31, Name: "d", Kind: api.Text}, {Id: top, Name: "e", Kind: api.Text}}},
		{Id: 128, Fields: []api.Field{{Id: 127, Name: "k", Kind: api.Whole, Need: true}, {Id: 128, Name: "kk", Kind: api.Whole}}},
	}
	for n := 1; n <= api.MaxFields; n++ {
		out = append(out, wide(n))
	}
	for _, name := range goodNames() {
		out = append(out, named(name), shape(api.Field{Id: 1, Name: name, Kind: api.Text, Need: true}))
	}
	return out
}

// wrong is a schema, and why it may not be.
type wrong struct {
	s    api.Schema
	want api.Errno
}

func badSchemas() []wrong {
	whole := key(api.Whole)
	out := []wrong{
		{api.Schema{}, api.ErrArg},
		{shape(), api.ErrArg},
		{api.Schema{Id: 1, Fields: []api.Field{}}, api.ErrArg},
		{api.Schema{Fields: []api.Field{whole}}, api.ErrArg},
		{wide(api.MaxFields + 1), api.ErrArg},
		{wide(2 * api.MaxFields), api.ErrArg},
		{shape(make([]api.Field, 1000)...), api.ErrArg},
		{with(wide(1), 0, func(f *api.Field) { f.Id = 0 }), api.ErrField},
		{shape(api.Field{}), api.ErrField},
		{shape(whole, whole), api.ErrField},
		{with(wide(3), 1, func(f *api.Field) { f.Id = 0 }), api.ErrField},
		{with(wide(3), 1, func(f *api.Field) { f.Id = 1 }), api.ErrField},
		{with(wide(3), 1, func(f *api.Field) { f.Id = 3 }), api.ErrField},
		{with(wide(3), 1, func(f *api.Field) { f.Id = top }), api.ErrField},
		{with(wide(3), 2, func(f *api.Field) { f.Id = 1 }), api.ErrField},
		{with(wide(3), 0, func(f *api.Field) { f.Id = 2 }), api.ErrField},
		{with(wide(api.MaxFields), api.MaxFields-1, func(f *api.Field) { f.Id = api.MaxFields - 1 }), api.ErrField},
		{named("id"), api.ErrName},
		{with(wide(3), 2, func(f *api.Field) { f.Name = "fa" }), api.ErrName},
		{with(wide(3), 2, func(f *api.Field) { f.Name = "fb" }), api.ErrName},
		{with(wide(api.MaxFields), api.MaxFields-1, func(f *api.Field) { f.Name = "fa" }), api.ErrName},
		{shape(key(api.Truth)), api.ErrNeed},
		{shape(api.Field{Id: 1, Name: "id", Kind: api.Whole}), api.ErrNeed},
		{shape(api.Field{Id: 1, Name: "id", Kind: api.Text}), api.ErrNeed},
		{shape(api.Field{Id: 1, Name: "id", Kind: api.Truth}), api.ErrNeed},
		{with(wide(3), 0, func(f *api.Field) { f.Need = false }), api.ErrNeed},
	}
	for _, k := range []api.Kind{api.Whole, api.Truth, api.Text} {
		out = append(out, wrong{shape(whole, api.Field{Id: 2, Name: "b", Kind: k, Need: true}), api.ErrNeed})
	}
	out = append(out, wrong{with(wide(api.MaxFields), api.MaxFields-1, func(f *api.Field) { f.Need = true }), api.ErrNeed})
	for _, name := range badNames() {
		out = append(out, wrong{named(name), api.ErrName}, wrong{with(wide(2), 0, func(f *api.Field) { f.Name = name }), api.ErrName})
	}
	for _, k := range badKinds() {
		out = append(out, wrong{with(wide(3), 0, func(f *api.Field) { f.Kind = k }), api.ErrKind}, wrong{with(wide(3), 2, func(f *api.Field) { f.Kind = k }), api.ErrKind})
	}
	return out
}

func badKinds() []api.Kind {
	out := []api.Kind{api.Null}
	for k := int(api.Text) + 1; k <= math.MaxUint8; k++ {
		out = append(out, api.Kind(k))
	}
	return out
}

func wantCheck(t *testing.T, s api.Schema, want api.Errno) {
	t.Helper()
	if got := Check(s); got != want {
		t.Errorf("Check(%v) = %d; want %d", s, got, want)
	}
}

func TestP81CheckTakesWhatMayBe(t *testing.T) {
	for _, s := range goodSchemas() {
		wantCheck(t, s, api.OK)
	}
}

func TestP81CheckRefuses(t *testing.T) {
	for _, c := range badSchemas() {
		wantCheck(t, c.s, c.want)
	}
}

func TestP81EachSignOfNames(t *testing.T) {
	const rest = "abcdefghijklmnopqrstuvwxyz_"
	const digits = "0123456789"
	for r := rune(0); r <= 0x7f; r++ {
		first, behind := api.ErrName, api.ErrName
		if strings.ContainsRune(rest, r) {
			first = api.OK
		}
		if strings.ContainsRune(rest+digits, r) {
			behind = api.OK
		}
		wantCheck(t, named(string(r)), first)
		wantCheck(t, named(string(r)+"a"), first)
		wantCheck(t, named("a"+string(r)), behind)
		wantCheck(t, named("é"+string(r)+"_"), behind)
	}
	for r := rune(0x80); r <= 0x10ffff; r++ {
		if 0xd800 <= r && r <= 0xdfff {
			continue
		}
		if e := Check(named(string(r))); e != api.OK {
			t.Fatalf("U+%04X is refused: %d", r, e)
		}
	}
	for c := 0x80; c <= 0xff; c++ {
		wantCheck(t, named(string([]byte{byte(c)})), api.ErrName)
		wantCheck(t, named(string([]byte{'a', byte(c), 'a'})), api.ErrName)
	}
}

func TestP81LengthsOfNamesAreBytes(t *testing.T) {
	for n := range 3 * api.MaxName {
		want := api.ErrName
		if 1 <= n && n <= api.MaxName {
			want = api.OK
		}
		wantCheck(t, named(strings.Repeat("x", n)), want)
		if n%2 == 0 {
			wantCheck(t, named(strings.Repeat("ж", n/2)), want)
		}
	}
}

// spoiled is a way to spoil a field, and what is told of it.
type spoiled struct {
	want  api.Errno
	spoil func(f *api.Field)
}

// spoilings has one of each error of a field, in the document's order; none hides another.
func spoilings() []spoiled {
	return []spoiled{
		{api.ErrField, func(f *api.Field) { f.Id = 0 }},
		{api.ErrName, func(f *api.Field) { f.Name = "A" }},
		{api.ErrKind, func(f *api.Field) { f.Kind = 9 }},
		{api.ErrNeed, func(f *api.Field) { f.Need = !f.Need }},
	}
}

func TestP81OfSeveralFaultsOfAFieldTheFirst(t *testing.T) {
	all := spoilings()
	for place := range 3 {
		for which := range 1 << len(all) {
			s, want := wide(3), api.OK
			for i := len(all) - 1; i >= 0; i-- {
				if which>>i&1 == 1 {
					s, want = with(s, place, all[i].spoil), all[i].want
				}
			}
			wantCheck(t, s, want)
			if want != api.OK {
				s.Id = 0
				wantCheck(t, s, api.ErrArg)
			}
		}
	}
	truth := with(shape(key(api.Truth)), 0, func(f *api.Field) { f.Name = "" })
	wantCheck(t, truth, api.ErrName)
	twice := shape(key(api.Whole), api.Field{Id: 2, Name: "id", Kind: 0, Need: true})
	wantCheck(t, twice, api.ErrName)
	twice.Fields[1].Id = 1
	wantCheck(t, twice, api.ErrField)
}

func TestP81OfSeveralFieldsTheFirst(t *testing.T) {
	for _, a := range spoilings() {
		for _, b := range spoilings() {
			for first := range 3 {
				for second := first + 1; second < 4; second++ {
					wantCheck(t, with(with(wide(4), first, a.spoil), second, b.spoil), a.want)
				}
			}
			full := with(with(wide(api.MaxFields+1), 0, a.spoil), 1, b.spoil)
			wantCheck(t, full, api.ErrArg)
		}
	}
}

func wantAdd(t *testing.T, s api.Schema, name string, k api.Kind, want api.Errno) {
	t.Helper()
	if got, e := Add(s, name, k); e != want || e != api.OK && !sameSchema(got, api.Schema{}) {
		t.Errorf("Add(%v, %q, %d) = %v, %d; want %d", s, name, k, got, e, want)
	}
}

func TestP82AddGrows(t *testing.T) {
	for _, s := range goodSchemas() {
		last := s.Fields[len(s.Fields)-1]
		if len(s.Fields) == api.MaxFields || s.Id == top || last.Id == top {
			continue
		}
		for _, k := range []api.Kind{api.Whole, api.Truth, api.Text} {
			want := api.Schema{Id: s.Id + 1, Fields: append(slices.Clone(s.Fields), api.Field{Id: last.Id + 1, Name: "more_1", Kind: k})}
			if got, e := Add(s, "more_1", k); e != api.OK || !sameSchema(got, want) {
				t.Errorf("Add(%v, more_1, %d) = %v, %d; want %v", s, k, got, e, want)
			}
		}
	}
}

func TestP82AddNames(t *testing.T) {
	for _, name := range goodNames() {
		got, e := Add(wide(2), name, api.Text)
		if e != api.OK || len(got.Fields) != 3 || got.Fields[2] != (api.Field{Id: 3, Name: name, Kind: api.Text}) {
			t.Errorf("Add of %q = %v, %d", name, got, e)
		}
	}
	for _, name := range badNames() {
		wantAdd(t, wide(2), name, api.Text, api.ErrName)
		wantAdd(t, wide(2), name, api.Null, api.ErrName)
	}
	s := wide(api.MaxFields - 1)
	for _, f := range s.Fields {
		wantAdd(t, s, f.Name, api.Whole, api.ErrName)
		wantAdd(t, s, f.Name, 200, api.ErrName)
		wantAdd(t, s, f.Name+"_", api.Whole, api.OK)
	}
}

func TestP82AddRefusesKinds(t *testing.T) {
	for _, k := range badKinds() {
		wantAdd(t, wide(2), "more", k, api.ErrKind)
	}
}

func TestP82AddToWhatMayNotBe(t *testing.T) {
	for _, c := range badSchemas() {
		wantAdd(t, c.s, "more", api.Whole, c.want)
		wantAdd(t, c.s, "", 0, c.want)
	}
	for _, c := range spoilings() {
		s := with(wide(api.MaxFields), 3, c.spoil)
		s.Id = top
		wantAdd(t, s, "fa", 0, c.want)
	}
}

func TestP82AddToWhatIsFull(t *testing.T) {
	noNext := wide(2)
	noNext.Id = top
	lastHasNone := with(wide(2), 1, func(f *api.Field) { f.Id = top })
	keyHasNone := with(wide(1), 0, func(f *api.Field) { f.Id = top })
	allOfIt := with(wide(api.MaxFields), api.MaxFields-1, func(f *api.Field) { f.Id = top })
	allOfIt.Id = top
	for _, s := range []api.Schema{wide(api.MaxFields), noNext, lastHasNone, keyHasNone, allOfIt} {
		wantCheck(t, s, api.OK)
		wantAdd(t, s, "more", api.Whole, api.ErrFull)
		wantAdd(t, s, "fa", api.Whole, api.ErrFull)
		wantAdd(t, s, "", api.Whole, api.ErrFull)
		wantAdd(t, s, "more", 0, api.ErrFull)
		wantAdd(t, s, "A", 77, api.ErrFull)
	}
}

func TestP82TheLastIdsThatHaveANext(t *testing.T) {
	s := with(wide(2), 1, func(f *api.Field) { f.Id = top - 1 })
	s.Id = top - 1
	got, e := Add(s, "more", api.Truth)
	if e != api.OK || got.Id != top || len(got.Fields) != 3 || got.Fields[2].Id != top {
		t.Errorf("Add(%v) = %v, %d", s, got, e)
	}
	wantAdd(t, got, "again", api.Truth, api.ErrFull)
}

func TestP82AddUpToAllFields(t *testing.T) {
	s := wide(1)
	for n := 2; n <= api.MaxFields; n++ {
		var e api.Errno
		f := wide(n).Fields[n-1]
		if s, e = Add(s, f.Name, f.Kind); e != api.OK {
			t.Fatalf("the field %d: %d", n, e)
		}
	}
	if want := wide(api.MaxFields); s.Id != api.MaxFields || !slices.Equal(s.Fields, want.Fields) {
		t.Errorf("it grew to %v", s)
	}
	wantAdd(t, s, "more", api.Whole, api.ErrFull)
}

// someOf has a value of a kind for each seed, the edges among them.
func someOf(k api.Kind, seed int) api.Value {
	switch k {
	case api.Whole:
		return []int64{7, 0, -1, math.MinInt64, math.MaxInt64}[seed%5]
	case api.Truth:
		return seed%2 == 0
	case api.Text:
		return []string{"a", "", "\xff", "日本", strings.Repeat("x", api.MaxText), strings.Repeat("é", api.MaxText/2)}[seed%6]
	}
	return nil
}

// rowsOf has rows that fit s, with nulls in none, some and all of the places that may have them.
func rowsOf(s api.Schema) [][]api.Value {
	var out [][]api.Value
	for seed := range 30 {
		for which := range 4 {
			row := make([]api.Value, len(s.Fields))
			for i, f := range s.Fields {
				isNull := which == 1 || which == 2 && i%2 == 1 || which == 3 && i%2 == 0
				if f.Need || !isNull {
					row[i] = someOf(f.Kind, seed+i)
				}
			}
			out = append(out, row)
		}
	}
	return out
}

func wantFit(t *testing.T, s api.Schema, row []api.Value, want api.Errno) {
	t.Helper()
	if got := Fit(s, row); got != want {
		t.Errorf("Fit(%v, %v) = %d; want %d", s, row, got, want)
	}
}

func TestP83FitTakes(t *testing.T) {
	for _, s := range goodSchemas() {
		for _, row := range rowsOf(s) {
			wantFit(t, s, row, api.OK)
		}
	}
}

func TestP83FitCounts(t *testing.T) {
	for n := 1; n <= api.MaxFields; n++ {
		s := wide(n)
		for m := range 2*api.MaxFields + 1 {
			if m == n {
				continue
			}
			row := make([]api.Value, m)
			wantFit(t, s, row, api.ErrArg)
			copy(row, rowsOf(s)[0])
			wantFit(t, s, row, api.ErrArg)
		}
		wantFit(t, s, nil, api.ErrArg)
	}
	wantFit(t, api.Schema{}, nil, api.OK)
	wantFit(t, api.Schema{}, []api.Value{}, api.OK)
	wantFit(t, api.Schema{}, []api.Value{nil}, api.ErrArg)
}

func TestP83FitHoldsEachKindAgainstEach(t *testing.T) {
	values := []api.Value{int64(0), int64(1), int64(-7), false, true, "", "a", "7", strings.Repeat("x", api.MaxText)}
	kinds := []api.Kind{api.Whole, api.Whole, api.Whole, api.Truth, api.Truth, api.Text, api.Text, api.Text, api.Text}
	for k := range math.MaxUint8 + 1 {
		for i, v := range values {
			want := api.ErrKind
			if kinds[i] == api.Kind(k) {
				want = api.OK
			}
			for _, need := range []bool{false, true} {
				f := api.Field{Id: 2, Name: "b", Kind: api.Kind(k), Need: need}
				wantFit(t, shape(f), []api.Value{v}, want)
				wantFit(t, shape(key(api.Whole), f), []api.Value{int64(1), v}, want)
			}
		}
	}
}

func TestP83FitOfNulls(t *testing.T) {
	for _, k := range []api.Kind{api.Null, api.Whole, api.Truth, api.Text, 4, 255} {
		wantFit(t, shape(api.Field{Kind: k}), []api.Value{nil}, api.OK)
		wantFit(t, shape(api.Field{Kind: k, Need: true}), []api.Value{nil}, api.ErrNeed)
	}
	wantFit(t, exampleSchema(), []api.Value{nil, nil}, api.ErrNeed)
	wantFit(t, shape(key(api.Text)), []api.Value{nil}, api.ErrNeed)
}

func TestP83FitOfLongTexts(t *testing.T) {
	s := exampleSchema()
	long := strings.Repeat("x", api.MaxText+1)
	for n := range 3 * api.MaxText {
		want := api.OK
		if n > api.MaxText {
			want = api.ErrLong
		}
		wantFit(t, s, []api.Value{int64(1), strings.Repeat("x", n)}, want)
		wantFit(t, shape(key(api.Text)), []api.Value{strings.Repeat("\xff", n)}, want)
	}
	wantFit(t, s, []api.Value{int64(1), strings.Repeat("é", api.MaxText/2) + "a"}, api.ErrLong)
	wantFit(t, s, []api.Value{int64(1), strings.Repeat("x", 1<<16)}, api.ErrLong)
	wantFit(t, s, []api.Value{long, "a"}, api.ErrKind)
	wantFit(t, shape(key(api.Whole), api.Field{Id: 2, Name: "b", Kind: api.Truth}), []api.Value{int64(1), long}, api.ErrKind)
}

func TestP83FitTellsTheFirstValue(t *testing.T) {
	long := strings.Repeat("x", api.MaxText+1)
	field := api.Field{Kind: api.Text, Need: true}
	s := shape(field, field, field)
	values := []api.Value{nil, int64(1), long, "a"}
	errs := []api.Errno{api.ErrNeed, api.ErrKind, api.ErrLong, api.OK}
	for i := range values {
		for k := range values {
			for m := range values {
				want := errs[i]
				if want == api.OK {
					want = errs[k]
				}
				if want == api.OK {
					want = errs[m]
				}
				wantFit(t, s, []api.Value{values[i], values[k], values[m]}, want)
				wantFit(t, s, []api.Value{values[i], values[k], values[m], nil}, api.ErrArg)
			}
		}
	}
}

func wantPlace(t *testing.T, s api.Schema, id uint32, place int, is bool) {
	t.Helper()
	if got, ok := Place(s, id); got != place || ok != is {
		t.Errorf("Place(%v, %d) = %d, %t; want %d, %t", s, id, got, ok, place, is)
	}
}

func TestP83Place(t *testing.T) {
	for _, s := range goodSchemas() {
		var ids []uint32
		for i, f := range s.Fields {
			wantPlace(t, s, f.Id, i, true)
			ids = append(ids, f.Id)
		}
		for _, id := range []uint32{0, 1, 2, 3, 6, 8, 9, 127, 299, 301, 1<<31 - 1, 1<<31 + 1, top - 1, top} {
			place := slices.Index(ids, id)
			wantPlace(t, s, id, max(place, 0), place >= 0)
		}
	}
}

func TestP83PlaceInWhatMayNotBe(t *testing.T) {
	wantPlace(t, api.Schema{}, 0, 0, false)
	wantPlace(t, api.Schema{}, 1, 0, false)
	s := shape(api.Field{Id: 9}, api.Field{Id: 4, Name: "one"}, api.Field{Id: 0}, api.Field{Id: 4, Name: "two"}, api.Field{Id: 9}, api.Field{Id: 0}, api.Field{Id: top})
	wantPlace(t, s, 9, 0, true)
	wantPlace(t, s, 4, 1, true)
	wantPlace(t, s, 0, 2, true)
	wantPlace(t, s, top, 6, true)
	wantPlace(t, s, 1, 0, false)
}

func wantLift(t *testing.T, from, to api.Schema, row, want []api.Value) {
	t.Helper()
	if got := Lift(from, to, row); !slices.Equal(got, want) {
		t.Errorf("Lift(%v, %v, %v) = %v; want %v", from, to, row, got, want)
	}
}

func TestP84LiftToOneThatGrew(t *testing.T) {
	for n := 1; n <= api.MaxFields; n++ {
		for m := n; m <= api.MaxFields; m++ {
			for _, row := range rowsOf(wide(n)) {
				wantLift(t, wide(n), wide(m), row, slices.Concat(row, make([]api.Value, m-n)))
			}
		}
	}
}

func TestP84LiftToFewerFields(t *testing.T) {
	for n := 1; n <= api.MaxFields; n++ {
		for m := range n {
			for _, row := range rowsOf(wide(n)) {
				wantLift(t, wide(n), wide(m), row, row[:m])
			}
		}
	}
	from := wide(3)
	to := shape(from.Fields[2], from.Fields[0])
	wantLift(t, from, to, []api.Value{int64(7), true, "a"}, []api.Value{"a", int64(7)})
}

func TestP84LiftGoesByIdAlone(t *testing.T) {
	from := shape(api.Field{Id: 3, Name: "a", Kind: api.Whole}, api.Field{Id: 8, Name: "b", Kind: api.Text}, api.Field{Id: 0, Name: "c"})
	to := api.Schema{Id: 9, Fields: []api.Field{{Id: 8, Name: "a", Kind: api.Whole, Need: true}, {Id: 4, Name: "b", Kind: api.Text}, {Id: 0}, {Id: 3, Name: "z", Kind: 77}, {Id: 8}}}
	row := []api.Value{int64(7), "a", true}
	wantLift(t, from, to, row, []api.Value{"a", nil, true, int64(7), "a"})
	wantLift(t, to, from, []api.Value{int64(1), int64(2), int64(3), int64(4), int64(5)}, []api.Value{int64(4), int64(1), int64(3)})
}

func TestP84LiftOfAnIdThatStandsTwice(t *testing.T) {
	from := shape(api.Field{Id: 1}, api.Field{Id: 5}, api.Field{Id: 5}, api.Field{Id: 1})
	to := shape(api.Field{Id: 5}, api.Field{Id: 1}, api.Field{Id: 5})
	wantLift(t, from, to, []api.Value{"a", "b", "c", "d"}, []api.Value{"b", "a", "b"})
	wantLift(t, from, to, []api.Value{"a"}, []api.Value{nil, "a", nil})
	wantLift(t, from, to, []api.Value{"a", nil, "c", "d"}, []api.Value{nil, "a", nil})
}

func TestP84LiftOfRowsThatDontFit(t *testing.T) {
	s := wide(4)
	full := []api.Value{"far", nil, int64(2), strings.Repeat("x", 100)}
	for n := range len(full) + 1 {
		wantLift(t, s, s, full[:n], slices.Concat(full[:n], make([]api.Value, 4-n)))
		wantLift(t, s, wide(6), full[:n], slices.Concat(full[:n], make([]api.Value, 6-n)))
	}
	wantLift(t, s, s, append(full, "more", "still more"), full)
	wantLift(t, wide(2), s, full, []api.Value{"far", nil, nil, nil})
	wantLift(t, s, s, nil, make([]api.Value, 4))
}

func TestP84LiftOfNothing(t *testing.T) {
	row := []api.Value{int64(7), true}
	wantLift(t, api.Schema{}, api.Schema{}, nil, nil)
	wantLift(t, wide(2), api.Schema{}, row, nil)
	wantLift(t, api.Schema{}, wide(2), row, []api.Value{nil, nil})
}

func TestP86WhatAddMakesMayBe(t *testing.T) {
	names := append(goodNames(), badNames()...)
	for _, s := range goodSchemas() {
		for i, name := range names {
			got, e := Add(s, name, api.Kind(i%5))
			if e != api.OK {
				continue
			}
			wantCheck(t, got, api.OK)
			for _, row := range rowsOf(s) {
				wantFit(t, got, Lift(s, got, row), api.OK)
			}
		}
	}
}

func TestP86LiftToTheSameChangesNothing(t *testing.T) {
	for _, s := range goodSchemas() {
		for _, row := range rowsOf(s) {
			wantLift(t, s, s, row, row)
		}
	}
}

func TestP86LiftInTwoStepsIsInOne(t *testing.T) {
	grown := []api.Schema{with(wide(1), 0, func(f *api.Field) { f.Id = 40 })}
	for n := 1; n < api.MaxFields; n++ {
		s, e := Add(grown[n-1], string(rune('a'+n)), api.Kind(n%3+1))
		if e != api.OK {
			t.Fatal(e)
		}
		grown = append(grown, s)
	}
	for i, a := range grown {
		for k, b := range grown[i:] {
			for _, c := range grown[i+k:] {
				for _, row := range rowsOf(a) {
					wantLift(t, b, c, Lift(a, b, row), Lift(a, c, row))
					wantFit(t, c, Lift(a, c, row), api.OK)
				}
			}
		}
	}
}

// spare is l with room behind it in which something stands.
func spare[T any](l []T, mark T) []T {
	return append(slices.Clone(l), mark, mark)[:len(l)]
}

func TestWhatIsHandedInStays(t *testing.T) {
	mark := api.Field{Id: 77, Name: "mark", Kind: 7}
	var list []wrong
	for _, s := range goodSchemas() {
		list = append(list, wrong{s: s})
	}
	for _, c := range append(list, badSchemas()...) {
		s := copied(c.s)
		s.Fields = spare(s.Fields, mark)
		fields := slices.Clone(s.Fields[:len(s.Fields)+2])
		row := spare([]api.Value{int64(7), nil, "a"}, api.Value("mark"))
		values := slices.Clone(row[:5])
		Check(s)
		Add(s, "more", api.Whole)
		Fit(s, row)
		Place(s, 2)
		Lift(s, s, row)
		Lift(s, wide(8), row)
		Pack(s)
		if !slices.Equal(s.Fields[:len(s.Fields)+2], fields) || !slices.Equal(row[:5], values) {
			t.Errorf("%v became %v, or %v became %v", fields, s.Fields[:len(s.Fields)+2], values, row[:5])
		}
	}
}

func TestAnswersOfAddAreNewMemory(t *testing.T) {
	s := exampleSchema()
	s.Fields = spare(s.Fields, api.Field{})
	one, _ := Add(s, "age", api.Whole)
	other, _ := Add(s, "age", api.Whole)
	want := copied(other)
	clear(one.Fields[:cap(one.Fields)])
	if !sameSchema(other, want) || !sameSchema(s, exampleSchema()) {
		t.Error("what Add tells shares memory", other, s)
	}
	clear(s.Fields[:cap(s.Fields)])
	if !sameSchema(other, want) {
		t.Error("Add keeps what it was handed", other)
	}
	next, _ := Add(other, "b", api.Text)
	third, _ := Add(other, "c", api.Text)
	if next.Fields[3].Name != "b" || third.Fields[3].Name != "c" {
		t.Error("two that grew of one share memory", next, third)
	}
}

func TestAnswersOfLiftAreNewMemory(t *testing.T) {
	s := wide(3)
	row := []api.Value{int64(7), true, "a"}
	want := slices.Clone(row)
	one, other := Lift(s, s, row), Lift(s, s, row)
	clear(one[:cap(one)])
	if !slices.Equal(row, want) || !slices.Equal(other, want) {
		t.Error("what Lift tells shares memory", row, other)
	}
	clear(row)
	if !slices.Equal(other, want) {
		t.Error("Lift keeps what it was handed", other)
	}
}

func TestTheSameIsAnsweredAgain(t *testing.T) {
	for _, s := range goodSchemas() {
		a, e := Add(s, "more", api.Text)
		b, f := Add(s, "more", api.Text)
		if !reflect.DeepEqual(a, b) || e != f || Check(s) != api.OK {
			t.Errorf("of %v: %v, %d and %v, %d", s, a, e, b, f)
		}
	}
}

func TestExamplesOfTheChapter(t *testing.T) {
	s := exampleSchema()
	u, e := Add(s, "age", api.Whole)
	if e != api.OK || u.Id != 2 || len(u.Fields) != 3 || u.Fields[2] != (api.Field{Id: 3, Name: "age", Kind: api.Whole}) {
		t.Errorf("Add(.., age, Whole) = %v, %d", u, e)
	}
	wantFit(t, s, []api.Value{int64(7), nil}, api.OK)
	wantFit(t, s, []api.Value{nil, "a"}, api.ErrNeed)
	wantFit(t, s, []api.Value{int64(7), int64(8)}, api.ErrKind)
	wantLift(t, s, u, []api.Value{int64(7), "a"}, []api.Value{int64(7), "a", nil})
}
