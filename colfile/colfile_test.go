package colfile

import (
	"bytes"
	"slices"
	"strings"
	"testing"

	"catchment/api"
	"catchment/pred"
)

func TestP101WriteOfManySorts(t *testing.T) {
	for _, c := range sources() {
		if got, want := written(t, c), partsOf(c).bytes(); !bytes.Equal(got, want) {
			t.Fatalf("Write(%v, %q, %d) = %d; want %d", c.s, c.rows, c.group, got, want)
		}
	}
}

// TestP101KnownBytes has bytes that were put together by hand, each from the chapters' words.
func TestP101KnownBytes(t *testing.T) {
	const shape1 = "\x01\x02\x01\x02id\x01\x01\x02\x04name\x03\x00"
	const keyOfTexts = "\x01\x01\x01\x02id\x03\x01"
	const withFlag = "\x01\x02\x01\x02id\x01\x01\x02\x01f\x02\x00"
	flagged := shape(key(api.Whole), api.Field{Id: 2, Name: "f", Kind: api.Truth})
	for _, c := range []struct {
		source
		want string
	}{
		{exampleSource(), "CF1" +
			"\x00\x00\x02" + "\x00\x00\x02\x00\x02a" + "\x00\x00\x04" + "\x01\x00\x00\x01\x00" +
			shape1 + "\x02\x01" + "\x03\x00\x03\x02\x02" + "\x06\x00\x03\x01a\x01a" + "\x03\x00\x03\x04\x04" + "\x05\x01\x00" +
			"\x26\x00\x00\x00"},
		{source{exampleSchema(), nil, 1}, "CF1" + shape1 + "\x00\x01" + "\x12\x00\x00\x00"},
		{source{exampleSchema(), nil, api.MaxGroup}, "CF1" + shape1 + "\x00\x40" + "\x12\x00\x00\x00"},
		{source{flagged, [][]api.Value{{int64(-1), true}, {int64(-1), false}, {int64(3), nil}}, 2}, "CF1" +
			"\x00\x00\x01\x01" + "\x00\x01" + "\x00\x00\x06" + "\x01\x00" +
			withFlag + "\x03\x02" + "\x04\x00\x03\x01\x01" + "\x02\x00\x03\x00\x01" + "\x03\x00\x03\x06\x06" + "\x02\x01\x00" +
			"\x21\x00\x00\x00"},
		{source{flagged, [][]api.Value{{int64(1), true}, {int64(2), nil}}, 3}, "CF1" +
			"\x00\x00\x02\x04" + "\x01\x01\x01" +
			withFlag + "\x02\x03" + "\x04\x00\x03\x02\x04" + "\x03\x01\x03\x01\x01" +
			"\x19\x00\x00\x00"},
		{source{shape(key(api.Text)), [][]api.Value{{"abcde"}}, 1}, "CF1" +
			"\x00\x00\x02\x00\x0aabcde" +
			keyOfTexts + "\x01\x01" + "\x0a\x00\x03\x04abcd\x04abce" +
			"\x17\x00\x00\x00"},
		{source{shape(key(api.Text)), [][]api.Value{{"\xff"}, {""}}, 1}, "CF1" +
			"\x00\x00\x02\x00\x02\xff" + "\x00\x00\x02\x00\x00" +
			keyOfTexts + "\x02\x01" + "\x06\x00\x01\x00" + "\x05\x00\x03\x00\x00" +
			"\x13\x00\x00\x00"},
	} {
		if got, want := written(t, c.source), seal([]byte(c.want)); !bytes.Equal(got, want) {
			t.Errorf("Write(%v, %q, %d) =\n%q; want\n%q", c.s, c.rows, c.group, got, want)
		}
	}
}

func wantNoWrite(t *testing.T, c source, want api.Errno) {
	t.Helper()
	if b, e := Write(c.s, c.rows, c.group); e != want || len(b) != 0 {
		t.Errorf("Write(%v, %d rows, %d) = %d, %d; want %d", c.s, len(c.rows), c.group, b, e, want)
	}
}

// wrongSchema is a schema, and why it may not be.
type wrongSchema struct {
	s    api.Schema
	want api.Errno
}

func wrongSchemas() []wrongSchema {
	whole := key(api.Whole)
	return []wrongSchema{
		{api.Schema{}, api.ErrArg},
		{shape(), api.ErrArg},
		{api.Schema{Fields: []api.Field{whole}}, api.ErrArg},
		{shape(slices.Repeat([]api.Field{whole}, api.MaxFields+1)...), api.ErrArg},
		{shape(api.Field{Name: "id", Kind: api.Whole, Need: true}), api.ErrField},
		{shape(whole, api.Field{Id: 1, Name: "b", Kind: api.Text}), api.ErrField},
		{shape(whole, api.Field{Id: 2, Name: "id", Kind: api.Text}), api.ErrName},
		{shape(whole, api.Field{Id: 2, Name: "B", Kind: api.Text}), api.ErrName},
		{shape(whole, api.Field{Id: 2, Kind: api.Text}), api.ErrName},
		{shape(whole, api.Field{Id: 2, Name: strings.Repeat("a", api.MaxName+1), Kind: api.Text}), api.ErrName},
		{shape(whole, api.Field{Id: 2, Name: "b"}), api.ErrKind},
		{shape(whole, api.Field{Id: 2, Name: "b", Kind: 4}), api.ErrKind},
		{shape(key(api.Null)), api.ErrKind},
		{shape(key(api.Truth)), api.ErrNeed},
		{shape(api.Field{Id: 1, Name: "id", Kind: api.Whole}), api.ErrNeed},
		{shape(whole, api.Field{Id: 2, Name: "b", Kind: api.Text, Need: true}), api.ErrNeed},
	}
}

// wrongRow is a row of allKinds, and why it doesn't fit.
type wrongRow struct {
	row  []api.Value
	want api.Errno
}

func wrongRows() []wrongRow {
	long := strings.Repeat("a", api.MaxText+1)
	return []wrongRow{
		{nil, api.ErrArg},
		{[]api.Value{}, api.ErrArg},
		{[]api.Value{int64(1)}, api.ErrArg},
		{[]api.Value{int64(1), "a", true}, api.ErrArg},
		{[]api.Value{int64(1), "a", true, int64(2), nil}, api.ErrArg},
		{[]api.Value{nil, "a", true, int64(2)}, api.ErrNeed},
		{[]api.Value{nil, nil, nil, nil}, api.ErrNeed},
		{[]api.Value{"a", "a", true, int64(2)}, api.ErrKind},
		{[]api.Value{int64(1), int64(1), true, int64(2)}, api.ErrKind},
		{[]api.Value{int64(1), "a", "a", int64(2)}, api.ErrKind},
		{[]api.Value{int64(1), "a", true, true}, api.ErrKind},
		{[]api.Value{int64(1), long, true, int64(2)}, api.ErrLong},
		{[]api.Value{int64(1), long, int64(2), int64(2)}, api.ErrLong},
		{[]api.Value{int64(1), true, true, "a"}, api.ErrKind},
		{[]api.Value{nil, long, "a", "a"}, api.ErrNeed},
	}
}

func TestP101SchemasThatMayNotBe(t *testing.T) {
	for _, c := range wrongSchemas() {
		wantNoWrite(t, source{c.s, nil, 1}, c.want)
		wantNoWrite(t, source{c.s, [][]api.Value{{int64(1)}}, 1}, c.want)
	}
}

func TestP101GroupsThatMayNotBe(t *testing.T) {
	for _, group := range []int{0, -1, api.MaxGroup + 1, least, greatest, api.MaxRows, 1 << 32} {
		wantNoWrite(t, source{exampleSchema(), nil, group}, api.ErrArg)
		wantNoWrite(t, source{exampleSchema(), exampleSource().rows, group}, api.ErrArg)
	}
}

func TestP101TooManyRows(t *testing.T) {
	for _, n := range []int{api.MaxRows + 1, api.MaxRows + 2, 2 * api.MaxRows, 100000} {
		for _, group := range []int{1, 7, api.MaxGroup} {
			wantNoWrite(t, source{exampleSchema(), slices.Repeat([][]api.Value{{int64(1), "a"}}, n), group}, api.ErrLong)
		}
	}
}

func TestP101RowsThatDoNotFit(t *testing.T) {
	const n = 5
	for _, c := range wrongRows() {
		for at := range n {
			rows := rowsOf(allKinds(), n, fillings()[1], nullPatterns(n)[0])
			rows[at] = c.row
			for _, group := range []int{1, 2, n, api.MaxGroup} {
				wantNoWrite(t, source{allKinds(), rows, group}, c.want)
			}
		}
		wantNoWrite(t, source{allKinds(), [][]api.Value{c.row}, 1}, c.want)
		last := rowsOf(allKinds(), api.MaxRows, fillings()[1], nullPatterns(n)[0])
		last[api.MaxRows-1] = c.row
		wantNoWrite(t, source{allKinds(), last, api.MaxGroup}, c.want)
	}
}

func TestP101TheFirstRowThatDoesNotFitIsTold(t *testing.T) {
	for _, a := range wrongRows() {
		for _, b := range wrongRows() {
			wantNoWrite(t, source{allKinds(), [][]api.Value{a.row, b.row}, 1}, a.want)
			wantNoWrite(t, source{allKinds(), [][]api.Value{{int64(1), nil, nil, nil}, a.row, b.row}, 2}, a.want)
		}
	}
}

func TestP101OrderOfErrors(t *testing.T) {
	bad := shape(key(api.Truth))
	misfit := [][]api.Value{{nil, nil}}
	many := slices.Repeat(misfit, api.MaxRows+1)
	wantNoWrite(t, source{bad, many, 0}, api.ErrNeed)
	wantNoWrite(t, source{bad, many, 1}, api.ErrNeed)
	wantNoWrite(t, source{bad, misfit, 0}, api.ErrNeed)
	wantNoWrite(t, source{bad, misfit, 1}, api.ErrNeed)
	wantNoWrite(t, source{exampleSchema(), many, 0}, api.ErrArg)
	wantNoWrite(t, source{exampleSchema(), many, api.MaxGroup + 1}, api.ErrArg)
	wantNoWrite(t, source{exampleSchema(), misfit, 0}, api.ErrArg)
	wantNoWrite(t, source{exampleSchema(), many, 1}, api.ErrLong)
	full := sized(t, api.MaxBytes+1)
	wantNoWrite(t, full, api.ErrFull)
	rows := clonedRows(full.rows)
	rows[api.MaxRows-1][0] = nil
	wantNoWrite(t, source{full.s, rows, full.group}, api.ErrNeed)
	wantNoWrite(t, source{full.s, append(rows, rows[0]), full.group}, api.ErrLong)
	wantNoWrite(t, source{full.s, rows, 0}, api.ErrArg)
}

// sized is a source whose file has just that many bytes, MaxBytes or some more or less.
func sized(t *testing.T, size int) source {
	t.Helper()
	c := source{s: api.Schema{Id: 1}, group: api.MaxGroup}
	for i := range api.MaxFields {
		c.s.Fields = append(c.s.Fields, api.Field{Id: uint32(i + 1), Name: string(rune('a' + i)), Kind: api.Text, Need: i == 0})
	}
	const short = 30 // bytes of each text at first: of all together they leave some room
	for i := range api.MaxRows {
		c.rows = append(c.rows, make([]api.Value, api.MaxFields))
		for at := range c.rows[i] {
			c.rows[i][at] = longText(i*api.MaxFields+at, short)
		}
	}
	// Texts are made longer one by one, till names are enough for the rest: each of their bytes is just one of the file.
	const byNames = api.MaxFields * (api.MaxName - 1)
	left := func() int { return size - len(partsOf(c).bytes()) }
	for at := 0; left() > byNames; {
		for range max(1, left()-byNames) {
			const cells = api.MaxRows * api.MaxFields
			cell := at % cells
			c.rows[cell/api.MaxFields][cell%api.MaxFields] = longText(cell, short+1+at/cells)
			at++
		}
	}
	rest := left()
	for i := range c.s.Fields {
		more := max(0, min(rest, api.MaxName-1))
		c.s.Fields[i].Name += strings.Repeat("x", more)
		rest -= more
	}
	if left() != 0 {
		t.Fatalf("no file of %d bytes: %d are left", size, left())
	}
	return c
}

// longText is a text of n bytes that is like no other one.
func longText(i, n int) string {
	b := make([]byte, n)
	for at := range b {
		b[at] = 'a' + byte(mixed(i*64+at)>>40%26)
	}
	b[0], b[1], b[2] = 'a'+byte(i%26), 'a'+byte(i/26%26), 'a'+byte(i/676%26)
	return string(b)
}

func TestP101AsManyBytesAsMayBe(t *testing.T) {
	for _, less := range []int{0, 1, 2, 100} {
		c := sized(t, api.MaxBytes-less)
		b := written(t, c)
		if len(b) != api.MaxBytes-less || !bytes.Equal(b, partsOf(c).bytes()) {
			t.Errorf("%d bytes; want %d", len(b), api.MaxBytes-less)
		}
		wantFile(t, opened(t, b), c)
	}
	for _, more := range []int{1, 2, 3, 4, 5, 100, 5000} {
		wantNoWrite(t, sized(t, api.MaxBytes+more), api.ErrFull)
	}
	all := source{s: sized(t, api.MaxBytes).s, group: 1}
	for i := range api.MaxRows {
		all.rows = append(all.rows, nil)
		for at := range api.MaxFields {
			all.rows[i] = append(all.rows[i], longText(i*api.MaxFields+at, api.MaxText))
		}
	}
	wantNoWrite(t, all, api.ErrFull)
}

func TestRule4ListsOfNothing(t *testing.T) {
	s := exampleSchema()
	a, b := written(t, source{s, nil, 1}), written(t, source{s, [][]api.Value{}, 1})
	if !bytes.Equal(a, b) {
		t.Errorf("of nil %d, of none %d", a, b)
	}
	if got := fileOf(t, source{s, nil, 1}).All(); len(got) != 0 {
		t.Errorf("All of no rows: %v", got)
	}
}

// wantFile holds the file against its source.
func wantFile(t *testing.T, f *File, c source) {
	t.Helper()
	groups := (len(c.rows) + c.group - 1) / c.group
	if !sameSchema(f.Schema(), c.s) || f.Rows() != len(c.rows) || f.Groups() != groups {
		t.Fatalf("%v, %d rows, %d groups; want %v, %d, %d", f.Schema(), f.Rows(), f.Groups(), c.s, len(c.rows), groups)
	}
	if got := f.All(); !sameRows(got, c.rows) {
		t.Fatalf("All = %q; want %q", got, c.rows)
	}
	for i := range c.s.Fields {
		want := pred.Stats(columnOf(c.rows, i))
		if got, ok := f.Stat(i); !ok || got != want {
			t.Fatalf("Stat(%d) of %q = %+v, %t; want %+v", i, c.rows, got, ok, want)
		}
	}
	for _, i := range []int{-1, len(c.s.Fields), len(c.s.Fields) + 1, least, greatest, -len(c.s.Fields), 1 << 32} {
		if got, ok := f.Stat(i); ok || got != (api.Stat{}) {
			t.Fatalf("Stat(%d) = %+v, %t", i, got, ok)
		}
	}
}

func TestP103P105OpenOfWrite(t *testing.T) {
	for _, c := range sources() {
		wantFile(t, fileOf(t, c), c)
	}
}

func TestP103Groups(t *testing.T) {
	for _, c := range []struct{ rows, group, want int }{
		{0, 1, 0}, {0, api.MaxGroup, 0}, {1, 1, 1}, {1, 2, 1}, {2, 1, 2}, {2, 2, 1}, {3, 2, 2}, {4, 2, 2}, {5, 2, 3},
		{63, 64, 1}, {64, 64, 1}, {65, 64, 2}, {255, 64, 4}, {256, 64, 4}, {256, 63, 5}, {256, 1, 256}, {255, 1, 255},
	} {
		rows := slices.Repeat([][]api.Value{{int64(1), "a"}}, c.rows)
		f := fileOf(t, source{exampleSchema(), rows, c.group})
		if f.Rows() != c.rows || f.Groups() != c.want {
			t.Errorf("%d rows by %d: %d rows, %d groups; want %d", c.rows, c.group, f.Rows(), f.Groups(), c.want)
		}
	}
}

func whole(n int64) api.Cell { return api.Cell{Kind: api.Whole, N: n} }
func word(s string) api.Cell { return api.Cell{Kind: api.Text, S: s} }

func truth(is bool) api.Cell {
	if is {
		return api.Cell{Kind: api.Truth, N: 1}
	}
	return api.Cell{Kind: api.Truth}
}

func wantStat(t *testing.T, f *File, i int, want api.Stat) {
	t.Helper()
	if got, ok := f.Stat(i); !ok || got != want {
		t.Errorf("Stat(%d) = %+v, %t; want %+v", i, got, ok, want)
	}
}

func TestP103StatIsOfAllGroupsTogether(t *testing.T) {
	rows := [][]api.Value{
		{int64(5), "abcdef", nil, nil},
		{int64(9), "b", false, nil},
		{int64(-3), nil, nil, nil},
		{int64(4), "abcde", true, nil},
		{int64(4), nil, true, nil},
	}
	for group := 1; group <= 6; group++ {
		f := fileOf(t, source{allKinds(), rows, group})
		wantStat(t, f, 0, api.Stat{Rows: 5, Some: true, High: true, Min: whole(-3), Max: whole(9)})
		wantStat(t, f, 1, api.Stat{Rows: 5, Nulls: 2, Some: true, High: true, Min: word("abcd"), Max: word("b")})
		wantStat(t, f, 2, api.Stat{Rows: 5, Nulls: 2, Some: true, High: true, Min: truth(false), Max: truth(true)})
		wantStat(t, f, 3, api.Stat{Rows: 5, Nulls: 5})
	}
}

// TestP103StatIsOfTheValues: what the groups' bounds are doesn't tell what the bounds of all values are.
func TestP103StatIsOfTheValues(t *testing.T) {
	above := strings.Repeat(lastSign, 5)
	for _, c := range []struct {
		l    []string
		want api.Stat
	}{
		{[]string{"", "a"}, api.Stat{Rows: 2, Some: true, High: true, Min: word(""), Max: word("a")}},
		{[]string{"abcd", "abce"}, api.Stat{Rows: 2, Some: true, High: true, Min: word("abcd"), Max: word("abce")}},
		{[]string{"abcdz", "abce"}, api.Stat{Rows: 2, Some: true, High: true, Min: word("abcd"), Max: word("abce")}},
		{[]string{"abcez", "abcd"}, api.Stat{Rows: 2, Some: true, High: true, Min: word("abcd"), Max: word("abcf")}},
		{[]string{"a", above, "b"}, api.Stat{Rows: 3, Some: true, Min: word("a")}},
		{[]string{"a", "c", "b\xff"}, api.Stat{Rows: 3, Some: true, Min: word("")}},
		{[]string{"\xff", "c", "d"}, api.Stat{Rows: 3, Some: true, Min: word("")}},
	} {
		var rows [][]api.Value
		for _, s := range c.l {
			rows = append(rows, []api.Value{s})
		}
		for group := 1; group <= len(rows)+1; group++ {
			wantStat(t, fileOf(t, source{shape(key(api.Text)), rows, group}), 0, c.want)
		}
	}
}

func TestP103StatOfNoRows(t *testing.T) {
	f := fileOf(t, source{allKinds(), nil, 1})
	for i := range allKinds().Fields {
		wantStat(t, f, i, api.Stat{})
	}
}

func TestExamples(t *testing.T) {
	b := written(t, exampleSource())
	f := opened(t, b)
	if f.Groups() != 2 || f.Rows() != 2 {
		t.Errorf("%d groups, %d rows", f.Groups(), f.Rows())
	}
	rows, n := f.Find(api.Pred{Op: api.Eq, Field: 1, Value: whole(2)})
	if !sameRows(rows, [][]api.Value{{int64(2), nil}}) || n != 1 {
		t.Errorf("Find(id 2) = %v, %d", rows, n)
	}
	for i := range b {
		turned := slices.Clone(b)
		turned[i] ^= 255
		if f, e := Open(turned); e != api.ErrSum || f != nil {
			t.Errorf("byte %d turned: %v, %d", i, f, e)
		}
	}
}
