package colfile

import (
	"slices"
	"strings"
	"testing"

	"catchment/api"
	"catchment/pred"
)

const ofNone = 3 // no field's Id of allKinds

func cellOf(v any) api.Cell {
	switch x := v.(type) {
	case int:
		return whole(int64(x))
	case int64:
		return whole(x)
	case bool:
		return truth(x)
	case string:
		return word(x)
	}
	return api.Cell{}
}

// on is a predicate on a field; v: a value, or an int.
func on(op byte, field uint32, v any) api.Pred {
	return api.Pred{Op: op, Field: field, Value: cellOf(v)}
}

func and(l ...api.Pred) api.Pred { return api.Pred{Op: api.And, Kids: l} }
func or(l ...api.Pred) api.Pred  { return api.Pred{Op: api.Or, Kids: l} }
func not(l ...api.Pred) api.Pred { return api.Pred{Op: api.Not, Kids: l} }

// fourGroups has rows of allKinds; by two in a group there are four groups.
func fourGroups() [][]api.Value {
	return [][]api.Value{
		{int64(1), "a", true, nil}, {int64(2), "abcdef", nil, nil},
		{int64(3), nil, false, nil}, {int64(4), nil, false, nil},
		{int64(5), "b", true, int64(7)}, {int64(6), "abcde", nil, int64(8)},
		{int64(9), "\xff", nil, nil},
	}
}

// query is a predicate, which rows of fourGroups it finds, and how many groups are looked at.
type query struct {
	p      api.Pred
	places []int
	looked int
}

func queriesOfFields() []query {
	all := []int{0, 1, 2, 3, 4, 5, 6}
	return []query{
		{on(api.Eq, ofWhole, 1), []int{0}, 1},
		{on(api.Eq, ofWhole, 9), []int{6}, 1},
		{on(api.Eq, ofWhole, 5), []int{4}, 1},
		{on(api.Eq, ofWhole, 7), nil, 0},
		{on(api.Lt, ofWhole, 1), nil, 0},
		{on(api.Lt, ofWhole, 2), []int{0}, 1},
		{on(api.Lt, ofWhole, 9), []int{0, 1, 2, 3, 4, 5}, 3},
		{on(api.Lt, ofWhole, 10), all, 4},
		{on(api.Le, ofWhole, 0), nil, 0},
		{on(api.Le, ofWhole, 1), []int{0}, 1},
		{on(api.Le, ofWhole, 8), []int{0, 1, 2, 3, 4, 5}, 3},
		{on(api.Le, ofWhole, 9), all, 4},
		{on(api.Eq, ofText, "a"), []int{0}, 2},
		{on(api.Eq, ofText, "abcdef"), []int{1}, 3},
		{on(api.Eq, ofText, "zz"), nil, 1},
		{on(api.Eq, ofText, "\xff"), []int{6}, 1},
		{on(api.Lt, ofText, "abcde"), []int{0}, 3},
		{on(api.Le, ofText, "abcd"), []int{0}, 3},
		{on(api.Lt, ofText, ""), nil, 0},
		{on(api.Le, ofText, ""), nil, 1},
		{on(api.Like, ofText, "a%"), []int{0, 1, 5}, 3},
		{on(api.Like, ofText, "_"), []int{0, 4, 6}, 3},
		{on(api.Like, ofText, "%"), []int{0, 1, 4, 5, 6}, 3},
		{on(api.Like, ofText, "zzz"), nil, 3},
		{on(api.IsNull, ofWhole, nil), nil, 0},
		{on(api.IsNull, ofText, nil), []int{2, 3}, 1},
		{on(api.IsNull, ofTruth, nil), []int{1, 5, 6}, 3},
		{on(api.IsNull, ofMore, nil), []int{0, 1, 2, 3, 6}, 3},
		{on(api.Eq, ofTruth, true), []int{0, 4}, 2},
		{on(api.Eq, ofTruth, false), []int{2, 3}, 1},
		{on(api.Lt, ofTruth, false), nil, 0},
		{on(api.Lt, ofTruth, true), []int{2, 3}, 1},
		{on(api.Le, ofTruth, true), []int{0, 2, 3, 4}, 3},
		{on(api.Eq, ofMore, 7), []int{4}, 1},
		{on(api.Lt, ofMore, 7), nil, 0},
		{on(api.Lt, ofMore, 8), []int{4}, 1},
		{on(api.Le, ofMore, 100), []int{4, 5}, 1},
	}
}

func queriesOfKids() []query {
	all := []int{0, 1, 2, 3, 4, 5, 6}
	return []query{
		{and(), all, 4},
		{or(), nil, 0},
		{not(or()), all, 4},
		{not(and()), nil, 0},
		{not(on(api.Eq, ofWhole, 1)), []int{1, 2, 3, 4, 5, 6}, 4},
		{not(on(api.Eq, ofWhole, 9)), []int{0, 1, 2, 3, 4, 5}, 3},
		{not(on(api.Lt, ofWhole, 5)), []int{4, 5, 6}, 2},
		{not(on(api.Le, ofWhole, 9)), nil, 0},
		{not(on(api.Like, ofText, "a%")), []int{4, 6}, 3},
		{not(on(api.IsNull, ofText, nil)), []int{0, 1, 4, 5, 6}, 3},
		{not(not(on(api.Eq, ofWhole, 9))), []int{6}, 1},
		{and(on(api.Lt, ofWhole, 3), on(api.IsNull, ofTruth, nil)), []int{1}, 1},
		{and(on(api.Eq, ofWhole, 1), on(api.Eq, ofWhole, 9)), nil, 0},
		{and(on(api.Eq, ofWhole, 1), on(api.Eq, ofWhole, 2)), nil, 1},
		{and(on(api.Lt, ofWhole, 9), not(on(api.IsNull, ofMore, nil))), []int{4, 5}, 1},
		{or(on(api.Eq, ofWhole, 1), on(api.Eq, ofWhole, 9)), []int{0, 6}, 2},
		{or(on(api.IsNull, ofText, nil), on(api.Eq, ofWhole, 6)), []int{2, 3, 5}, 2},
		{or(on(api.Eq, ofTruth, true), on(api.Eq, ofTruth, false)), []int{0, 2, 3, 4}, 3},
		{or(and(on(api.Eq, ofWhole, 4), on(api.IsNull, ofText, nil)), not(on(api.Lt, ofWhole, 9))), []int{3, 6}, 2},
	}
}

func wantFind(t *testing.T, f *File, p api.Pred, want [][]api.Value, looked int) {
	t.Helper()
	rows, n := f.Find(p)
	if !sameRows(rows, want) || n != looked {
		t.Errorf("Find(%v) = %q, %d; want %q, %d", p, rows, n, want, looked)
	}
}

func TestP104FindOfEachOp(t *testing.T) {
	rows := fourGroups()
	f := fileOf(t, source{allKinds(), rows, 2})
	for _, q := range append(queriesOfFields(), queriesOfKids()...) {
		wantFind(t, f, q.p, rowsAt(rows, q.places), q.looked)
	}
}

func rowsAt(rows [][]api.Value, places []int) [][]api.Value {
	var out [][]api.Value
	for _, i := range places {
		out = append(out, rows[i])
	}
	return out
}

func TestP104RowsDoNotHangOnGroups(t *testing.T) {
	rows := fourGroups()
	for group := 1; group <= len(rows)+1; group++ {
		f := fileOf(t, source{allKinds(), rows, group})
		for _, q := range append(queriesOfFields(), queriesOfKids()...) {
			got, looked := f.Find(q.p)
			if !sameRows(got, rowsAt(rows, q.places)) {
				t.Errorf("by %d: Find(%v) = %q; want %v", group, q.p, got, q.places)
			}
			if looked > f.Groups() || len(got) > 0 && looked == 0 {
				t.Errorf("by %d: Find(%v) looked at %d", group, q.p, looked)
			}
		}
	}
}

func TestP104ManyGroups(t *testing.T) {
	var rows [][]api.Value
	for i := range api.MaxRows {
		rows = append(rows, []api.Value{int64(i), "a"})
	}
	for _, c := range []struct {
		p             api.Pred
		group         int
		begin, end, n int
	}{
		{on(api.Eq, 1, 0), 64, 0, 1, 1},
		{on(api.Eq, 1, 255), 64, 255, 256, 1},
		{on(api.Eq, 1, 256), 64, 0, 0, 0},
		{on(api.Eq, 1, -1), 64, 0, 0, 0},
		{on(api.Lt, 1, 64), 64, 0, 64, 1},
		{on(api.Le, 1, 64), 64, 0, 65, 2},
		{not(on(api.Lt, 1, 192)), 64, 192, 256, 1},
		{not(on(api.Le, 1, 190)), 64, 191, 256, 2},
		{on(api.Eq, 2, "a"), 64, 0, 256, 4},
		{on(api.Eq, 2, "b"), 64, 0, 0, 0},
		{on(api.Eq, 1, 200), 1, 200, 201, 1},
		{on(api.Lt, 1, 200), 1, 0, 200, 200},
		{and(), 1, 0, 256, 256},
		{and(on(api.Lt, 1, 100), not(on(api.Lt, 1, 90))), 7, 90, 100, 3},
	} {
		f := fileOf(t, source{exampleSchema(), rows, c.group})
		wantFind(t, f, c.p, rows[c.begin:c.end], c.n)
	}
}

func TestP104FindInNoRows(t *testing.T) {
	f := fileOf(t, source{allKinds(), nil, 1})
	for _, q := range append(queriesOfFields(), queriesOfKids()...) {
		wantFind(t, f, q.p, nil, 0)
	}
}

// chain is p beneath as many Ands as make it depth deep.
func chain(depth int, p api.Pred) api.Pred {
	for range depth - 1 {
		p = and(p)
	}
	return p
}

func TestP104PredicatesThatMayNotBe(t *testing.T) {
	within := []api.Pred{{Op: api.And}}
	within[0].Kids = within
	yes := and()
	long := strings.Repeat("%", api.MaxText+1)
	withKids := on(api.IsNull, ofText, nil)
	withKids.Kids = []api.Pred{yes}
	f := fileOf(t, source{allKinds(), fourGroups(), 2})
	for _, p := range []api.Pred{
		{}, {Op: 9}, {Op: 255}, {Op: 0, Field: ofWhole, Value: whole(1)},
		on(api.Eq, ofNone, 1), on(api.IsNull, ofNone, nil), on(api.Eq, 0, 1), on(api.IsNull, 1, nil),
		on(api.Eq, ofWhole, "a"), on(api.Eq, ofText, 1), on(api.Lt, ofTruth, 1), on(api.Le, ofMore, true), on(api.Lt, ofWhole, true), on(api.Le, ofWhole, "a"),
		on(api.Eq, ofWhole, nil), on(api.Eq, ofText, nil), on(api.Lt, ofText, nil), on(api.Like, ofText, nil),
		on(api.Like, ofWhole, 1), on(api.Like, ofWhole, "%"), on(api.Like, ofText, long), on(api.Lt, ofText, long),
		on(api.IsNull, ofText, "a"), on(api.IsNull, ofText, 0), withKids,
		{Op: api.Eq, Field: ofWhole, Value: api.Cell{Kind: api.Whole, N: 1, S: "a"}}, {Op: api.Eq, Field: ofTruth, Value: api.Cell{Kind: api.Truth, N: 2}}, {Op: api.Eq, Field: ofWhole, Value: api.Cell{Kind: 4}},
		{Op: api.And, Field: ofWhole}, {Op: api.And, Value: whole(1)}, {Op: api.Or, Field: ofWhole, Kids: []api.Pred{yes}},
		not(), not(or(), or()), {Op: api.Not, Field: 1, Kids: []api.Pred{or()}},
		and(api.Pred{}), or(yes, on(api.IsNull, ofNone, nil)), not(on(api.Eq, ofWhole, nil)),
		and(slices.Repeat([]api.Pred{yes}, api.MaxNodes)...), or(slices.Repeat([]api.Pred{yes}, 10000)...),
		chain(api.MaxDepth+1, yes), chain(api.MaxDepth, not(or())), within[0],
	} {
		rows, n := f.Find(p)
		if len(rows) != 0 || n != 0 {
			t.Errorf("Find of one that may not be (%d, %d) = %q, %d", p.Op, p.Field, rows, n)
		}
	}
	wantFind(t, f, and(slices.Repeat([]api.Pred{yes}, api.MaxNodes-1)...), fourGroups(), 4)
	wantFind(t, f, chain(api.MaxDepth, yes), fourGroups(), 4)
}

// TestP104ForItsSchema: the fields are those of the file's own schema.
func TestP104ForItsSchema(t *testing.T) {
	f := fileOf(t, exampleSource())
	wantFind(t, f, on(api.IsNull, 2, nil), [][]api.Value{{int64(2), nil}}, 1)
	wantFind(t, f, on(api.IsNull, ofText, nil), nil, 0)
	swapped := api.Schema{Id: 9, Fields: []api.Field{{Id: 2, Name: "id", Kind: api.Whole, Need: true}, {Id: 7, Name: "b", Kind: api.Whole}}}
	g := fileOf(t, source{swapped, [][]api.Value{{int64(1), int64(2)}, {int64(2), int64(1)}}, 1})
	wantFind(t, g, on(api.Eq, 2, 1), [][]api.Value{{int64(1), int64(2)}}, 1)
	wantFind(t, g, on(api.Eq, 7, 1), [][]api.Value{{int64(2), int64(1)}}, 1)
	wantFind(t, g, on(api.Eq, 1, 1), nil, 0)
}

// predicatesFor has predicates of each Op on each field, with bounds that stand in the rows, lie between them, and beyond.
func predicatesFor(c source) []api.Pred {
	out := []api.Pred{and(), or()}
	for i, f := range c.s.Fields {
		out = append(out, on(api.IsNull, f.Id, nil))
		for _, v := range bounds(f.Kind, columnOf(c.rows, i)) {
			for _, op := range []byte{api.Eq, api.Lt, api.Le} {
				out = append(out, on(op, f.Id, v))
			}
			if f.Kind == api.Text {
				out = append(out, on(api.Like, f.Id, v), on(api.Like, f.Id, v.(string)[:min(2, len(v.(string)))]+"%"))
			}
		}
	}
	plain := len(out)
	for i := range plain {
		out = append(out, not(out[i]), and(out[i], out[(i*7+3)%plain]), or(out[i], not(out[(i*5+2)%plain])))
	}
	return out
}

func bounds(k api.Kind, l []api.Value) []api.Value {
	out := map[api.Kind][]api.Value{
		api.Whole: {int64(least), int64(-1), int64(greatest)},
		api.Truth: {false, true},
		api.Text:  {"", "abcd", lastSign},
	}[k]
	if k != api.Truth && len(l) > 0 {
		for _, v := range []api.Value{l[0], l[len(l)/2], l[len(l)-1]} {
			if v != nil {
				out = append(out, v)
			}
		}
	}
	return out
}

// TestP104P105FindOfManySorts: what is found is what filtering all rows finds, and groups that aren't looked at have none of it.
func TestP104P105FindOfManySorts(t *testing.T) {
	for i, c := range sources() {
		if i >= len(smallSources()) && i%11 != 0 || len(c.rows) > 2*api.MaxGroup && c.group == 1 {
			continue
		}
		f := fileOf(t, c)
		for _, p := range predicatesFor(c) {
			if pred.Check(p, c.s) != api.OK {
				continue
			}
			var want [][]api.Value
			looked := 0
			for begin := 0; begin < len(c.rows); begin += c.group {
				rows := c.rows[begin:min(begin+c.group, len(c.rows))]
				found := filtered(c.s, rows, p)
				want = append(want, found...)
				if mayBeYes(c.s, rows, p) {
					looked++
				} else if len(found) > 0 {
					t.Fatalf("%v is Yes for %q, but its group isn't looked at", p, found)
				}
			}
			wantFind(t, f, p, want, looked)
		}
	}
}

func filtered(s api.Schema, rows [][]api.Value, p api.Pred) [][]api.Value {
	var out [][]api.Value
	for _, row := range rows {
		if pred.Eval(p, s, row) == api.Yes {
			out = append(out, row)
		}
	}
	return out
}

func mayBeYes(s api.Schema, rows [][]api.Value, p api.Pred) bool {
	var stats []api.Stat
	for i := range s.Fields {
		stats = append(stats, pred.Stats(columnOf(rows, i)))
	}
	return pred.May(p, s, stats)[api.Yes]
}
