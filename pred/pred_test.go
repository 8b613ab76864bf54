package pred

import (
	"math"
	"reflect"
	"slices"
	"strings"
	"testing"

	"catchment/api"
)

// The fields of fourFields: their Ids are none of their places.
const (
	ofWhole = 4
	ofText  = 5
	ofTruth = 9
	ofMore  = math.MaxUint32
	ofNone  = 3
)

// badKind is the first number behind those of the kinds.
const badKind = api.Text + 1

func fourFields() api.Schema {
	return api.Schema{Id: 2, Fields: []api.Field{
		{Id: ofWhole, Name: "id", Kind: api.Whole, Need: true},
		{Id: ofText, Name: "name", Kind: api.Text},
		{Id: ofTruth, Name: "flag", Kind: api.Truth},
		{Id: ofMore, Name: "more", Kind: api.Whole},
	}}
}

func cellOf(v any) api.Cell {
	switch x := v.(type) {
	case int:
		return api.Cell{Kind: api.Whole, N: int64(x)}
	case int64:
		return api.Cell{Kind: api.Whole, N: x}
	case bool:
		if x {
			return api.Cell{Kind: api.Truth, N: 1}
		}
		return api.Cell{Kind: api.Truth}
	case string:
		return api.Cell{Kind: api.Text, S: x}
	case api.Cell:
		return x
	}
	return api.Cell{}
}

// on is a predicate on a field; v: a value, an int, or a cell as it is.
func on(op byte, field uint32, v any) api.Pred {
	return api.Pred{Op: op, Field: field, Value: cellOf(v)}
}

func and(l ...api.Pred) api.Pred { return api.Pred{Op: api.And, Kids: l} }
func or(l ...api.Pred) api.Pred  { return api.Pred{Op: api.Or, Kids: l} }
func not(l ...api.Pred) api.Pred { return api.Pred{Op: api.Not, Kids: l} }

// chain is p beneath as many nodes as make it depth deep, their Ops by turns.
func chain(depth int, p api.Pred, ops ...byte) api.Pred {
	for i := 1; i < depth; i++ {
		p = api.Pred{Op: ops[i%len(ops)], Kids: []api.Pred{p}}
	}
	return p
}

// flat is a predicate of n nodes: one, and its Kids.
func flat(op byte, n int, kid api.Pred) api.Pred {
	return api.Pred{Op: op, Kids: slices.Repeat([]api.Pred{kid}, n-1)}
}

// refused is a cell that layer 1 refuses, and Check's error of it.
type refused struct {
	c    api.Cell
	want api.Errno
}

func refusedCells() []refused {
	long := strings.Repeat("a", api.MaxText+1)
	return []refused{
		{api.Cell{Kind: badKind}, api.ErrKind},
		{api.Cell{Kind: 255, N: 7, S: "a"}, api.ErrKind},
		{api.Cell{Kind: badKind, S: long}, api.ErrKind},
		{api.Cell{N: 1}, api.ErrPred},
		{api.Cell{S: "a"}, api.ErrPred},
		{api.Cell{Kind: api.Whole, N: 7, S: "a"}, api.ErrPred},
		{api.Cell{Kind: api.Truth, N: 2}, api.ErrPred},
		{api.Cell{Kind: api.Truth, N: -1}, api.ErrPred},
		{api.Cell{Kind: api.Truth, N: 1, S: "a"}, api.ErrPred},
		{api.Cell{Kind: api.Text, N: 1, S: "a"}, api.ErrPred},
		{api.Cell{Kind: api.Text, N: 1, S: long}, api.ErrPred},
		{api.Cell{Kind: api.Whole, S: long}, api.ErrPred},
		{api.Cell{Kind: api.Text, S: long}, api.ErrLong},
		{api.Cell{Kind: api.Text, S: strings.Repeat("%", api.MaxText+1)}, api.ErrLong},
	}
}

func wantCheck(t *testing.T, p api.Pred, want api.Errno) {
	t.Helper()
	if got := Check(p, fourFields()); got != want {
		t.Errorf("Check(%v) = %d; want %d", p, got, want)
	}
}

func TestP91CheckTakesEachOp(t *testing.T) {
	for _, p := range []api.Pred{
		on(api.Eq, ofWhole, 7), on(api.Lt, ofWhole, int64(math.MinInt64)), on(api.Le, ofMore, int64(math.MaxInt64)), on(api.Eq, ofMore, 0),
		on(api.Eq, ofText, ""), on(api.Lt, ofText, "a"), on(api.Le, ofText, strings.Repeat("a", api.MaxText)), on(api.Eq, ofText, "a\xff"),
		on(api.Eq, ofTruth, false), on(api.Lt, ofTruth, true), on(api.Le, ofTruth, false),
		on(api.Like, ofText, ""), on(api.Like, ofText, "a%_"), on(api.Like, ofText, strings.Repeat("%", api.MaxText)), on(api.Like, ofText, "\xff"),
		on(api.IsNull, ofWhole, nil), on(api.IsNull, ofText, nil), on(api.IsNull, ofTruth, nil), on(api.IsNull, ofMore, nil),
		and(), or(), and(and()), or(or(), and()), not(and()), not(not(or())),
		and(on(api.Eq, ofWhole, 7)), or(on(api.Eq, ofWhole, 7)), not(on(api.Eq, ofWhole, 7)),
		and(on(api.Eq, ofWhole, 7), on(api.Like, ofText, "a"), on(api.IsNull, ofTruth, nil)),
		or(on(api.Eq, ofWhole, 7), and(on(api.Lt, ofMore, 7), not(on(api.IsNull, ofTruth, nil)))),
		{Op: api.Eq, Field: ofWhole, Value: cellOf(7), Kids: []api.Pred{}}, {Op: api.And, Kids: []api.Pred{}},
	} {
		wantCheck(t, p, api.OK)
	}
}

func TestP91CheckOfHowManyNodes(t *testing.T) {
	leaf := on(api.Eq, ofWhole, 7)
	half := flat(api.Or, api.MaxNodes/2, leaf)
	wantCheck(t, leaf, api.OK)
	wantCheck(t, and(), api.OK)
	for _, op := range []byte{api.And, api.Or} {
		wantCheck(t, flat(op, api.MaxNodes-1, leaf), api.OK)
		wantCheck(t, flat(op, api.MaxNodes, leaf), api.OK)
		wantCheck(t, flat(op, api.MaxNodes+1, leaf), api.ErrPred)
		wantCheck(t, flat(op, api.MaxNodes+2, leaf), api.ErrPred)
		wantCheck(t, flat(op, 1<<16, leaf), api.ErrPred)
	}
	wantCheck(t, and(half, flat(api.And, api.MaxNodes/2-1, leaf)), api.OK)
	wantCheck(t, and(half, half), api.ErrPred)
	wantCheck(t, not(flat(api.And, api.MaxNodes-1, leaf)), api.OK)
	wantCheck(t, not(flat(api.And, api.MaxNodes, leaf)), api.ErrPred)
	wantCheck(t, and(flat(api.And, api.MaxNodes-2, leaf), leaf), api.OK)
	wantCheck(t, and(flat(api.And, api.MaxNodes-1, leaf), leaf), api.ErrPred)
	wantCheck(t, and(leaf, flat(api.And, api.MaxNodes-1, leaf)), api.ErrPred)
}

func TestP91CheckOfHowDeepNodesStand(t *testing.T) {
	leaf := on(api.Eq, ofWhole, 7)
	for _, ops := range [][]byte{{api.Not}, {api.And}, {api.Or}, {api.And, api.Not}, {api.Or, api.And, api.Not}} {
		for depth := 1; depth <= api.MaxDepth; depth++ {
			wantCheck(t, chain(depth, leaf, ops...), api.OK)
			wantCheck(t, chain(depth, and(), ops...), api.OK)
		}
		for _, depth := range []int{api.MaxDepth + 1, api.MaxDepth + 2, api.MaxNodes, api.MaxNodes + 1, 1000} {
			wantCheck(t, chain(depth, leaf, ops...), api.ErrPred)
			wantCheck(t, chain(depth, or(), ops...), api.ErrPred)
		}
	}
	deepest := chain(api.MaxDepth-1, leaf, api.Not)
	wantCheck(t, and(leaf, deepest), api.OK)
	wantCheck(t, and(deepest, leaf, deepest, deepest), api.OK)
	wantCheck(t, and(leaf, not(deepest)), api.ErrPred)
	wantCheck(t, and(not(deepest), leaf), api.ErrPred)
	wantCheck(t, and(deepest, leaf, not(deepest)), api.ErrPred)
}

func TestP91CheckEndsHoweverGreatThePredicate(t *testing.T) {
	p := on(api.Eq, ofWhole, 7)
	for range 200 {
		p = and(p, p)
	}
	wantEnd := func(name string, p api.Pred) {
		if got := Check(p, fourFields()); got != api.ErrPred {
			t.Errorf("%s: %d", name, got)
		}
	}
	wantEnd("one of 2^200 nodes", p)
	wantEnd("a long chain", chain(1<<20, on(api.Eq, ofWhole, 7), api.Not))
	for _, op := range []byte{api.And, api.Or, api.Not, api.Eq, 0} {
		within := make([]api.Pred, 2)
		within[0] = api.Pred{Op: op, Kids: within[:1]}
		within[1] = api.Pred{Op: op, Kids: within}
		wantEnd("one within itself", within[0])
		wantEnd("one twice within itself", within[1])
	}
}

func TestP91CheckRefusesOps(t *testing.T) {
	for op := range 256 {
		if op >= api.Eq && op <= api.Not {
			continue
		}
		for _, p := range []api.Pred{{}, on(0, ofWhole, 7), on(0, ofNone, nil), on(0, ofWhole, api.Cell{Kind: badKind}), and(), and(on(api.Eq, ofNone, 7))} {
			p.Op = byte(op)
			wantCheck(t, p, api.ErrPred)
			wantCheck(t, not(p), api.ErrPred)
		}
	}
}

func TestP91CheckRefusesFields(t *testing.T) {
	for _, field := range []uint32{0, 1, 2, ofNone, 6, 8, 10, ofMore - 1} {
		for op := byte(api.Eq); op <= api.IsNull; op++ {
			for _, v := range []any{nil, 7, "a", true} {
				wantCheck(t, on(op, field, v), api.ErrField)
				wantCheck(t, and(or(), on(op, field, v)), api.ErrField)
			}
		}
	}
	if got := Check(on(api.Eq, 1, 7), api.Schema{}); got != api.ErrField {
		t.Error("of a schema without fields:", got)
	}
}

func TestP91CheckRefusesValues(t *testing.T) {
	for _, r := range refusedCells() {
		for _, field := range []uint32{ofWhole, ofText, ofTruth, ofMore} {
			for op := byte(api.Eq); op <= api.IsNull; op++ {
				wantCheck(t, on(op, field, r.c), r.want)
				wantCheck(t, not(on(op, field, r.c)), r.want)
			}
		}
	}
}

func TestP91CheckRefusesOtherKinds(t *testing.T) {
	values := map[uint32][]any{ofWhole: {0, 7, -7}, ofText: {"", "a"}, ofTruth: {false, true}}
	for field := range values {
		for of, l := range values {
			want := api.ErrKind
			if of == field {
				want = api.OK
			}
			for _, v := range l {
				for _, op := range []byte{api.Eq, api.Lt, api.Le} {
					wantCheck(t, on(op, field, v), want)
				}
				wantCheck(t, on(api.IsNull, field, v), api.ErrPred)
				if field != ofText {
					wantCheck(t, on(api.Like, field, v), api.ErrKind)
				} else {
					wantCheck(t, on(api.Like, field, v), want)
				}
			}
		}
		for op := byte(api.Eq); op <= api.Like; op++ {
			wantCheck(t, on(op, field, nil), api.ErrKind)
		}
		wantCheck(t, on(api.IsNull, field, nil), api.OK)
	}
}

func TestP91CheckOfFieldsOfNoKind(t *testing.T) {
	s := api.Schema{Fields: []api.Field{{Id: 1}, {Id: 2, Kind: badKind}}}
	for op := byte(api.Eq); op <= api.Like; op++ {
		for _, field := range []uint32{1, 2} {
			for _, v := range []any{nil, 7, "a", true} {
				if got := Check(on(op, field, v), s); got != api.ErrKind {
					t.Error(op, field, v, got)
				}
			}
		}
	}
}

func TestP91CheckRefusesKids(t *testing.T) {
	leaf := on(api.Eq, ofWhole, 7)
	for _, p := range []api.Pred{leaf, on(api.Lt, ofText, "a"), on(api.Le, ofTruth, true), on(api.Like, ofText, "a"), on(api.IsNull, ofText, nil)} {
		for _, kids := range [][]api.Pred{{leaf}, {and()}, {leaf, leaf}, {{}}} {
			p.Kids = kids
			wantCheck(t, p, api.ErrPred)
		}
	}
	wantCheck(t, not(), api.ErrPred)
	wantCheck(t, not(leaf, leaf), api.ErrPred)
	wantCheck(t, not(leaf, leaf, leaf), api.ErrPred)
	wantCheck(t, and(not()), api.ErrPred)
}

func TestP91CheckRefusesFieldsAndValuesBesideKids(t *testing.T) {
	leaf := on(api.Eq, ofWhole, 7)
	for _, p := range []api.Pred{and(), or(), and(leaf), or(leaf), not(leaf), and(leaf, leaf), or(leaf, leaf)} {
		wantCheck(t, p, api.OK)
		for _, field := range []uint32{1, ofWhole, ofText, ofMore} {
			p.Field = field
			wantCheck(t, p, api.ErrPred)
		}
		p.Field = 0
		for _, c := range []api.Cell{cellOf(0), cellOf(7), cellOf(""), cellOf("a"), cellOf(false), cellOf(true)} {
			p.Value = c
			wantCheck(t, p, api.ErrPred)
		}
		for _, r := range refusedCells() {
			p.Value = r.c
			wantCheck(t, p, api.ErrPred)
		}
	}
}

func TestP91OfSeveralFaultsOfANodeTheFirst(t *testing.T) {
	kids := []api.Pred{on(api.Eq, ofNone, 7)}
	long := cellOf(strings.Repeat("a", api.MaxText+1))
	for _, c := range []struct {
		p    api.Pred
		want api.Errno
	}{
		{api.Pred{Op: api.Eq, Field: ofNone, Value: long, Kids: kids}, api.ErrPred},
		{api.Pred{Op: api.Eq, Field: ofWhole, Value: long, Kids: kids}, api.ErrPred},
		{api.Pred{Op: api.Like, Field: ofWhole, Value: cellOf(7), Kids: kids}, api.ErrPred},
		{api.Pred{Op: api.IsNull, Field: ofNone, Value: cellOf(7), Kids: kids}, api.ErrPred},
		{on(api.Eq, ofNone, long), api.ErrField},
		{on(api.Lt, ofNone, api.Cell{Kind: badKind}), api.ErrField},
		{on(api.Like, ofNone, api.Cell{N: 1}), api.ErrField},
		{on(api.IsNull, ofNone, 7), api.ErrField},
		{on(api.Eq, ofWhole, long), api.ErrLong},
		{on(api.Le, ofTruth, api.Cell{S: "a"}), api.ErrPred},
		{on(api.Like, ofWhole, long), api.ErrLong},
		{on(api.Like, ofWhole, api.Cell{Kind: api.Text, N: 1}), api.ErrPred},
		{api.Pred{Op: api.Not, Field: ofNone, Value: long, Kids: []api.Pred{kids[0], kids[0]}}, api.ErrPred},
	} {
		wantCheck(t, c.p, c.want)
	}
}

// eightNodes is the nodes of a predicate that may be, each ahead of its Kids.
func eightNodes() []*api.Pred {
	p := and(or(on(api.Eq, ofWhole, 7), not(on(api.Lt, ofWhole, 7))), on(api.Le, ofWhole, 7), and(on(api.Eq, ofMore, 7)))
	first, last := &p.Kids[0], &p.Kids[2]
	return []*api.Pred{&p, first, &first.Kids[0], &first.Kids[1], &first.Kids[1].Kids[0], &p.Kids[1], last, &last.Kids[0]}
}

// spoil lets the node have a fault: that one, if it has no Kids.
func spoil(p *api.Pred, e api.Errno) api.Errno {
	switch {
	case len(p.Kids) > 0:
		p.Field = ofWhole
		return api.ErrPred
	case e == api.ErrField:
		p.Field = ofNone
	case e == api.ErrKind:
		p.Value = cellOf("a")
	case e == api.ErrLong:
		p.Value = cellOf(strings.Repeat("a", api.MaxText+1))
	}
	return e
}

func TestP91OfSeveralNodesTheFirst(t *testing.T) {
	wantCheck(t, *eightNodes()[0], api.OK)
	for i := range eightNodes() {
		for k := range i {
			for _, a := range []api.Errno{api.ErrField, api.ErrKind, api.ErrLong} {
				for _, b := range []api.Errno{api.ErrField, api.ErrKind, api.ErrLong} {
					nodes := eightNodes()
					spoil(nodes[i], b)
					want := spoil(nodes[k], a)
					wantCheck(t, *nodes[0], want)
				}
			}
		}
	}
}

func TestP91TooManyOrTooDeepOnesAheadOfAll(t *testing.T) {
	wrong := []api.Pred{on(api.Eq, ofNone, 7), on(api.Eq, ofWhole, "a"), on(api.Eq, ofText, strings.Repeat("a", api.MaxText+1))}
	wants := []api.Errno{api.ErrField, api.ErrKind, api.ErrLong}
	leaf := on(api.Eq, ofWhole, 7)
	for i, w := range wrong {
		wantCheck(t, and(w, chain(api.MaxDepth-1, leaf, api.Not)), wants[i])
		wantCheck(t, and(w, chain(api.MaxDepth, leaf, api.Not)), api.ErrPred)
		wantCheck(t, chain(api.MaxDepth, w, api.Or), wants[i])
		wantCheck(t, chain(api.MaxDepth+1, w, api.Or), api.ErrPred)
		wantCheck(t, flat(api.And, api.MaxNodes, w), wants[i])
		wantCheck(t, flat(api.And, api.MaxNodes+1, w), api.ErrPred)
		wantCheck(t, or(w, flat(api.Or, api.MaxNodes-2, leaf)), wants[i])
		wantCheck(t, or(w, flat(api.Or, api.MaxNodes-1, leaf)), api.ErrPred)
	}
}

func wantEval(t *testing.T, p api.Pred, row []api.Value, want api.Three) {
	t.Helper()
	if got := Eval(p, fourFields(), row); got != want {
		t.Errorf("Eval(%v, %v) = %d; want %d", p, row, got, want)
	}
}

// heldUp is a value, and another that it is held against: it is ahead, the same, or behind.
type heldUp struct {
	field uint32
	row   []api.Value
	v     any
	order int
}

func rowWith(field uint32, v api.Value) []api.Value {
	row := []api.Value{int64(1), "else", true, int64(2)}
	for i, f := range fourFields().Fields {
		if f.Id == field {
			row[i] = v
		}
	}
	return row
}

func heldUps() []heldUp {
	var out []heldUp
	add := func(field uint32, rising ...api.Value) {
		for i, v := range rising {
			for k, w := range rising {
				order := 0
				if i < k {
					order = -1
				} else if i > k {
					order = 1
				}
				out = append(out, heldUp{field, rowWith(field, v), w, order})
			}
		}
	}
	for _, field := range []uint32{ofWhole, ofMore} {
		add(field, int64(math.MinInt64), int64(math.MinInt64+1), int64(-8), int64(-7), int64(-6), int64(-1), int64(0), int64(1), int64(6), int64(7), int64(8), int64(1<<40), int64(math.MaxInt64-1), int64(math.MaxInt64))
	}
	add(ofTruth, false, true)
	add(ofText, "", "\x00", "A", "a", "a\x00", "aa", "ab", "abcd", "abcde", "abce", "b", "z", strings.Repeat("z", api.MaxText-1), strings.Repeat("z", api.MaxText), "é", "\ue000", "\U0010ffff", "\xff")
	return out
}

func three(b bool) api.Three {
	if b {
		return api.Yes
	}
	return api.No
}

func TestP92EvalHoldsAgainstAValue(t *testing.T) {
	for _, h := range heldUps() {
		wantEval(t, on(api.Eq, h.field, h.v), h.row, three(h.order == 0))
		wantEval(t, on(api.Lt, h.field, h.v), h.row, three(h.order < 0))
		wantEval(t, on(api.Le, h.field, h.v), h.row, three(h.order <= 0))
		wantEval(t, on(api.IsNull, h.field, nil), h.row, api.No)
	}
}

func TestP92EvalOfNulls(t *testing.T) {
	values := map[uint32][]any{ofMore: {0, 7}, ofText: {"", "%", "a"}, ofTruth: {false, true}}
	for field, l := range values {
		row := rowWith(field, nil)
		for _, v := range l {
			for op := byte(api.Eq); op <= api.Like; op++ {
				wantEval(t, on(op, field, v), row, api.Unknown)
			}
		}
		wantEval(t, on(api.IsNull, field, nil), row, api.Yes)
		for other := range values {
			if other != field {
				wantEval(t, on(api.IsNull, other, nil), row, api.No)
			}
		}
	}
	wantEval(t, on(api.Eq, ofWhole, 1), []api.Value{int64(1), nil, nil, nil}, api.Yes)
}

func TestP92EvalOfLike(t *testing.T) {
	for _, c := range []struct {
		text, pattern string
		want          bool
	}{
		{"", "", true}, {"", "%", true}, {"", "_", false}, {"a", "", false}, {"a", "a", true}, {"a", "b", false}, {"a", "A", false},
		{"abc", "a%", true}, {"abc", "%c", true}, {"abc", "%b%", true}, {"abc", "b%", false}, {"abc", "_b_", true}, {"abc", "a_", false}, {"abc", "___", true}, {"abc", "____", false}, {"abc", "a%c%", true},
		{"日本", "__", true}, {"日本", "日%", true}, {"日本", "_", false}, {"a%", "a%", true}, {"a_", "a_", true}, {"\xff", "_", true}, {"\xff", "a", false},
		{strings.Repeat("a", api.MaxText), strings.Repeat("_", api.MaxText), true}, {strings.Repeat("a", api.MaxText), strings.Repeat("_", api.MaxText-1), false},
	} {
		wantEval(t, on(api.Like, ofText, c.pattern), rowWith(ofText, c.text), three(c.want))
	}
}

// nodesOf has a predicate for each of the answers No, Unknown and Yes of the row aRow.
func nodesOf() [3]api.Pred {
	return [3]api.Pred{on(api.Eq, ofWhole, 6), on(api.Eq, ofText, "a"), on(api.Eq, ofWhole, 7)}
}

func aRow() []api.Value {
	return []api.Value{int64(7), nil, true, int64(9)}
}

// lists has all lists of at most n numbers below a bound.
func lists(below, n int) [][]int {
	out := [][]int{nil}
	for i := 0; i < len(out); i++ {
		if len(out[i]) == n {
			break
		}
		for k := range below {
			out = append(out, append(slices.Clone(out[i]), k))
		}
	}
	return out
}

func TestP92EvalOfKidsTogether(t *testing.T) {
	nodes := nodesOf()
	for _, l := range lists(3, 4) {
		var kids []api.Pred
		least, greatest := 2, 0
		for _, n := range l {
			kids = append(kids, nodes[n])
			least, greatest = min(least, n), max(greatest, n)
		}
		wantEval(t, and(kids...), aRow(), api.Three(least))
		wantEval(t, or(kids...), aRow(), api.Three(greatest))
		wantEval(t, not(and(kids...)), aRow(), api.Three(2-least))
		wantEval(t, not(or(kids...)), aRow(), api.Three(2-greatest))
		wantEval(t, and(or(kids...)), aRow(), api.Three(greatest))
		wantEval(t, or(and(kids...)), aRow(), api.Three(least))
	}
}

func TestP92EvalOfNot(t *testing.T) {
	for n, p := range nodesOf() {
		wantEval(t, p, aRow(), api.Three(n))
		wantEval(t, not(p), aRow(), api.Three(2-n))
		wantEval(t, not(not(p)), aRow(), api.Three(n))
	}
	wantEval(t, not(on(api.IsNull, ofText, nil)), aRow(), api.No)
	wantEval(t, not(on(api.IsNull, ofTruth, nil)), aRow(), api.Yes)
}

func TestP92EvalOfFieldsAndRowsThatArentThere(t *testing.T) {
	for op := byte(api.Eq); op <= api.IsNull; op++ {
		for _, v := range []any{nil, 7, "a", true} {
			for _, field := range []uint32{0, 1, 2, ofNone, ofMore - 1} {
				wantEval(t, on(op, field, v), aRow(), api.Unknown)
				wantEval(t, not(on(op, field, v)), aRow(), api.Unknown)
				wantEval(t, or(on(op, field, v), nodesOf()[2]), aRow(), api.Yes)
				wantEval(t, and(on(op, field, v), nodesOf()[0]), aRow(), api.No)
			}
			for i, f := range fourFields().Fields {
				for short := 0; short <= i; short++ {
					wantEval(t, on(op, f.Id, v), aRow()[:short], api.Unknown)
				}
			}
			if got := Eval(on(op, 1, v), api.Schema{}, aRow()); got != api.Unknown {
				t.Error("without fields:", got)
			}
		}
	}
	wantEval(t, on(api.Eq, ofWhole, 7), aRow()[:1], api.Yes)
	wantEval(t, on(api.IsNull, ofText, nil), aRow()[:2], api.Yes)
	wantEval(t, on(api.Eq, ofMore, 9), append(aRow(), int64(8), nil), api.Yes)
	wantEval(t, and(), nil, api.Yes)
	wantEval(t, or(), nil, api.No)
}

func TestP92EvalOfAnIdThatStandsTwice(t *testing.T) {
	s := api.Schema{Fields: []api.Field{{Id: 1, Kind: api.Whole}, {Id: 2, Kind: api.Whole}, {Id: 2, Kind: api.Whole}}}
	row := []api.Value{int64(1), int64(2), int64(3)}
	if Eval(on(api.Eq, 2, 2), s, row) != api.Yes || Eval(on(api.Eq, 2, 3), s, row) != api.No {
		t.Error("another one than the first is told of")
	}
}

func TestP92EvalOfOpsThatAreNone(t *testing.T) {
	for op := range 256 {
		if op >= api.Eq && op <= api.Not {
			continue
		}
		for _, p := range []api.Pred{{}, on(0, ofWhole, 7), on(0, ofText, nil), on(0, ofText, "a"), on(0, ofTruth, 7), on(0, ofNone, 7), and(nodesOf()[2]), and(nodesOf()[0])} {
			p.Op = byte(op)
			wantEval(t, p, aRow(), api.Unknown)
			wantEval(t, not(p), aRow(), api.Unknown)
		}
	}
}

func TestP92EvalOfNotsThatMayNotBe(t *testing.T) {
	wantEval(t, not(), aRow(), api.Unknown)
	wantEval(t, not(not()), aRow(), api.Unknown)
	nodes := nodesOf()
	for _, l := range lists(3, 3) {
		if len(l) < 2 {
			continue
		}
		var kids []api.Pred
		for _, n := range l {
			kids = append(kids, nodes[n])
		}
		wantEval(t, not(kids...), aRow(), api.Three(2-l[0]))
	}
}

func TestP92EvalOfValuesThatAreRefused(t *testing.T) {
	for _, r := range refusedCells() {
		for _, field := range []uint32{ofWhole, ofTruth, ofMore} {
			for _, op := range []byte{api.Eq, api.Lt, api.Le} { // each value is behind null
				wantEval(t, on(op, field, r.c), aRow(), api.No)
				wantEval(t, not(on(op, field, r.c)), aRow(), api.Yes)
			}
		}
		for _, text := range []string{"", "a", "aaaa", r.c.S} {
			for _, op := range []byte{api.Eq, api.Lt, api.Le} {
				wantEval(t, on(op, ofText, r.c), rowWith(ofText, text), api.No)
			}
		}
		for op := byte(api.Eq); op <= api.Like; op++ {
			wantEval(t, on(op, ofText, r.c), aRow(), api.Unknown)
		}
		wantEval(t, on(api.IsNull, ofText, r.c), aRow(), api.Yes)
		wantEval(t, on(api.IsNull, ofWhole, r.c), aRow(), api.No)
	}
	for _, op := range []byte{api.Eq, api.Lt, api.Le} {
		wantEval(t, on(op, ofWhole, nil), aRow(), api.No)
	}
}

func TestP92EvalGoesByTheOrderOfKinds(t *testing.T) {
	rising := []any{7, true, "a"}
	row := []api.Value{int64(7), "a", true, nil}
	for i, field := range []uint32{ofWhole, ofTruth, ofText} {
		for k, v := range rising {
			wantEval(t, on(api.Eq, field, v), row, three(i == k))
			wantEval(t, on(api.Lt, field, v), row, three(i < k))
			wantEval(t, on(api.Le, field, v), row, three(i <= k))
		}
	}
}

func TestP92EvalOfLikeThatMayNotBe(t *testing.T) {
	for _, v := range []any{nil, 7, true, api.Cell{Kind: badKind, S: "%"}} {
		wantEval(t, on(api.Like, ofText, v), rowWith(ofText, "a"), api.No)
	}
	for _, field := range []uint32{ofWhole, ofTruth} {
		wantEval(t, on(api.Like, field, "%"), aRow(), api.No)
	}
	long := strings.Repeat("%", api.MaxText+1)
	wantEval(t, on(api.Like, ofText, long), rowWith(ofText, "a"), api.Yes)
	wantEval(t, on(api.Like, ofText, long+"b"), rowWith(ofText, "a"), api.No)
}

func TestP92EvalLeavesOutWhatANodeDoesntAskFor(t *testing.T) {
	nodes := nodesOf()
	for n, p := range nodes {
		p.Kids = nodes[:]
		wantEval(t, p, aRow(), api.Three(n))
		for _, q := range []api.Pred{and(nodes[n]), or(nodes[n])} {
			q.Field, q.Value = ofNone, cellOf(7)
			wantEval(t, q, aRow(), api.Three(n))
		}
		q := not(nodes[n])
		q.Field, q.Value = ofText, cellOf("a")
		wantEval(t, q, aRow(), api.Three(2-n))
	}
	wantEval(t, on(api.IsNull, ofText, "a"), aRow(), api.Yes)
	wantEval(t, on(api.IsNull, ofWhole, 7), aRow(), api.No)
}

func TestP92EvalOfManyAndDeepNodes(t *testing.T) {
	for n, p := range nodesOf() {
		wantEval(t, flat(api.And, 1000, p), aRow(), api.Three(n))
		wantEval(t, flat(api.Or, 1000, p), aRow(), api.Three(n))
		for _, ops := range [][]byte{{api.And}, {api.Or}, {api.And, api.Or}} {
			if got := Eval(chain(1<<16, p, ops...), fourFields(), aRow()); got != api.Three(n) {
				t.Error("deep ones:", ops, n, got)
			}
		}
		for _, depth := range []int{9, 10, 1<<16 + 1, 1 << 16} {
			want := api.Three(n)
			if depth%2 == 0 {
				want = api.Three(2 - n)
			}
			if got := Eval(chain(depth, p, api.Not), fourFields(), aRow()); got != want {
				t.Error("deep ones:", depth, n, got)
			}
		}
	}
}

// spare is l with room behind it, in which mark stands.
func spare[T any](l []T, mark T) []T {
	out := append(slices.Clone(l), mark)
	return out[:len(l)]
}

func TestWhatIsHandedInStays(t *testing.T) {
	mark := on(77, 77, "mark")
	fresh := func() (api.Pred, api.Schema, []api.Value, []api.Stat) {
		s := fourFields()
		s.Fields = spare(s.Fields, api.Field{Id: 77})
		p := and(spare([]api.Pred{or(spare([]api.Pred{on(api.Eq, ofWhole, 7), not(spare([]api.Pred{on(api.Like, ofText, "a%")}, mark)...)}, mark)...), on(api.Lt, ofMore, 8), on(api.IsNull, ofTruth, nil)}, mark)...)
		return p, s, spare(aRow(), api.Value("mark")), spare([]api.Stat{Stats([]api.Value{int64(7)}), Stats([]api.Value{"a", nil})}, api.Stat{Rows: 77})
	}
	p, s, row, stats := fresh()
	texts := spare([]api.Value{"b", nil, "abcdef", "\U0010ffff", nil, "a"}, api.Value("mark"))
	Check(p, s)
	Eval(p, s, row)
	May(p, s, stats)
	Stats(texts)
	Stats(row[:1])
	p2, s2, row2, stats2 := fresh()
	if !reflect.DeepEqual(p, p2) || !reflect.DeepEqual(s, s2) || !reflect.DeepEqual(row[:5], row2[:5]) || !reflect.DeepEqual(stats[:3], stats2[:3]) {
		t.Error("what is handed in was changed")
	}
	if !reflect.DeepEqual(s.Fields[:5], s2.Fields[:5]) || !reflect.DeepEqual(p.Kids[:4], p2.Kids[:4]) || !reflect.DeepEqual(p.Kids[0].Kids[:3], p2.Kids[0].Kids[:3]) {
		t.Error("spare room was changed")
	}
	if !reflect.DeepEqual(texts[:7], []api.Value{"b", nil, "abcdef", "\U0010ffff", nil, "a", "mark"}) {
		t.Error("a list of values was changed:", texts[:7])
	}
}

func TestAnswersAreTheirOwn(t *testing.T) {
	p, s, row := and(on(api.Eq, ofWhole, 7), on(api.Lt, ofText, "b")), fourFields(), rowWith(ofWhole, int64(7))
	l := []api.Value{"abcdef", nil, "b"}
	stats := []api.Stat{Stats([]api.Value{int64(7)}), Stats(l)}
	may := May(p, s, stats)
	wantStat, wantMay := stats[1], may
	if Eval(p, s, row) != api.No || Check(p, s) != api.OK {
		t.Error("ahead of the change")
	}
	l[0], l[1], l[2] = "x", "y", "z"
	kept := stats[1]
	p.Kids[0], s.Fields[0], stats[0], stats[1] = api.Pred{}, api.Field{}, api.Stat{}, api.Stat{}
	if kept != wantStat || may != wantMay {
		t.Error("an answer changed with an argument")
	}
	may = [3]bool{}
	p, s = and(on(api.Eq, ofWhole, 7), on(api.Lt, ofText, "b")), fourFields()
	stats = []api.Stat{Stats([]api.Value{int64(7)}), Stats([]api.Value{"abcdef", nil, "b"})}
	if May(p, s, stats) != wantMay || stats[1] != wantStat || may == wantMay {
		t.Error("the same isn't answered again")
	}
}

func TestNilAndEmptyAreTheSame(t *testing.T) {
	for _, p := range []api.Pred{and(), or(), not(), on(api.Eq, ofWhole, 7), on(api.IsNull, ofText, nil), {}} {
		q := p
		p.Kids, q.Kids = nil, []api.Pred{}
		s := fourFields()
		if Check(p, s) != Check(q, s) || Eval(p, s, nil) != Eval(q, s, []api.Value{}) || May(p, s, nil) != May(q, s, []api.Stat{}) {
			t.Error(p)
		}
		if Check(p, api.Schema{}) != Check(p, api.Schema{Fields: []api.Field{}}) {
			t.Error(p)
		}
	}
	if Stats(nil) != Stats([]api.Value{}) {
		t.Error("Stats")
	}
}
