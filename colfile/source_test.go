package colfile

import (
	"encoding/binary"
	"hash/crc32"
	"math"
	"slices"
	"strings"
	"testing"

	"catchment/api"
	"catchment/column"
	"catchment/pred"
	"catchment/schema"
)

const (
	least    = math.MinInt64
	greatest = math.MaxInt64
	top      = math.MaxUint32
	lastSign = "\U0010ffff" // the one that has no next
)

// P and W are the chapter's words.
func P(n int) []byte   { return binary.AppendUvarint(nil, uint64(n)) }
func W(n int64) []byte { return binary.AppendVarint(nil, n) }

func join(parts ...[]byte) []byte {
	return slices.Concat(parts...)
}

// seal is reckoned by the library's sum.
func seal(b []byte) []byte {
	return binary.LittleEndian.AppendUint32(slices.Clone(b), crc32.ChecksumIEEE(b))
}

// unsealed is a sealed text without its seal.
func unsealed(b []byte) []byte {
	return slices.Clone(b[:len(b)-4])
}

// source is what a file is made of.
type source struct {
	s     api.Schema
	rows  [][]api.Value
	group int
}

// part is one column of one group, and what the foot tells of it.
type part struct {
	column, length, stat []byte
}

// parts is a file's bytes, each by itself: what stands between the columns and the foot, and behind the foot, is nothing, if all is right.
type parts struct {
	magic, schema, rows, group []byte
	columns                    []part
	between, behind            []byte
	length                     func(foot int) int
}

// partsOf follows the chapter's words; whether there may be such a file, it doesn't ask.
func partsOf(c source) *parts {
	p := &parts{magic: []byte("CF1"), schema: schema.Pack(c.s), rows: P(len(c.rows)), group: P(c.group)}
	p.length = func(foot int) int { return foot }
	for begin := 0; begin < len(c.rows); begin += c.group {
		rows := c.rows[begin:min(begin+c.group, len(c.rows))]
		for i, f := range c.s.Fields {
			p.columns = append(p.columns, partOf(f.Kind, columnOf(rows, i)))
		}
	}
	return p
}

func partOf(k api.Kind, l []api.Value) part {
	b, e := column.Write(k, l)
	if e != api.OK {
		panic("no column")
	}
	return part{b, P(len(b)), statBytes(pred.Stats(l))}
}

func columnOf(rows [][]api.Value, i int) []api.Value {
	var l []api.Value
	for _, row := range rows {
		l = append(l, row[i])
	}
	return l
}

func statBytes(st api.Stat) []byte {
	b := P(st.Nulls)
	switch {
	case st.High:
		return join(b, []byte{3}, boundBytes(st.Min), boundBytes(st.Max))
	case st.Some:
		return join(b, []byte{1}, boundBytes(st.Min))
	}
	return join(b, []byte{0})
}

func boundBytes(c api.Cell) []byte {
	switch c.Kind {
	case api.Whole:
		return W(c.N)
	case api.Truth:
		return []byte{byte(c.N)}
	}
	return join(P(len(c.S)), []byte(c.S))
}

func (p *parts) columnBytes() []byte {
	var b []byte
	for _, c := range p.columns {
		b = append(b, c.column...)
	}
	return b
}

func (p *parts) foot() []byte {
	b := join(p.schema, p.rows, p.group)
	for _, c := range p.columns {
		b = append(append(b, c.length...), c.stat...)
	}
	return append(b, p.behind...)
}

// text is the bytes ahead of the seal.
func (p *parts) text() []byte {
	foot := p.foot()
	return join(p.magic, p.columnBytes(), p.between, foot, binary.LittleEndian.AppendUint32(nil, uint32(p.length(len(foot)))))
}

func (p *parts) bytes() []byte {
	return seal(p.text())
}

// groupTold is how many rows a group has, as a file that was taken tells.
func groupTold(t *testing.T, b []byte) int {
	t.Helper()
	text := unsealed(b)
	end := len(text) - 4
	foot := text[end-int(binary.LittleEndian.Uint32(text[end:])) : end]
	_, rest, e := schema.Unpack(foot)
	if e != api.OK {
		t.Fatalf("no schema in %d", b)
	}
	_, used := binary.Uvarint(rest)
	group, _ := binary.Uvarint(rest[used:])
	return int(group)
}

func key(k api.Kind) api.Field {
	return api.Field{Id: 1, Name: "id", Kind: k, Need: true}
}

func shape(l ...api.Field) api.Schema {
	return api.Schema{Id: 1, Fields: l}
}

// exampleSchema is the schema 1 of layer 8.
func exampleSchema() api.Schema {
	return shape(key(api.Whole), api.Field{Id: 2, Name: "name", Kind: api.Text})
}

// The fields of allKinds: their Ids are none of their places.
const (
	ofWhole = 4
	ofText  = 5
	ofTruth = 9
	ofMore  = top
)

func allKinds() api.Schema {
	return api.Schema{Id: 300, Fields: []api.Field{
		{Id: ofWhole, Name: "id", Kind: api.Whole, Need: true},
		{Id: ofText, Name: "name", Kind: api.Text},
		{Id: ofTruth, Name: "flag", Kind: api.Truth},
		{Id: ofMore, Name: "more", Kind: api.Whole},
	}}
}

// widest has as many fields as may be, and a key of texts.
func widest() api.Schema {
	s := api.Schema{Id: top}
	for i := range api.MaxFields {
		k := []api.Kind{api.Text, api.Whole, api.Truth}[i%3]
		s.Fields = append(s.Fields, api.Field{Id: uint32(i*200 + 1), Name: string(rune('a'+i)) + strings.Repeat("é", i), Kind: k, Need: i == 0})
	}
	return s
}

func goodSchemas() []api.Schema {
	return []api.Schema{exampleSchema(), shape(key(api.Whole)), shape(key(api.Text)), allKinds(), widest()}
}

// mixed is a number with bits here and there.
func mixed(i int) uint64 {
	return uint64(i+1) * 0x9e3779b97f4a7c15
}

// pick is one of the values, here and there.
func pick(i int, l ...api.Value) api.Value {
	return l[mixed(i)>>50%uint64(len(l))]
}

// fillings has the values of each kind by the row's place.
func fillings() []map[api.Kind]func(i int) api.Value {
	long := strings.Repeat("x", api.MaxText-3)
	return []map[api.Kind]func(i int) api.Value{
		{
			api.Whole: func(int) api.Value { return int64(7) },
			api.Truth: func(int) api.Value { return true },
			api.Text:  func(int) api.Value { return "" },
		}, {
			api.Whole: func(i int) api.Value { return int64(i) },
			api.Truth: func(i int) api.Value { return i >= api.MaxGroup },
			api.Text:  func(i int) api.Value { return string(rune('a'+i%26)) + strings.Repeat("z", i%api.MaxText) },
		}, {
			api.Whole: func(i int) api.Value { return pick(i, int64(least), int64(greatest), int64(-1), int64(0)) },
			api.Truth: func(i int) api.Value { return pick(i, true, false) },
			api.Text:  func(i int) api.Value { return pick(i, "", "abcd", "abcde", "\xff", "a\x80", "日本日本日") },
		}, {
			api.Whole: func(i int) api.Value { return int64(mixed(i)) },
			api.Truth: func(int) api.Value { return false },
			api.Text:  func(i int) api.Value { return string(rune('a'+i%7)) + long + string(rune('a'+i%26)) + "z" },
		}, {
			api.Whole: func(i int) api.Value { return -int64(i / 3) },
			api.Truth: func(i int) api.Value { return i%2 == 0 },
			api.Text:  func(i int) api.Value { return strings.Repeat(lastSign, i%7) },
		},
	}
}

// nullPatterns has which rows of n are null, apart from the key.
func nullPatterns(n int) []func(i int) bool {
	return []func(i int) bool{
		func(int) bool { return false },
		func(int) bool { return true },
		func(i int) bool { return i == 0 || i == n-1 },
		func(i int) bool { return i < n/2 },
		func(i int) bool { return mixed(i)>>33&1 == 1 },
	}
}

func rowsOf(s api.Schema, n int, fill map[api.Kind]func(i int) api.Value, isNull func(i int) bool) [][]api.Value {
	rows := make([][]api.Value, n)
	for i := range rows {
		for at, f := range s.Fields {
			if at > 0 && isNull(i+at-1) {
				rows[i] = append(rows[i], nil)
			} else {
				rows[i] = append(rows[i], fill[f.Kind](i+at))
			}
		}
	}
	return rows
}

// counts has how many rows, and how many in a group: none, one, as many as a group has, one more, one fewer, several groups, as many as may be.
func counts() [][2]int {
	var out [][2]int
	for _, group := range []int{1, 2, 7, 8, api.MaxGroup - 1, api.MaxGroup} {
		for _, n := range []int{0, 1, group - 1, group, group + 1, 2 * group, 2*group + 1} {
			out = append(out, [2]int{n, group})
		}
	}
	return append(out, [2]int{api.MaxRows - 1, api.MaxGroup}, [2]int{api.MaxRows, api.MaxGroup}, [2]int{api.MaxRows, 1}, [2]int{api.MaxRows, 50})
}

// sources has files of many sorts, none of too many bytes.
func sources() []source {
	out := smallSources()
	for _, s := range goodSchemas() {
		for at, c := range counts() {
			for i, fill := range fillings() {
				patterns := nullPatterns(c[0])
				out = append(out, source{s, rowsOf(s, c[0], fill, patterns[(at+i)%len(patterns)]), c[1]})
			}
		}
	}
	for _, fill := range fillings() {
		for _, isNull := range nullPatterns(9) {
			out = append(out, source{allKinds(), rowsOf(allKinds(), 9, fill, isNull), 4})
		}
	}
	return slices.DeleteFunc(out, func(c source) bool { return len(partsOf(c).bytes()) > api.MaxBytes })
}

// smallSources has files of few bytes, all kinds and all flags of statistics among them.
func smallSources() []source {
	return []source{
		{exampleSchema(), nil, 1},
		exampleSource(),
		{exampleSchema(), [][]api.Value{{int64(300), "abcdef"}, {int64(-9), ""}, {int64(7), "\xff"}}, 2},
		{shape(key(api.Text)), [][]api.Value{{strings.Repeat(lastSign, 5)}, {"a"}, {"abcde"}}, 1},
		{allKinds(), [][]api.Value{{int64(1), "a", true, int64(5)}, {int64(2), nil, false, nil}, {int64(3), "b", nil, int64(least)}}, 2},
		{allKinds(), [][]api.Value{{int64(1), nil, nil, nil}, {int64(1), nil, nil, nil}}, api.MaxGroup},
	}
}

// exampleSource is the one of the chapter's examples.
func exampleSource() source {
	return source{exampleSchema(), [][]api.Value{{int64(1), "a"}, {int64(2), nil}}, 1}
}

func sameSchema(a, b api.Schema) bool {
	return a.Id == b.Id && slices.Equal(a.Fields, b.Fields)
}

func sameRows(a, b [][]api.Value) bool {
	return slices.EqualFunc(a, b, func(x, y []api.Value) bool { return slices.Equal(x, y) })
}

func clonedRows(rows [][]api.Value) [][]api.Value {
	out := make([][]api.Value, len(rows))
	for i, row := range rows {
		out[i] = slices.Clone(row)
	}
	return out
}

// written is the file's bytes.
func written(t *testing.T, c source) []byte {
	t.Helper()
	b, e := Write(c.s, c.rows, c.group)
	if e != api.OK {
		t.Fatalf("Write(%v, %d rows, %d): error %d", c.s, len(c.rows), c.group, e)
	}
	return b
}

// opened is the file whose bytes b is.
func opened(t *testing.T, b []byte) *File {
	t.Helper()
	f, e := Open(b)
	if e != api.OK || f == nil {
		t.Fatalf("Open(%d) = %v, %d", b, f, e)
	}
	return f
}

// fileOf is the file that was written of the source, and read again.
func fileOf(t *testing.T, c source) *File {
	t.Helper()
	return opened(t, written(t, c))
}
