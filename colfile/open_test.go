package colfile

import (
	"bytes"
	"encoding/binary"
	"math/rand"
	"slices"
	"strings"
	"testing"

	"catchment/api"
	"catchment/pred"
	"catchment/schema"
)

func wantNoOpen(t *testing.T, b []byte, want api.Errno) {
	t.Helper()
	if f, e := Open(b); e != want || f != nil {
		t.Errorf("Open(%q) = %v, %d; want %d", b, f, e, want)
	}
}

// wantStrict: b is either refused, or just what Write makes of what Open tells of it.
func wantStrict(t *testing.T, b []byte) {
	t.Helper()
	f, e := Open(b)
	if e != api.OK {
		want := api.ErrFoot
		if !bytes.HasPrefix(b, []byte("CF1")) {
			want = api.ErrMagic
		}
		if e != want || f != nil {
			t.Fatalf("Open(%q) = %v, %d; want %d", b, f, e, want)
		}
		return
	}
	again, e := Write(f.Schema(), f.All(), groupTold(t, b))
	if e != api.OK || !bytes.Equal(again, b) {
		t.Fatalf("Open took %q; written again it is %q, %d", b, again, e)
	}
}

func TestP102NoSealedText(t *testing.T) {
	good := written(t, exampleSource())
	for _, b := range [][]byte{
		nil, {}, {0}, []byte("CF1"), {0, 0, 0, 1}, {1, 0, 0, 0, 0}, []byte("CF1\x00\x00\x00\x00"), good[1:], unsealed(good),
		join(good, []byte{0}), join([]byte{0}, good), make([]byte, 1000), bytes.Repeat([]byte{255}, 100000), slices.Concat(good, good),
		join(unsealed(good), []byte{1, 2, 3, 4}), []byte("XF1 is no sealed text either"),
	} {
		wantNoOpen(t, b, api.ErrSum)
	}
	for end := range good {
		wantNoOpen(t, good[:end], api.ErrSum)
	}
}

func TestP102EachByteTurned(t *testing.T) {
	for _, c := range smallSources() {
		good := written(t, c)
		for i := range good {
			for turn := 1; turn < 256; turn++ {
				b := slices.Clone(good)
				b[i] ^= byte(turn)
				wantNoOpen(t, b, api.ErrSum)
			}
		}
	}
}

func TestP102EachByteTurnedAndSealedAnew(t *testing.T) {
	for _, c := range smallSources() {
		text := unsealed(written(t, c))
		for i := range text {
			for turn := 1; turn < 256; turn++ {
				b := slices.Clone(text)
				b[i] ^= byte(turn)
				wantStrict(t, seal(b))
			}
		}
	}
}

func TestP102EachBeginningSealedAnew(t *testing.T) {
	for _, c := range append(smallSources(), sources()[300]) {
		text := unsealed(written(t, c))
		for end := range text {
			if end < len("CF1") {
				wantNoOpen(t, seal(text[:end]), api.ErrMagic)
			} else {
				wantNoOpen(t, seal(text[:end]), api.ErrFoot)
			}
		}
	}
}

func TestP102EachByteLeftOutOrPutIn(t *testing.T) {
	for _, c := range smallSources() {
		text := unsealed(written(t, c))
		for i := range text {
			wantStrict(t, seal(slices.Delete(slices.Clone(text), i, i+1)))
			for _, more := range []byte{0, 1, 2, 3, 127, 128, 255, text[i]} {
				wantStrict(t, seal(slices.Insert(slices.Clone(text), i, more)))
				wantStrict(t, seal(append(slices.Clone(text[:i]), more)))
			}
		}
		wantStrict(t, seal(append(text, 0)))
	}
}

// TestP102BytesChangedHereAndThere has more than one byte changed, always the same ones.
func TestP102BytesChangedHereAndThere(t *testing.T) {
	r := rand.New(rand.NewSource(10))
	few := smallSources()
	for range 30000 {
		b := unsealed(written(t, few[r.Intn(len(few))]))
		for range 2 + r.Intn(3) {
			at := r.Intn(len(b))
			switch r.Intn(4) {
			case 0:
				b[at] = byte(r.Intn(256))
			case 1:
				b[at]++
			case 2:
				b[at]--
			default:
				b[at] = b[r.Intn(len(b))]
			}
		}
		wantStrict(t, seal(b))
	}
}

func TestP102ByChance(t *testing.T) {
	r := rand.New(rand.NewSource(20))
	for range 30000 {
		b := make([]byte, r.Intn(60))
		for i := range b {
			b[i] = byte(r.Intn(1 << (1 + r.Intn(8))))
		}
		wantStrict(t, seal(b))
		wantStrict(t, seal(join([]byte("CF1"), b)))
		wantStrict(t, seal(join([]byte("CF1"), b, lowest(len(b)-r.Intn(len(b)+1)))))
	}
}

// lowest is a number of at most 255, in four bytes.
func lowest(n int) []byte {
	return []byte{byte(n), 0, 0, 0}
}

func TestP102NoMagic(t *testing.T) {
	text := unsealed(written(t, exampleSource()))
	for _, magic := range []string{"", "C", "CF", "CF2", "CF0", "cf1", "KF1", "MF1", "TF1", " CF1", "\x00CF1", "FC1", "CF\x00", "C\xc61"} {
		wantNoOpen(t, seal([]byte(magic)), api.ErrMagic)
		wantNoOpen(t, seal(join([]byte(magic), text[3:])), api.ErrMagic)
	}
	wantNoOpen(t, seal(bytes.Repeat([]byte{0}, 100)), api.ErrMagic)
	wantNoOpen(t, seal(make([]byte, 2*api.MaxBytes)), api.ErrMagic)
	wantNoOpen(t, join(seal([]byte("CF2")), []byte{0}), api.ErrSum)
}

func TestP102MagicAlone(t *testing.T) {
	for _, behind := range []string{"", "\x00", "\x00\x00", "\x00\x00\x00", "\x00\x00\x00\x00", "\x01\x00\x00\x00", "\x00\x01\x00\x00\x00", "\x00\x02\x00\x00\x00", "CF1"} {
		wantNoOpen(t, seal([]byte("CF1"+behind)), api.ErrFoot)
	}
}

// wantChanged: the bytes of each small source, changed so, are those of no file. The change answers false, if it changes nothing.
func wantChanged(t *testing.T, name string, change func(c source, p *parts) bool) {
	t.Helper()
	tried := 0
	for _, c := range smallSources() {
		p := partsOf(c)
		if !change(c, p) {
			continue
		}
		tried++
		if f, e := Open(p.bytes()); e != api.ErrFoot || f != nil {
			t.Errorf("%s: Open of %q changed = %v, %d; want ErrFoot", name, c.rows, f, e)
		}
	}
	if tried == 0 {
		t.Errorf("%s: nothing was changed", name)
	}
}

func TestP102TheBytesOfPartsAreTaken(t *testing.T) {
	for _, c := range smallSources() {
		wantFile(t, opened(t, partsOf(c).bytes()), c)
	}
}

func TestP102LengthOfTheFoot(t *testing.T) {
	for _, other := range []int{-1, 1, 2, 7, 256, 1 << 16, 1 << 24, 1<<31 - 1, 1 << 31, 1<<32 - 200, -20} {
		wantChanged(t, "another length of the foot", func(c source, p *parts) bool {
			p.length = func(foot int) int { return foot + other }
			return true
		})
	}
	for _, one := range []int{0, 1, 5, 1<<31 - 1, 1 << 31, 1<<32 - 1} {
		wantChanged(t, "no length of the foot", func(c source, p *parts) bool {
			p.length = func(int) int { return one }
			return true
		})
	}
	wantChanged(t, "all behind the magic as the foot", func(c source, p *parts) bool {
		columns := len(p.columnBytes())
		p.length = func(foot int) int { return foot + columns }
		return columns > 0
	})
}

func TestP102WhatIsTooMuch(t *testing.T) {
	for _, more := range [][]byte{{0}, {1}, {255}, make([]byte, 100), []byte("CF1"), make([]byte, 2*api.MaxBytes)} {
		wantChanged(t, "bytes behind the columns", func(c source, p *parts) bool {
			p.between = more
			return true
		})
		wantChanged(t, "bytes behind the foot's last ones", func(c source, p *parts) bool {
			p.behind = more
			return true
		})
		wantChanged(t, "bytes ahead of the columns", func(c source, p *parts) bool {
			p.magic = join(p.magic, more)
			return true
		})
		wantChanged(t, "a column's bytes more, its length as they are", func(c source, p *parts) bool {
			return changeEachPart(p, func(one *part) {
				one.column = join(one.column, more)
				one.length = P(len(one.column))
			})
		})
	}
	wantChanged(t, "a column and its statistic more", func(c source, p *parts) bool {
		p.columns = append(p.columns, partOf(api.Whole, []api.Value{int64(1)}))
		return true
	})
}

// changeEachPart answers false, if there is none.
func changeEachPart(p *parts, change func(one *part)) bool {
	for i := range p.columns {
		change(&p.columns[i])
	}
	return len(p.columns) > 0
}

func TestP102AFootCutOff(t *testing.T) {
	for _, c := range smallSources() {
		columns, foot := partsOf(c).columnBytes(), partsOf(c).foot()
		for end := range foot {
			wantNoOpen(t, seal(join([]byte("CF1"), columns, foot[:end], lowest(end))), api.ErrFoot)
			wantStrict(t, seal(join([]byte("CF1"), columns, foot[end+1:], lowest(len(foot)-end-1))))
		}
		wantFile(t, opened(t, seal(join([]byte("CF1"), columns, foot, lowest(len(foot))))), c)
	}
}

func TestP102AnotherOnesFoot(t *testing.T) {
	all := append(smallSources(), sources()[200:210]...)
	for _, a := range all {
		columns := partsOf(a).columnBytes()
		for _, b := range all {
			foot := partsOf(b).foot()
			mixture := seal(join([]byte("CF1"), columns, foot, binary.LittleEndian.AppendUint32(nil, uint32(len(foot)))))
			if bytes.Equal(mixture, partsOf(b).bytes()) {
				wantFile(t, opened(t, mixture), b)
			} else {
				wantNoOpen(t, mixture, api.ErrFoot)
			}
		}
	}
}

// longer is the bytes of a number, and one more, so that they tell the same number.
func longer(b []byte) []byte {
	b = slices.Clone(b)
	b[len(b)-1] |= 128
	return append(b, 0)
}

func TestP102NumbersNotWrittenAsTheyWouldBe(t *testing.T) {
	wantChanged(t, "rows", func(c source, p *parts) bool {
		p.rows = longer(p.rows)
		return true
	})
	wantChanged(t, "group", func(c source, p *parts) bool {
		p.group = longer(p.group)
		return true
	})
	wantChanged(t, "schema", func(c source, p *parts) bool {
		last := len(p.schema) - 1
		p.schema = join(p.schema[:last], longer(p.schema[last:]))
		return true
	})
	wantChanged(t, "length", func(c source, p *parts) bool {
		return changeEachPart(p, func(one *part) { one.length = longer(one.length) })
	})
	wantChanged(t, "nulls", func(c source, p *parts) bool {
		return changeEachPart(p, func(one *part) { one.stat = join(longer(one.stat[:1]), one.stat[1:]) })
	})
	wantChanged(t, "the last bound of a whole number", func(c source, p *parts) bool {
		return changeEachKey(c, p, api.Whole, func(one *part) { one.stat = longer(one.stat) })
	})
	wantChanged(t, "the length of a text's bound", func(c source, p *parts) bool {
		return changeEachKey(c, p, api.Text, func(one *part) { one.stat = join(one.stat[:2], longer(one.stat[2:3]), one.stat[3:]) })
	})
	tooLong := bytes.Repeat([]byte{128}, 9)
	for _, behind := range [][]byte{{}, {1}, {2}, {127}, {128}, {128, 1}} {
		wantChanged(t, "numbers beyond all", func(c source, p *parts) bool {
			p.rows = join(tooLong, behind)
			return true
		})
		wantChanged(t, "numbers beyond all", func(c source, p *parts) bool {
			p.group = join(tooLong, behind)
			return true
		})
		wantChanged(t, "numbers beyond all", func(c source, p *parts) bool {
			return changeEachPart(p, func(one *part) { one.length = join(tooLong, behind) })
		})
	}
}

// changeEachKey changes the keys' parts, if the key is of that kind.
func changeEachKey(c source, p *parts, k api.Kind, change func(one *part)) bool {
	if c.s.Fields[0].Kind != k {
		return false
	}
	for i := 0; i < len(p.columns); i += len(c.s.Fields) {
		change(&p.columns[i])
	}
	return len(p.columns) > 0
}

func TestP102OtherLengthsOfColumns(t *testing.T) {
	for _, other := range []int{-2, -1, 1, 2, 100, 1 << 20} {
		wantChanged(t, "all lengths", func(c source, p *parts) bool {
			return changeEachPart(p, func(one *part) { one.length = P(max(0, len(one.column)+other)) })
		})
		for at := range 8 {
			wantChanged(t, "one length", func(c source, p *parts) bool {
				if at < len(p.columns) {
					p.columns[at].length = P(max(0, len(p.columns[at].column)+other))
				}
				return at < len(p.columns)
			})
		}
	}
	wantChanged(t, "what one has less the next has more", func(c source, p *parts) bool {
		if len(p.columns) < 2 {
			return false
		}
		p.columns[0].length = P(len(p.columns[0].column) - 1)
		p.columns[1].length = P(len(p.columns[1].column) + 1)
		return true
	})
}

// otherStats has statistics that are near st, each unlike it.
func otherStats(st api.Stat) []api.Stat {
	var out []api.Stat
	add := func(change func(st *api.Stat)) {
		other := st
		change(&other)
		if !bytes.Equal(statBytes(other), statBytes(st)) {
			out = append(out, other)
		}
	}
	add(func(st *api.Stat) { st.Nulls++ })
	add(func(st *api.Stat) { st.Nulls = max(0, st.Nulls-1) })
	add(func(st *api.Stat) { st.Some = false; st.High = false })
	add(func(st *api.Stat) { st.High = false })
	add(func(st *api.Stat) { st.Some = true; st.High = true })
	add(func(st *api.Stat) { st.Min.N-- })
	add(func(st *api.Stat) { st.Max.N++ })
	add(func(st *api.Stat) { st.Min.N++ })
	add(func(st *api.Stat) { st.Max.N-- })
	add(func(st *api.Stat) { st.Min = st.Max })
	add(func(st *api.Stat) { st.Min.S = "" })
	add(func(st *api.Stat) { st.Min.S += "a" })
	add(func(st *api.Stat) { st.Max.S += "a" })
	add(func(st *api.Stat) { st.Max.S = strings.Repeat("z", api.MaxText) })
	return out
}

func TestP102OtherStatistics(t *testing.T) {
	tried := 0
	for _, c := range smallSources() {
		fields := len(c.s.Fields)
		for at := range partsOf(c).columns {
			begin := at / fields * c.group
			rows := c.rows[begin:min(begin+c.group, len(c.rows))]
			for _, st := range otherStats(pred.Stats(columnOf(rows, at%fields))) {
				tried++
				p := partsOf(c)
				p.columns[at].stat = statBytes(st)
				wantNoOpen(t, p.bytes(), api.ErrFoot)
			}
		}
	}
	if tried < 100 {
		t.Errorf("just %d statistics", tried)
	}
	for flags := range 256 {
		p := partsOf(exampleSource())
		if flags != 3 {
			p.columns[0].stat[1] = byte(flags)
			wantNoOpen(t, p.bytes(), api.ErrFoot)
		}
	}
}

func TestP102PartsOfOtherGroups(t *testing.T) {
	of := map[string]func(one *part) *[]byte{
		"columns":    func(one *part) *[]byte { return &one.column },
		"statistics": func(one *part) *[]byte { return &one.stat },
	}
	for name, in := range of {
		wantChanged(t, name+" by turns", func(c source, p *parts) bool {
			last := len(p.columns) - len(c.s.Fields)
			if last <= 0 {
				return false
			}
			x, y := in(&p.columns[0]), in(&p.columns[last])
			*x, *y = *y, *x
			return !bytes.Equal(*x, *y)
		})
	}
}

func TestP102GroupsThatMayNotBe(t *testing.T) {
	for _, group := range []int{0, api.MaxGroup + 1, api.MaxGroup + 2, 127, 128, 256, 300, 1 << 32, greatest} {
		for _, n := range []int{0, 1, 2, api.MaxGroup} {
			p := partsOf(source{exampleSchema(), slices.Repeat([][]api.Value{{int64(1), "a"}}, n), api.MaxGroup})
			p.group = P(group)
			wantNoOpen(t, p.bytes(), api.ErrFoot)
		}
	}
	rows := slices.Repeat([][]api.Value{{int64(1), "a"}}, api.MaxRows)
	for _, group := range []int{api.MaxGroup + 1, api.MaxGroup + 2, 128, api.MaxRows} {
		wantNoOpen(t, partsOf(source{exampleSchema(), rows, group}).bytes(), api.ErrFoot)
		wantNoOpen(t, partsOf(source{exampleSchema(), rows[:group], group}).bytes(), api.ErrFoot)
		wantNoOpen(t, partsOf(source{exampleSchema(), rows[:1], group}).bytes(), api.ErrFoot)
	}
}

func TestP102AnotherGroup(t *testing.T) {
	rows := [][]api.Value{{int64(1), "a"}, {int64(2), "b"}, {int64(3), "c"}, {int64(4), "d"}, {int64(5), "e"}}
	for group := 1; group <= 6; group++ {
		for other := 1; other <= 6; other++ {
			p := partsOf(source{exampleSchema(), rows, group})
			p.group = P(other)
			b := p.bytes()
			if group >= len(rows) && other >= len(rows) || group == other {
				wantFile(t, opened(t, b), source{exampleSchema(), rows, other})
			} else {
				wantNoOpen(t, b, api.ErrFoot)
			}
		}
	}
}

func TestP102TooManyRows(t *testing.T) {
	for _, n := range []int{api.MaxRows + 1, api.MaxRows + 2, 2 * api.MaxRows} {
		for _, group := range []int{1, 7, api.MaxGroup} {
			rows := slices.Repeat([][]api.Value{{int64(1), "a"}}, n)
			wantNoOpen(t, partsOf(source{exampleSchema(), rows, group}).bytes(), api.ErrFoot)
			p := partsOf(source{exampleSchema(), rows[:api.MaxRows], group})
			p.rows = P(n)
			wantNoOpen(t, p.bytes(), api.ErrFoot)
		}
	}
}

func TestP102AnotherCountOfRows(t *testing.T) {
	for _, other := range []int{-2, -1, 1, 2, 3, 64, 256, 1 << 32, 1 << 62} {
		wantChanged(t, "rows", func(c source, p *parts) bool {
			n := len(c.rows) + other
			p.rows = P(max(0, n))
			return n >= 0
		})
	}
}

func TestP102TooManyBytes(t *testing.T) {
	for _, more := range []int{1, 2, 3, 4, 5, 1000} {
		wantNoOpen(t, partsOf(sized(t, api.MaxBytes+more)).bytes(), api.ErrFoot)
	}
	c := sized(t, api.MaxBytes)
	wantFile(t, opened(t, partsOf(c).bytes()), c)
}

func TestP102SchemasThatMayNotBe(t *testing.T) {
	for _, c := range wrongSchemas() {
		p := partsOf(source{exampleSchema(), nil, 1})
		p.schema = schema.Pack(c.s)
		wantNoOpen(t, p.bytes(), api.ErrFoot)
		q := partsOf(exampleSource())
		q.schema = schema.Pack(c.s)
		wantNoOpen(t, q.bytes(), api.ErrFoot)
	}
	// These have rows as they would be, if only there were such schemas.
	notNeeded := shape(api.Field{Id: 1, Name: "id", Kind: api.Whole})
	wantNoOpen(t, partsOf(source{notNeeded, [][]api.Value{{int64(1)}}, 1}).bytes(), api.ErrFoot)
	wantNoOpen(t, partsOf(source{shape(key(api.Truth)), [][]api.Value{{true}}, 1}).bytes(), api.ErrFoot)
	bothNeeded := shape(key(api.Whole), api.Field{Id: 2, Name: "b", Kind: api.Whole, Need: true})
	wantNoOpen(t, partsOf(source{bothNeeded, [][]api.Value{{int64(1), int64(2)}}, 1}).bytes(), api.ErrFoot)
}

func TestP102AnotherSchema(t *testing.T) {
	rows := exampleSource().rows
	for _, f := range []func(s *api.Schema){
		func(s *api.Schema) { s.Fields[1].Kind = api.Whole },
		func(s *api.Schema) { s.Fields[1].Kind = api.Truth },
		func(s *api.Schema) { s.Fields[0].Kind = api.Text },
		func(s *api.Schema) { s.Fields = s.Fields[:1] },
		func(s *api.Schema) { s.Fields = append(s.Fields, api.Field{Id: 3, Name: "c", Kind: api.Text}) },
	} {
		s := exampleSchema()
		f(&s)
		p := partsOf(source{exampleSchema(), rows, 1})
		p.schema = schema.Pack(s)
		wantNoOpen(t, p.bytes(), api.ErrFoot)
	}
}

func TestP102ColumnsOfOtherKinds(t *testing.T) {
	values := map[api.Kind]api.Value{api.Whole: int64(1), api.Truth: true, api.Text: "a"}
	for of := range values {
		for as, v := range values {
			if of == as {
				continue
			}
			for _, l := range [][]api.Value{{v}, {v, v}, {nil, v}, {v, nil, v}} {
				s := shape(key(api.Whole), api.Field{Id: 2, Name: "b", Kind: of})
				var rows [][]api.Value
				for range l {
					rows = append(rows, []api.Value{int64(1), nil})
				}
				p := partsOf(source{s, rows, len(rows)})
				p.columns[1] = partOf(as, l)
				wantNoOpen(t, p.bytes(), api.ErrFoot)
			}
		}
	}
}

func TestP102ColumnsOfOtherCounts(t *testing.T) {
	rows := slices.Repeat([][]api.Value{{int64(1), "a"}}, 4)
	for _, n := range []int{0, 1, 3, 5, 8, 200} {
		for at, l := range [][]api.Value{slices.Repeat([]api.Value{int64(1)}, n), slices.Repeat([]api.Value{"a"}, n)} {
			p := partsOf(source{exampleSchema(), rows, 4})
			p.columns[at] = partOf(exampleSchema().Fields[at].Kind, l)
			wantNoOpen(t, p.bytes(), api.ErrFoot)
		}
	}
}

func TestP102NullWhereItMustNotBe(t *testing.T) {
	for _, s := range []api.Schema{exampleSchema(), allKinds(), shape(key(api.Whole)), shape(key(api.Text))} {
		for _, n := range []int{1, 2, 9} {
			for at := range n {
				for _, group := range []int{1, 2, 9} {
					rows := rowsOf(s, n, fillings()[1], nullPatterns(n)[0])
					rows[at][0] = nil
					wantNoOpen(t, partsOf(source{s, rows, group}).bytes(), api.ErrFoot)
				}
			}
		}
	}
	wantNoOpen(t, partsOf(source{shape(key(api.Text)), slices.Repeat([][]api.Value{{nil}}, 5), 2}).bytes(), api.ErrFoot)
}

func TestP102ColumnsNotWrittenAsTheyWouldBe(t *testing.T) {
	s := shape(key(api.Whole), api.Field{Id: 2, Name: "b", Kind: api.Text})
	long := strings.Repeat("a", api.MaxText+1)
	for _, c := range []struct {
		text   string
		column string
	}{
		{"a", "\x00\x01\x01\x02\x00\x02a\x00\x00"},              // by places, which is longer
		{"a", "\x00\x00\x02\x01\x02a"},                          // the lengths by another codec
		{"a", "\x01\x01\x00\x02\x00\x02a"},                      // nulls told, where there are none
		{long, "\x00\x00\x03\x00\x82\x01" + long},               // a text that is too long
		{"a", "\x02\x00\x02\x00\x02a"},                          // no such first byte
		{"a", "\x00\x00\x02\x00\x02a\x00"},                      // one byte more
		{"a", "\x00\x00\x02\x00\x02"}, {"a", ""}, {"a", "\x00"}, // fewer
	} {
		p := partsOf(source{s, [][]api.Value{{int64(1), "a"}}, 1})
		p.columns[1] = part{[]byte(c.column), P(len(c.column)), statBytes(pred.Stats([]api.Value{c.text}))}
		wantNoOpen(t, p.bytes(), api.ErrFoot)
	}
}

func TestP102OrderOfErrors(t *testing.T) {
	wantNoOpen(t, []byte("XX1 and neither sealed"), api.ErrSum)
	wantNoOpen(t, join(seal([]byte("CF1")), []byte{1}), api.ErrSum)
	wantNoOpen(t, seal([]byte("XX1\xff\xff\xff\xff")), api.ErrMagic)
	wantNoOpen(t, seal([]byte("CF1\xff\xff\xff\xff")), api.ErrFoot)
}

// TestP102P105StrictOfManySorts has files of many sorts, each with some bytes changed and sealed anew.
func TestP102P105StrictOfManySorts(t *testing.T) {
	for i, c := range sources() {
		b := partsOf(c).bytes()
		if len(b) > 4000 {
			continue
		}
		wantStrict(t, b)
		for turn := range 6 {
			text := unsealed(b)
			text[mixed(i*6+turn)>>20%uint64(len(text))] ^= byte(1 << turn)
			wantStrict(t, seal(text))
		}
	}
}
