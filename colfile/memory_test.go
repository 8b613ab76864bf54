package colfile

import (
	"bytes"
	"slices"
	"testing"

	"catchment/api"
)

// roomy is the list with spare room behind it, in which spare stands.
func roomy[T any](l []T, spare T) []T {
	return append(slices.Clone(l), spare, spare, spare)[:len(l)]
}

// spareOf is what stands in the list's spare room.
func spareOf[T any](l []T) []T {
	return l[len(l) : len(l)+3]
}

// roomySource is the source with spare room in each of its lists.
func roomySource(c source) source {
	rows := roomy(clonedRows(c.rows), []api.Value{"spare"})
	for i := range rows {
		rows[i] = roomy(rows[i], api.Value("spare"))
	}
	return source{api.Schema{Id: c.s.Id, Fields: roomy(c.s.Fields, api.Field{Id: 77})}, rows, c.group}
}

func wantAsItWas(t *testing.T, got, want source) {
	t.Helper()
	if !sameSchema(got.s, want.s) || !sameRows(got.rows, want.rows) {
		t.Errorf("%v, %q; they were %v, %q", got.s, got.rows, want.s, want.rows)
	}
	for _, f := range spareOf(got.s.Fields) {
		if f != (api.Field{Id: 77}) {
			t.Errorf("a field's spare room: %v", f)
		}
	}
	for _, row := range spareOf(got.rows) {
		if !slices.Equal(row, []api.Value{"spare"}) {
			t.Errorf("the rows' spare room: %v", row)
		}
	}
	for _, row := range got.rows {
		if !slices.Equal(spareOf(row), []api.Value{"spare", "spare", "spare"}) {
			t.Errorf("a row's spare room: %v", spareOf(row))
		}
	}
}

// overwrite changes each row, and each list of them.
func overwrite(rows [][]api.Value) {
	for i, row := range rows {
		for at := range row {
			row[at] = "over"
		}
		_ = append(row, "over", "over")
		rows[i] = []api.Value{"over"}
	}
	_ = append(rows, []api.Value{"over"})
}

func overwriteBytes(b []byte) {
	for i := range b {
		b[i] = 99
	}
}

func TestRule5WriteChangesAndKeepsNothing(t *testing.T) {
	for _, c := range smallSources() {
		in := roomySource(c)
		b := written(t, in)
		wantAsItWas(t, in, c)
		again := written(t, in)
		f := opened(t, b)
		overwrite(in.rows)
		for i := range in.s.Fields {
			in.s.Fields[i] = api.Field{}
		}
		wantFile(t, f, c)
		want := partsOf(c).bytes()
		if !bytes.Equal(b, want) || !bytes.Equal(again, want) {
			t.Errorf("the bytes hang on what was handed in")
		}
		overwriteBytes(b)
		_ = append(b, 1, 2, 3)
		if !bytes.Equal(again, want) || !bytes.Equal(written(t, c), want) {
			t.Errorf("two answers of Write share memory")
		}
	}
}

func TestRule5RefusedWriteChangesNothing(t *testing.T) {
	for _, c := range wrongRows() {
		want := source{allKinds(), [][]api.Value{{int64(1), nil, nil, nil}, c.row}, 1}
		in := roomySource(want)
		wantNoWrite(t, in, c.want)
		wantAsItWas(t, in, want)
	}
}

func TestRule5OpenChangesAndKeepsNothing(t *testing.T) {
	for _, c := range smallSources() {
		want := written(t, c)
		b := roomy(want, 55)
		f, g := opened(t, b), opened(t, b)
		if !bytes.Equal(b, want) || !bytes.Equal(spareOf(b), []byte{55, 55, 55}) {
			t.Errorf("Open changed its bytes")
		}
		overwriteBytes(b)
		wantFile(t, f, c)
		overwrite(f.All())
		wantFile(t, f, c)
		wantFile(t, g, c)
		refused := roomy(seal([]byte("CF1 no file")), 55)
		wantNoOpen(t, refused, api.ErrFoot)
		if !bytes.Equal(refused, seal([]byte("CF1 no file"))) || !bytes.Equal(spareOf(refused), []byte{55, 55, 55}) {
			t.Errorf("Open changed bytes that it refused")
		}
	}
}

func TestRule5Schema(t *testing.T) {
	for _, c := range smallSources() {
		f := fileOf(t, c)
		one, other := f.Schema(), f.Schema()
		_ = append(one.Fields, api.Field{Id: 5})
		for i := range one.Fields {
			one.Fields[i] = api.Field{Id: 99}
		}
		if !sameSchema(other, c.s) {
			t.Errorf("two answers of Schema share memory")
		}
		wantFile(t, f, c)
	}
}

func TestRule5All(t *testing.T) {
	for _, c := range smallSources() {
		f := fileOf(t, c)
		one, other := f.All(), f.All()
		for i, row := range one {
			_ = append(row, "over", "over", "over")
			if !sameRows(one, c.rows) {
				t.Errorf("the row %d shares memory with another one", i)
			}
		}
		overwrite(one)
		if !sameRows(other, c.rows) {
			t.Errorf("two answers of All share memory")
		}
		wantFile(t, f, c)
	}
}

func TestRule5Find(t *testing.T) {
	rows := fourGroups()
	f := fileOf(t, source{allKinds(), rows, 2})
	for _, q := range append(queriesOfFields(), queriesOfKids()...) {
		one, _ := f.Find(q.p)
		other, _ := f.Find(q.p)
		all := f.All()
		for i, row := range one {
			_ = append(row, "over", "over", "over")
			if !sameRows(one, rowsAt(rows, q.places)) {
				t.Errorf("the row %d shares memory with another one", i)
			}
		}
		overwrite(one)
		if !sameRows(other, rowsAt(rows, q.places)) || !sameRows(all, rows) {
			t.Errorf("answers share memory")
		}
		wantFind(t, f, q.p, rowsAt(rows, q.places), q.looked)
	}
	wantFile(t, f, source{allKinds(), rows, 2})
}

func TestRule5FindChangesNoPredicate(t *testing.T) {
	f := fileOf(t, source{allKinds(), fourGroups(), 2})
	kids := roomy([]api.Pred{on(api.Eq, ofWhole, 1), on(api.IsNull, ofText, nil)}, api.Pred{Op: 77})
	f.Find(or(kids...))
	f.Find(api.Pred{Op: 200, Kids: kids})
	if kids[0].Op != api.Eq || kids[0].Field != ofWhole || kids[0].Value != whole(1) || kids[1].Op != api.IsNull || kids[1].Field != ofText || kids[1].Value != (api.Cell{}) {
		t.Errorf("the Kids are %v", kids)
	}
	for _, p := range spareOf(kids) {
		if p.Op != 77 {
			t.Errorf("the Kids' spare room: %v", p)
		}
	}
}

// TestRule6TheSameAgain: two files of the same bytes, and two calls, answer the same.
func TestRule6TheSameAgain(t *testing.T) {
	for _, c := range smallSources() {
		b := written(t, c)
		f, g := opened(t, b), opened(t, b)
		for _, p := range predicatesFor(c) {
			one, n := f.Find(p)
			wantFind(t, g, p, one, n)
			wantFind(t, f, p, one, n)
		}
		wantFile(t, f, c)
		wantFile(t, f, c)
		wantFile(t, g, c)
		if !bytes.Equal(b, written(t, c)) {
			t.Errorf("Write answers something else")
		}
	}
}
