package schema

import (
	"bytes"
	"encoding/binary"
	"math"
	"slices"
	"strings"
	"testing"

	"catchment/api"
)

// P is the chapter's word.
func P(n uint64) []byte { return binary.AppendUvarint(nil, n) }

func join(parts ...[]byte) []byte {
	return slices.Concat(parts...)
}

// number is one of the numbers of a schema's bytes: its own bytes, and what it has room for.
type number struct {
	bytes []byte
	room  uint64
}

// pieces has a schema's bytes piece by piece, as the chapter's words have it: a name stands with the room 0.
func pieces(s api.Schema) []number {
	out := []number{{P(uint64(s.Id)), math.MaxUint32}, {P(uint64(len(s.Fields))), api.MaxFields}}
	for _, f := range s.Fields {
		need := uint64(0)
		if f.Need {
			need = 1
		}
		out = append(out, number{P(uint64(f.Id)), math.MaxUint32}, number{P(uint64(len(f.Name))), api.MaxName}, number{[]byte(f.Name), 0}, number{P(uint64(f.Kind)), 255}, number{P(need), 1})
	}
	return out
}

func joined(l []number) []byte {
	var b []byte
	for _, n := range l {
		b = append(b, n.bytes...)
	}
	return b
}

// behinds has what may stand behind a schema's bytes.
func behinds() [][]byte {
	return [][]byte{nil, {0}, {9}, {255}, {128}, []byte("\x01\x02\x03"), Pack(exampleSchema()), bytes.Repeat([]byte{200}, 300)}
}

func wantUnpack(t *testing.T, b []byte, s api.Schema, left []byte) {
	t.Helper()
	if got, rest, e := Unpack(b); e != api.OK || !sameSchema(got, s) || !bytes.Equal(rest, left) {
		t.Errorf("Unpack(%d) = %v, %d, %d; want %v, %d", b, got, rest, e, s, left)
	}
}

func wantNoUnpack(t *testing.T, b []byte, want api.Errno) {
	t.Helper()
	if got, rest, e := Unpack(b); e != want || !sameSchema(got, api.Schema{}) || len(rest) != 0 {
		t.Errorf("Unpack(%d) = %v, %d, %d; want %d", b, got, rest, e, want)
	}
}

// packable has schemas of all sorts, also such as may not be.
func packable() []api.Schema {
	out := goodSchemas()
	for _, c := range badSchemas() {
		out = append(out, c.s)
	}
	return out
}

func TestP85Pack(t *testing.T) {
	for _, s := range packable() {
		if got, want := Pack(s), joined(pieces(s)); !bytes.Equal(got, want) {
			t.Errorf("Pack(%v) = %d; want %d", s, got, want)
		}
	}
}

func TestP85PackKnownBytes(t *testing.T) {
	for _, c := range []struct {
		s    api.Schema
		want string
	}{
		{api.Schema{}, "\x00\x00"},
		{exampleSchema(), "\x01\x02\x01\x02id\x01\x01\x02\x04name\x03\x00"},
		{api.Schema{Id: top, Fields: []api.Field{{Id: 300, Name: "é", Kind: api.Text, Need: true}}}, "\xff\xff\xff\xff\x0f\x01\xac\x02\x02\xc3\xa9\x03\x01"},
		{shape(api.Field{Kind: 255}), "\x01\x01\x00\x00\xff\x01\x00"},
	} {
		if got := Pack(c.s); string(got) != c.want {
			t.Errorf("Pack(%v) = %q; want %q", c.s, got, c.want)
		}
	}
}

func TestP85P86UnpackOfPack(t *testing.T) {
	for _, s := range goodSchemas() {
		for _, left := range behinds() {
			wantUnpack(t, join(Pack(s), left), s, left)
			wantUnpack(t, join(joined(pieces(s)), left), s, left)
		}
	}
}

func TestP85UnpackOneBehindTheOther(t *testing.T) {
	var b []byte
	for _, s := range goodSchemas() {
		b = append(b, Pack(s)...)
	}
	for _, want := range goodSchemas() {
		got, rest, e := Unpack(b)
		if e != api.OK || !sameSchema(got, want) {
			t.Fatalf("%v, %d; want %v", got, e, want)
		}
		b = rest
	}
	if len(b) != 0 {
		t.Errorf("%d is left", b)
	}
}

func TestP85UnpackOfWhatIsCutOff(t *testing.T) {
	wantNoUnpack(t, nil, api.ErrEnd)
	wantNoUnpack(t, []byte{}, api.ErrEnd)
	for _, s := range goodSchemas() {
		b := Pack(s)
		for n := range b {
			wantNoUnpack(t, b[:n], api.ErrEnd)
			wantNoUnpack(t, b[:n:n], api.ErrEnd)
		}
	}
}

// replaced is the bytes of the pieces ahead of a place, and others there.
func replaced(l []number, place int, others ...byte) []byte {
	return join(joined(l[:place]), others)
}

func TestP85UnpackOfNumbersThatAreTooLong(t *testing.T) {
	for _, s := range goodSchemas() {
		l := pieces(s)
		for i, n := range l {
			if n.room == 0 {
				continue
			}
			last := len(n.bytes) - 1
			long := join(n.bytes[:last], []byte{n.bytes[last] | 128, 0})
			rest := joined(l[i+1:])
			wantNoUnpack(t, replaced(l, i, join(long, rest)...), api.ErrVar)
			wantNoUnpack(t, replaced(l, i, long...), api.ErrVar)
			wantNoUnpack(t, replaced(l, i, 128, 0), api.ErrVar)
			wantNoUnpack(t, replaced(l, i, bytes.Repeat([]byte{255}, 10)...), api.ErrVar)
			wantNoUnpack(t, replaced(l, i, bytes.Repeat([]byte{255}, 9)...), api.ErrEnd)
			wantNoUnpack(t, replaced(l, i, 128), api.ErrEnd)
		}
	}
}

func TestP85UnpackOfNumbersBeyondTheirRoom(t *testing.T) {
	for _, s := range goodSchemas() {
		l := pieces(s)
		for i, n := range l {
			if n.room == 0 {
				continue
			}
			rest := joined(l[i+1:])
			for _, beyond := range []uint64{n.room + 1, n.room + 2, 2*n.room + 2, 256*n.room + 256, 1<<32 + 1, 1 << 40, 1 << 63, math.MaxUint64} {
				wantNoUnpack(t, replaced(l, i, join(P(beyond), rest)...), api.ErrForm)
				wantNoUnpack(t, replaced(l, i, P(beyond)...), api.ErrForm)
			}
		}
	}
}

func TestP85UnpackOfNumbersThatFillTheirRoom(t *testing.T) {
	one := api.Field{Id: top, Name: strings.Repeat("n", api.MaxName), Kind: api.Text, Need: true}
	s := api.Schema{Id: top, Fields: []api.Field{one}}
	wantUnpack(t, Pack(s), s, nil)
	s.Fields[0].Kind = 255
	wantNoUnpack(t, Pack(s), api.ErrKind)
	s = wide(api.MaxFields)
	wantUnpack(t, Pack(s), s, nil)
}

func TestP85UnpackOfNamesThatEndTooEarly(t *testing.T) {
	for length := 1; length <= api.MaxName; length++ {
		for n := range length {
			b := join([]byte{1, 1, 1, byte(length)}, bytes.Repeat([]byte{'a'}, n))
			wantNoUnpack(t, b, api.ErrEnd)
			wantNoUnpack(t, join([]byte{0, 1, 0, byte(length)}, bytes.Repeat([]byte{'A'}, n)), api.ErrEnd)
		}
	}
}

func TestP85UnpackOfWhatMayNotBe(t *testing.T) {
	for _, c := range badSchemas() {
		want := c.want
		if len(c.s.Fields) > api.MaxFields || slices.ContainsFunc(c.s.Fields, func(f api.Field) bool { return len(f.Name) > api.MaxName }) {
			want = api.ErrForm
		}
		for _, left := range behinds() {
			wantNoUnpack(t, join(Pack(c.s), left), want)
		}
	}
}

// What stands further left is told first, and all of it ahead of whether the schema may be.
func TestP85UnpackTellsTheFirstErrorFromTheLeft(t *testing.T) {
	wantNoUnpack(t, []byte{0, 9}, api.ErrForm)
	wantNoUnpack(t, []byte{0, 1}, api.ErrEnd)
	wantNoUnpack(t, []byte{0, 1, 0, 17}, api.ErrForm)
	wantNoUnpack(t, []byte{0, 1, 0, 128, 0}, api.ErrVar)
	wantNoUnpack(t, []byte{0, 1, 0, 0, 9, 2}, api.ErrForm)
	wantNoUnpack(t, []byte{0, 1, 0, 0, 9, 1}, api.ErrArg)
	wantNoUnpack(t, []byte{1, 1, 0, 0, 9, 1}, api.ErrField)
	wantNoUnpack(t, []byte{1, 1, 1, 0, 9, 1}, api.ErrName)
	wantNoUnpack(t, []byte{1, 1, 1, 1, 'a', 9, 1}, api.ErrKind)
	wantNoUnpack(t, []byte{1, 1, 1, 1, 'a', 2, 1}, api.ErrNeed)
	wantNoUnpack(t, []byte{1, 9, 128, 0}, api.ErrForm)
	wantNoUnpack(t, []byte{128, 0, 9}, api.ErrVar)
	wantNoUnpack(t, []byte{1, 2, 1, 1, 'a', 1, 2, 128, 0}, api.ErrForm)
	wantNoUnpack(t, []byte{1, 2, 1, 1, 'a', 1, 128, 0, 2, 17}, api.ErrVar)
	wantNoUnpack(t, []byte{1, 1, 1, 17}, api.ErrForm)
	wantNoUnpack(t, []byte{1, 0}, api.ErrArg)
	wantNoUnpack(t, []byte{1, 0, 128, 0}, api.ErrArg)
	wantNoUnpack(t, []byte{0, 0}, api.ErrArg)
}

// What Unpack takes are just the bytes that Pack makes.
func TestP86PackOfUnpack(t *testing.T) {
	for _, s := range goodSchemas()[:12] {
		b := join(Pack(s), []byte{1, 2, 3})
		for i := range b {
			for c := range 256 {
				changed := slices.Clone(b)
				changed[i] = byte(c)
				got, rest, e := Unpack(changed)
				if e != api.OK {
					wantNoUnpack(t, changed, e)
				} else if !bytes.Equal(join(Pack(got), rest), changed) || Check(got) != api.OK {
					t.Errorf("Unpack(%d) = %v, %d", changed, got, rest)
				}
			}
		}
	}
}

func TestPackAndUnpackLeaveWhatIsHandedIn(t *testing.T) {
	for _, s := range packable() {
		for _, b := range [][]byte{Pack(s), join(Pack(s), []byte{5, 6}), Pack(s)[:len(Pack(s))-1]} {
			room := spare(b, 170)
			Unpack(room)
			if !bytes.Equal(room[:len(b)+2], join(b, []byte{170, 170})) {
				t.Errorf("of %d became %d", b, room[:len(b)+2])
			}
		}
	}
}

func TestAnswersOfPackAndUnpackAreNewMemory(t *testing.T) {
	want, left := exampleSchema(), []byte{1, 2, 3}
	s := copied(want)
	b, other := Pack(s), Pack(s)
	clear(s.Fields)
	clear(other[:cap(other)])
	wantUnpack(t, b, want, nil)
	b = join(b, left)
	one, rest, _ := Unpack(b)
	two, again, _ := Unpack(b)
	clear(b)
	if !sameSchema(one, want) || !bytes.Equal(rest, left) {
		t.Error("Unpack keeps what it was handed", one, rest)
	}
	clear(one.Fields[:cap(one.Fields)])
	clear(rest[:cap(rest)])
	if !sameSchema(two, want) || !bytes.Equal(again, left) {
		t.Error("two answers of Unpack share memory", two, again)
	}
	b = join(Pack(want), left)
	_, rest, _ = Unpack(b)
	clear(rest[:cap(rest)])
	wantUnpack(t, b, want, left)
}
