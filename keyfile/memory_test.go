package keyfile

import (
	"bytes"
	"slices"
	"testing"

	"catchment/api"
)

// roomy is the list with spare room behind it, in which spare stands.
func roomy[T any](l []T, spare T) []T {
	return append(slices.Clone(l), spare, spare, spare)[:len(l)]
}

// wantRoomAsItWas: nothing was written into the list's spare room.
func wantRoomAsItWas[T comparable](t *testing.T, l []T, spare T) {
	t.Helper()
	for _, one := range l[len(l) : len(l)+3] {
		if one != spare {
			t.Errorf("the spare room of %v: %v", l, one)
		}
	}
}

// overwrite changes all of the list, its spare room too.
func overwrite[T any](l []T, over T) {
	l = l[:cap(l)]
	for i := range l {
		l[i] = over
	}
}

func TestRule5WriteChangesNothing(t *testing.T) {
	for _, c := range sources() {
		l := roomy(c.l, api.Value("spare"))
		written(t, c.kind, l)
		if !slices.Equal(l, c.l) {
			t.Fatalf("Write changed %q to %q", c.l, l)
		}
		wantRoomAsItWas(t, l, "spare")
	}
	for _, k := range []api.Kind{api.Whole, api.Text, api.Truth} {
		for _, bad := range [][]api.Value{append(keysOf(k), nil), append(keysOf(k), true), numbersFrom(api.MaxRows+9, -1, api.MaxRows+9), reversed(textsFrom(api.MaxRows+9, 3))} {
			l := roomy(bad, api.Value("spare"))
			Write(k, l)
			if !slices.Equal(l, bad) {
				t.Errorf("Write changed %q to %q", bad, l)
			}
			wantRoomAsItWas(t, l, "spare")
		}
	}
}

func TestRule5AnswersOfWrite(t *testing.T) {
	for _, c := range smallSources() {
		l := slices.Clone(c.l)
		one, other := written(t, c.kind, l), written(t, c.kind, l)
		want := partsOf(c.kind, c.keys).bytes()
		overwrite(l, api.Value("over"))
		if !bytes.Equal(one, want) {
			t.Errorf("the bytes share memory with what was handed in: %q", one)
		}
		overwrite(one, 99)
		if !bytes.Equal(other, want) || !bytes.Equal(written(t, c.kind, c.l), want) {
			t.Errorf("two answers of Write share memory")
		}
	}
}

func TestRule5OpenChangesNothing(t *testing.T) {
	var all [][]byte
	for _, c := range smallSources() {
		good := written(t, c.kind, c.l)
		text := unsealed(good)
		all = append(all, good, text, seal(text[:len(text)-1]), seal(append(text, 0)), seal(text[1:]))
	}
	for _, want := range all {
		b := roomy(want, 77)
		Open(b)
		if !bytes.Equal(b, want) {
			t.Errorf("Open changed %d to %d", want, b)
		}
		wantRoomAsItWas(t, b, 77)
	}
}

func TestRule5OpenKeepsNothing(t *testing.T) {
	for _, c := range sources() {
		b := written(t, c.kind, c.l)
		s := opened(t, b)
		overwrite(b, 'z')
		wantSet(t, s, c.kind, c.keys)
		wantHasJust(t, s, c.keys, append(probes(), c.keys...))
	}
}

func TestRule5Keys(t *testing.T) {
	for _, c := range sources() {
		s := setFrom(t, c)
		one, other := s.Keys(), s.Keys()
		overwrite(one, api.Value("over"))
		if !slices.Equal(other, c.keys) {
			t.Fatalf("two answers of Keys share memory: %q", other)
		}
		wantSet(t, s, c.kind, c.keys)
		wantHasJust(t, s, c.keys, append(probes(), c.keys...))
		overwrite(other, nil)
		if got := written(t, c.kind, s.Keys()); !bytes.Equal(got, partsOf(c.kind, c.keys).bytes()) {
			t.Fatalf("writing over keys changed the file: %q", got)
		}
	}
}

// TestRule6TheSameAgain: two sets of the same bytes, and two calls, answer the same.
func TestRule6TheSameAgain(t *testing.T) {
	for _, c := range smallSources() {
		b := written(t, c.kind, c.l)
		one, other := opened(t, b), opened(t, b)
		for range 2 {
			wantHasJust(t, one, c.keys, probes())
			wantSet(t, one, c.kind, c.keys)
			wantHasJust(t, other, c.keys, probes())
			wantSet(t, other, c.kind, c.keys)
		}
		if !bytes.Equal(b, written(t, c.kind, c.l)) {
			t.Errorf("Write answers something else")
		}
	}
}
