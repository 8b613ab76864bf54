package sealed

import (
	"slices"
	"testing"

	"catchment/api"
	"catchment/crc"
)

func TestOpen(t *testing.T) {
	for _, c := range []struct {
		magic, text string
		want        string
		e           api.Errno
	}{
		{"XY1", "XY1", "", api.OK},
		{"XY1", "XY1abc", "abc", api.OK},
		{"XY1", "XY1XY1", "XY1", api.OK},
		{"XY1", "XY1\x00\x00\x00\x00", "\x00\x00\x00\x00", api.OK},
		{"XY1", "", "", api.ErrMagic},
		{"XY1", "X", "", api.ErrMagic},
		{"XY1", "XY", "", api.ErrMagic},
		{"XY1", "XY2abc", "", api.ErrMagic},
		{"XY1", "xy1abc", "", api.ErrMagic},
		{"XY1", " XY1abc", "", api.ErrMagic},
		{"", "abc", "abc", api.OK},
		{"", "", "", api.OK},
	} {
		got, e := Open(c.magic, crc.Seal([]byte(c.text)))
		if string(got) != c.want || e != c.e {
			t.Errorf("Open(%q, the sealed %q) = %q, %d; want %q, %d", c.magic, c.text, got, e, c.want, c.e)
		}
	}
}

func TestOpenOfWhatIsNotSealed(t *testing.T) {
	good := crc.Seal([]byte("XY1abc"))
	for i := range good {
		turned := slices.Clone(good)
		turned[i] ^= 1
		for _, b := range [][]byte{turned, good[:i], append(slices.Clone(good), byte(i))} {
			if got, e := Open("XY1", b); len(got) != 0 || e != api.ErrSum {
				t.Errorf("Open(%q) = %q, %d; want ErrSum", b, got, e)
			}
		}
	}
	if got, e := Open("XY1", nil); len(got) != 0 || e != api.ErrSum {
		t.Errorf("Open(nil) = %q, %d; want ErrSum", got, e)
	}
}

func TestOpenAnswersNewMemory(t *testing.T) {
	b := crc.Seal([]byte("XY1abc"))
	want := slices.Clone(b)
	got, _ := Open("XY1", b)
	for i := range got {
		got[i] = 'z'
	}
	_ = append(got, 'z', 'z', 'z', 'z')
	if !slices.Equal(b, want) {
		t.Errorf("writing over the answer changed %q", b)
	}
}
