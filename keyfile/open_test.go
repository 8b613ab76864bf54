package keyfile

import (
	"bytes"
	"encoding/binary"
	"math/rand"
	"slices"
	"testing"

	"catchment/api"
	"catchment/bits"
	"catchment/ints"
)

func wantNoOpen(t *testing.T, b []byte, want api.Errno) {
	t.Helper()
	if s, e := Open(b); e != want || s != nil {
		t.Errorf("Open(%q) = %v, %d; want %d", b, s, e, want)
	}
}

// wantStrict: the sealed text b is either refused, or just what Write makes of what Open tells of it.
func wantStrict(t *testing.T, b []byte) {
	t.Helper()
	s, e := Open(b)
	if e != api.OK {
		want := api.ErrFoot
		if !bytes.HasPrefix(unsealed(b), []byte("KF1")) {
			want = api.ErrMagic
		}
		if e != want || s != nil {
			t.Fatalf("Open(%q) = %v, %d; want %d", b, s, e, want)
		}
		return
	}
	again, e := Write(s.Kind(), s.Keys())
	if e != api.OK || !bytes.Equal(again, b) || s.Len() != len(s.Keys()) {
		t.Fatalf("Open took %q; written again it is %q, %d", b, again, e)
	}
}

func TestP112NoSealedText(t *testing.T) {
	good := written(t, api.Whole, listOf[int64](5, 3, 5))
	for _, b := range [][]byte{
		nil, {}, {0}, {0, 0, 0}, []byte("KF1"), {0, 0, 0, 1}, {1, 0, 0, 0, 0}, []byte("KF1\x00\x00\x00\x00"), good[1:], unsealed(good),
		join(good, []byte{0}), join([]byte{0}, good), make([]byte, 1000), bytes.Repeat([]byte{255}, 100000), join(good, good),
		join(unsealed(good), []byte{1, 2, 3, 4}), []byte("XF1 is no sealed text either"), join(unsealed(good), reversedBytes(good[len(good)-4:])),
	} {
		wantNoOpen(t, b, api.ErrSum)
	}
	for end := range good {
		wantNoOpen(t, good[:end], api.ErrSum)
	}
}

func reversedBytes(b []byte) []byte {
	b = slices.Clone(b)
	slices.Reverse(b)
	return b
}

func TestP112EachByteTurned(t *testing.T) {
	for _, c := range smallSources() {
		good := written(t, c.kind, c.l)
		for i := range good {
			for turn := 1; turn < 256; turn++ {
				b := slices.Clone(good)
				b[i] ^= byte(turn)
				wantNoOpen(t, b, api.ErrSum)
			}
		}
	}
}

func TestP112EachByteTurnedAndSealedAnew(t *testing.T) {
	for _, c := range smallSources() {
		text := unsealed(written(t, c.kind, c.l))
		for i := range text {
			for turn := 1; turn < 256; turn++ {
				b := slices.Clone(text)
				b[i] ^= byte(turn)
				wantStrict(t, seal(b))
			}
		}
	}
}

func TestP112EachBeginningSealedAnew(t *testing.T) {
	big := []source{{api.Whole, numbersFrom(least, 1<<56, api.MaxRows), nil}, {api.Text, textsFrom(api.MaxRows, 3), nil}}
	for _, c := range append(smallSources(), big...) {
		text := unsealed(written(t, c.kind, c.l))
		for end := range text {
			if end < len("KF1") {
				wantNoOpen(t, seal(text[:end]), api.ErrMagic)
			} else {
				wantNoOpen(t, seal(text[:end]), api.ErrFoot)
			}
		}
	}
}

func TestP112EachByteLeftOutOrPutIn(t *testing.T) {
	for _, c := range smallSources() {
		text := unsealed(written(t, c.kind, c.l))
		for i := range text {
			wantStrict(t, seal(slices.Delete(slices.Clone(text), i, i+1)))
			for more := range 256 {
				wantStrict(t, seal(slices.Insert(slices.Clone(text), i, byte(more))))
				wantStrict(t, seal(append(slices.Clone(text[:i]), byte(more))))
			}
		}
	}
}

// TestP112BytesChangedHereAndThere has more than one byte changed, always the same ones.
func TestP112BytesChangedHereAndThere(t *testing.T) {
	r := rand.New(rand.NewSource(11))
	few := smallSources()
	for range 100000 {
		c := few[r.Intn(len(few))]
		b := partsOf(c.kind, c.keys).text()
		for range 2 + r.Intn(3) {
			at := r.Intn(len(b))
			switch r.Intn(4) {
			case 0:
				b[at] = byte(r.Intn(256))
			case 1:
				b[at]++
			case 2:
				b[at]--
			default:
				b[at] = b[r.Intn(len(b))]
			}
		}
		wantStrict(t, seal(b))
	}
}

func TestP112ByChance(t *testing.T) {
	r := rand.New(rand.NewSource(22))
	for range 50000 {
		b := make([]byte, r.Intn(20))
		for i := range b {
			b[i] = byte(r.Intn(1 << (1 + r.Intn(8))))
		}
		wantStrict(t, seal(b))
		wantStrict(t, seal(join([]byte("KF1"), b)))
		wantStrict(t, seal(join([]byte("KF1\x01"), P(r.Intn(4)), []byte{0}, b)))
		wantStrict(t, seal(join([]byte("KF1\x03"), P(r.Intn(4)), []byte{0}, b)))
	}
}

func TestP112NoMagic(t *testing.T) {
	text := unsealed(written(t, api.Whole, listOf[int64](5, 3, 5)))
	for _, magic := range []string{"", "K", "KF", "KF2", "KF0", "kf1", "CF1", "MF1", "TF1", " KF1", "\x00KF1", "FK1", "KF\x00", "K\xc61"} {
		wantNoOpen(t, seal([]byte(magic)), api.ErrMagic)
		wantNoOpen(t, seal(join([]byte(magic), text[3:])), api.ErrMagic)
	}
	wantNoOpen(t, seal(nil), api.ErrMagic)
	wantNoOpen(t, []byte{0, 0, 0, 0}, api.ErrMagic) // the sealed text of nothing
	wantNoOpen(t, seal(make([]byte, 2*api.MaxBytes)), api.ErrMagic)
	wantNoOpen(t, join(seal([]byte("KF2")), []byte{0}), api.ErrSum)
}

func TestP112MagicAlone(t *testing.T) {
	for _, behind := range []string{"", "\x00", "\x01", "\x03", "\x01\x00", "\x01\x00\x00", "\x03\x00\x00", "\x03\x00\x00\x00", "\x01\x01\x00", "\x80", "\x81\x00", "KF1", "\x00\x00\x00\x00\x00"} {
		wantNoOpen(t, seal([]byte("KF1"+behind)), api.ErrFoot)
	}
	for a := range 256 {
		wantNoOpen(t, seal([]byte{'K', 'F', '1', byte(a)}), api.ErrFoot)
		for b := range 256 {
			wantNoOpen(t, seal([]byte{'K', 'F', '1', byte(a), byte(b)}), api.ErrFoot)
		}
	}
}

// wantChanged: the bytes of each small source, changed so, are those of no set. The change answers false, if it changes nothing.
func wantChanged(t *testing.T, name string, change func(c source, p *parts) bool) {
	t.Helper()
	tried := 0
	for _, c := range smallSources() {
		p := partsOf(c.kind, c.keys)
		if !change(c, p) {
			continue
		}
		tried++
		if s, e := Open(p.bytes()); e != api.ErrFoot || s != nil {
			t.Errorf("%s: Open of %q changed = %v, %d; want ErrFoot", name, c.keys, s, e)
		}
	}
	if tried == 0 {
		t.Errorf("%s: nothing was changed", name)
	}
}

func TestP112TheBytesOfPartsAreTaken(t *testing.T) {
	for _, c := range smallSources() {
		wantSet(t, opened(t, partsOf(c.kind, c.keys).bytes()), c.kind, c.keys)
	}
}

func TestP112OtherKinds(t *testing.T) {
	for _, k := range []int{0, 2, 4, 5, 127, 128, 255, 256, 256 + 1, 256 + 3, 512 + 1, 1<<16 + 1, 1<<32 + 1, 1<<32 + 3, 1<<62 + 1} {
		wantChanged(t, "another kind", func(c source, p *parts) bool {
			p.kind = P(k)
			return true
		})
	}
	wantChanged(t, "the other one of the two kinds", func(c source, p *parts) bool {
		p.kind = P(int(api.Whole + api.Text - c.kind))
		return true
	})
	wantChanged(t, "no kind", func(c source, p *parts) bool {
		p.kind = nil
		return true
	})
	truths := partsOf(api.Truth, listOf(false, true))
	wantNoOpen(t, truths.bytes(), api.ErrFoot)
	wantNoOpen(t, partsOf(api.Truth, nil).bytes(), api.ErrFoot)
	truths.kind = P(int(api.Whole))
	wantNoOpen(t, truths.bytes(), api.ErrFoot)
}

// longer is the bytes of a number, and one more, so that they tell the same number.
func longer(b []byte) []byte {
	b = slices.Clone(b)
	b[len(b)-1] |= 128
	return append(b, 0)
}

func TestP112NumbersNotWrittenAsTheyWouldBe(t *testing.T) {
	wantChanged(t, "a longer kind", func(c source, p *parts) bool {
		p.kind = longer(p.kind)
		return true
	})
	wantChanged(t, "a longer count", func(c source, p *parts) bool {
		p.count = longer(p.count)
		return true
	})
	tooLong := bytes.Repeat([]byte{128}, 9)
	for _, behind := range [][]byte{{}, {0}, {1}, {2}, {127}, {128}, {128, 1}} {
		wantChanged(t, "a kind beyond all", func(c source, p *parts) bool {
			p.kind = join(tooLong, behind)
			return true
		})
		wantChanged(t, "a count beyond all", func(c source, p *parts) bool {
			p.count = join(tooLong, behind)
			return true
		})
	}
}

func TestP112NumbersCutOff(t *testing.T) {
	for _, k := range []byte{1, 3} {
		for _, cut := range []string{"", "\x80", "\x82", "\xff", "\xff\xff\xff", "\x80\x80\x80\x80\x80\x80\x80\x80\x80"} {
			wantNoOpen(t, seal(join([]byte{'K', 'F', '1', k}, []byte(cut))), api.ErrFoot)
			wantNoOpen(t, seal(join([]byte("KF1"), []byte(cut))), api.ErrFoot)
		}
		all := partsOf(api.Kind(k), numbersOrTexts(api.Kind(k), api.MaxRows))
		wantNoOpen(t, seal(join(all.magic, all.kind, all.count[:1])), api.ErrFoot)
		wantNoOpen(t, seal(join(all.magic, all.kind, all.count[:1], all.column)), api.ErrFoot)
	}
}

func numbersOrTexts(k api.Kind, n int) []api.Value {
	if k == api.Whole {
		return numbersFrom(-9, 7, n)
	}
	return textsFrom(n, 3)
}

func TestP112OtherCounts(t *testing.T) {
	for _, more := range []int{-1, 1, 2, 64, 255, 256, 257, 1 << 16, 1<<31 - 1, 1 << 31, 1 << 32, 1 << 62} {
		wantChanged(t, "another count", func(c source, p *parts) bool {
			p.count = P(len(c.keys) + more)
			return len(c.keys)+more >= 0
		})
	}
	for _, k := range []api.Kind{api.Whole, api.Text} {
		for _, more := range []int{-1, 1, 2, 1 << 32} {
			p := partsOf(k, numbersOrTexts(k, api.MaxRows))
			p.count = P(api.MaxRows + more)
			wantNoOpen(t, p.bytes(), api.ErrFoot)
		}
	}
}

// TestP112MoreKeysThanMayBe has columns that layer 6 writes for nobody.
func TestP112MoreKeysThanMayBe(t *testing.T) {
	// By the codec 0: one number by one.
	column := []byte{0, 0}
	for i := range api.MaxRows + 1 {
		column = binary.AppendVarint(column, int64(i))
	}
	wantNoOpen(t, seal(join([]byte("KF1\x01"), P(api.MaxRows+1), column)), api.ErrFoot)
	// By the codec 1: the first number, and then one difference behind the other.
	column = join([]byte{0, 1, 0}, bytes.Repeat([]byte{2}, api.MaxRows))
	wantNoOpen(t, seal(join([]byte("KF1\x01"), P(api.MaxRows+1), column)), api.ErrFoot)
	wantNoOpen(t, seal(join([]byte("KF1\x01"), P(api.MaxRows), column)), api.ErrFoot)
	wantSet(t, opened(t, seal(join([]byte("KF1\x01"), P(api.MaxRows), column[:len(column)-1]))), api.Whole, numbersFrom(0, 1, api.MaxRows))
}

func TestP112OtherColumns(t *testing.T) {
	for _, more := range [][]byte{{0}, {1}, {128}, {255}, make([]byte, 100), []byte("KF1"), make([]byte, 2*api.MaxBytes)} {
		wantChanged(t, "bytes behind the column", func(c source, p *parts) bool {
			p.column = join(p.column, more)
			return true
		})
	}
	wantChanged(t, "bytes ahead of the column", func(c source, p *parts) bool {
		p.column = join([]byte{0}, p.column)
		return true
	})
	wantChanged(t, "bytes ahead of the kind", func(c source, p *parts) bool {
		p.magic = join(p.magic, []byte{0})
		return true
	})
	wantChanged(t, "no column", func(c source, p *parts) bool {
		p.column = nil
		return true
	})
	for _, kind := range []byte{2, 3, 127, 255} {
		wantChanged(t, "another first byte of a column", func(c source, p *parts) bool {
			p.column[0] = kind
			return true
		})
	}
	wantChanged(t, "a column with a place for nulls, of which there are none", func(c source, p *parts) bool {
		there, _ := bits.Pack(slices.Repeat([]uint64{1}, len(c.keys)), 1)
		p.column = join([]byte{1}, there, p.column[1:])
		return true
	})
}

func TestP112Nulls(t *testing.T) {
	for _, c := range smallSources() {
		for at := range len(c.keys) + 1 {
			p := partsOf(c.kind, slices.Insert(slices.Clone(c.keys), at, api.Value(nil)))
			wantNoOpen(t, p.bytes(), api.ErrFoot)
			if len(c.keys) > 0 {
				p.count = P(len(c.keys))
				wantNoOpen(t, p.bytes(), api.ErrFoot)
			}
		}
		if n := len(c.keys); n > 0 {
			wantNoOpen(t, partsOf(c.kind, slices.Repeat([]api.Value{nil}, n)).bytes(), api.ErrFoot)
		}
	}
}

func TestP112KeysThatDoNotRise(t *testing.T) {
	for _, l := range [][]api.Value{listOf[int64](3, 3), listOf[int64](5, 3), listOf[int64](0, 0, 0), listOf[int64](1, 2, 2), listOf[int64](1, 1, 2), listOf[int64](1, 3, 2), listOf[int64](-1, -2), listOf[int64](0, -1), listOf[int64](greatest, least), listOf[int64](1, 2, 3, 1), slices.Repeat(listOf[int64](7), api.MaxRows), reversed(numbersFrom(0, 1, api.MaxRows))} {
		wantNoOpen(t, partsOf(api.Whole, l).bytes(), api.ErrFoot)
	}
	for _, l := range [][]api.Value{listOf("", ""), listOf("a", "a"), listOf("a", ""), listOf("b", "a"), listOf("ab", "a"), listOf("a", "c", "b"), listOf("a", "a", "b"), listOf("a", "b", "b"), listOf("\xff", "é"), listOf("a", "Z"), listOf("a", "b", "a"), listOf("9", "10"), slices.Repeat(listOf("many"), api.MaxRows), reversed(textsFrom(api.MaxRows, 3))} {
		wantNoOpen(t, partsOf(api.Text, l).bytes(), api.ErrFoot)
	}
	for _, c := range smallSources() {
		for at := range c.keys {
			twice := slices.Insert(slices.Clone(c.keys), at, c.keys[at])
			wantNoOpen(t, partsOf(c.kind, twice).bytes(), api.ErrFoot)
			for other := range at {
				changed := slices.Clone(c.keys)
				changed[at], changed[other] = changed[other], changed[at]
				wantNoOpen(t, partsOf(c.kind, changed).bytes(), api.ErrFoot)
			}
		}
	}
}

// TestP112ByOtherCodecs has the same keys in other bytes than layer 5 would choose.
func TestP112ByOtherCodecs(t *testing.T) {
	tried := 0
	for _, c := range smallSources() {
		if c.kind != api.Whole {
			continue
		}
		numbers := make([]int64, len(c.keys))
		for i, v := range c.keys {
			numbers[i] = v.(int64)
		}
		for codec := range byte(5) {
			b, _ := ints.Encode(codec, numbers)
			p := partsOf(c.kind, c.keys)
			if other := join([]byte{0, codec}, b); !bytes.Equal(p.column, other) {
				tried++
				p.column = other
				wantNoOpen(t, p.bytes(), api.ErrFoot)
			}
		}
	}
	if tried < 4*3 {
		t.Errorf("just %d other ways", tried)
	}
}

// TestP112TextsByPlaces has texts told by places, which of unlike ones is never shorter.
func TestP112TextsByPlaces(t *testing.T) {
	wantNoOpen(t, seal([]byte("KF1\x03\x02"+"\x00\x01\x02\x03\x00\x02\x04"+"aab"+"\x00\x00\x02")), api.ErrFoot)
	wantNoOpen(t, seal([]byte("KF1\x03\x00"+"\x00\x01\x00\x01\x00\x00")), api.ErrFoot)
	wantSet(t, opened(t, seal([]byte("KF1\x03\x02"+"\x00\x00\x03\x00\x02\x04"+"aab"))), api.Text, listOf("a", "ab"))
}

func TestP112AnotherOnesColumn(t *testing.T) {
	for _, a := range smallSources() {
		for _, b := range smallSources() {
			p := partsOf(a.kind, a.keys)
			p.column = partsOf(b.kind, b.keys).column
			wantStrict(t, p.bytes())
		}
	}
}
