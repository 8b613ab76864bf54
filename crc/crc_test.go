package crc

import (
	"bytes"
	"hash/crc32"
	"math"
	"slices"
	"testing"
)

// bitByBit is the sum as the chapter's words have it, a bit at a time.
func bitByBit(b []byte) uint32 {
	n := uint32(math.MaxUint32)
	for _, c := range b {
		n ^= uint32(c)
		for range 8 {
			out := n & 1
			n /= 2
			if out == 1 {
				n ^= 0xedb88320
			}
		}
	}
	return n ^ math.MaxUint32
}

// bytesOfSum has the sum's four bytes, the lowest first.
func bytesOfSum(c uint32) []byte {
	out := []byte{}
	for range 4 {
		out = append(out, byte(c%256))
		c /= 256
	}
	return out
}

func join(parts ...[]byte) []byte {
	return bytes.Join(parts, nil)
}

func filled(n int, c byte) []byte {
	return bytes.Repeat([]byte{c}, n)
}

// mixed has n bytes of many kinds.
func mixed(n int) []byte {
	out := make([]byte, n)
	for i := range out {
		out[i] = byte(i*i*7 + i*131 + 29)
	}
	return out
}

// samples has bytes of many kinds and lengths.
func samples() [][]byte {
	out := [][]byte{nil, {}, []byte("a"), []byte("abc"), []byte("123456789"), []byte("The quick brown fox jumps over the lazy dog")}
	for c := range 256 {
		out = append(out, []byte{byte(c)})
	}
	for n := range 40 {
		out = append(out, filled(n, 0), filled(n, 255), filled(n, 1), filled(n, 128), mixed(n))
	}
	return append(out, filled(1000, 0), filled(1000, 255), mixed(1000), mixed(70000))
}

// whoseSum finds four bytes whose sum c is: the steps of the sum, the other way round.
func whoseSum(c uint32) []byte {
	n := ^c
	for range 32 {
		// The highest bit of EDB88320 is set, and halving leaves none there.
		put := n>>31 == 1
		if put {
			n ^= 0xedb88320
		}
		n *= 2
		if put {
			n++
		}
	}
	return bytesOfSum(n ^ math.MaxUint32)
}

// turned is b with the bits of pattern turned, its lowest one at the bit at.
func turned(b []byte, at int, pattern uint32) []byte {
	out := slices.Clone(b)
	for i := range 32 {
		if pattern>>i&1 == 1 {
			out[(at+i)/8] ^= 1 << ((at + i) % 8)
		}
	}
	return out
}

func wantOf(t *testing.T, b []byte, want uint32) {
	t.Helper()
	if got := Of(b); got != want {
		t.Errorf("Of(%d) = %08x; want %08x", b, got, want)
	}
}

func wantMore(t *testing.T, c uint32, b []byte, want uint32) {
	t.Helper()
	if got := More(c, b); got != want {
		t.Errorf("More(%08x, %d) = %08x; want %08x", c, b, got, want)
	}
}

func wantOpen(t *testing.T, b, want []byte) {
	t.Helper()
	got, ok := Open(b)
	if !ok || !bytes.Equal(got, want) {
		t.Errorf("Open(%d) = %d, %t; want %d", b, got, ok, want)
	}
}

func wantNoOpen(t *testing.T, b []byte) {
	t.Helper()
	if got, ok := Open(b); ok || len(got) != 0 {
		t.Errorf("Open(%d) = %d, %t; want none", b, got, ok)
	}
}

func TestP71OfIsTheSumBitByBit(t *testing.T) {
	for _, b := range samples() {
		wantOf(t, b, bitByBit(b))
		wantOf(t, b, crc32.ChecksumIEEE(b))
	}
	for first := range 256 {
		for second := range 256 {
			b := []byte{byte(first), byte(second)}
			wantOf(t, b, bitByBit(b))
		}
	}
}

func TestP71OfKnownSums(t *testing.T) {
	for _, c := range []struct {
		b    []byte
		want uint32
	}{
		{nil, 0}, {[]byte{}, 0}, {[]byte("a"), 0xe8b7be43}, {[]byte("abc"), 0x352441c2}, {[]byte("123456789"), 0xcbf43926},
		{[]byte("The quick brown fox jumps over the lazy dog"), 0x414fa339},
		{[]byte{0}, 0xd202ef8d}, {filled(4, 0), 0x2144df1c}, {filled(32, 0), 0x190a55ad},
		{[]byte{255}, 0xff000000}, {filled(2, 255), 0xffff0000}, {filled(3, 255), 0xffffff00}, {filled(4, 255), 0xffffffff}, {filled(32, 255), 0xff6cab0b},
	} {
		wantOf(t, c.b, c.want)
	}
}

func TestP71OfEachByteIsUnlikeTheOthers(t *testing.T) {
	sums := []uint32{}
	for c := range 256 {
		sums = append(sums, Of([]byte{byte(c)}))
	}
	slices.Sort(sums)
	if len(slices.Compact(sums)) != 256 {
		t.Error("two bytes have one sum")
	}
}

// edgesOfSums has the sums that are handed on: none and all bits, a lowest or a highest byte of 0, single bits.
func edgesOfSums() []uint32 {
	out := []uint32{0, 1, 255, 256, math.MaxUint32, math.MaxUint32 - 1, math.MaxUint32 - 255, 1<<24 - 1, 1 << 24, 0xedb88320, 0xcbf43926, 0x12345600, 0x00345678}
	for i := range 32 {
		out = append(out, 1<<i, ^uint32(1<<i))
	}
	return out
}

func TestP71MoreOfAnySum(t *testing.T) {
	for _, c := range edgesOfSums() {
		ahead := whoseSum(c)
		wantOf(t, ahead, c)
		wantMore(t, c, nil, c)
		wantMore(t, c, []byte{}, c)
		for _, b := range samples() {
			if len(b) < 100 {
				wantMore(t, c, b, bitByBit(join(ahead, b)))
			}
		}
	}
}

func TestP71MoreOfNothingAndOfTheGreatest(t *testing.T) {
	for _, b := range samples() {
		wantMore(t, 0, b, bitByBit(b))
		wantMore(t, math.MaxUint32, b, bitByBit(join(filled(4, 255), b)))
	}
	wantMore(t, 0, []byte{0}, 0xd202ef8d)
	wantMore(t, math.MaxUint32, []byte{0}, math.MaxUint32)
	wantMore(t, math.MaxUint32, []byte{1}, 0x88f8cf69)
}

func TestP71SumsWithZeroBytes(t *testing.T) {
	for _, c := range []uint32{0x12345600, 0x00345678, 0x00345600, 0x12000078, 0xff, 0xff000000, 0} {
		b := whoseSum(c)
		wantOf(t, b, c)
		sealed := join(b, bytesOfSum(c))
		if got := Seal(b); !bytes.Equal(got, sealed) {
			t.Errorf("Seal(%d) = %d; want %d", b, got, sealed)
		}
		wantOpen(t, sealed, b)
		wantNoOpen(t, sealed[:len(sealed)-1])
		wantNoOpen(t, join(b, sealed[len(b)+1:]))
	}
}

func TestP72Seal(t *testing.T) {
	for _, b := range samples() {
		want := join(b, bytesOfSum(bitByBit(b)))
		if got := Seal(b); !bytes.Equal(got, want) {
			t.Errorf("Seal(%d) = %d; want %d", b, got, want)
		}
	}
}

func TestP72OpenOfSeal(t *testing.T) {
	for _, b := range samples() {
		wantOpen(t, Seal(b), b)
		wantOpen(t, join(b, bytesOfSum(bitByBit(b))), b)
		once := Seal(b)
		twice := Seal(once)
		if want := join(once, bytesOfSum(bitByBit(once))); !bytes.Equal(twice, want) {
			t.Errorf("Seal(%d) = %d; want %d", once, twice, want)
		}
		wantOpen(t, twice, once)
	}
}

func TestP72SealedNothing(t *testing.T) {
	for _, b := range [][]byte{nil, {}} {
		if got := Seal(b); !bytes.Equal(got, filled(4, 0)) {
			t.Errorf("Seal(%d) = %d", b, got)
		}
	}
	wantOpen(t, filled(4, 0), nil)
	for i := range 32 {
		wantNoOpen(t, bytesOfSum(1<<i))
	}
	wantNoOpen(t, filled(4, 255))
	wantNoOpen(t, []byte("abcd"))
}

func TestP72OpenOfTooFewBytes(t *testing.T) {
	for n := range 4 {
		wantNoOpen(t, filled(n, 0))
		wantNoOpen(t, filled(n, 255))
		wantNoOpen(t, mixed(n))
	}
	wantNoOpen(t, nil)
}

// smallSamples has those that are sealed, and opened changed.
func smallSamples() [][]byte {
	return [][]byte{nil, {0}, {255}, []byte("a"), []byte("abc"), filled(5, 0), filled(9, 255), mixed(12), []byte("123456789"), Seal([]byte("once")), whoseSum(0x12345600), whoseSum(0x00345678)}
}

func TestP72OpenOfWhatIsCutOffOrGrown(t *testing.T) {
	for _, b := range smallSamples() {
		sealed := Seal(b)
		for n := range sealed {
			if cut := sealed[:n]; !isSealed(cut) {
				wantNoOpen(t, cut)
			}
			if cut := sealed[n+1:]; !isSealed(cut) {
				wantNoOpen(t, cut)
			}
		}
		for c := range 256 {
			for _, grown := range [][]byte{join([]byte{byte(c)}, sealed), join(sealed, []byte{byte(c)})} {
				if !isSealed(grown) {
					wantNoOpen(t, grown)
				}
			}
		}
	}
	wantNoOpen(t, join([]byte{0}, Seal([]byte("abc"))))
	wantNoOpen(t, join(Seal([]byte("abc")), []byte{0}))
	wantNoOpen(t, Seal([]byte("abc"))[:6])
	wantNoOpen(t, Seal([]byte("abc"))[1:])
}

// isSealed tells whether b happens to be a sealed text: what is cut off of one may be one by chance.
func isSealed(b []byte) bool {
	return len(b) >= 4 && bytes.Equal(b[len(b)-4:], bytesOfSum(bitByBit(b[:len(b)-4])))
}

func TestP72OpenOfTheSumTheOtherWayRound(t *testing.T) {
	for _, b := range [][]byte{[]byte("a"), []byte("abc"), mixed(12), {0}, {255}, whoseSum(0x12345600)} {
		sealed := Seal(b)
		slices.Reverse(sealed[len(b):])
		wantNoOpen(t, sealed)
		wantNoOpen(t, join(b, bytesOfSum(^bitByBit(b))))
		wantNoOpen(t, join(bytesOfSum(bitByBit(b)), b))
	}
}

func TestP73MoreOfOfIsOfOfBoth(t *testing.T) {
	for _, b := range [][]byte{nil, []byte("123456789"), filled(33, 0), filled(33, 255), mixed(100)} {
		for n := range len(b) + 1 {
			wantMore(t, Of(b[:n]), b[n:], bitByBit(b))
			for m := n; m <= len(b); m++ {
				wantMore(t, More(Of(b[:n]), b[n:m]), b[m:], bitByBit(b))
			}
		}
		c := Of(nil)
		for i := range b {
			c = More(c, b[i:i+1])
		}
		wantOf(t, b, c)
	}
}

// Turning bits turns the same bits of the sum whatever the bytes are, so that no pattern within 32 bits is lost just if none of the 32 single ones is made of others.
func TestP73TurnedWithin32BitsNoneIsMadeOfOthers(t *testing.T) {
	for _, b := range [][]byte{filled(4, 0), filled(9, 255), mixed(13)} {
		for at := 0; at+32 <= 8*len(b); at++ {
			var lead [32]uint32
			for i := range 32 {
				left := Of(b) ^ Of(turned(b, at+i, 1))
				for bit := 31; bit >= 0 && left != 0; bit-- {
					if left>>bit&1 == 0 {
						continue
					}
					if lead[bit] == 0 {
						lead[bit] = left
						break
					}
					left ^= lead[bit]
				}
				if left == 0 {
					t.Errorf("of %d, the bit %d behind %d is made of others", b, i, at)
				}
			}
		}
	}
}

// patterns has which bits are turned within 32: each one, each two, each run of them, and some others.
func patterns() []uint32 {
	out := []uint32{math.MaxUint32, 0xedb88320, 0x04c11db7, 0xdb710641, 0xaaaaaaaa, 0x55555555, 0x80000001, 0x12345678}
	for i := range 32 {
		out = append(out, 1<<i)
		for k := range i {
			out = append(out, 1<<i|1<<k, 1<<i|(1<<i-1<<k))
		}
	}
	for i := range uint32(500) {
		out = append(out, i*2654435761+1)
	}
	return out
}

func TestP73TurnedWithin32BitsSumsAreUnlike(t *testing.T) {
	for _, b := range [][]byte{filled(4, 0), filled(7, 255), mixed(8)} {
		for at := 0; at+32 <= 8*len(b); at++ {
			for _, p := range patterns() {
				if c := turned(b, at, p); Of(c) == Of(b) {
					t.Errorf("%d and %d have one sum", b, c)
				}
			}
		}
	}
}

func TestP73TurnedWithin32BitsOfASealedTextIsFound(t *testing.T) {
	// All sealed texts have one sum, so that two of one length never differ within 32 bits, nor over the text's end.
	for _, b := range [][]byte{nil, {0}, filled(4, 0), mixed(6)} {
		sealed := Seal(b)
		wantOf(t, sealed, 0x2144df1c)
		for at := 0; at+32 <= 8*len(sealed); at++ {
			for _, p := range patterns() {
				wantNoOpen(t, turned(sealed, at, p))
			}
		}
	}
}

func TestP73AnotherByteOfASealedTextIsFound(t *testing.T) {
	for _, b := range smallSamples() {
		sealed := Seal(b)
		for i, was := range sealed {
			for c := range 256 {
				sealed[i] = byte(c)
				if byte(c) == was {
					wantOpen(t, sealed, b)
				} else {
					wantNoOpen(t, sealed)
				}
			}
			sealed[i] = was
		}
	}
}

func TestWhatIsHandedInStays(t *testing.T) {
	for _, b := range append(smallSamples(), Seal([]byte("abc")), filled(3, 7)) {
		room := join(b, filled(16, 170))
		was := slices.Clone(room)
		Of(room[:len(b)])
		More(5, room[:len(b)])
		Seal(room[:len(b)])
		Open(room[:len(b)])
		if !bytes.Equal(room, was) {
			t.Errorf("of %d became %d", was, room)
		}
	}
}

func TestAnswersAreNewMemory(t *testing.T) {
	b := mixed(9)
	sealed := Seal(b)
	want := slices.Clone(sealed)
	clear(b)
	if !bytes.Equal(sealed, want) {
		t.Error("Seal shares what it was handed")
	}
	text, _ := Open(sealed)
	again, _ := Open(sealed)
	clear(sealed)
	if !bytes.Equal(text, mixed(9)) {
		t.Error("Open shares what it was handed")
	}
	clear(text[:cap(text)])
	if !bytes.Equal(again, mixed(9)) {
		t.Error("two answers of Open share memory")
	}
	sealed = Seal(mixed(9))
	text, _ = Open(sealed)
	clear(text[:cap(text)])
	wantOpen(t, sealed, mixed(9))
	one, other := Seal(mixed(9)), Seal(mixed(9))
	clear(one[:cap(one)])
	wantOpen(t, other, mixed(9))
	b = mixed(9)
	sealed = Seal(b)
	clear(sealed[:cap(sealed)])
	if !bytes.Equal(b, mixed(9)) {
		t.Error("what Seal told is what it was handed")
	}
}

func TestExamplesOfTheChapter(t *testing.T) {
	wantOf(t, []byte("123456789"), 0xCBF43926)
	wantOf(t, nil, 0)
	if got := Seal([]byte("a")); !bytes.Equal(got, []byte{97, 67, 190, 183, 232}) {
		t.Errorf("Seal(a) = %d", got)
	}
}
