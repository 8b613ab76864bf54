package column

import (
	"slices"

	"catchment/api"
	"catchment/bits"
	"catchment/ints"
	"catchment/varint"
)

const perByte = 8

// reader goes through bytes from the left. The first fault that it meets stays; what is read behind it counts for nothing.
type reader struct {
	rest  []byte
	fault api.Errno
}

func (r *reader) column(k api.Kind, n int) []api.Value {
	there := r.nulls(n)
	some := r.values(k, ones(there))
	if r.fault != api.OK {
		return nil
	}
	return spread(there, some)
}

// nulls is of each of n values 0, if it is null, else 1.
func (r *reader) nulls(n int) []uint64 {
	if r.choice(noNull, someNulls) == someNulls {
		return r.packed(n)
	}
	return slices.Repeat([]uint64{1}, n)
}

func ones(l []uint64) int {
	n := 0
	for _, one := range l {
		n += int(one)
	}
	return n
}

// spread lays the values where something is there, and leaves null elsewhere.
func spread(there []uint64, some []api.Value) []api.Value {
	l := make([]api.Value, len(there))
	next := 0
	for i, one := range there {
		if one == 1 {
			l[i] = some[next]
			next++
		}
	}
	return l
}

// values is the n values of the kind that all bytes which are left must be made of.
func (r *reader) values(k api.Kind, n int) []api.Value {
	var l []api.Value
	switch k {
	case api.Whole:
		for _, v := range r.lastNumbers(n) {
			l = append(l, v)
		}
	case api.Truth:
		for _, one := range r.packed(n) {
			l = append(l, one == 1)
		}
	case api.Text:
		for _, s := range r.texts(n) {
			l = append(l, s)
		}
	}
	r.end()
	return l
}

func (r *reader) texts(n int) []string {
	if r.choice(oneByOne, byPlaces) == byPlaces {
		return r.textsByPlaces(n)
	}
	return r.lengthsAndBytes(n)
}

func (r *reader) textsByPlaces(n int) []string {
	count := r.number()
	if count > uint64(n) {
		r.refuse(api.ErrForm)
		return nil
	}
	unlike := r.lengthsAndBytes(int(count))
	var l []string
	for _, place := range r.lastNumbers(n) {
		if place < 0 || place >= int64(len(unlike)) {
			r.refuse(api.ErrForm)
			return nil
		}
		l = append(l, unlike[place])
	}
	return l
}

func (r *reader) lengthsAndBytes(n int) []string {
	var l []string
	for _, length := range r.countedNumbers(n) {
		if length < 0 || length > api.MaxText {
			r.refuse(api.ErrForm)
			return nil
		}
		l = append(l, string(r.take(uint64(length))))
	}
	return l
}

// countedNumbers is n numbers whose bytes stand behind how many these are.
func (r *reader) countedNumbers(n int) []int64 {
	size := r.number()
	l, e := ints.Read(r.take(size), n)
	r.refuse(e)
	return l
}

// lastNumbers is n numbers that all bytes which are left must be made of.
func (r *reader) lastNumbers(n int) []int64 {
	l, e := ints.Read(r.rest, n)
	r.refuse(e)
	r.rest = nil
	return l
}

func (r *reader) number() uint64 {
	v, used, e := varint.Get(r.rest)
	r.refuse(e)
	r.rest = r.rest[used:]
	return v
}

// packed is n bits.
func (r *reader) packed(n int) []uint64 {
	need := (n*bitWidth + perByte - 1) / perByte
	l, e := bits.Unpack(r.take(uint64(need)), n, bitWidth)
	r.refuse(e)
	return l
}

// choice is a byte that must be one of the two; the first one, if it is neither.
func (r *reader) choice(one, other byte) byte {
	b := r.take(1)
	if len(b) == 0 {
		return one
	}
	if b[0] != one && b[0] != other {
		r.refuse(api.ErrForm)
		return one
	}
	return b[0]
}

// take is the next bytes; none, if there are fewer.
func (r *reader) take(count uint64) []byte {
	if count > uint64(len(r.rest)) {
		r.refuse(api.ErrEnd)
		return nil
	}
	b := r.rest[:count]
	r.rest = r.rest[count:]
	return b
}

// end refuses bytes that are left.
func (r *reader) end() {
	if len(r.rest) > 0 {
		r.refuse(api.ErrMore)
	}
}

func (r *reader) refuse(e api.Errno) {
	if r.fault == api.OK {
		r.fault = e
	}
}
