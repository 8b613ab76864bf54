package ints

import (
	"math"

	"catchment/api"
	"catchment/bits"
	"catchment/varint"
)

const (
	perByte = 8
	widest  = 64 // bits of the greatest number
)

// reader goes through bytes from the left. The first fault that it meets stays; what is read behind it counts for nothing.
type reader struct {
	rest  []byte
	fault api.Errno
}

func (r *reader) list(codec byte, n int) []int64 {
	switch codec {
	case oneByOne:
		return r.each(n)
	case bySteps:
		return r.steps(n)
	case byRuns:
		return r.runs(n)
	case byPlaces:
		return r.places(n)
	}
	return r.heights(n)
}

func (r *reader) each(n int) []int64 {
	l := make([]int64, n)
	for i := range l {
		l[i] = r.whole()
	}
	return l
}

func (r *reader) steps(n int) []int64 {
	l := make([]int64, n)
	ahead := int64(0)
	for i := range l {
		ahead += r.whole()
		l[i] = ahead
	}
	return l
}

func (r *reader) runs(n int) []int64 {
	var l []int64
	for len(l) < n && r.fault == api.OK {
		v := r.whole()
		length := r.numberWithin(1, uint64(n-len(l)))
		for range length {
			l = append(l, v)
		}
	}
	return l
}

func (r *reader) places(n int) []int64 {
	fewest := min(n, 1) // just a list of none has no number in it
	count := r.numberWithin(uint64(fewest), uint64(n))
	unlike := r.rising(int(count))
	var l []int64
	for _, place := range r.packed(n, placeWidth(len(unlike))) {
		if place >= uint64(len(unlike)) {
			r.refuse(api.ErrForm)
			return nil
		}
		l = append(l, unlike[place])
	}
	return l
}

// rising is so many numbers, each above the one ahead.
func (r *reader) rising(count int) []int64 {
	var l []int64
	last := int64(0)
	for i := range count {
		if i == 0 {
			last = r.whole()
		} else {
			last += int64(r.numberWithin(1, distance(last, math.MaxInt64)))
		}
		l = append(l, last)
	}
	return l
}

func (r *reader) heights(n int) []int64 {
	if n == 0 {
		return nil
	}
	least := r.whole()
	width := int(r.numberWithin(0, widest))
	var l []int64
	for _, height := range r.packed(n, width) {
		// What leads beyond the greatest number goes round, and is below the least one then, so that it can't be written so.
		l = append(l, least+int64(height))
	}
	return l
}

func (r *reader) whole() int64 {
	v, used, e := varint.GetInt(r.rest)
	r.refuse(e)
	r.rest = r.rest[used:]
	return v
}

// numberWithin is a number that must lie from low to high; 0, if it doesn't.
func (r *reader) numberWithin(low, high uint64) uint64 {
	v, used, e := varint.Get(r.rest)
	r.refuse(e)
	r.rest = r.rest[used:]
	if v < low || v > high {
		r.refuse(api.ErrForm)
		return 0
	}
	return v
}

// packed is n numbers that all bytes which are left must be made of: a count that isn't theirs is told ahead of bits that are wrong.
func (r *reader) packed(n, width int) []uint64 {
	need := (n*width + perByte - 1) / perByte
	if len(r.rest) < need {
		r.refuse(api.ErrEnd)
		return nil
	}
	taken := r.rest[:need]
	r.rest = r.rest[need:]
	r.end()
	l, e := bits.Unpack(taken, n, width)
	r.refuse(e)
	return l
}

// end refuses bytes that are left.
func (r *reader) end() {
	if len(r.rest) > 0 {
		r.refuse(api.ErrMore)
	}
}

func (r *reader) refuse(e api.Errno) {
	if r.fault == api.OK {
		r.fault = e
	}
}
