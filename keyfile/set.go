package keyfile

import (
	"slices"

	"catchment/api"
	"catchment/column"
	"catchment/crc"
	"catchment/varint"
)

// key is what a value becomes when its kind is known.
type key interface {
	int64 | string
}

// setOf is the set of all values of l, or why there is none.
func setOf(k api.Kind, l []api.Value) (*Set, api.Errno) {
	s := &Set{kind: k}
	ok := false
	switch k {
	case api.Whole:
		s.numbers, ok = rising(l, number)
	case api.Text:
		s.texts, ok = rising(l, text)
	}
	if !ok {
		return nil, api.ErrKind
	}
	long := slices.ContainsFunc(s.texts, func(t string) bool { return len(t) > api.MaxText })
	if long || s.Len() > api.MaxRows {
		return nil, api.ErrLong
	}
	return s, api.OK
}

// rising is what take makes of the values, each once; false, if it makes nothing of one.
func rising[K key](l []api.Value, take func(v api.Value) (K, bool)) ([]K, bool) {
	var keys []K
	for _, v := range l {
		one, ok := take(v)
		if !ok {
			return nil, false
		}
		keys = append(keys, one)
	}
	slices.Sort(keys)
	return slices.Compact(keys), true
}

func number(v api.Value) (int64, bool) {
	n, ok := v.(int64)
	return n, ok
}

func text(v api.Value) (string, bool) {
	t, ok := v.(string)
	return t, ok
}

func values[K key](keys []K) []api.Value {
	var l []api.Value
	for _, one := range keys {
		l = append(l, one)
	}
	return l
}

// file is the bytes of the set's file; of the keys of a set a column can always be made.
func (s *Set) file() []byte {
	b := []byte(magic)
	b = append(b, varint.Put(uint64(s.kind))...)
	b = append(b, varint.Put(uint64(s.Len()))...)
	c, _ := column.Write(s.kind, s.Keys())
	return crc.Seal(append(b, c...))
}

// read is the set of the bytes behind the magic; false, if they can't be read. Whether they are written as they would be, it doesn't ask.
func read(parts []byte) (*Set, bool) {
	k, rest, ok := within(parts, uint64(api.Text))
	if !ok {
		return nil, false
	}
	n, rest, ok := within(rest, api.MaxRows)
	if !ok {
		return nil, false
	}
	l, e := column.Read(api.Kind(k), rest, int(n))
	if e != api.OK {
		return nil, false
	}
	s, e := setOf(api.Kind(k), l)
	return s, e == api.OK
}

// within is the number that b begins with, and what is behind it; false, if there is none, or it is above high.
func within(b []byte, high uint64) (uint64, []byte, bool) {
	n, used, e := varint.Get(b)
	return n, b[used:], e == api.OK && n <= high
}
