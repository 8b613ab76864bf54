package schema

import (
	"bytes"
	"math"

	"catchment/api"
	"catchment/varint"
)

// What the numbers of a schema's bytes have room for.
const (
	roomOfId   = math.MaxUint32
	roomOfKind = math.MaxUint8
	roomOfFlag = 1
)

// Pack is the schema's bytes.
func Pack(s api.Schema) []byte {
	b := varint.Put(uint64(s.Id))
	b = append(b, varint.Put(uint64(len(s.Fields)))...)
	for _, f := range s.Fields {
		b = append(b, packField(f)...)
	}
	return b
}

// Unpack is the schema whose bytes b begins with, and what is behind them.
func Unpack(b []byte) (api.Schema, []byte, api.Errno) {
	r := &reader{rest: b}
	s := r.schema()
	r.refuse(Check(s))
	if r.fault != api.OK {
		return api.Schema{}, nil, r.fault
	}
	return s, bytes.Clone(r.rest), api.OK
}

func packField(f api.Field) []byte {
	b := varint.Put(uint64(f.Id))
	b = append(b, varint.Put(uint64(len(f.Name)))...)
	b = append(b, f.Name...)
	b = append(b, varint.Put(uint64(f.Kind))...)
	return append(b, varint.Put(flag(f.Need))...)
}

func flag(is bool) uint64 {
	if is {
		return 1
	}
	return 0
}

// reader goes through bytes from the left. The first fault that it meets stays; what is read behind it counts for nothing.
type reader struct {
	rest  []byte
	fault api.Errno
}

func (r *reader) schema() api.Schema {
	var s api.Schema
	s.Id = uint32(r.number(roomOfId))
	for range r.number(api.MaxFields) {
		s.Fields = append(s.Fields, r.field())
	}
	return s
}

func (r *reader) field() api.Field {
	var f api.Field
	f.Id = uint32(r.number(roomOfId))
	f.Name = r.name()
	f.Kind = api.Kind(r.number(roomOfKind))
	f.Need = r.number(roomOfFlag) == 1
	return f
}

func (r *reader) name() string {
	length := r.number(api.MaxName)
	if length > uint64(len(r.rest)) {
		r.refuse(api.ErrEnd)
		return ""
	}
	name := string(r.rest[:length])
	r.rest = r.rest[length:]
	return name
}

// number is the next number; 0, if there is none, or it is beyond the room.
func (r *reader) number(room uint64) uint64 {
	n, used, e := varint.Get(r.rest)
	if n > room {
		e = api.ErrForm
	}
	if e != api.OK {
		r.refuse(e)
		return 0
	}
	r.rest = r.rest[used:]
	return n
}

func (r *reader) refuse(e api.Errno) {
	if r.fault == api.OK {
		r.fault = e
	}
}
