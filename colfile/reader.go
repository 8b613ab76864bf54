package colfile

import (
	"bytes"

	"catchment/api"
	"catchment/column"
	"catchment/pred"
	"catchment/schema"
	"catchment/varint"
)

// read is the file of the bytes behind the magic, and how many rows are in a group; false, if they can't be read. Whether they are written as they would be, it doesn't ask.
func read(parts []byte) (*File, int, bool) {
	columns, foot, ok := split(parts)
	if !ok {
		return nil, 0, false
	}
	s, rest, e := schema.Unpack(foot)
	if e != api.OK {
		return nil, 0, false
	}
	r := &reader{columns: columns, foot: rest}
	f, group := r.file(s)
	return f, group, !r.failed
}

// split is the columns' bytes, and the foot's; false, if the foot is said to be longer than there is.
func split(parts []byte) ([]byte, []byte, bool) {
	end := len(parts) - footLength
	if end < 0 {
		return nil, nil, false
	}
	length := number(parts[end:])
	if length > uint64(end) {
		return nil, nil, false
	}
	begin := end - int(length)
	return parts[:begin], parts[begin:end], true
}

// number is the one whose bytes b is, the lowest first.
func number(b []byte) uint64 {
	var n uint64
	for i, c := range b {
		n |= uint64(c) << (perByte * i)
	}
	return n
}

// reader goes through the columns' bytes and the foot's side by side, both from the left. When it has failed, what is read counts for nothing.
type reader struct {
	columns, foot []byte
	failed        bool
}

// file is the file whose schema has been read already, and how many rows are in a group.
func (r *reader) file(s api.Schema) (*File, int) {
	f := &File{schema: s}
	left := r.within(0, api.MaxRows)
	group := r.within(1, api.MaxGroup)
	for left > 0 && !r.failed {
		n := min(left, group)
		f.groups = append(f.groups, r.group(s, n))
		left -= n
	}
	return f, group
}

// group is the next n rows.
func (r *reader) group(s api.Schema, n int) rowGroup {
	g := rowGroup{rows: make([][]api.Value, n)}
	for _, f := range s.Fields {
		l := r.column(f.Kind, n)
		g.stats = append(g.stats, r.stats(l))
		for i, v := range l {
			g.rows[i] = append(g.rows[i], v)
		}
	}
	return g
}

// column is the next n values, the length of whose bytes comes next in the foot.
func (r *reader) column(k api.Kind, n int) []api.Value {
	length := r.within(0, len(r.columns))
	l, e := column.Read(k, r.columns[:length], n)
	r.failed = r.failed || e != api.OK
	r.columns = r.columns[length:]
	return l
}

// stats is the statistics of l, whose bytes must come next in the foot: which these are is known from the values.
func (r *reader) stats(l []api.Value) api.Stat {
	st := pred.Stats(l)
	rest, ok := bytes.CutPrefix(r.foot, statistic(st))
	r.failed = r.failed || !ok
	r.foot = rest
	return st
}

// within is the foot's next number, which must lie from low to high; 0, if it doesn't.
func (r *reader) within(low, high int) int {
	n, used, e := varint.Get(r.foot)
	r.foot = r.foot[used:]
	if e != api.OK || n < uint64(low) || n > uint64(high) {
		r.failed = true
		return 0
	}
	return int(n)
}
