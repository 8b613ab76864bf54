package colfile

import (
	"slices"

	"catchment/api"
	"catchment/column"
	"catchment/pred"
	"catchment/schema"
	"catchment/varint"
)

const (
	perByte    = 8
	footLength = 4 // bytes of how long the foot is
)

// The flags of a statistic.
const (
	hasSome = 1
	hasHigh = 2
)

// text is the file's bytes ahead of their seal; the rows fit s.
func text(s api.Schema, rows [][]api.Value, group int) []byte {
	b := []byte(magic)
	foot := schema.Pack(s)
	foot = append(foot, count(len(rows))...)
	foot = append(foot, count(group)...)
	for part := range slices.Chunk(rows, group) {
		for i, f := range s.Fields {
			l := values(part, i)
			c, _ := column.Write(f.Kind, l)
			b = append(b, c...)
			foot = append(foot, count(len(c))...)
			foot = append(foot, statistic(pred.Stats(l))...)
		}
	}
	b = append(b, foot...)
	return append(b, lowestFirst(len(foot))...)
}

// values is what stands at the place i of each of the rows.
func values(rows [][]api.Value, i int) []api.Value {
	l := make([]api.Value, len(rows))
	for at, row := range rows {
		l[at] = row[i]
	}
	return l
}

func statistic(st api.Stat) []byte {
	b := append(count(st.Nulls), flags(st))
	if st.Some {
		b = append(b, bound(st.Min)...)
	}
	if st.High {
		b = append(b, bound(st.Max)...)
	}
	return b
}

func flags(st api.Stat) byte {
	var b byte
	if st.Some {
		b |= hasSome
	}
	if st.High {
		b |= hasHigh
	}
	return b
}

// bound is the bytes of a cell that isn't null; its kind is the field's, and isn't told.
func bound(c api.Cell) []byte {
	switch c.Kind {
	case api.Whole:
		return varint.PutInt(c.N)
	case api.Truth:
		return []byte{byte(c.N)}
	}
	return append(count(len(c.S)), c.S...)
}

func count(n int) []byte {
	return varint.Put(uint64(n))
}

func lowestFirst(n int) []byte {
	b := make([]byte, footLength)
	for i := range b {
		b[i] = byte(n >> (perByte * i))
	}
	return b
}
