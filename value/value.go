// Package value is layer 1: what stands in rows (null, whole numbers, truths, texts), its order, and the logic of three values. See shared/doc/01-value.md.
package value

import (
	"cmp"

	"catchment/api"
)

// Of is the value whose cell c is.
func Of(c api.Cell) (api.Value, api.Errno) {
	if e := fault(c); e != api.OK {
		return nil, e
	}
	switch c.Kind {
	case api.Whole:
		return c.N, api.OK
	case api.Truth:
		return c.N == 1, api.OK
	case api.Text:
		return c.S, api.OK
	}
	return nil, api.OK
}

// Cell is v as plain data; false, if v is no value.
func Cell(v api.Value) (api.Cell, bool) {
	return cellOf(v)
}

// KindOf is v's kind.
func KindOf(v api.Value) api.Kind {
	return kindOf(v)
}

// Compare is -1, 0 or 1, as a is ahead of b, the same, or behind it.
func Compare(a, b api.Value) int {
	x, _ := cellOf(a)
	y, _ := cellOf(b)
	// What a kind doesn't have is zero on both sides, so that all fields may be held against each other, whatever the kind.
	return cmp.Or(cmp.Compare(x.Kind, y.Kind), cmp.Compare(x.N, y.N), cmp.Compare(x.S, y.S))
}

// Number is the whole number that v is. It panics, if v is none.
func Number(v api.Value) int64 {
	return whole(v)
}

// And is the lesser one by the order No, Unknown, Yes.
func And(a, b api.Three) api.Three {
	return min(tame(a), tame(b))
}

// Or is the greater one by the order No, Unknown, Yes.
func Or(a, b api.Three) api.Three {
	return max(tame(a), tame(b))
}

// Not is the contrary of a; of Unknown that is Unknown.
func Not(a api.Three) api.Three {
	return api.Yes - tame(a)
}

// Is is Yes or No, as b is.
func Is(b bool) api.Three {
	if b {
		return api.Yes
	}
	return api.No
}

// fault is why c is no value's cell, or OK.
func fault(c api.Cell) api.Errno {
	switch {
	case c.Kind > api.Text:
		return api.ErrKind
	case c.Kind != api.Text && c.S != "", !numberFits(c):
		return api.ErrArg
	case len(c.S) > api.MaxText:
		return api.ErrLong
	}
	return api.OK
}

func numberFits(c api.Cell) bool {
	switch c.Kind {
	case api.Whole:
		return true
	case api.Truth:
		return c.N == 0 || c.N == 1
	}
	return c.N == 0
}

// The functions that follow look into the interface: a call that is listed hands its argument to them, and doesn't look itself.

func cellOf(v api.Value) (api.Cell, bool) {
	if v == nil {
		return api.Cell{}, true
	}
	if n, ok := v.(int64); ok {
		return api.Cell{Kind: api.Whole, N: n}, true
	}
	if b, ok := v.(bool); ok {
		return api.Cell{Kind: api.Truth, N: bit(b)}, true
	}
	if s, ok := v.(string); ok {
		return api.Cell{Kind: api.Text, S: s}, true
	}
	return api.Cell{}, false
}

func kindOf(v api.Value) api.Kind {
	switch v.(type) {
	case int64:
		return api.Whole
	case bool:
		return api.Truth
	case string:
		return api.Text
	}
	return api.Null
}

func whole(v api.Value) int64 {
	return v.(int64)
}

func bit(b bool) int64 {
	if b {
		return 1
	}
	return 0
}

// tame lets whatever is beyond Yes count as Unknown.
func tame(a api.Three) api.Three {
	if a > api.Yes {
		return api.Unknown
	}
	return a
}
