package pred

import (
	"slices"

	"catchment/api"
	"catchment/schema"
	"catchment/signs"
	"catchment/value"
)

// Stats is the statistics of the values of l, which are of one kind, or null.
func Stats(l []api.Value) api.Stat {
	some := slices.DeleteFunc(slices.Clone(l), func(v api.Value) bool {
		return value.KindOf(v) == api.Null
	})
	st := api.Stat{Rows: len(l), Nulls: len(l) - len(some), Some: len(some) > 0}
	if !st.Some {
		return st
	}
	clean := !slices.ContainsFunc(some, isUnclean)
	st.Min = lowBound(slices.MinFunc(some, value.Compare), clean)
	st.Max, st.High = highBound(slices.MaxFunc(some, value.Compare), clean)
	return st
}

// May is which of the answers No, Unknown and Yes p can have of rows with these statistics.
func May(p api.Pred, s api.Schema, stats []api.Stat) [3]bool {
	r := rowsOf{s, stats}
	return r.answers(&p)
}

func isUnclean(v api.Value) bool {
	c, _ := value.Cell(v)
	return !signs.Clean(c.S)
}

// lowBound is a cell that isn't behind the least value; clean: all texts are.
func lowBound(least api.Value, clean bool) api.Cell {
	c, _ := value.Cell(least)
	if c.Kind == api.Text && !clean {
		return api.Cell{Kind: api.Text}
	}
	c.S = signs.First(c.S, api.MaxBound)
	return c
}

// highBound is a cell that isn't ahead of the greatest value, and whether there is one; clean: all texts are.
func highBound(greatest api.Value, clean bool) (api.Cell, bool) {
	c, _ := value.Cell(greatest)
	if c.Kind != api.Text {
		return c, true
	}
	above, ok := signs.Above(c.S, api.MaxBound)
	if !ok || !clean {
		return api.Cell{}, false
	}
	return api.Cell{Kind: api.Text, S: above}, true
}

// rowsOf is rows of a schema, of which no more than their statistics are known.
type rowsOf struct {
	schema api.Schema
	stats  []api.Stat
}

// answers takes pointers, and keeps little of its own, so that a predicate may be very deep.
func (r *rowsOf) answers(p *api.Pred) [3]bool {
	switch p.Op {
	case api.And:
		all := only(api.Yes)
		for i := range p.Kids {
			all = together(all, r.answers(&p.Kids[i]), value.And)
		}
		return all
	case api.Or:
		one := only(api.No)
		for i := range p.Kids {
			one = together(one, r.answers(&p.Kids[i]), value.Or)
		}
		return one
	case api.Not:
		if len(p.Kids) == 0 {
			return only(api.Unknown)
		}
		return contraries(r.answers(&p.Kids[0]))
	}
	return r.answersOfField(p)
}

func only(a api.Three) [3]bool {
	var out [3]bool
	out[a] = true
	return out
}

// together is what comes of each of the answers a with each of the answers b.
func together(a, b [3]bool, join func(a, b api.Three) api.Three) [3]bool {
	var out [3]bool
	for x, isX := range a {
		for y, isY := range b {
			if isX && isY {
				out[join(api.Three(x), api.Three(y))] = true
			}
		}
	}
	return out
}

func contraries(a [3]bool) [3]bool {
	return [3]bool{api.No: a[api.Yes], api.Unknown: a[api.Unknown], api.Yes: a[api.No]}
}

func (r *rowsOf) answersOfField(p *api.Pred) [3]bool {
	place, ok := schema.Place(r.schema, p.Field)
	if !ok || place >= len(r.stats) {
		return [3]bool{true, true, true}
	}
	st := r.stats[place]
	if p.Op == api.IsNull {
		return [3]bool{api.No: st.Some, api.Yes: st.Nulls > 0}
	}
	out := [3]bool{api.Unknown: st.Nulls > 0}
	if st.Some {
		out = withSome(out, p, st)
	}
	return out
}

// withSome is out, and what p can answer of values between the bounds of st.
func withSome(out [3]bool, p *api.Pred, st api.Stat) [3]bool {
	v := bound(p.Value)
	toMin := value.Compare(v, bound(st.Min))
	toMax := value.Compare(v, bound(st.Max))
	switch p.Op {
	case api.Eq:
		out[api.Yes] = toMin >= 0 && !(st.High && toMax > 0)
		out[api.No] = !(st.High && toMin == 0 && toMax == 0 && isUncut(v))
	case api.Lt:
		out[api.Yes] = toMin > 0
		out[api.No] = !(st.High && toMax > 0)
	case api.Le:
		out[api.Yes] = toMin >= 0
		out[api.No] = !(st.High && toMax >= 0)
	case api.Like:
		out[api.Yes], out[api.No] = true, true
	default:
		out = [3]bool{true, true, true}
	}
	return out
}

// isUncut is whether a bound that is the same as v can't be a longer text's beginning.
func isUncut(v api.Value) bool {
	c, _ := value.Cell(v)
	return signs.Count(c.S) < api.MaxBound
}
