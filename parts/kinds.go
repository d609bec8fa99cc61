package parts

import (
	"iter"
	"slices"

	"trefoil/api"
	"trefoil/join"
	"trefoil/order"
	"trefoil/value"
)

// parts gives the parts of v, a value of s, in order, each of them new memory.
func parts(s api.Schema, v api.Value) iter.Seq[api.Value] {
	switch s.Kind {
	case api.KSet:
		return made(slices.Values(v.S), element)
	case api.KClock:
		return made(spread(slices.Values(v.C), slices.Values[[]api.Tick]), tick)
	case api.KMap, api.KPair:
		return spread(spots(s, v), inside)
	case api.KCause:
		return spread(spots(s, v), version)
	}
	return whole(s, v)
}

func element(s string) api.Value { return api.Value{S: []string{s}} }

func tick(t api.Tick) api.Value { return api.Value{C: [][]api.Tick{{t}}} }

// inside gives the parts of what stands there, each alone.
func inside(p spot) iter.Seq[api.Value] { return made(parts(p.in(), p.held()), p.alone) }

// version gives a part also where nothing stands: that there is a version of that clock is something.
func version(p spot) iter.Seq[api.Value] {
	nothing := func() api.Value { return p.alone(value.Bottom(p.in())) }
	return or(inside(p), nothing)
}

// whole gives v itself, unless it is nothing.
func whole(s api.Schema, v api.Value) iter.Seq[api.Value] {
	return func(yield func(api.Value) bool) {
		if !value.None(s, v) {
			yield(api.Value{N: v.N, M: v.M, S: slices.Clone(v.S)})
		}
	}
}

// beyond answers what b has beyond a, both values of s.
func beyond(s api.Schema, a, b api.Value) (api.Value, error) {
	l, err := lumps(s, a, b)
	if err != nil {
		return api.Value{}, err
	}
	return join.All(s, l)
}

// lumps answers values that are together what b has beyond a. What stands at one place makes one lump, held against what a has there alone: each part against the whole of a would take time by how large the one is times how large the other, and all parts at once may be far more than b, since each part of a pair has the other side's Bottom.
func lumps(s api.Schema, a, b api.Value) ([]api.Value, error) {
	if nests(s.Kind) {
		return gathered(spots(s, b), func(p spot) ([]api.Value, error) { return lump(p, a) })
	}
	return gathered(parts(s, b), func(p api.Value) ([]api.Value, error) { return lacking(s, a, p) })
}

// lump answers what stands at a place beyond what a has there, alone; none, if that is nothing. Where a has no such place, it may have seen that version all the same.
func lump(p spot, a api.Value) ([]api.Value, error) {
	there, has := p.heldBy(a)
	if !has {
		return lacking(p.schema, a, p.alone(p.held()))
	}
	rest, err := beyond(p.in(), there, p.held())
	if err != nil || value.None(p.in(), rest) {
		return nil, err
	}
	return []api.Value{p.alone(rest)}, nil
}

// lacking answers v, unless a has as much.
func lacking(s api.Schema, a, v api.Value) ([]api.Value, error) {
	upTo, err := order.Leq(s, v, a)
	if err != nil || upTo {
		return nil, err
	}
	return []api.Value{v}, nil
}
