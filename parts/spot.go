package parts

import (
	"iter"
	"slices"

	"trefoil/api"
	"trefoil/value"
)

// A spot is a place at which a value has another one in it: a map's key, a side of a pair, the clock of a cause's version.
type spot struct {
	schema api.Schema // of the value that has it
	value  api.Value
	i      int
}

// nests tells whether values of that Kind have others in them.
func nests(kind int) bool { return kind == api.KMap || kind == api.KPair || kind == api.KCause }

// spots gives all places of v, a value of s, of a Kind that nests.
func spots(s api.Schema, v api.Value) iter.Seq[spot] {
	return func(yield func(spot) bool) {
		for i := range v.V {
			if !yield(spot{s, v, i}) {
				return
			}
		}
	}
}

// in answers the schema of what stands there. A map and a cause have one In, for all of their V; a pair has one In each.
func (p spot) in() api.Schema { return p.schema.In[min(p.i, len(p.schema.In)-1)] }

// held answers what stands there.
func (p spot) held() api.Value { return p.value.V[p.i] }

// heldBy answers what o, another value of the schema, has at the same place; false, if it has no such place.
func (p spot) heldBy(o api.Value) (api.Value, bool) {
	i := p.i
	switch p.schema.Kind {
	case api.KMap:
		i = slices.Index(o.S, p.value.S[p.i])
	case api.KCause:
		i = slices.IndexFunc(o.C, func(c []api.Tick) bool { return slices.Equal(c, p.value.C[p.i]) })
	}
	if i < 0 {
		return api.Value{}, false
	}
	return o.V[i], true
}

// alone answers the value that has v there, and nothing beside it; but for those of v its lists are new.
func (p spot) alone(v api.Value) api.Value {
	switch p.schema.Kind {
	case api.KMap:
		return api.Value{S: []string{p.value.S[p.i]}, V: []api.Value{v}}
	case api.KCause:
		return api.Value{C: [][]api.Tick{slices.Clone(p.value.C[p.i])}, V: []api.Value{v}}
	}
	sides := []api.Value{v, v}
	sides[1-p.i] = value.Bottom(p.schema.In[1-p.i])
	return api.Value{V: sides}
}
