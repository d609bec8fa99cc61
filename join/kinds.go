package join

import (
	"cmp"
	"slices"
	"strings"

	"trefoil/api"
	"trefoil/clock"
	"trefoil/rows"
)

// join takes values of s, or zero for one of them: it stands for nothing, whatever s is, so that where one side lacks something nobody has to build a Bottom for it.
func join(s api.Schema, a, b api.Value) (api.Value, error) {
	switch s.Kind {
	case api.KMax, api.KOr:
		return api.Value{N: max(a.N, b.N)}, nil
	case api.KSet:
		all := rows.Both(a.S, b.S)
		return fitting(all, api.Value{S: all})
	case api.KMap:
		return joinMaps(s.In[0], a, b)
	case api.KPair:
		return joinPairs(s.In, a, b)
	case api.KLast:
		return later(a, b), nil
	case api.KClock:
		return joinClocks(a, b)
	}
	return joinCauses(s.In[0], a, b)
}

// fitting answers v, unless the list that it has is too long.
func fitting[T any](l []T, v api.Value) (api.Value, error) {
	if len(l) > api.MaxItems {
		return api.Value{}, api.ErrLarge
	}
	return v, nil
}

func joinMaps(in api.Schema, a, b api.Value) (api.Value, error) {
	keys := line[string]{a.S, a.V}.beside(line[string]{b.S, b.V}, strings.Compare)
	all, err := together(in, keys)
	return api.Value{S: all.marks, V: all.values}, err
}

func joinPairs(in []api.Schema, a, b api.Value) (api.Value, error) {
	both := make([]api.Value, len(in))
	for i, s := range in {
		v, err := join(s, half(a, i), half(b, i))
		if err != nil {
			return api.Value{}, err
		}
		both[i] = v
	}
	return api.Value{V: both}, nil
}

// half goes on with zero where a pair is zero.
func half(v api.Value, i int) api.Value {
	if len(v.V) == 0 {
		return api.Value{}
	}
	return v.V[i]
}

func later(a, b api.Value) api.Value {
	if byWriter(a, b) < 0 {
		a = b
	}
	return api.Value{N: a.N, M: a.M, S: slices.Clone(a.S)}
}

// byWriter puts what nobody wrote first, since it has no text at all.
func byWriter(a, b api.Value) int {
	return cmp.Or(cmp.Compare(a.N, b.N), cmp.Compare(a.M, b.M), slices.Compare(a.S, b.S))
}

func joinClocks(a, b api.Value) (api.Value, error) {
	var all []api.Tick
	for _, c := range slices.Concat(a.C, b.C) {
		all = clock.Join(all, c)
	}
	if len(all) == 0 {
		return api.Value{}, nil
	}
	return fitting(all, api.Value{C: [][]api.Tick{all}})
}

// joinCauses leaves out what another version has seen ahead of counting: those aren't too many for a value that they aren't in.
func joinCauses(in api.Schema, a, b api.Value) (api.Value, error) {
	versions := line[[]api.Tick]{a.C, a.V}.beside(line[[]api.Tick]{b.C, b.V}, byTicks)
	clocks := slices.Concat(a.C, b.C)
	all, err := together(in, without(versions, func(s spot[[]api.Tick]) bool { return seen(s.mark, clocks) }))
	for i, c := range all.marks {
		all.marks[i] = slices.Clone(c) // the answer's clocks are nobody else's
	}
	return api.Value{C: all.marks, V: all.values}, err
}

// seen tells whether c is below one of those clocks.
func seen(c []api.Tick, clocks [][]api.Tick) bool {
	return slices.ContainsFunc(clocks, func(o []api.Tick) bool { return clock.Cmp(c, o) == -1 })
}

// byTicks is the order in which versions stand: by Who, N, one tick behind the other; of clocks that begin alike the shorter one first.
func byTicks(a, b []api.Tick) int { return slices.CompareFunc(a, b, byTick) }

func byTick(a, b api.Tick) int {
	return cmp.Or(cmp.Compare(a.Who, b.Who), cmp.Compare(a.N, b.N))
}
