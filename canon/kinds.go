package canon

import (
	"cmp"
	"slices"
	"strings"

	"trefoil/api"
	"trefoil/join"
	"trefoil/rows"
	"trefoil/value"
)

// put takes what is right, so that the one error left is that it is too large: whichever part tells it first, it is the same.
func put(s api.Schema, v api.Value) (api.Value, error) {
	own, err := made(inside(s, v), put)
	if err != nil {
		return api.Value{}, err
	}
	switch s.Kind {
	case api.KSet:
		return putSet(v.S)
	case api.KMap:
		return putMap(s.In[0], v.S, own)
	case api.KPair:
		return api.Value{V: own}, nil
	case api.KClock:
		return putClock(v.C)
	case api.KCause:
		return putCause(s, v.C, own)
	}
	return api.Value{N: v.N, M: v.M, S: slices.Clone(v.S)}, nil
}

func putSet(l []string) (api.Value, error) {
	all := rows.Sort(l)
	if len(all) > api.MaxItems {
		return api.Value{}, api.ErrLarge
	}
	return api.Value{S: all}, nil
}

// putMap takes as many values, each put, as keys. A key counts once, by what it has in the end, and not at all, if that is nothing.
func putMap(in api.Schema, keys []string, own []api.Value) (api.Value, error) {
	entries, err := made(beside(keys, own), entry)
	if err != nil {
		return api.Value{}, err
	}
	both := func(a, b api.Entry) (api.Entry, error) {
		v, err := join.Join(in, a.Value, b.Value)
		return api.Entry{Key: a.Key, Value: v}, err
	}
	nothing := func(e api.Entry) bool { return value.None(in, e.Value) }
	all, err := gathered(entries, byKey, both, nothing)
	var v api.Value
	for _, e := range all {
		v.S, v.V = append(v.S, e.Key), append(v.V, e.Value)
	}
	return v, err
}

func putClock(l [][]api.Tick) (api.Value, error) {
	c, err := Clock(slices.Concat(l...))
	if err != nil || len(c) == 0 {
		return api.Value{}, err
	}
	return api.Value{C: [][]api.Tick{c}}, nil
}

// putCause takes as many values, each put, as clocks. It joins from the left, since which versions are too many together hangs on which of them come first.
func putCause(s api.Schema, clocks [][]api.Tick, own []api.Value) (api.Value, error) {
	siblings, err := made(beside(clocks, own), sibling)
	if err != nil {
		return api.Value{}, err
	}
	return join.All(s, siblings)
}

func entry(key string, v api.Value) (api.Entry, error) {
	return api.Entry{Key: key, Value: v}, nil
}

// sibling is a cause of one version alone.
func sibling(c []api.Tick, v api.Value) (api.Value, error) {
	own, err := Clock(c)
	return api.Value{C: [][]api.Tick{own}, V: []api.Value{v}}, err
}

func byKey(a, b api.Entry) int { return strings.Compare(a.Key, b.Key) }

func byWho(a, b api.Tick) int { return cmp.Compare(a.Who, b.Who) }

func later(a, b api.Tick) (api.Tick, error) {
	if a.N < b.N {
		return b, nil
	}
	return a, nil
}

func idle(t api.Tick) bool { return t.N == 0 }
