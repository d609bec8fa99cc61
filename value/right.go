package value

import (
	"cmp"
	"slices"

	"trefoil/api"
	"trefoil/clock"
	"trefoil/rows"
)

// apart is what clock's Cmp answers of two clocks of which neither has seen the other.
const apart = 2

// right looks at a value alone, not at what is in it, but for whether a map's are None: it has just the parts that its Kind has, as they must be.
// Only a right one is gone into: each of its V has a schema then.
func right(t typed) bool {
	return blank(stripped(t.schema.Kind, t.value)) && formed(t)
}

// stripped answers what v has beside the parts of that Kind.
func stripped(kind int, v api.Value) api.Value {
	switch kind {
	case api.KMax, api.KOr:
		v.N = 0
	case api.KSet:
		v.S = nil
	case api.KMap:
		v.S, v.V = nil, nil
	case api.KPair:
		v.V = nil
	case api.KLast:
		v.N, v.M, v.S = 0, 0, nil
	case api.KClock:
		v.C = nil
	case api.KCause:
		v.C, v.V = nil, nil
	}
	return v
}

// formed tells whether the parts that the Kind has are as they must be.
func formed(t typed) bool {
	v := t.value
	switch t.schema.Kind {
	case api.KMax:
		return true
	case api.KOr:
		return v.N <= 1
	case api.KSet:
		return texts(v.S)
	case api.KMap:
		return texts(v.S) && len(v.V) == len(v.S) && filled(t)
	case api.KPair:
		return len(v.V) == 2
	case api.KLast:
		return blank(v) || written(v)
	case api.KClock:
		return len(v.C) <= 1 && !slices.ContainsFunc(v.C, idle)
	case api.KCause:
		return len(v.C) == len(v.V) && siblings(v.C)
	}
	return false
}

// texts tells whether l may be a set's, or a map's keys.
func texts(l []string) bool {
	return len(l) <= api.MaxItems && rows.Is(l) && !slices.ContainsFunc(l, long)
}

func long(s string) bool { return len(s) > api.MaxText }

// filled tells whether each key has something: a key that has nothing would be a second form of the map without it.
func filled(t typed) bool {
	for p := range inside(t) {
		if none(p) {
			return false
		}
	}
	return true
}

// written tells whether there is a last writer, and what it wrote is something.
func written(v api.Value) bool {
	if len(v.S) != 1 || long(v.S[0]) {
		return false
	}
	return v.N > 0 || v.M > 0 || v.S[0] != ""
}

// idle tells what a KClock's one may not be: no clock, or one that has seen nothing.
func idle(c []api.Tick) bool { return len(c) == 0 || !clock.Is(c) }

// siblings tells whether versions may have these clocks, in this order. Cmp says something only of clocks, so that these are asked for first.
func siblings(c [][]api.Tick) bool {
	if len(c) > api.MaxItems || !every(slices.Values(c), clock.Is) {
		return false
	}
	for a, b := range twos(c) {
		if slices.CompareFunc(a, b, byTick) >= 0 || clock.Cmp(a, b) != apart {
			return false
		}
	}
	return true
}

// byTick goes by Who, then N: of clocks that begin alike, CompareFunc then puts the shorter one first.
func byTick(a, b api.Tick) int {
	return cmp.Or(cmp.Compare(a.Who, b.Who), cmp.Compare(a.N, b.N))
}
