package value_test

import (
	"slices"
	"strings"

	"trefoil/api"
	"trefoil/kit"
	"trefoil/schema"
)

var none api.Value

// Short names, so that tables of values read as such.
var (
	of     = kit.Of
	num    = kit.Num
	set    = kit.Set
	last   = kit.Last
	pair   = kit.Pair
	keyed  = kit.Keyed
	ticks  = kit.Ticks
	clocks = kit.Clocks
	at     = kit.At
	cause  = kit.Cause
)

// nothing is what Bottom is to answer.
func nothing(s api.Schema) api.Value {
	if s.Kind == api.KPair && schema.Is(s) {
		return pair(nothing(s.In[0]), nothing(s.In[1]))
	}
	return none
}

// proper says what Is is to say, by the document's words, one by one, with no call of layers 1, 3 and 4.
func proper(s api.Schema, v api.Value) bool {
	has := map[int]string{api.KMax: "N", api.KOr: "N", api.KSet: "S", api.KMap: "SV", api.KPair: "V", api.KLast: "NMS", api.KClock: "C", api.KCause: "CV"}[s.Kind]
	if !schema.Is(s) || strings.Trim(present(v), has) != "" {
		return false
	}
	switch s.Kind {
	case api.KOr:
		return v.N == 0 || v.N == 1
	case api.KSet:
		return properTexts(v.S)
	case api.KMap:
		empty := func(x api.Value) bool { return kit.Written(x) == kit.Written(nothing(s.In[0])) }
		return properTexts(v.S) && len(v.S) == len(v.V) && properAll(s.In[0], v.V) && !slices.ContainsFunc(v.V, empty)
	case api.KPair:
		return len(v.V) == 2 && proper(s.In[0], v.V[0]) && proper(s.In[1], v.V[1])
	case api.KLast:
		return present(v) == "" || len(v.S) == 1 && len(v.S[0]) <= api.MaxText && !(v.N == 0 && v.M == 0 && v.S[0] == "")
	case api.KClock:
		return len(v.C) == 0 || len(v.C) == 1 && len(v.C[0]) > 0 && properClock(v.C[0])
	case api.KCause:
		return len(v.C) == len(v.V) && len(v.C) <= api.MaxItems && properVersions(v.C) && properAll(s.In[0], v.V)
	}
	return true
}

// present names the parts that v has.
func present(v api.Value) string {
	out := ""
	for _, p := range []struct {
		name string
		is   bool
	}{{"N", v.N != 0}, {"M", v.M != 0}, {"S", len(v.S) > 0}, {"C", len(v.C) > 0}, {"V", len(v.V) > 0}} {
		if p.is {
			out += p.name
		}
	}
	return out
}

func properAll(s api.Schema, l []api.Value) bool {
	return !slices.ContainsFunc(l, func(v api.Value) bool { return !proper(s, v) })
}

func properTexts(l []string) bool {
	for i, s := range l {
		if len(s) > api.MaxText || i > 0 && s <= l[i-1] {
			return false
		}
	}
	return len(l) <= api.MaxItems
}

func properClock(c []api.Tick) bool {
	for i, t := range c {
		if t.Who < 0 || t.Who > 1000000 || t.N == 0 || i > 0 && t.Who <= c[i-1].Who {
			return false
		}
	}
	return len(c) <= api.MaxItems
}

func properVersions(l [][]api.Tick) bool {
	for i, c := range l {
		if !properClock(c) || i > 0 && slices.Compare(kit.Row(l[i-1]), kit.Row(c)) >= 0 {
			return false
		}
		for _, o := range l[:i] {
			if kit.UpTo(o, c) || kit.UpTo(c, o) {
				return false
			}
		}
	}
	return true
}

// small gives, each once, all values of a few numbers, of at most two of some texts, of some clocks, and of some values in them.
func small() []api.Value {
	texts := kit.Lists([]string{"", "a", "b"}, 2)
	times := kit.Lists([][]api.Tick{nil, ticks(1, 1), ticks(1, 2), ticks(2, 1), ticks(1, 0)}, 2)
	inner := kit.Lists([]api.Value{none, num(1), set("a"), pair(none, none)}, 2)
	var out []api.Value
	for n := range uint64(3) {
		for m := range uint64(2) {
			for _, s := range texts {
				for _, c := range times {
					for _, v := range inner {
						out = append(out, api.Value{N: n, M: m, S: s, C: c, V: v})
					}
				}
			}
		}
	}
	return out
}
