package canon_test

import (
	"maps"
	"slices"

	"trefoil/api"
	"trefoil/canon"
	"trefoil/join"
	"trefoil/kit"
	"trefoil/schema"
	"trefoil/value"
)

var none api.Value

// Short names, so that tables of values read as such.
var (
	of     = kit.Of
	num    = kit.Num
	set    = kit.Set
	last   = kit.Last
	pair   = kit.Pair
	keyed  = kit.Keyed
	ticks  = kit.Ticks
	clocks = kit.Clocks
	at     = kit.At
	cause  = kit.Cause

	refused = kit.Refused
)

// put says what Put is to answer, by the document's words, one by one, with no call of layers 1, 3 and 7: a value, or an error.
func put(s api.Schema, v api.Value) (api.Value, api.Errno) {
	if !schema.Is(s) || !fits(s, v) {
		return none, api.ErrType
	}
	if got, ok := settled(s, v); ok {
		return got, api.OK
	}
	return none, api.ErrLarge
}

// fits says whether v has the parts that a value of s has, in whatever order.
func fits(s api.Schema, v api.Value) bool {
	numbers, texts, times, values := v.N != 0 || v.M != 0, len(v.S), len(v.C), len(v.V)
	for i, x := range v.V {
		if len(s.In) == 0 || i >= len(s.In) && s.Kind == api.KPair || !fits(s.In[min(i, len(s.In)-1)], x) {
			return false
		}
	}
	if !slices.Equal(v.S, slices.DeleteFunc(slices.Clone(v.S), func(t string) bool { return len(t) > api.MaxText })) {
		return false
	}
	for _, t := range slices.Concat(v.C...) {
		if t.Who < 0 || t.Who > 1000000 {
			return false
		}
	}
	switch s.Kind {
	case api.KMax:
		return v.M == 0 && texts+times+values == 0
	case api.KOr:
		return v.M == 0 && texts+times+values == 0 && (v.N == 0 || v.N == 1)
	case api.KSet:
		return !numbers && times+values == 0
	case api.KMap:
		return !numbers && times == 0 && texts == values
	case api.KPair:
		return !numbers && texts+times == 0 && values == 2
	case api.KLast:
		return times+values == 0 && (!numbers && texts == 0 || texts == 1 && (numbers || v.S[0] != ""))
	case api.KClock:
		return !numbers && texts+values == 0 && times <= 1
	}
	return !numbers && texts == 0 && times == values
}

// settled says what a thing that fits is, or that it is too large.
func settled(s api.Schema, v api.Value) (api.Value, bool) {
	switch s.Kind {
	case api.KSet:
		all := map[string]bool{}
		for _, t := range v.S {
			all[t] = true
		}
		return set(slices.Sorted(maps.Keys(all))...), len(all) <= api.MaxItems
	case api.KMap:
		return settledMap(s.In[0], v)
	case api.KPair:
		a, ok := settled(s.In[0], v.V[0])
		b, other := settled(s.In[1], v.V[1])
		return pair(a, b), ok && other
	case api.KClock:
		c := settledClock(slices.Concat(v.C...))
		if len(c) == 0 {
			return none, true
		}
		return clocks(c), len(c) <= api.MaxItems
	case api.KCause:
		return settledCause(s, v)
	}
	return v, true
}

func settledMap(in api.Schema, v api.Value) (api.Value, bool) {
	all, bottom := map[string]api.Value{}, value.Bottom(in)
	for i, k := range v.S {
		x, ok := settled(in, v.V[i])
		old, has := all[k]
		if !has {
			old = bottom
		}
		both, err := join.Join(in, old, x)
		if !ok || err != nil {
			return none, false
		}
		all[k] = both
	}
	maps.DeleteFunc(all, func(_ string, x api.Value) bool { return kit.Written(x) == kit.Written(bottom) })
	var out api.Value
	for _, k := range slices.Sorted(maps.Keys(all)) {
		out.S, out.V = append(out.S, k), append(out.V, all[k])
	}
	return out, len(all) <= api.MaxItems
}

// settledClock says what those ticks are, however many.
func settledClock(c []api.Tick) []api.Tick {
	all := map[int]uint64{}
	for _, t := range c {
		if t.N > all[t.Who] {
			all[t.Who] = t.N
		}
	}
	var out []api.Tick
	for _, who := range slices.Sorted(maps.Keys(all)) {
		out = append(out, api.Tick{Who: who, N: all[who]})
	}
	return out
}

func settledCause(s api.Schema, v api.Value) (api.Value, bool) {
	var all api.Value
	for i, x := range v.V {
		c := settledClock(v.C[i])
		own, ok := settled(s.In[0], x)
		if !ok || len(c) > api.MaxItems {
			return none, false
		}
		next, err := join.Join(s, all, cause(at(c, own)))
		if err != nil {
			return none, false
		}
		all = next
	}
	return all, true
}

// amiss tells what Put answers of v, if that isn't as wanted, or if what it is as a value isn't right, or is another one when it is put again; nothing, if all is right.
func amiss(s api.Schema, v, want api.Value, code api.Errno) string {
	got, err := canon.Put(s, v)
	if code != api.OK && refused(got, err, code) {
		return ""
	}
	if code == api.OK && err == nil && kit.Written(got) == kit.Written(want) {
		return amissAgain(s, got)
	}
	return "Put(" + kit.Written(v) + "): " + outcome(got, err) + ", not " + kit.Written(want) + ", " + code.Error()
}

// amissAgain tells likewise of what was answered.
func amissAgain(s api.Schema, v api.Value) string {
	again, err := canon.Put(s, v)
	if err == nil && value.Is(s, v) && kit.Written(again) == kit.Written(v) {
		return ""
	}
	return kit.Written(v) + ", that is no value, or another one when put again: " + outcome(again, err)
}

// amissClock tells likewise of Clock.
func amissClock(c, want []api.Tick, code api.Errno) string {
	got, err := canon.Clock(c)
	if code == api.OK && err == nil && slices.Equal(got, want) || code != api.OK && len(got) == 0 && kit.Tells(err, code) {
		return ""
	}
	return "Clock(" + kit.Written(clocks(c)) + "): " + outcome(clocks(got), err) + ", not " + kit.Written(clocks(want)) + ", " + code.Error()
}

func outcome(v api.Value, err error) string {
	if err == nil {
		return kit.Written(v)
	}
	return kit.Written(v) + ", " + err.Error()
}

// A turn says in which order a row of n is written down: which of it first, which next; some of it twice.
type turn struct {
	name  string
	order func(n int) []int
}

func turns() []turn {
	rising := func(n int) []int {
		var l []int
		for i := range n {
			l = append(l, i)
		}
		return l
	}
	falling := func(n int) []int {
		l := rising(n)
		slices.Reverse(l)
		return l
	}
	return []turn{
		{"as it is", rising},
		{"falling", falling},
		{"the last one first", func(n int) []int { return append(falling(n)[:min(n, 1)], rising(max(0, n-1))...) }},
		{"the first one last", func(n int) []int { return append(rising(n)[min(n, 1):], rising(min(n, 1))...) }},
		{"twice", func(n int) []int { return append(rising(n), rising(n)...) }},
		{"there and back", func(n int) []int { return append(rising(n), falling(n)...) }},
		{"each twice", func(n int) []int {
			l := append(falling(n), rising(n)...)
			slices.Sort(l)
			return l
		}},
		{"the odd ones first", func(n int) []int {
			return slices.Concat(slices.DeleteFunc(rising(n), func(i int) bool { return i%2 == 0 }), slices.DeleteFunc(falling(n), func(i int) bool { return i%2 == 1 }))
		}},
	}
}

// turned writes v, a value of s, down with all its rows turned, all the way in.
func turned(s api.Schema, v api.Value, t turn) api.Value {
	out := api.Value{N: v.N, M: v.M}
	if s.Kind == api.KPair || s.Kind == api.KLast {
		out.S = v.S
		for i, x := range v.V {
			out.V = append(out.V, turned(s.In[i], x, t))
		}
		return out
	}
	out.S = picked(v.S, t.order(len(v.S)))
	for _, x := range picked(v.V, t.order(len(v.V))) {
		out.V = append(out.V, turned(s.In[0], x, t))
	}
	out.C = v.C
	if s.Kind == api.KCause {
		out.C = picked(v.C, t.order(len(v.C)))
	}
	out.C = slices.Clone(out.C)
	for i, c := range out.C {
		out.C[i] = picked(c, t.order(len(c)))
	}
	return out
}

func picked[T any](l []T, at []int) []T {
	var out []T
	for _, i := range at {
		out = append(out, l[i])
	}
	return out
}

// padded writes v, a value of s, down with what adds nothing, all the way in: ticks with N 0, less ticks, keys with nothing, versions that another one has seen.
func padded(s api.Schema, v api.Value) api.Value {
	out := api.Value{N: v.N, M: v.M, S: slices.Clone(v.S)}
	for i, x := range v.V {
		out.V = append(out.V, padded(s.In[min(i, len(s.In)-1)], x))
	}
	for _, c := range v.C {
		out.C = append(out.C, paddedClock(c))
	}
	switch s.Kind {
	case api.KMap:
		out.S, out.V = append(out.S, "x"), append(out.V, value.Bottom(s.In[0]))
		for _, k := range v.S {
			out.S, out.V = append([]string{k}, out.S...), append([]api.Value{value.Bottom(s.In[0])}, out.V...)
		}
	case api.KClock:
		if len(out.C) == 0 {
			out.C = [][]api.Tick{paddedClock(nil)}
		}
	case api.KCause:
		for i, c := range v.C {
			for k, t := range c {
				seen := slices.Clone(c)
				seen[k].N = t.N - 1
				out.C, out.V = append(out.C, seen), append(out.V, padded(s.In[0], v.V[(i+1)%len(v.V)]))
			}
		}
	}
	return out
}

func paddedClock(c []api.Tick) []api.Tick {
	out := ticks(77, 0)
	for _, t := range c {
		out = append(out, t, api.Tick{Who: t.Who}, api.Tick{Who: t.Who, N: t.N - 1})
	}
	return append(out, ticks(0, 0, 1000000, 0)...)
}
