package value_test

import (
	"fmt"
	"slices"
	"strings"

	"trefoil/api"
	"trefoil/schema"
)

var none api.Value

func of(kind int, in ...api.Schema) api.Schema { return api.Schema{Kind: kind, In: in} }

func num(n uint64) api.Value { return api.Value{N: n} }

func set(l ...string) api.Value { return api.Value{S: l} }

func last(n, m uint64, l ...string) api.Value { return api.Value{N: n, M: m, S: l} }

func pair(l ...api.Value) api.Value { return api.Value{V: l} }

// keyed makes a map of keys, parted by commas, and values.
func keyed(keys string, l ...api.Value) api.Value {
	return api.Value{S: strings.Split(keys, ","), V: l}
}

// ticks makes a list of Who, N, Who, N ..
func ticks(l ...int) []api.Tick {
	var c []api.Tick
	for i := 0; i < len(l); i += 2 {
		c = append(c, api.Tick{Who: l[i], N: uint64(l[i+1])})
	}
	return c
}

func clocks(l ...[]api.Tick) api.Value { return api.Value{C: l} }

// A version is what a cause has several of.
type version struct {
	c []api.Tick
	v api.Value
}

func cause(l ...version) api.Value {
	var v api.Value
	for _, x := range l {
		v.C, v.V = append(v.C, x.c), append(v.V, x.v)
	}
	return v
}

// many answers that many texts that rise.
func many(n int) []string {
	var l []string
	for i := range n {
		l = append(l, fmt.Sprintf("%08d", i))
	}
	return l
}

// full answers pairs of pairs, as wide as a schema that deep can be.
func full(depth int) api.Schema {
	s := of(api.KMax)
	for range depth - 1 {
		s = of(api.KPair, s, s)
	}
	return s
}

// A sample is a schema and some values of it.
type sample struct {
	s api.Schema
	l []api.Value
}

// samples has a schema of each Kind, and each Kind that nests around others; the first value of each is Bottom, the others are more.
func samples() []sample {
	max, sets, lasts := of(api.KMax), of(api.KSet), of(api.KLast)
	ticking := of(api.KClock)
	one, two, both := ticks(1, 1), ticks(2, 1), ticks(1, 2, 3, 4)
	return []sample{
		{max, []api.Value{none, num(1), num(2), num(1<<64 - 1)}},
		{of(api.KOr), []api.Value{none, num(1)}},
		{sets, []api.Value{none, set("a"), set(""), set("", "a", "b"), set("a", "ab", "b")}},
		{lasts, []api.Value{none, last(1, 0, ""), last(0, 1, ""), last(0, 0, "a"), last(7, 8, "abc")}},
		{ticking, []api.Value{none, clocks(one), clocks(both), clocks(ticks(0, 1, 1000000, 9))}},
		{of(api.KMap, max), []api.Value{none, keyed("a", num(1)), keyed("", num(3)), keyed("a,b", num(2), num(1))}},
		{of(api.KMap, of(api.KPair, max, sets)), []api.Value{none, keyed("a", pair(num(1), none)), keyed("a,b", pair(none, set("x")), pair(num(1), set("")))}},
		{of(api.KMap, of(api.KMap, lasts)), []api.Value{none, keyed("k", keyed("a,b", last(1, 2, "x"), last(0, 0, "y")))}},
		{of(api.KPair, max, sets), []api.Value{pair(none, none), pair(num(1), none), pair(none, set("a")), pair(num(5), set("a", "b"))}},
		{of(api.KPair, of(api.KPair, max, ticking), of(api.KMap, of(api.KOr))), []api.Value{pair(pair(none, none), none), pair(pair(none, clocks(one)), keyed("a", num(1)))}},
		{of(api.KCause, sets), []api.Value{none, cause(version{nil, none}), cause(version{one, none}), cause(version{one, set("a")}, version{two, none}), cause(version{ticks(1, 1, 3, 1), none}, version{ticks(1, 2), set("", "b")})}},
		{of(api.KCause, of(api.KPair, max, max)), []api.Value{none, cause(version{one, pair(none, none)}), cause(version{one, pair(num(1), none)}, version{two, pair(none, none)})}},
		{of(api.KCause, of(api.KCause, max)), []api.Value{none, cause(version{both, none}), cause(version{both, cause(version{one, num(1)}, version{two, num(1)})})}},
		{schema.Cause(lasts), []api.Value{none, cause(version{two, pair(keyed("a,b", clocks(one), clocks(both)), last(1, 1, "x"))})}},
		{of(api.KMap, of(api.KCause, max)), []api.Value{none, keyed("a", cause(version{nil, none})), keyed("a,b", cause(version{one, num(2)}), cause(version{two, none}))}},
	}
}

// wrongSchemas gives what is no schema.
func wrongSchemas() []api.Schema {
	max := of(api.KMax)
	l := []api.Schema{
		{}, of(-1), of(api.KCause + 1), of(api.KMax, max), of(api.KOr, max), of(api.KSet, max), of(api.KLast, max), of(api.KClock, max),
		of(api.KMap), of(api.KMap, max, max), of(api.KCause), of(api.KCause, max, max), of(api.KPair), of(api.KPair, max), of(api.KPair, max, max, max),
		of(api.KMap, of(0)), of(api.KPair, max, of(0)), of(api.KPair, of(api.KPair, max), max), of(api.KCause, of(api.KMap)),
	}
	deep := max
	for range api.MaxDepth {
		deep = of(api.KMap, deep)
	}
	return append(l, deep, full(api.MaxDepth+1))
}

// written tells v in one way, and each other one in another way; none and empty are the same.
func written(v api.Value) string {
	var b strings.Builder
	write(&b, v)
	return b.String()
}

func write(b *strings.Builder, v api.Value) {
	fmt.Fprintf(b, "%d,%d,%q,%d", v.N, v.M, v.S, len(v.C))
	for _, c := range v.C {
		fmt.Fprintf(b, "%v", c)
	}
	fmt.Fprintf(b, ",%d(", len(v.V))
	for _, x := range v.V {
		write(b, x)
	}
	b.WriteString(")")
}

// nothing is what Bottom is to answer.
func nothing(s api.Schema) api.Value {
	if s.Kind == api.KPair && schema.Is(s) {
		return pair(nothing(s.In[0]), nothing(s.In[1]))
	}
	return none
}

// proper says what Is is to say, by the document's words, one by one, with no call of layers 1, 3 and 4.
func proper(s api.Schema, v api.Value) bool {
	has := map[int]string{api.KMax: "N", api.KOr: "N", api.KSet: "S", api.KMap: "SV", api.KPair: "V", api.KLast: "NMS", api.KClock: "C", api.KCause: "CV"}[s.Kind]
	if !schema.Is(s) || strings.Trim(present(v), has) != "" {
		return false
	}
	switch s.Kind {
	case api.KOr:
		return v.N == 0 || v.N == 1
	case api.KSet:
		return properTexts(v.S)
	case api.KMap:
		empty := func(x api.Value) bool { return written(x) == written(nothing(s.In[0])) }
		return properTexts(v.S) && len(v.S) == len(v.V) && properAll(s.In[0], v.V) && !slices.ContainsFunc(v.V, empty)
	case api.KPair:
		return len(v.V) == 2 && proper(s.In[0], v.V[0]) && proper(s.In[1], v.V[1])
	case api.KLast:
		return present(v) == "" || len(v.S) == 1 && len(v.S[0]) <= api.MaxText && !(v.N == 0 && v.M == 0 && v.S[0] == "")
	case api.KClock:
		return len(v.C) == 0 || len(v.C) == 1 && len(v.C[0]) > 0 && properClock(v.C[0])
	case api.KCause:
		return len(v.C) == len(v.V) && len(v.C) <= api.MaxItems && properVersions(v.C) && properAll(s.In[0], v.V)
	}
	return true
}

// present names the parts that v has.
func present(v api.Value) string {
	out := ""
	for _, p := range []struct {
		name string
		is   bool
	}{{"N", v.N != 0}, {"M", v.M != 0}, {"S", len(v.S) > 0}, {"C", len(v.C) > 0}, {"V", len(v.V) > 0}} {
		if p.is {
			out += p.name
		}
	}
	return out
}

func properAll(s api.Schema, l []api.Value) bool {
	return !slices.ContainsFunc(l, func(v api.Value) bool { return !proper(s, v) })
}

func properTexts(l []string) bool {
	for i, s := range l {
		if len(s) > api.MaxText || i > 0 && s <= l[i-1] {
			return false
		}
	}
	return len(l) <= api.MaxItems
}

func properClock(c []api.Tick) bool {
	for i, t := range c {
		if t.Who < 0 || t.Who > 1000000 || t.N == 0 || i > 0 && t.Who <= c[i-1].Who {
			return false
		}
	}
	return len(c) <= api.MaxItems
}

func properVersions(l [][]api.Tick) bool {
	for i, c := range l {
		if !properClock(c) || i > 0 && slices.Compare(flat(l[i-1]), flat(c)) >= 0 {
			return false
		}
		for _, o := range l[:i] {
			if upTo(o, c) || upTo(c, o) {
				return false
			}
		}
	}
	return true
}

// flat writes the ticks of a clock one behind the other.
func flat(c []api.Tick) []uint64 {
	var l []uint64
	for _, t := range c {
		l = append(l, uint64(t.Who), t.N)
	}
	return l
}

// upTo tells whether none of a's is above b's.
func upTo(a, b []api.Tick) bool {
	n := map[int]uint64{}
	for _, t := range b {
		n[t.Who] = t.N
	}
	for _, t := range a {
		if t.N > n[t.Who] {
			return false
		}
	}
	return true
}

// lists gives every list of at most n of these, in whatever order, however often.
func lists[T any](from []T, n int) [][]T {
	out := [][]T{nil}
	for begin := 0; n > 0; n-- {
		end := len(out)
		for _, head := range out[begin:end] {
			for _, t := range from {
				out = append(out, append(slices.Clone(head), t))
			}
		}
		begin = end
	}
	return out
}

// small gives, each once, all values of a few numbers, of at most two of some texts, of some clocks, and of some values in them.
func small() []api.Value {
	texts := lists([]string{"", "a", "b"}, 2)
	times := lists([][]api.Tick{nil, ticks(1, 1), ticks(1, 2), ticks(2, 1), ticks(1, 0)}, 2)
	inner := lists([]api.Value{none, num(1), set("a"), pair(none, none)}, 2)
	var out []api.Value
	for n := range uint64(3) {
		for m := range uint64(2) {
			for _, s := range texts {
				for _, c := range times {
					for _, v := range inner {
						out = append(out, api.Value{N: n, M: m, S: s, C: c, V: v})
					}
				}
			}
		}
	}
	return out
}

// room answers a copy of l with filled room behind it.
func room[T any](l []T, spare T) []T {
	return append(slices.Clone(l), spare, spare)[:len(l)]
}

// roomy answers a copy of v whose lists, all the way in, have filled room behind them.
func roomy(v api.Value) api.Value {
	spare := api.Tick{Who: 77, N: 7}
	var c [][]api.Tick
	for _, x := range v.C {
		c = append(c, room(x, spare))
	}
	var l []api.Value
	for _, x := range v.V {
		l = append(l, roomy(x))
	}
	return api.Value{N: v.N, M: v.M, S: room(v.S, "spare"), C: room(c, []api.Tick{spare}), V: room(l, keyed("spare", num(7)))}
}

func roomySchema(s api.Schema) api.Schema {
	var in []api.Schema
	for _, p := range s.In {
		in = append(in, roomySchema(p))
	}
	return api.Schema{Kind: s.Kind, In: room(in, of(-77, of(-7)))}
}

// laid tells all that lies in v's lists, and in the room behind them.
func laid(v api.Value) string {
	out := fmt.Sprint(v.N, v.M, len(v.S), len(v.C), len(v.V)) + fmt.Sprintf("%q", v.S[:cap(v.S)])
	for _, c := range v.C[:cap(v.C)] {
		out += fmt.Sprint(len(c), c[:cap(c)])
	}
	for _, x := range v.V[:cap(v.V)] {
		out += "(" + laid(x) + ")"
	}
	return out
}

func laidSchema(s api.Schema) string {
	out := fmt.Sprint(s.Kind, len(s.In))
	for _, p := range s.In[:cap(s.In)] {
		out += "(" + laidSchema(p) + ")"
	}
	return out
}
