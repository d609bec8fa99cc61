package schema_test

import (
	"math"
	"slices"
	"testing"

	"trefoil/api"
	"trefoil/kit"
	"trefoil/schema"
)

var leaves = []int{api.KMax, api.KOr, api.KSet, api.KLast, api.KClock}

var noKinds = []int{0, -1, api.KCause + 1, api.KCause + 2, 100, math.MinInt, math.MaxInt}

// farDeep is as deep as anything may nest that is handed in.
const farDeep = 1 << 16

func of(kind int, in ...api.Schema) api.Schema { return api.Schema{Kind: kind, In: in} }

// A wrap puts a schema into another one.
type wrap struct {
	name string
	put  func(api.Schema) api.Schema
}

func wraps() []wrap {
	return []wrap{
		{"a map", func(s api.Schema) api.Schema { return of(api.KMap, s) }},
		{"a cause", func(s api.Schema) api.Schema { return of(api.KCause, s) }},
		{"a pair's first", func(s api.Schema) api.Schema { return of(api.KPair, s, of(api.KOr)) }},
		{"a pair's second", func(s api.Schema) api.Schema { return of(api.KPair, of(api.KOr), s) }},
	}
}

// wrongWraps put a schema into what is none, whatever is in it.
func wrongWraps() []wrap {
	return []wrap{
		{"a set", func(s api.Schema) api.Schema { return of(api.KSet, s) }},
		{"no kind", func(s api.Schema) api.Schema { return of(0, s) }},
		{"a pair of one", func(s api.Schema) api.Schema { return of(api.KPair, s) }},
		{"a map of two, the second", func(s api.Schema) api.Schema { return of(api.KMap, of(api.KOr), s) }},
		{"a pair of three, the middle", func(s api.Schema) api.Schema { return of(api.KPair, of(api.KOr), s, of(api.KOr)) }},
		{"a pair of three, the last", func(s api.Schema) api.Schema { return of(api.KPair, of(api.KOr), of(api.KOr), s) }},
	}
}

// times wraps s n times.
func times(n int, w wrap, s api.Schema) api.Schema {
	for range n {
		s = w.put(s)
	}
	return s
}

// small gives, each once, all that has kinds of 0 to KCause + 1 and up to three In, these without any In.
func small() []api.Schema {
	var ones, out []api.Schema
	for kind := 0; kind <= api.KCause+1; kind++ {
		ones = append(ones, of(kind))
	}
	for kind := 0; kind <= api.KCause+1; kind++ {
		out = append(out, of(kind))
		for _, a := range ones {
			out = append(out, of(kind, a))
			for _, b := range ones {
				out = append(out, of(kind, a, b))
				for _, c := range ones {
					out = append(out, of(kind, a, b, c))
				}
			}
		}
	}
	return out
}

// ordinary gives schemas of every kind, all different.
func ordinary() []api.Schema {
	clocks := of(api.KMap, of(api.KClock))
	set := of(api.KSet)
	return []api.Schema{
		of(api.KMax), of(api.KOr), set, of(api.KLast), of(api.KClock),
		of(api.KMap, set), of(api.KMap, of(api.KOr)), clocks,
		of(api.KCause, set), of(api.KCause, of(api.KLast)),
		of(api.KPair, set, of(api.KMax)), of(api.KPair, of(api.KMax), set), of(api.KPair, set, set),
		of(api.KMap, of(api.KMap, set)),
		of(api.KPair, of(api.KMap, of(api.KLast)), of(api.KCause, of(api.KPair, set, set))),
		of(api.KCause, of(api.KPair, clocks, set)),
		of(api.KCause, of(api.KPair, clocks, of(api.KMap, set))),
		of(api.KCause, of(api.KPair, clocks, of(api.KCause, of(api.KPair, clocks, set)))),
	}
}

// wrong gives what is no schema, all different.
func wrong() []api.Schema {
	max := of(api.KMax)
	out := []api.Schema{
		of(api.KMap), of(api.KCause), of(api.KPair), of(api.KPair, max),
		of(api.KMap, max, max), of(api.KCause, max, max), of(api.KPair, max, max, max),
		of(api.KMap, of(api.KMap)), of(api.KPair, max, of(api.KPair)), of(api.KPair, of(api.KPair), max),
		of(api.KMap, of(api.KMap, of(-1))), of(api.KCause, of(api.KPair, of(api.KMap, of(api.KClock, max)), max)),
	}
	for _, kind := range leaves {
		out = append(out, of(kind, max), of(kind, max, max), of(api.KMap, of(kind, max)))
	}
	for _, kind := range noKinds {
		out = append(out, of(kind), of(kind, max), of(kind, max, max), of(api.KMap, of(kind)))
	}
	return out
}

// alike holds a against b by a way of its own: by what they look like, written down.
func alike(a, b api.Schema) bool { return slices.Equal(written(a), written(b)) }

func written(s api.Schema) []int {
	out := []int{s.Kind, len(s.In)}
	for _, p := range s.In {
		out = append(out, written(p)...)
	}
	return out
}

const spare = -77

// roomy answers a copy of s whose lists, all the way in, have filled room behind them.
func roomy(s api.Schema) api.Schema {
	var in []api.Schema
	for _, p := range s.In {
		in = append(in, roomy(p))
	}
	in = append(in, of(spare, of(spare)), of(spare))
	return api.Schema{Kind: s.Kind, In: in[:len(s.In)]}
}

// whole tells whether s, as roomy made it, is as it was, room included.
func whole(s, was api.Schema) bool {
	if s.Kind != was.Kind || len(s.In) != len(was.In) {
		return false
	}
	room := s.In[len(s.In) : len(s.In)+2]
	if !alike(room[0], of(spare, of(spare))) || !alike(room[1], of(spare)) {
		return false
	}
	for i := range s.In {
		if !whole(s.In[i], was.In[i]) {
			return false
		}
	}
	return true
}

// overwrite writes over all lists of s, their spare room included.
func overwrite(s api.Schema) {
	for _, p := range s.In {
		overwrite(p)
	}
	for i := range s.In[:cap(s.In)] {
		s.In[:cap(s.In)][i] = of(spare)
	}
}

func TestIsKinds(t *testing.T) {
	for _, kind := range leaves {
		for n, in := range [][]api.Schema{nil, {of(api.KMax)}, {of(kind), of(kind)}} {
			if got := schema.Is(of(kind, in...)); got != (n == 0) {
				t.Errorf("P2.1: Is of kind %d with %d In: %v", kind, n, got)
			}
		}
	}
	for kind, takes := range map[int]int{api.KMap: 1, api.KCause: 1, api.KPair: 2} {
		for n := range 5 {
			if got := schema.Is(of(kind, slices.Repeat([]api.Schema{of(api.KSet)}, n)...)); got != (n == takes) {
				t.Errorf("P2.1: Is of kind %d with %d In: %v", kind, n, got)
			}
		}
	}
	for _, kind := range noKinds {
		for n := range 4 {
			if schema.Is(of(kind, slices.Repeat([]api.Schema{of(api.KSet)}, n)...)) {
				t.Errorf("P2.1: kind %d with %d In is a schema", kind, n)
			}
		}
	}
}

// A schema of two layers: what each kind takes, of what takes nothing.
func TestIsSmall(t *testing.T) {
	count := 0
	for _, s := range small() {
		want := len(s.In) == map[int]int{api.KMap: 1, api.KCause: 1, api.KPair: 2}[s.Kind] && s.Kind >= api.KMax && s.Kind <= api.KCause
		for _, p := range s.In {
			want = want && slices.Contains(leaves, p.Kind)
		}
		if got := schema.Is(s); got != want {
			t.Errorf("P2.1: Is of %v: %v", s, got)
		}
		if want {
			count++
		}
	}
	if count != 5+5+5+25 {
		t.Errorf("P2.1: %d small schemas", count)
	}
}

func TestIsLists(t *testing.T) {
	for _, s := range ordinary() {
		if !schema.Is(s) || !schema.Is(roomy(s)) {
			t.Errorf("P2.1: %v is no schema", s)
		}
		for _, w := range wrongWraps() {
			if schema.Is(w.put(s)) {
				t.Errorf("P2.1: %v is a schema", w.put(s))
			}
		}
	}
	for _, s := range wrong() {
		for _, w := range wraps() {
			if schema.Is(s) || schema.Is(roomy(s)) || schema.Is(w.put(s)) {
				t.Errorf("P2.1: %v, in %s, is a schema", s, w.name)
			}
		}
	}
	if !schema.Is(api.Schema{Kind: api.KSet, In: []api.Schema{}}) {
		t.Error("P2.1: a set with an empty In is no schema")
	}
}

func TestDepth(t *testing.T) {
	for _, w := range wraps() {
		for _, kind := range leaves {
			for n := range 40 {
				s := times(n, w, of(kind))
				if got := schema.Deep(s); got != min(n+1, api.MaxDepth+1) {
					t.Errorf("P2.1: %d times in %s: Deep %d", n, w.name, got)
				}
				if got := schema.Is(s); got != (n+1 <= api.MaxDepth) {
					t.Errorf("P2.1: %d times in %s: Is %v", n, w.name, got)
				}
			}
		}
	}
	for depth := 1; depth <= api.MaxDepth+1; depth++ {
		s := kit.Full(depth)
		if got := schema.Deep(s); got != depth {
			t.Errorf("P2.1: pairs of pairs, %d deep: Deep %d", depth, got)
		}
		if got := schema.Is(s); got != (depth <= api.MaxDepth) {
			t.Errorf("P2.1: pairs of pairs, %d deep: Is %v", depth, got)
		}
	}
}

// Deep is told of what is no schema, too.
func TestDepthOfWrong(t *testing.T) {
	for _, w := range wrongWraps() {
		for n := range 40 {
			if got := schema.Deep(times(n, w, of(-1))); got != min(n+1, api.MaxDepth+1) {
				t.Errorf("P2.1: %d times in %s: Deep %d", n, w.name, got)
			}
		}
	}
	if schema.Deep(api.Schema{}) != 1 || schema.Deep(api.Schema{In: []api.Schema{}}) != 1 {
		t.Error("P2.1: nothing isn't 1 deep")
	}
	for _, s := range small() {
		if got := schema.Deep(s); got != min(len(s.In), 1)+1 {
			t.Errorf("P2.1: Deep of %v: %d", s, got)
		}
	}
}

// The deepest In counts, wherever it stands.
func TestDepthOfWide(t *testing.T) {
	into := wraps()[0]
	for at := range 5 {
		for deep := 2; deep <= api.MaxDepth+4; deep++ {
			in := slices.Repeat([]api.Schema{of(api.KMap, of(api.KMax))}, 5)
			in[at] = times(deep-1, into, of(api.KMax))
			if got := schema.Deep(of(api.KPair, in...)); got != min(deep+1, api.MaxDepth+1) {
				t.Errorf("P2.1: one %d deep as In %d of 5: Deep %d", deep, at, got)
			}
		}
	}
	if got := schema.Deep(of(api.KMap, slices.Repeat([]api.Schema{of(api.KMap, of(0))}, 1<<17)...)); got != 3 {
		t.Errorf("P2.1: wide: Deep %d", got)
	}
}

// A wrong one is found at each depth, beside right ones.
func TestWrongDeepInside(t *testing.T) {
	for _, w := range wraps() {
		for at := range api.MaxDepth + 4 {
			for _, s := range wrong() {
				all := times(at, w, s)
				if schema.Is(all) || schema.Level(all) != 0 {
					t.Errorf("P2.1: %v, %d times in %s: Is %v, Level %d", s, at, w.name, schema.Is(all), schema.Level(all))
				}
				if got := schema.Deep(all); got != min(at+schema.Deep(s), api.MaxDepth+1) {
					t.Errorf("P2.1: %v, %d times in %s: Deep %d", s, at, w.name, got)
				}
			}
			if all := times(at, w, of(api.KMax)); at < api.MaxDepth && !schema.Is(all) {
				t.Errorf("P2.1: %d times in %s: no schema", at, w.name)
			}
		}
	}
}

// What holds itself has no end: Is and Deep come back of it, since they look no deeper than they must.
func TestWithoutEnd(t *testing.T) {
	for _, kind := range []int{0, api.KMax, api.KMap, api.KPair, api.KCause} {
		for width := 1; width < 4; width++ {
			in := make([]api.Schema, width)
			for i := range in {
				in[i] = api.Schema{Kind: kind, In: in}
			}
			if schema.Is(in[0]) || schema.Deep(in[0]) != api.MaxDepth+1 || schema.Level(in[0]) != 0 {
				t.Errorf("P2.1: kind %d, %d In without end: Is %v, Deep %d, Level %d", kind, width, schema.Is(in[0]), schema.Deep(in[0]), schema.Level(in[0]))
			}
		}
	}
}

func TestFarDeep(t *testing.T) {
	for _, w := range append(wraps(), wrongWraps()...) {
		a, b := times(farDeep-1, w, of(api.KMax)), times(farDeep-1, w, of(api.KOr))
		if schema.Is(a) || schema.Deep(a) != api.MaxDepth+1 || schema.Level(a) != 0 {
			t.Errorf("P2.1: far deep in %s: Is %v, Deep %d, Level %d", w.name, schema.Is(a), schema.Deep(a), schema.Level(a))
		}
		if !schema.Same(a, times(farDeep-1, w, of(api.KMax))) || schema.Same(a, b) || schema.Same(a, w.put(a)) {
			t.Errorf("P2.1: Same far deep in %s", w.name)
		}
	}
	w := wraps()[3]
	a := times(farDeep-4, w, of(api.KMax))
	c := schema.Cause(a)
	if !schema.Same(c.In[0].In[1], a) || schema.Level(c) != 0 {
		t.Error("P2.2: Cause of what is far deep")
	}
}

func TestSameSmall(t *testing.T) {
	l := append(ordinary(), wrong()...)
	l = append(l, api.Schema{}, kit.Full(3), kit.Full(4), of(api.KPair, kit.Full(3), kit.Full(2)), of(api.KPair, kit.Full(2), kit.Full(3)))
	for i, a := range l {
		for k, b := range l {
			want := alike(a, b)
			if want != schema.Same(a, b) || want != schema.Same(roomy(a), roomy(b)) || want != schema.Same(a, roomy(b)) {
				t.Errorf("P2.1: Same of %v (%d) and %v (%d): %v", a, i, b, k, !want)
			}
		}
	}
}

// Of all small ones each is the same as itself alone.
func TestSameEach(t *testing.T) {
	l := small()
	for i, a := range l {
		if !schema.Same(a, roomy(a)) {
			t.Errorf("P2.1: %v isn't the same as itself", a)
		}
		for k := i % 97; k < len(l); k += 97 {
			if k != i && schema.Same(a, l[k]) {
				t.Errorf("P2.1: Same of %v and %v", a, l[k])
			}
		}
	}
}

// Schemas that differ in one In alone, at each place and depth.
func TestSameButOne(t *testing.T) {
	set, max := of(api.KSet), of(api.KMax)
	for _, w := range append(wraps(), wrongWraps()...) {
		for n := range api.MaxDepth + 4 {
			a, b := times(n, w, set), times(n, w, max)
			if !schema.Same(a, times(n, w, set)) || schema.Same(a, b) || schema.Same(b, a) {
				t.Errorf("P2.1: Same %d times in %s", n, w.name)
			}
		}
	}
	for at := range 5 {
		one := slices.Repeat([]api.Schema{set}, 5)
		other := slices.Clone(one)
		other[at] = max
		if a, b := of(api.KPair, one...), of(api.KPair, other...); schema.Same(a, b) || schema.Same(b, a) {
			t.Errorf("P2.1: Same, but In %d of 5", at)
		}
		if a, b := of(api.KPair, one...), of(api.KPair, one[:at]...); schema.Same(a, b) || schema.Same(b, a) {
			t.Errorf("P2.1: Same, but %d In of 5", at)
		}
	}
	if a, b := of(api.KMap, set), of(api.KCause, set); schema.Same(a, b) {
		t.Error("P2.1: Same, but the kind")
	}
}

func TestSameNilEmpty(t *testing.T) {
	for _, kind := range append(noKinds, leaves...) {
		none, empty, room := api.Schema{Kind: kind}, api.Schema{Kind: kind, In: []api.Schema{}}, roomy(of(kind))
		if !schema.Same(none, empty) || !schema.Same(empty, none) || !schema.Same(none, room) || !schema.Same(room, empty) {
			t.Errorf("P2.1: kind %d: no In and an empty one aren't the same", kind)
		}
		if !schema.Same(of(api.KMap, none), of(api.KMap, empty)) {
			t.Errorf("P2.1: kind %d: no In and an empty one, inside, aren't the same", kind)
		}
	}
}

// Cause takes whatever it is given, schema or not.
func TestCause(t *testing.T) {
	for _, s := range append(ordinary(), wrong()...) {
		want := of(api.KCause, of(api.KPair, of(api.KMap, of(api.KClock)), s))
		if got := schema.Cause(s); !alike(got, want) || !alike(schema.Cause(roomy(s)), want) {
			t.Errorf("P2.2: Cause of %v: %v", s, got)
		}
	}
	for depth := 1; depth <= api.MaxDepth+1; depth++ {
		s := kit.Full(depth)
		c := schema.Cause(s)
		if !alike(c.In[0].In[1], s) || schema.Is(c) != (depth+2 <= api.MaxDepth) {
			t.Errorf("P2.2: Cause of pairs of pairs, %d deep: Is %v", depth, schema.Is(c))
		}
		if got := schema.Deep(c); got != min(max(depth, 2)+2, api.MaxDepth+1) {
			t.Errorf("P2.2: Cause of pairs of pairs, %d deep: Deep %d", depth, got)
		}
	}
}

// What Cause answers shares nothing with what it was given, with another answer, or within itself.
func TestCauseIsNew(t *testing.T) {
	for _, s := range append(ordinary(), append(wrong(), kit.Full(5))...) {
		want := of(api.KCause, of(api.KPair, of(api.KMap, of(api.KClock)), s))
		given := roomy(s)
		a, b := schema.Cause(given), schema.Cause(given)
		overwrite(a)
		if !whole(given, s) || !alike(b, want) {
			t.Errorf("P2.2: an answer written over: %v, and the other one %v", given, b)
		}
		c := schema.Cause(given)
		overwrite(given)
		if !alike(b, want) || !alike(c, want) {
			t.Errorf("P2.2: what was given written over: %v, %v", b, c)
		}
	}
}

func TestCauseSharesNothing(t *testing.T) {
	shared := of(api.KMap, of(api.KMap, of(api.KClock)))
	for _, s := range []api.Schema{of(api.KPair, shared, shared), kit.Full(4), of(api.KPair, of(api.KPair, shared, shared), shared)} {
		c := schema.Cause(s)
		var lists [][]api.Schema
		gather(c, &lists)
		seen := map[*api.Schema]int{}
		for i, l := range lists {
			for k := range l[:cap(l)] {
				p := &l[:cap(l)][k]
				if first, ok := seen[p]; ok {
					t.Errorf("P2.2: lists %d and %d of Cause of %v share memory", first, i, s)
				}
				seen[p] = i
			}
		}
	}
}

// gather adds all lists of s to l.
func gather(s api.Schema, l *[][]api.Schema) {
	*l = append(*l, s.In)
	for _, p := range s.In {
		gather(p, l)
	}
}

func TestLevelPlainAndLast(t *testing.T) {
	set, last := of(api.KSet), of(api.KLast)
	for _, kind := range leaves {
		want := api.LPlain
		if kind == api.KLast {
			want = api.LLast
		}
		if got := schema.Level(of(kind)); got != want {
			t.Errorf("P2.2: Level of kind %d: %d", kind, got)
		}
	}
	for _, s := range []api.Schema{of(api.KMap, set), of(api.KPair, set, set), of(api.KCause, set), kit.Full(api.MaxDepth)} {
		if got := schema.Level(s); got != api.LPlain {
			t.Errorf("P2.2: Level of %v: %d", s, got)
		}
	}
	for _, w := range wraps() {
		for n := 1; n < api.MaxDepth; n++ {
			if got := schema.Level(times(n, w, last)); got != api.LPlain {
				t.Errorf("P2.2: Level of a last writer, %d times in %s: %d", n, w.name, got)
			}
		}
	}
}

func TestLevelCause(t *testing.T) {
	for _, s := range ordinary() {
		c := schema.Cause(s)
		for _, same := range []api.Schema{c, roomy(c), of(api.KCause, of(api.KPair, of(api.KMap, of(api.KClock)), s)), schema.Cause(c)} {
			if got := schema.Level(same); got != api.LCause {
				t.Errorf("P2.2: Level of Cause of %v: %d", s, got)
			}
		}
		for _, w := range wraps() {
			if got := schema.Level(w.put(c)); got != api.LPlain {
				t.Errorf("P2.2: Level of Cause of %v in %s: %d", s, w.name, got)
			}
		}
	}
	for depth := 1; depth <= api.MaxDepth+1; depth++ {
		want := 0
		if depth+2 <= api.MaxDepth {
			want = api.LCause
		}
		if got := schema.Level(schema.Cause(kit.Full(depth))); got != want {
			t.Errorf("P2.2: Level of Cause of what is %d deep: %d", depth, got)
		}
	}
}

// What is Cause of no schema, but looks like it.
func TestLevelAlmostCause(t *testing.T) {
	clock, set := of(api.KClock), of(api.KSet)
	clocks := of(api.KMap, clock)
	for _, s := range []api.Schema{
		of(api.KPair, clocks, set),
		of(api.KMap, of(api.KPair, clocks, set)),
		of(api.KCause, clocks),
		of(api.KCause, clock),
		of(api.KCause, of(api.KMap, clocks)),
		of(api.KCause, of(api.KCause, of(api.KPair, clocks, set))),
		of(api.KCause, of(api.KPair, set, clocks)),
		of(api.KCause, of(api.KPair, clock, set)),
		of(api.KCause, of(api.KPair, clock, clocks)),
		of(api.KCause, of(api.KPair, of(api.KMap, clocks), set)),
		of(api.KCause, of(api.KPair, of(api.KCause, clock), set)),
		of(api.KCause, of(api.KPair, of(api.KPair, clock, clock), set)),
		of(api.KCause, of(api.KPair, of(api.KPair, clocks, set), set)),
	} {
		if got := schema.Level(s); got != api.LPlain {
			t.Errorf("P2.2: Level of %v: %d", s, got)
		}
	}
	for _, kind := range []int{api.KMax, api.KOr, api.KSet, api.KLast} {
		if got := schema.Level(of(api.KCause, of(api.KPair, of(api.KMap, of(kind)), set))); got != api.LPlain {
			t.Errorf("P2.2: Level of what leans on a map of kind %d: %d", kind, got)
		}
	}
}

func TestLevelOfWrong(t *testing.T) {
	clock := of(api.KClock)
	clocks := of(api.KMap, clock)
	l := []api.Schema{
		of(api.KCause),
		of(api.KCause, of(api.KPair)),
		of(api.KCause, of(api.KPair, clocks)),
		of(api.KCause, of(api.KPair, clocks, clock, clock)),
		of(api.KCause, of(api.KPair, clocks, clock), clock),
		of(api.KCause, of(api.KPair, of(api.KMap), clock)),
		of(api.KCause, of(api.KPair, of(api.KMap, clock, clock), clock)),
		of(api.KCause, of(api.KPair, of(api.KMap, of(api.KClock, clock)), clock)),
		times(api.MaxDepth, wraps()[0], clock),
		of(api.KLast, clock),
	}
	for _, s := range append(l, wrong()...) {
		if got := schema.Level(s); got != 0 {
			t.Errorf("P2.2: Level of %v: %d", s, got)
		}
		if got := schema.Level(schema.Cause(s)); got != 0 {
			t.Errorf("P2.2: Level of Cause of %v: %d", s, got)
		}
	}
}

// No call changes what it is given, spare room included, or keeps it: asked again, it looks at what is there now.
func TestGivenStays(t *testing.T) {
	for _, s := range append(ordinary(), append(wrong(), kit.Full(4), schema.Cause(kit.Full(3)))...) {
		a, b := roomy(s), roomy(s)
		is, deep, level := schema.Is(a), schema.Deep(a), schema.Level(a)
		schema.Same(a, b)
		schema.Cause(a)
		if !whole(a, s) || !whole(b, s) {
			t.Errorf("P2.1: %v was changed: %v, %v", s, a, b)
		}
		if schema.Is(a) != is || schema.Deep(a) != deep || schema.Level(a) != level || !schema.Same(a, b) {
			t.Errorf("P2.1: %v: asked again, answered otherwise", s)
		}
	}
	s := of(api.KPair, of(api.KSet), of(api.KMap, of(api.KMax)))
	if !schema.Is(s) || schema.Deep(s) != 3 || schema.Level(s) != api.LPlain {
		t.Errorf("P2.1: %v: Is %v, Deep %d", s, schema.Is(s), schema.Deep(s))
	}
	s.In[1].In[0] = of(api.KMap, of(0))
	if schema.Is(s) || schema.Deep(s) != 4 || schema.Level(s) != 0 {
		t.Errorf("P2.1: %v: Is %v, Deep %d", s, schema.Is(s), schema.Deep(s))
	}
}
