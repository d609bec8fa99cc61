package kit_test

import (
	"slices"
	"testing"

	"trefoil/api"
	"trefoil/join"
	"trefoil/kit"
	"trefoil/schema"
	"trefoil/value"
)

// TestSamples: what other tests lean on is as it says.
func TestSamples(t *testing.T) {
	kinds := map[int]int{}
	for _, c := range kit.Samples() {
		kinds[c.Schema.Kind]++
		told := map[string]int{}
		for i, v := range c.Values {
			told[kit.Written(v)]++
			if !value.Is(c.Schema, v) || value.None(c.Schema, v) != (i == 0) {
				t.Errorf("%v is no value of %v", v, c.Schema)
			}
		}
		if len(told) != len(c.Values) {
			t.Errorf("of %v two values are told alike", c.Schema)
		}
	}
	if len(kinds) != api.KCause {
		t.Errorf("not of all Kinds: %v", kinds)
	}
	for _, s := range kit.WrongSchemas() {
		if schema.Is(s) {
			t.Errorf("a schema: %v", s)
		}
	}
}

// TestFew: as many as asked for, each once, each of its schema, nothing first; and of what is wrong none is of it.
func TestFew(t *testing.T) {
	for _, s := range kit.Schemas() {
		for _, n := range []int{1, 5, 64} {
			l, told := kit.Few(s, n), map[string]int{}
			for _, v := range l {
				if told[kit.Written(v)]++; !value.Is(s, v) {
					t.Errorf("%v is no value of %v", v, s)
				}
			}
			if len(l) > n || len(told) != len(l) || !value.None(s, l[0]) {
				t.Errorf("%d of %v: %v", n, s, l)
			}
		}
		bad := kit.Wrong(s)
		if len(bad) < 30 || slices.ContainsFunc(bad, func(v api.Value) bool { return value.Is(s, v) }) {
			t.Errorf("wrong ones of %v: %v", s, bad)
		}
	}
}

// TestLoose: as many as asked for, nothing first; of a Kind that has rows most aren't values yet.
func TestLoose(t *testing.T) {
	for _, s := range kit.Schemas() {
		for _, n := range []int{1, 5, 1000} {
			l, right := kit.Loose(s, n), 0
			for _, v := range l {
				if value.Is(s, v) {
					right++
				}
			}
			rows := s.Kind == api.KSet || s.Kind == api.KMap || s.Kind == api.KClock || s.Kind == api.KCause
			if len(l) > n || !value.None(s, l[0]) || n == 1000 && rows && right > len(l)/2 {
				t.Errorf("%d of %v: %d, right %d", n, s, len(l), right)
			}
		}
	}
}

// TestMisfits: one is of its schema, the other one isn't; and none is that is far too deep, or too wide.
func TestMisfits(t *testing.T) {
	n, far := 0, kit.Far()
	for m := range kit.Misfits() {
		if n++; !value.Is(m.Schema, m.Right) || value.Is(m.Schema, m.Bad) {
			t.Errorf("%v, %v of %v", m.Right, m.Bad, m.Schema)
		}
	}
	if n < 2000 {
		t.Errorf("only %d", n)
	}
	for _, s := range kit.Schemas() {
		if slices.ContainsFunc(far, func(v api.Value) bool { return value.Is(s, v) }) {
			t.Errorf("far, but of %v", s)
		}
	}
}

// TestSplits: as many as may be is right, one more isn't.
func TestSplits(t *testing.T) {
	for _, c := range kit.Splits() {
		for from := range 3 {
			if !value.None(c.Schema, c.Make(from, from)) || !value.Is(c.Schema, c.Make(from, from+api.MaxItems)) || value.Is(c.Schema, c.Make(from, from+api.MaxItems+1)) {
				t.Errorf("%s from %d on", c.Name, from)
			}
		}
	}
}

// TestNesting: what is nested around a value, or around three of them, is right as they are, and wrong as one of them is.
func TestNesting(t *testing.T) {
	for _, c := range kit.Splits() {
		right, wrong := c.Make(0, 1), c.Make(0, api.MaxItems+1)
		for _, w := range append(kit.Wraps(), kit.Bare()) {
			if s := w.Schema(c.Schema); !value.Is(s, w.Value(right)) || value.Is(s, w.Value(wrong)) {
				t.Errorf("%s in %s", c.Name, w.Name)
			}
		}
		for _, x := range kit.Threes() {
			l := []api.Value{right, right, right}
			if !value.Is(x.Schema(c.Schema), x.Value(l)) {
				t.Errorf("three %s in %s", c.Name, x.Name)
			}
			for i := range l {
				l := slices.Clone(l)
				if l[i] = wrong; value.Is(x.Schema(c.Schema), x.Value(l)) {
					t.Errorf("three %s in %s, of which one is wrong", c.Name, x.Name)
				}
			}
		}
	}
}

// TestPlaces: all lists, all the way in, and the room behind them; two that share something share a place.
func TestPlaces(t *testing.T) {
	l, c := []string{"a", "b", "spare"}, []api.Tick{{Who: 1, N: 1}, {}}
	v := api.Value{S: l[:2], C: [][]api.Tick{c[:1]}, V: []api.Value{{S: l[2:]}, {C: [][]api.Tick{c[1:]}}}}
	seen := map[any]int{}
	for _, p := range kit.Places(v) {
		seen[p]++
	}
	if len(seen) != 9 || seen[&l[0]] != 1 || seen[&l[2]] != 2 || seen[&c[0]] != 1 || seen[&c[1]] != 2 || seen[&v.C[0]] != 1 || seen[&v.V[1]] != 1 {
		t.Errorf("%d places: %v", len(seen), seen)
	}
}

// TestApart: of values that share something, all the way in or in the room behind, it is told, and not of others; what is scribbled over is another one.
func TestApart(t *testing.T) {
	for _, c := range kit.Samples() {
		for i, v := range c.Values {
			lists := len(v.S)+len(v.C)+len(v.V) > 0
			given, one, other := kit.Roomy(v), cloned(v), cloned(v)
			if !kit.Apart(given, one, other) || !kit.Apart(given) || kit.Apart(given, one, other, one) == lists || kit.Apart(one, other, one) == lists || kit.Apart(given, kit.Pair(one, other, one)) == lists {
				t.Errorf("%d of %v: not told whether it is apart", i, c.Schema)
			}
			was := kit.Laid(given)
			if kit.Scribble(one); kit.Laid(given) != was || kit.Written(other) != kit.Written(v) || lists && kit.Written(one) == kit.Written(v) {
				t.Errorf("%d of %v: not scribbled over, or something else", i, c.Schema)
			}
		}
	}
	l, c := []string{"a", "b"}, kit.Ticks(1, 1, 2, 1)
	if kit.Scribble(api.Value{S: l[:0]}); l[0] == "a" || l[1] == "b" {
		t.Error("the room behind a list: not scribbled over")
	}
	if kit.Apart(api.Value{S: l[:1]}, api.Value{S: l[1:]}) || kit.Apart(api.Value{}, kit.Pair(kit.Clocks(c[:1]), kit.Cause(kit.At(c[1:], kit.Num(1))))) || !kit.Apart(api.Value{S: l[:1:1]}, api.Value{S: l[1:]}) {
		t.Error("pieces of one list: not told whether they are apart")
	}
}

// cloned answers a copy of v, all the way in.
func cloned(v api.Value) api.Value {
	out := api.Value{N: v.N, M: v.M, S: slices.Clone(v.S)}
	for _, c := range v.C {
		out.C = append(out.C, slices.Clone(c))
	}
	for _, x := range v.V {
		out.V = append(out.V, cloned(x))
	}
	return out
}

// TestLeq: what two are together is the other one.
func TestLeq(t *testing.T) {
	for _, s := range kit.Schemas() {
		l := kit.Few(s, 24)
		for _, a := range l {
			for _, b := range l {
				both, err := join.Join(s, a, b)
				if err != nil || kit.Leq(s, a, b) != (kit.Written(both) == kit.Written(b)) {
					t.Fatalf("%v, %v of %v: %v, together %v, %v", a, b, s, kit.Leq(s, a, b), both, err)
				}
			}
		}
	}
}

// TestRefused: that error, and nothing beside it.
func TestRefused(t *testing.T) {
	if !kit.Refused(api.Value{}, api.ErrType, api.ErrType) || kit.Refused(kit.Num(1), api.ErrType, api.ErrType) || kit.Refused(api.Value{}, api.ErrLarge, api.ErrType) || kit.Refused(api.Value{}, nil, api.ErrType) {
		t.Error("not told")
	}
}

// TestLaid: what is written into a list, or into the room behind it, is told, wherever it lies.
func TestLaid(t *testing.T) {
	change := map[string]func(v api.Value){
		"a text":              func(v api.Value) { v.S[0] = "b" },
		"behind texts":        func(v api.Value) { _ = append(v.S, "b") },
		"a tick":              func(v api.Value) { v.C[0][0].N++ },
		"behind ticks":        func(v api.Value) { _ = append(v.C[0], api.Tick{}) },
		"a clock":             func(v api.Value) { v.C[0] = v.C[0][:0] },
		"behind clocks":       func(v api.Value) { _ = append(v.C, nil) },
		"a value":             func(v api.Value) { v.V[0].N++ },
		"behind values":       func(v api.Value) { _ = append(v.V, kit.Num(1)) },
		"behind inner texts":  func(v api.Value) { _ = append(v.V[0].S, "b") },
		"an inner list alone": func(v api.Value) { v.V[0].S = v.V[0].S[:0] },
	}
	for name, f := range change {
		v := kit.Roomy(api.Value{S: []string{"a"}, C: [][]api.Tick{kit.Ticks(1, 1)}, V: []api.Value{kit.Set("a")}})
		was := kit.Laid(v)
		if f(v); kit.Laid(v) == was {
			t.Errorf("%s: not told", name)
		}
	}
	s := kit.RoomySchema(kit.Of(api.KMap, kit.Of(api.KSet)))
	was := kit.LaidSchema(s)
	if _ = append(s.In[0].In, kit.Of(1)); kit.LaidSchema(s) == was {
		t.Error("behind a schema: not told")
	}
}
