package kit_test

import (
	"testing"

	"trefoil/api"
	"trefoil/kit"
	"trefoil/schema"
	"trefoil/value"
)

// TestSamples: what other tests lean on is as it says.
func TestSamples(t *testing.T) {
	kinds := map[int]int{}
	for _, c := range kit.Samples() {
		kinds[c.Schema.Kind]++
		told := map[string]int{}
		for i, v := range c.Values {
			told[kit.Written(v)]++
			if !value.Is(c.Schema, v) || value.None(c.Schema, v) != (i == 0) {
				t.Errorf("%v is no value of %v", v, c.Schema)
			}
		}
		if len(told) != len(c.Values) {
			t.Errorf("of %v two values are told alike", c.Schema)
		}
	}
	if len(kinds) != api.KCause {
		t.Errorf("not of all Kinds: %v", kinds)
	}
	for _, s := range kit.WrongSchemas() {
		if schema.Is(s) {
			t.Errorf("a schema: %v", s)
		}
	}
}

// TestLaid: what is written into a list, or into the room behind it, is told, wherever it lies.
func TestLaid(t *testing.T) {
	change := map[string]func(v api.Value){
		"a text":              func(v api.Value) { v.S[0] = "b" },
		"behind texts":        func(v api.Value) { _ = append(v.S, "b") },
		"a tick":              func(v api.Value) { v.C[0][0].N++ },
		"behind ticks":        func(v api.Value) { _ = append(v.C[0], api.Tick{}) },
		"a clock":             func(v api.Value) { v.C[0] = v.C[0][:0] },
		"behind clocks":       func(v api.Value) { _ = append(v.C, nil) },
		"a value":             func(v api.Value) { v.V[0].N++ },
		"behind values":       func(v api.Value) { _ = append(v.V, kit.Num(1)) },
		"behind inner texts":  func(v api.Value) { _ = append(v.V[0].S, "b") },
		"an inner list alone": func(v api.Value) { v.V[0].S = v.V[0].S[:0] },
	}
	for name, f := range change {
		v := kit.Roomy(api.Value{S: []string{"a"}, C: [][]api.Tick{kit.Ticks(1, 1)}, V: []api.Value{kit.Set("a")}})
		was := kit.Laid(v)
		if f(v); kit.Laid(v) == was {
			t.Errorf("%s: not told", name)
		}
	}
	s := kit.RoomySchema(kit.Of(api.KMap, kit.Of(api.KSet)))
	was := kit.LaidSchema(s)
	if _ = append(s.In[0].In, kit.Of(1)); kit.LaidSchema(s) == was {
		t.Error("behind a schema: not told")
	}
}
