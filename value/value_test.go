package value_test

import (
	"fmt"
	"math"
	"slices"
	"strings"
	"testing"

	"trefoil/api"
	"trefoil/kit"
	"trefoil/schema"
	"trefoil/value"
)

// farDeep is as deep as anything may nest that is handed in.
const farDeep = 1 << 16

func TestIsOfEachKind(t *testing.T) {
	for _, c := range kit.Samples() {
		for _, v := range c.Values {
			if !value.Is(c.Schema, v) || !value.Is(kit.RoomySchema(c.Schema), kit.Roomy(v)) {
				t.Errorf("P4.1: %v is no value of %v", v, c.Schema)
			}
		}
	}
}

// TestIsOfEdges: what stands just beside what is right.
func TestIsOfEdges(t *testing.T) {
	max, sets, lasts, ticking := of(api.KMax), of(api.KSet), of(api.KLast), of(api.KClock)
	numbers, two := of(api.KMap, max), of(api.KPair, max, sets)
	deep := of(api.KMap, of(api.KPair, max, of(api.KPair, max, max)))
	brim, over := strings.Repeat("x", api.MaxText), strings.Repeat("x", api.MaxText+1)
	wide, wider := strings.Repeat("é", api.MaxText/2), strings.Repeat("é", api.MaxText/2)+"x"
	for i, c := range []struct {
		s    api.Schema
		v    api.Value
		want bool
	}{
		{of(api.KOr), num(0), true}, {of(api.KOr), num(1), true}, {of(api.KOr), num(2), false}, {of(api.KOr), num(3), false}, {of(api.KOr), num(math.MaxUint64), false},
		{sets, set(brim), true}, {sets, set(over), false}, {sets, set(wide), true}, {sets, set(wider), false}, {sets, set("a", over), false}, {sets, set(over, "y"), false},
		{sets, set("b", "a"), false}, {sets, set("a", "a"), false}, {sets, set("", ""), false}, {sets, set("a", ""), false}, {sets, set("ab", "a"), false}, {sets, set("a", "B"), false}, {sets, set("9", "10"), false}, {sets, set("\x7f", "\x80", "\xff"), true},
		{numbers, keyed(brim, num(1)), true}, {numbers, keyed(over, num(1)), false}, {numbers, keyed("a,b", num(1), num(1)), true}, {numbers, keyed("b,a", num(1), num(1)), false}, {numbers, keyed("a,a", num(1), num(1)), false},
		{numbers, keyed("a", none), false}, {numbers, keyed("a,b", num(1), none), false}, {numbers, keyed("a,b", none, num(1)), false}, {numbers, keyed("a"), false}, {numbers, keyed("a,b", num(1)), false}, {numbers, keyed("a", num(1), num(1)), false}, {numbers, pair(num(1)), false},
		{deep, keyed("a", pair(none, pair(none, none))), false}, {deep, keyed("a", pair(none, pair(none, num(1)))), true}, {deep, keyed("a", pair(num(1), pair(none, none))), true}, {deep, keyed("a", none), false}, {deep, keyed("a", pair(none, none)), false}, {deep, keyed("a,b", pair(num(1), pair(none, none)), pair(none, pair(none, none))), false},
		{two, none, false}, {two, pair(none), false}, {two, pair(none, none), true}, {two, pair(none, none, none), false}, {two, pair(num(1)), false}, {two, pair(set("a"), num(1)), false}, {two, pair(num(1), num(1)), false}, {two, pair(set("a"), set("a")), false},
		{lasts, none, true}, {lasts, last(0, 0, ""), false}, {lasts, last(1, 0, ""), true}, {lasts, last(0, 1, ""), true}, {lasts, last(0, 0, "a"), true}, {lasts, last(1, 0), false}, {lasts, last(0, 1), false}, {lasts, last(1, 1), false}, {lasts, last(1, 1, "a", "b"), false}, {lasts, last(0, 0, "", "a"), false}, {lasts, last(0, 0, "a", "b"), false}, {lasts, last(0, 0, brim), true}, {lasts, last(0, 0, over), false}, {lasts, last(1, 1, over), false}, {lasts, last(math.MaxUint64, math.MaxUint64, brim), true},
		{ticking, none, true}, {ticking, clocks(nil), false}, {ticking, clocks([]api.Tick{}), false}, {ticking, clocks(ticks(1, 1)), true}, {ticking, clocks(ticks(1, 1), ticks(2, 1)), false}, {ticking, clocks(ticks(1, 1), nil), false}, {ticking, clocks(nil, nil), false}, {ticking, clocks(ticks(1, 0)), false}, {ticking, clocks(ticks(-1, 1)), false}, {ticking, clocks(ticks(1000000, 1)), true}, {ticking, clocks(ticks(1000001, 1)), false}, {ticking, clocks(ticks(2, 1, 1, 1)), false}, {ticking, clocks(ticks(1, 1, 1, 1)), false},
	} {
		if got := value.Is(c.s, c.v); got != c.want || proper(c.s, c.v) != c.want {
			t.Errorf("P4.1: row %d: Is(%v, %v): %v", i, c.s, c.v, got)
		}
	}
}

// TestIsOfVersions: which clocks may stand beside one another, and in which order.
func TestIsOfVersions(t *testing.T) {
	s := of(api.KCause, of(api.KMax))
	for i, c := range []struct {
		l    [][]api.Tick
		want bool
	}{
		{[][]api.Tick{nil}, true},
		{[][]api.Tick{nil, nil}, false},
		{[][]api.Tick{nil, ticks(1, 1)}, false},
		{[][]api.Tick{ticks(1, 1), nil}, false},
		{[][]api.Tick{ticks(1, 1), ticks(2, 1)}, true},
		{[][]api.Tick{ticks(2, 1), ticks(1, 1)}, false},
		{[][]api.Tick{ticks(1, 1), ticks(1, 1)}, false},
		{[][]api.Tick{ticks(1, 1), ticks(1, 2)}, false},
		{[][]api.Tick{ticks(1, 2), ticks(1, 1)}, false},
		{[][]api.Tick{ticks(1, 1), ticks(1, 1, 2, 1)}, false},
		{[][]api.Tick{ticks(1, 1, 2, 1), ticks(1, 1)}, false},
		{[][]api.Tick{ticks(1, 1, 2, 1), ticks(2, 1)}, false},
		{[][]api.Tick{ticks(1, 1, 2, 1), ticks(2, 2)}, true},
		{[][]api.Tick{ticks(2, 2), ticks(1, 1, 2, 1)}, false},
		{[][]api.Tick{ticks(1, 1, 3, 1), ticks(1, 2)}, true},
		{[][]api.Tick{ticks(1, 2), ticks(1, 1, 3, 1)}, false},
		{[][]api.Tick{ticks(1, 2, 2, 1), ticks(1, 1, 2, 2)}, false},
		{[][]api.Tick{ticks(1, 1, 2, 2), ticks(1, 2, 2, 1)}, true},
		{[][]api.Tick{ticks(1, 1, 2, 9), ticks(1, 1, 3, 1)}, true},
		{[][]api.Tick{ticks(1, 1, 3, 1), ticks(1, 1, 2, 9)}, false},
		{[][]api.Tick{ticks(2, 1), ticks(10, 1)}, true},
		{[][]api.Tick{ticks(10, 1), ticks(2, 1)}, false},
		{[][]api.Tick{ticks(1, 2, 2, 1), ticks(1, 10)}, true},
		{[][]api.Tick{{{Who: 1, N: 1 << 62}, {Who: 2, N: 1}}, {{Who: 1, N: 1 << 63}}}, true},
		{[][]api.Tick{{{Who: 1, N: 1 << 63}}, {{Who: 1, N: 1 << 62}, {Who: 2, N: 1}}}, false},
		{[][]api.Tick{ticks(1, 1), ticks(2, 1), ticks(3, 1)}, true},
		{[][]api.Tick{ticks(1, 1), ticks(3, 1), ticks(2, 1)}, false},
		{[][]api.Tick{ticks(2, 1), ticks(1, 1), ticks(3, 1)}, false},
		{[][]api.Tick{ticks(1, 1, 3, 1), ticks(2, 1), ticks(3, 1)}, false},
		{[][]api.Tick{ticks(1, 1), ticks(2, 1, 4, 1), ticks(4, 1)}, false},
		{[][]api.Tick{ticks(1, 1), ticks(1, 0), ticks(3, 1)}, false},
		{[][]api.Tick{ticks(1, 1), ticks(2, 0)}, false},
		{[][]api.Tick{ticks(1, 1), ticks(1000001, 1)}, false},
		{[][]api.Tick{ticks(2, 1, 1, 1), ticks(3, 1)}, false},
	} {
		v := api.Value{C: c.l, V: make([]api.Value, len(c.l))}
		if got := value.Is(s, v); got != c.want || proper(s, v) != c.want {
			t.Errorf("P4.1: row %d: versions of %v: %v", i, c.l, got)
		}
		fewer, more := api.Value{C: c.l, V: v.V[1:]}, api.Value{C: c.l[1:], V: v.V}
		if value.Is(s, fewer) || value.Is(s, more) || value.Is(s, clocks(c.l...)) || value.Is(s, pair(v.V...)) {
			t.Errorf("P4.1: row %d: not as many C as V", i)
		}
		v.V[len(v.V)-1] = set("a")
		if value.Is(s, v) {
			t.Errorf("P4.1: row %d: a set among numbers", i)
		}
	}
}

// TestIsOfAllVersions holds any three clocks of a few against the document's words.
func TestIsOfAllVersions(t *testing.T) {
	s := of(api.KCause, of(api.KOr))
	few := [][]api.Tick{nil, ticks(1, 0)}
	for _, l := range kit.Lists([]api.Tick{{Who: 1, N: 1}, {Who: 1, N: 2}, {Who: 2, N: 1}, {Who: 2, N: 2}, {Who: 3, N: 1}}, 2) {
		if properClock(l) && len(l) > 0 {
			few = append(few, l)
		}
	}
	right := 0
	for _, l := range kit.Lists(few, 3) {
		v := api.Value{C: l, V: make([]api.Value, len(l))}
		want := proper(s, v)
		if got := value.Is(s, v); got != want {
			t.Fatalf("P4.1: versions of %v: %v", l, got)
		}
		if want {
			right++
		}
	}
	if right < 40 {
		t.Errorf("P4.1: only %d right ones were tried", right)
	}
}

// TestIsOfMany: as many as may be, and one more.
func TestIsOfMany(t *testing.T) {
	for _, n := range []int{0, 1, api.MaxItems - 1, api.MaxItems, api.MaxItems + 1, 2 * api.MaxItems, 100000} {
		want := n <= api.MaxItems
		ones, c, long := slices.Repeat([]api.Value{num(1)}, n), make([][]api.Tick, n), make([]api.Tick, n)
		for i := range n {
			c[i], long[i] = ticks(i, 1), api.Tick{Who: i, N: 1}
		}
		for name, got := range map[string]bool{
			"texts":             value.Is(of(api.KSet), set(kit.Texts(0, n)...)),
			"keys":              value.Is(of(api.KMap, of(api.KMax)), api.Value{S: kit.Texts(0, n), V: ones}),
			"versions":          value.Is(of(api.KCause, of(api.KMax)), api.Value{C: c, V: ones}),
			"ticks":             n == 0 || value.Is(of(api.KClock), clocks(long)),
			"a version's ticks": value.Is(of(api.KCause, of(api.KMax)), api.Value{C: [][]api.Tick{long}, V: []api.Value{none}}),
		} {
			if got != want {
				t.Errorf("P4.1: %d %s: %v", n, name, got)
			}
		}
	}
}

// TestIsOfOneAmongMany: one wrong one of as many as may be, wherever it stands.
func TestIsOfOneAmongMany(t *testing.T) {
	sets, numbers, causes := of(api.KSet), of(api.KMap, of(api.KMax)), of(api.KCause, of(api.KMax))
	for i := range api.MaxItems {
		l, ones, c := kit.Texts(0, api.MaxItems), slices.Repeat([]api.Value{num(1)}, api.MaxItems), make([][]api.Tick, api.MaxItems)
		for k := range c {
			c[k] = ticks(k+1, 1)
		}
		l[i] += strings.Repeat("x", api.MaxText)
		if value.Is(sets, set(l...)) || value.Is(numbers, api.Value{S: l, V: ones}) {
			t.Errorf("P4.1: text %d is too long", i)
		}
		for _, wrong := range []api.Value{none, {M: 1}, set("a"), pair(none, none)} {
			was := ones[i]
			ones[i] = wrong
			if value.Is(numbers, api.Value{S: kit.Texts(0, api.MaxItems), V: ones}) || value.Is(causes, api.Value{C: c, V: ones}) != (kit.Written(wrong) == kit.Written(none)) {
				t.Errorf("P4.1: value %d is %v", i, wrong)
			}
			ones[i] = was
		}
		for k := range api.MaxItems {
			was := c[k]
			c[k] = ticks(k+1, 1, 100, 1)
			if i != k && !value.Is(causes, api.Value{C: c, V: ones}) {
				t.Errorf("P4.1: version %d has two ticks", k)
			}
			c[k] = c[i]
			if i != k && value.Is(causes, api.Value{C: c, V: ones}) {
				t.Errorf("P4.1: version %d is %d again", k, i)
			}
			c[k] = was
		}
	}
}

// TestForeignParts: one part that the Kind doesn't have, beside a right value's.
func TestForeignParts(t *testing.T) {
	has := map[int]string{api.KMax: "N", api.KOr: "N", api.KSet: "S", api.KMap: "SV", api.KPair: "V", api.KLast: "NMS", api.KClock: "C", api.KCause: "CV"}
	tried := map[int]int{}
	for _, c := range kit.Samples() {
		for _, v := range c.Values {
			for name, add := range map[string][]func(*api.Value){
				"N": {func(v *api.Value) { v.N = 1 }, func(v *api.Value) { v.N = math.MaxUint64 }},
				"M": {func(v *api.Value) { v.M = 1 }, func(v *api.Value) { v.M = 1 << 63 }},
				"S": {func(v *api.Value) { v.S = []string{""} }, func(v *api.Value) { v.S = []string{"a"} }},
				"C": {func(v *api.Value) { v.C = [][]api.Tick{nil} }, func(v *api.Value) { v.C = [][]api.Tick{ticks(1, 1)} }},
				"V": {func(v *api.Value) { v.V = []api.Value{none} }, func(v *api.Value) { v.V = []api.Value{num(1)} }},
			} {
				if strings.Contains(has[c.Schema.Kind], name) {
					continue
				}
				tried[c.Schema.Kind]++
				for i, f := range add {
					wrong := v
					f(&wrong)
					if value.Is(c.Schema, wrong) || value.None(c.Schema, wrong) {
						t.Errorf("P4.1: kind %d with %s, %d: %v", c.Schema.Kind, name, i, wrong)
					}
				}
			}
		}
	}
	if len(tried) != api.KCause {
		t.Errorf("P4.1: kinds that were tried: %v", tried)
	}
}

// TestIsOfSmall holds Is and None of all small values, by each sample's schema, against the document's words.
func TestIsOfSmall(t *testing.T) {
	all := small()
	texts := make([]string, len(all))
	for i, v := range all {
		texts[i] = kit.Written(v)
	}
	for _, c := range append(kit.Samples(), kit.Sample{Schema: of(api.KPair, of(api.KMax), of(api.KMax))}, kit.Sample{Schema: of(api.KCause, of(api.KMax))}) {
		right, bottom := 0, kit.Written(nothing(c.Schema))
		for i, v := range all {
			want := proper(c.Schema, v)
			if got := value.Is(c.Schema, v); got != want {
				t.Fatalf("P4.1: Is(%v, %v): %v", c.Schema, v, got)
			}
			if got := value.None(c.Schema, v); got != (texts[i] == bottom) {
				t.Fatalf("P4.2: None(%v, %v): %v", c.Schema, v, got)
			}
			if want {
				right++
			}
		}
		if right == 0 && c.Schema.Kind != api.KPair {
			t.Errorf("P4.1: no value of %v was tried", c.Schema)
		}
	}
}

// TestIsOfOthers: values of one schema, held against each other one.
func TestIsOfOthers(t *testing.T) {
	for _, c := range kit.Samples() {
		for _, o := range kit.Samples() {
			for _, v := range o.Values {
				if got, want := value.Is(c.Schema, v), proper(c.Schema, v); got != want {
					t.Errorf("P4.1: Is(%v, %v), a value of %v: %v", c.Schema, v, o.Schema, got)
				}
				if got, want := value.None(c.Schema, v), kit.Written(v) == kit.Written(nothing(c.Schema)); got != want {
					t.Errorf("P4.2: None(%v, %v), a value of %v: %v", c.Schema, v, o.Schema, got)
				}
			}
		}
	}
}

// TestIsDeepInside: what is right or wrong is so however deep it lies, as long as the schema is one.
func TestIsDeepInside(t *testing.T) {
	for _, c := range kit.Samples() {
		wrong := []api.Value{{N: 2, M: 3}, last(1, 1, "a", "b"), pair(none), keyed("b,a", num(1), num(1)), clocks(nil), cause(at(ticks(1, 0), none))}
		for _, w := range kit.Wraps() {
			s, good := c.Schema, c.Values[len(c.Values)-1]
			bad := slices.Clone(wrong)
			for range api.MaxDepth + 2 {
				s, good = w.Schema(s), w.Value(good)
				if got := value.Is(s, good); got != schema.Is(s) {
					t.Errorf("P4.1: in %s: %v of %v: %v", w.Name, good, s, got)
				}
				for i := range bad {
					bad[i] = w.Value(bad[i])
					if value.Is(s, bad[i]) || value.None(s, bad[i]) && schema.Is(s) {
						t.Errorf("P4.1: in %s: %v is one of %v", w.Name, bad[i], s)
					}
				}
			}
		}
	}
}

// TestIsBesideRight: a wrong one is found also where a right one stands ahead of it, or behind it.
func TestIsBesideRight(t *testing.T) {
	max := of(api.KMax)
	for i, wrong := range []api.Value{{M: 1}, set("a"), clocks(nil), pair(none)} {
		for _, c := range []struct {
			s api.Schema
			v api.Value
		}{
			{of(api.KMap, max), keyed("a,b", num(1), wrong)}, {of(api.KMap, max), keyed("a,b", wrong, num(1))},
			{of(api.KPair, max, max), pair(none, wrong)}, {of(api.KPair, max, max), pair(wrong, none)},
			{of(api.KCause, max), cause(at(ticks(1, 1), none), at(ticks(2, 1), wrong))}, {of(api.KCause, max), cause(at(ticks(1, 1), wrong), at(ticks(2, 1), none))},
			{schema.Cause(max), cause(at(ticks(1, 1), pair(keyed("a", wrong), num(1))))}, {schema.Cause(max), cause(at(ticks(1, 1), pair(none, wrong)))},
		} {
			if value.Is(c.s, c.v) {
				t.Errorf("P4.1: row %d: %v is one of %v", i, c.v, c.s)
			}
		}
	}
}

func TestNoSchema(t *testing.T) {
	values := []api.Value{none, num(1), set("a"), pair(none), pair(none, none), pair(none, none, none), keyed("a", num(1)), cause(at(ticks(1, 1), none)), last(1, 1, "a"), clocks(ticks(1, 1))}
	for _, s := range kit.WrongSchemas() {
		for _, v := range values {
			if value.Is(s, v) || value.Is(kit.RoomySchema(s), v) {
				t.Errorf("P4.1: %v is one of %v, that is no schema", v, s.Kind)
			}
			if got := value.None(s, v); got != (kit.Written(v) == kit.Written(none)) {
				t.Errorf("P4.2: None of %v by %v, that is no schema: %v", v, s.Kind, got)
			}
		}
		if got := value.Bottom(s); kit.Written(got) != kit.Written(none) {
			t.Errorf("P4.2: Bottom of %v, that is no schema: %v", s.Kind, got)
		}
	}
}

func TestBottom(t *testing.T) {
	for _, c := range kit.Samples() {
		b := value.Bottom(c.Schema)
		if kit.Written(b) != kit.Written(c.Values[0]) || !value.Is(c.Schema, b) || !value.None(c.Schema, b) || !value.Same(b, c.Values[0]) {
			t.Errorf("P4.2: Bottom of %v: %v", c.Schema, b)
		}
		for i, v := range c.Values {
			if value.None(c.Schema, v) != (i == 0) || value.None(kit.RoomySchema(c.Schema), kit.Roomy(v)) != (i == 0) {
				t.Errorf("P4.2: None(%v, %v): %v", c.Schema, v, i != 0)
			}
		}
	}
}

func TestBottomOfPairs(t *testing.T) {
	for depth := 1; depth <= api.MaxDepth; depth++ {
		s := kit.Full(depth)
		b := value.Bottom(s)
		if got := value.Size(b); got != 1<<depth-1 {
			t.Errorf("P4.2: pairs %d deep: Bottom is made of %d", depth, got)
		}
		if !value.Is(s, b) || !value.None(s, b) || kit.Written(b) != kit.Written(nothing(s)) {
			t.Errorf("P4.2: pairs %d deep: Bottom isn't None", depth)
		}
		at := &b
		for range depth - 1 {
			at = &at.V[1]
		}
		at.N = 1
		if !value.Is(s, b) || value.None(s, b) {
			t.Errorf("P4.2: pairs %d deep: a number makes it None", depth)
		}
	}
	if got := value.Bottom(kit.Full(api.MaxDepth + 1)); kit.Written(got) != kit.Written(none) {
		t.Errorf("P4.2: pairs that are too deep: Bottom is made of %d", value.Size(got))
	}
}

func TestExample(t *testing.T) {
	if b := value.Bottom(of(api.KPair, of(api.KSet), of(api.KMap, of(api.KMax)))); len(b.V) != 2 || value.Size(b) != 3 {
		t.Errorf("P4.2: Bottom of a pair: %v", b)
	}
}

// TestSameOfSmall: of all small values each is the same as itself alone.
func TestSameOfSmall(t *testing.T) {
	all := small()
	for i, a := range all {
		if !value.Same(a, kit.Roomy(a)) {
			t.Fatalf("P4.2: %v isn't the same as itself", a)
		}
		for k := i % 997; k < len(all); k += 997 {
			if k != i && value.Same(a, all[k]) {
				t.Fatalf("P4.2: Same(%v, %v)", a, all[k])
			}
		}
	}
}

// others gives values that differ from v in one part alone.
func others(v api.Value) []api.Value {
	var out []api.Value
	add := func(change func(*api.Value)) {
		c := v
		c.S, c.C, c.V = slices.Clone(v.S), slices.Clone(v.C), slices.Clone(v.V)
		change(&c)
		out = append(out, c)
	}
	add(func(c *api.Value) { c.N++ })
	add(func(c *api.Value) { c.M++ })
	add(func(c *api.Value) { c.N ^= 1 << 63 })
	add(func(c *api.Value) { c.M ^= 1 << 63 })
	add(func(c *api.Value) { c.S = append(c.S, "") })
	add(func(c *api.Value) { c.C = append(c.C, nil) })
	add(func(c *api.Value) { c.V = append(c.V, none) })
	for i := range v.S {
		add(func(c *api.Value) { c.S[i] += "\x00" })
		add(func(c *api.Value) { c.S = slices.Delete(c.S, i, i+1) })
	}
	for i, x := range v.C {
		add(func(c *api.Value) { c.C[i] = append(slices.Clone(x), api.Tick{}) })
		add(func(c *api.Value) { c.C = slices.Delete(c.C, i, i+1) })
		for k := range x {
			add(func(c *api.Value) { c.C[i] = slices.Clone(x); c.C[i][k].N++ })
			add(func(c *api.Value) { c.C[i] = slices.Clone(x); c.C[i][k].Who++ })
			add(func(c *api.Value) { c.C[i] = slices.Delete(slices.Clone(x), k, k+1) })
		}
	}
	for i, x := range v.V {
		add(func(c *api.Value) { c.V = slices.Delete(c.V, i, i+1) })
		for _, o := range others(x) {
			add(func(c *api.Value) { c.V[i] = o })
		}
	}
	return out
}

func TestSameButOne(t *testing.T) {
	all := api.Value{N: 1, M: 2, S: []string{"b", "a"}, C: [][]api.Tick{ticks(1, 1), nil, ticks(3, 0, 2, 4)}}
	all.V = []api.Value{all, none, pair(all)}
	for _, c := range append(kit.Samples(), kit.Sample{Schema: of(api.KMax), Values: []api.Value{all}}) {
		for _, v := range c.Values {
			for _, o := range others(v) {
				if same := kit.Written(v) == kit.Written(o); value.Same(v, o) != same || value.Same(o, v) != same {
					t.Errorf("P4.2: Same(%v, %v): %v", v, o, !same)
				}
				if value.Is(c.Schema, o) != proper(c.Schema, o) {
					t.Errorf("P4.1: Is(%v, %v): %v", c.Schema, o, !proper(c.Schema, o))
				}
			}
		}
	}
}

func TestSameOfSamples(t *testing.T) {
	var l []api.Value
	for _, c := range kit.Samples() {
		l = append(l, c.Values...)
	}
	for _, a := range l {
		for _, b := range l {
			if want := kit.Written(a) == kit.Written(b); value.Same(a, b) != want {
				t.Errorf("P4.2: Same(%v, %v): %v", a, b, !want)
			}
		}
	}
}

// TestNoneAndEmpty: a list that isn't there and one of nothing are the same, all the way in.
func TestNoneAndEmpty(t *testing.T) {
	for _, c := range kit.Samples() {
		for i, v := range c.Values {
			e := kit.Emptied(v)
			if !value.Same(v, e) || !value.Same(e, v) || value.Size(e) != value.Size(v) {
				t.Errorf("P4.3: %#v and %#v aren't the same", v, e)
			}
			if !value.Is(c.Schema, e) || value.None(c.Schema, e) != (i == 0) {
				t.Errorf("P4.3: %#v: Is %v, None %v", e, value.Is(c.Schema, e), value.None(c.Schema, e))
			}
		}
	}
	empty := api.Schema{Kind: api.KMax, In: []api.Schema{}}
	if !value.Is(empty, none) || !value.None(empty, none) || !value.Is(of(api.KPair, empty, empty), pair(none, none)) {
		t.Error("P4.3: a schema with an empty In")
	}
	if !value.Same(clocks(nil), clocks([]api.Tick{})) || value.Same(clocks(nil), none) || value.Same(clocks(nil), clocks(nil, nil)) {
		t.Error("P4.3: a clock of nothing, and no clock")
	}
	if value.Same(pair(none), none) || value.Same(set(""), none) {
		t.Error("P4.3: one that is nothing, and nothing")
	}
}

func TestSize(t *testing.T) {
	three := pair(none, num(1))
	for i, c := range []struct {
		v    api.Value
		want int
	}{
		{none, 1}, {num(9), 1}, {set("a", "b", "c"), 1}, {clocks(ticks(1, 1), ticks(2, 2)), 1},
		{pair(none), 2}, {three, 3}, {pair(three, three), 7}, {pair(three, none, three), 8},
		{keyed("a,b", num(1), three), 5}, {keyed("a,b", num(1)), 2},
		{cause(at(nil, none)), 2}, {cause(at(ticks(1, 1), three), at(ticks(2, 1), keyed("a", three))), 8},
		{pair(pair(pair(pair(none)))), 5}, {pair(slices.Repeat([]api.Value{three}, 1000)...), 3001},
	} {
		if got := value.Size(c.v); got != c.want || value.Size(kit.Roomy(c.v)) != c.want {
			t.Errorf("P4.2: row %d: Size %d", i, got)
		}
	}
}

// nest puts v into V, n times.
func nest(n int, v api.Value) api.Value {
	for range n {
		v = pair(v)
	}
	return v
}

func TestFarDeep(t *testing.T) {
	a, b := nest(farDeep-1, none), nest(farDeep-1, none)
	if value.Size(a) != farDeep {
		t.Errorf("P4.2: far deep: Size %d", value.Size(a))
	}
	if !value.Same(a, b) || value.Same(a, nest(farDeep-1, num(1))) || value.Same(a, pair(b)) || value.Same(pair(a), b) || value.Same(a, none) || value.Same(none, a) {
		t.Error("P4.2: far deep: Same")
	}
	for _, c := range kit.Samples() {
		if value.Is(c.Schema, a) || value.None(c.Schema, a) || value.Is(c.Schema, pair(a, a)) || value.None(c.Schema, pair(a, a)) {
			t.Errorf("P4.1: far deep: a value of %v", c.Schema)
		}
	}
	deep := of(api.KMax)
	for range farDeep - 1 {
		deep = of(api.KPair, deep, deep)
	}
	if value.Is(deep, a) || value.None(deep, a) || !value.None(deep, none) || kit.Written(value.Bottom(deep)) != kit.Written(none) {
		t.Error("P4.1: a schema that is far deep")
	}
}

// TestWithoutEnd: of a value that holds itself Is and None come back, since they look no deeper than the schema is.
func TestWithoutEnd(t *testing.T) {
	for _, w := range kit.Wraps() {
		s := of(api.KMax)
		for schema.Is(w.Schema(s)) {
			s = w.Schema(s)
		}
		v := w.Value(num(77))
		at := slices.IndexFunc(v.V, func(x api.Value) bool { return x.N == 77 })
		v.V[at] = v
		if value.Is(s, v) || value.None(s, v) {
			t.Errorf("P4.1: in %s without end: a value", w.Name)
		}
	}
}

// TestFarWide: far more of each than there may be, right and wrong.
func TestFarWide(t *testing.T) {
	const n = 1 << 18
	wide := api.Value{S: kit.Texts(0, n), C: slices.Repeat([][]api.Tick{ticks(1, 1)}, n), V: make([]api.Value, n)}
	for _, v := range []api.Value{wide, {S: wide.S}, {C: wide.C}, {V: wide.V}, {S: wide.S, V: wide.V}, {C: wide.C, V: wide.V}, set(strings.Repeat("x", n))} {
		for _, c := range kit.Samples() {
			if value.Is(c.Schema, v) || value.None(c.Schema, v) {
				t.Errorf("P4.1: far wide: a value of %v", c.Schema)
			}
		}
		if !value.Same(v, v) || value.Same(v, none) || value.Size(v) != len(v.V)+1 {
			t.Errorf("P4.2: far wide: Same, or Size %d", value.Size(v))
		}
	}
}

// A spelling is a way to write a value down, which may be not in order, twice, with something that is nothing; sense tells what it stands for. The first of a list of them stands for nothing.
type spelling struct {
	v     api.Value
	sense string
}

// highest tells of each name its greatest number, without those of 0.
func highest[K int | string](add func(tell func(K, uint64))) string {
	n := map[K]uint64{}
	add(func(k K, x uint64) {
		if x > 0 {
			n[k] = max(n[k], x)
		}
	})
	return fmt.Sprint(n) // which sorts by key
}

func setSpellings() (out []spelling) {
	for _, l := range kit.Lists([]string{"", "a", "ab", "b"}, 4) {
		out = append(out, spelling{set(l...), highest(func(tell func(string, uint64)) {
			for _, s := range l {
				tell(s, 1)
			}
		})})
	}
	return out
}

func mapSpellings() (out []spelling) {
	for _, l := range kit.Lists([]api.Entry{{Key: "", Value: num(1)}, {Key: "", Value: none}, {Key: "a", Value: none}, {Key: "a", Value: num(1)}, {Key: "a", Value: num(2)}, {Key: "b", Value: num(1)}}, 3) {
		var v api.Value
		for _, e := range l {
			v.S, v.V = append(v.S, e.Key), append(v.V, e.Value)
		}
		out = append(out, spelling{v, highest(func(tell func(string, uint64)) {
			for _, e := range l {
				tell(e.Key, e.Value.N)
			}
		})})
	}
	return out
}

func lastSpellings() (out []spelling) {
	out = append(out, spelling{none, fmt.Sprint(0, 0, "")})
	for n := range uint64(3) {
		for m := range uint64(3) {
			for _, s := range []string{"", "a", "b"} {
				out = append(out, spelling{last(n, m, s), fmt.Sprint(n, m, s)})
			}
		}
	}
	return out
}

func clockSpellings() (out []spelling) {
	out = append(out, spelling{none, fmt.Sprint(map[int]uint64{})})
	for _, c := range kit.Lists([]api.Tick{{Who: 0, N: 1}, {Who: 1, N: 0}, {Who: 1, N: 1}, {Who: 1, N: 2}, {Who: 2, N: 1}}, 3) {
		out = append(out, spelling{clocks(c), highest(func(tell func(int, uint64)) {
			for _, t := range c {
				tell(t.Who, t.N)
			}
		})})
	}
	return out
}

func causeSpellings() (out []spelling) {
	var from []kit.Version
	for _, c := range [][]api.Tick{nil, ticks(1, 1), ticks(1, 2), ticks(2, 1), ticks(1, 1, 2, 1), ticks(1, 1, 2, 2), ticks(3, 1)} {
		from = append(from, at(c, none), at(c, num(1)))
	}
	for _, l := range kit.Lists(from, 3) {
		n := map[string]uint64{}
		for _, x := range l {
			seen := func(o kit.Version) bool { return kit.UpTo(x.Clock, o.Clock) && !kit.UpTo(o.Clock, x.Clock) }
			if !slices.ContainsFunc(l, seen) {
				k := fmt.Sprint(x.Clock)
				n[k] = max(n[k], x.Value.N)
			}
		}
		out = append(out, spelling{cause(l...), fmt.Sprint(n)})
	}
	return out
}

// TestOneForm: however a value may be written down, one way of them is right.
func TestOneForm(t *testing.T) {
	for _, c := range []struct {
		s api.Schema
		l []spelling
	}{
		{of(api.KSet), setSpellings()},
		{of(api.KMap, of(api.KMax)), mapSpellings()},
		{of(api.KLast), lastSpellings()},
		{of(api.KClock), clockSpellings()},
		{of(api.KCause, of(api.KMax)), causeSpellings()},
	} {
		for _, w := range append(kit.Wraps(), kit.Bare()) {
			s := w.Schema(c.s)
			form := map[string]api.Value{}
			for _, x := range c.l {
				v := w.Value(x.v)
				if was, ok := form[x.sense]; value.Is(s, v) && ok {
					t.Fatalf("P4.3: in %s: %v and %v are both right", w.Name, was, v)
				}
				if value.Is(s, v) {
					form[x.sense] = v
				}
			}
			for _, x := range c.l {
				v, ok := form[x.sense]
				if lost := w.Name == "a map" && x.sense == c.l[0].sense; ok == lost { // a key of nothing has no form at all
					t.Errorf("P4.3: in %s: %v: a right form: %v", w.Name, x.v, ok)
				}
				if got := w.Value(x.v); ok && value.Same(v, got) != value.Is(s, got) {
					t.Errorf("P4.3: in %s: %v is right, and %v", w.Name, v, got)
				}
			}
		}
	}
}

// TestBottomIsNew: what Bottom answers shares nothing with another answer, or within itself.
func TestBottomIsNew(t *testing.T) {
	shared := of(api.KPair, of(api.KSet), of(api.KOr))
	for _, s := range []api.Schema{shared, of(api.KPair, shared, shared), of(api.KPair, of(api.KPair, shared, shared), shared), kit.Full(6)} {
		want := kit.Written(nothing(s))
		a, b := value.Bottom(s), value.Bottom(s)
		seen := map[*api.Value]int{}
		gather(a, seen)
		gather(b, seen)
		for _, n := range seen {
			if n > 1 {
				t.Fatalf("P4.2: Bottom of %v: lists share memory", s)
			}
		}
		overwrite(a)
		if kit.Written(b) != want || kit.Written(value.Bottom(s)) != want {
			t.Errorf("P4.2: Bottom of %v: an answer written over is another one", s)
		}
	}
}

// gather counts how often each place of v's lists, their spare room included, is there.
func gather(v api.Value, seen map[*api.Value]int) {
	l := v.V[:cap(v.V)]
	for i := range l {
		seen[&l[i]]++
		gather(l[i], seen)
	}
}

// overwrite writes over all lists of v, their spare room included.
func overwrite(v api.Value) {
	l := v.V[:cap(v.V)]
	for i := range l {
		overwrite(l[i])
		l[i] = keyed("over", num(99))
	}
}

// told is what all calls answer of a value, by a schema, and of another value.
func told(s api.Schema, v, o api.Value) string {
	return fmt.Sprint(value.Is(s, v), value.None(s, v), value.Same(v, o), value.Same(o, v), value.Size(v), kit.Written(value.Bottom(s)))
}

// TestHandedInStays: values and schemas, right and wrong, all the way in, and their spare room, are as they were; asked again, a call answers the same.
func TestHandedInStays(t *testing.T) {
	for _, c := range kit.Samples() {
		for _, o := range append(kit.Samples(), kit.Sample{Values: []api.Value{pair(none, none, none), keyed("b,a", none), clocks(nil, ticks(2, 0, 1, 1)), cause(at(ticks(1, 2), none), at(ticks(1, 1), num(1)))}}) {
			for _, x := range o.Values {
				s, v, w := kit.RoomySchema(c.Schema), kit.Roomy(x), kit.Roomy(x)
				wasSchema, was := kit.LaidSchema(s), kit.Laid(v)
				first := told(s, v, w)
				if kit.LaidSchema(s) != wasSchema || kit.Laid(v) != was || kit.Laid(w) != was {
					t.Fatalf("P4.2: %v, %v were changed: %v, %v", c.Schema, x, s, v)
				}
				if again := told(s, v, w); first != again || first != told(c.Schema, x, x) {
					t.Fatalf("P4.2: %v, %v: told two ways: %s, %s", c.Schema, x, first, again)
				}
			}
		}
	}
}

// TestNothingIsKept: what is handed in again, changed, is told as it is now.
func TestNothingIsKept(t *testing.T) {
	s := of(api.KMap, of(api.KPair, of(api.KMax), of(api.KSet)))
	v, o := keyed("a,b", pair(num(1), none), pair(none, set("x"))), keyed("a,b", pair(num(1), none), pair(none, set("x")))
	b := value.Bottom(s.In[0])
	if got := told(s, v, o); !value.Is(s, v) || !value.Same(v, o) || value.Size(v) != 7 {
		t.Fatalf("P4.2: %v: %s", v, got)
	}
	v.V[0].V[0].N = 0
	if value.Is(s, v) || value.Same(v, o) {
		t.Errorf("P4.2: %v: told as it was", v)
	}
	v.V[0].V[1] = set("y")
	v.V[1].V = v.V[1].V[:1]
	if value.Is(s, v) || value.Same(v, o) || value.Size(v) != 6 {
		t.Errorf("P4.2: %v: told as it was", v)
	}
	s.In[0] = of(api.KMax)
	if value.Is(s, o) || !value.Is(s, keyed("a", num(1))) || kit.Written(value.Bottom(s.In[0])) != kit.Written(none) || kit.Written(b) != kit.Written(pair(none, none)) {
		t.Errorf("P4.2: by a schema that was changed: told as it was")
	}
}
