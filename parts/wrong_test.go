package parts_test

import (
	"slices"
	"strings"
	"testing"

	"trefoil/api"
	"trefoil/kit"
	"trefoil/parts"
	"trefoil/schema"
	"trefoil/value"
)

func TestNoSchema(t *testing.T) {
	for _, s := range kit.WrongSchemas() {
		for _, v := range []api.Value{none, num(1), set("a"), pair(none, none), keyed("a", num(1)), clocks(ticks(1, 1)), cause(at(ticks(1, 1), none))} {
			if !turnedAway(s, v) || !turnedAwayBoth(s, v, v) || !turnedAwayBoth(s, none, v) || !turnedAwayBoth(s, v, none) {
				t.Errorf("P8.1: %v by Kind %d, that is no schema: not an ErrType", v, s.Kind)
			}
		}
	}
}

// TestWrong: one that isn't of the schema, at the top and inside: alone, as a, as b, as both; beside one that is right, or nothing.
func TestWrong(t *testing.T) {
	for m := range kit.Misfits() {
		if !turnedAway(m.Schema, m.Bad) {
			t.Fatalf("P8.1: %v of %v: not an ErrType", m.Bad, m.Schema)
		}
		for _, l := range m.Twos() {
			if !turnedAwayBoth(m.Schema, l[0], l[1]) {
				t.Fatalf("P8.2: %v, %v of %v: not an ErrType", l[0], l[1], m.Schema)
			}
		}
	}
}

// TestWrongDeepInside: likewise as deep as a schema may be, and in each of three that stand beside one another.
func TestWrongDeepInside(t *testing.T) {
	for _, c := range kit.Samples() {
		right := c.Values[len(c.Values)-1]
		for _, bad := range kit.Wrong(c.Schema) {
			for _, w := range kit.Wraps() {
				s, x, v := c.Schema, bad, right
				for schema.Is(w.Schema(s)) {
					s, x, v = w.Schema(s), w.Value(x), w.Value(v)
				}
				if !turnedAway(s, x) || !turnedAwayBoth(s, x, v) || !turnedAwayBoth(s, v, x) || !turnedAwayBoth(s, x, x) {
					t.Fatalf("P8.1: %v in %s, by %v: not an ErrType", bad, w.Name, c.Schema)
				}
			}
			for _, x := range kit.Threes() {
				for i := range 3 {
					s, l := x.Schema(c.Schema), list(right, right, right)
					v := x.Value(l)
					l[i] = bad
					if !turnedAway(s, x.Value(l)) || !turnedAwayBoth(s, v, x.Value(l)) || !turnedAwayBoth(s, x.Value(l), v) {
						t.Fatalf("P8.1: %v in %s, by %v: not an ErrType", bad, x.Name, c.Schema)
					}
				}
			}
		}
	}
}

// TestNotInOneForm: what stands for a value, but isn't in its form, has no parts, and isn't held against anything: also where all that is in it is right, or is left out in the end.
func TestNotInOneForm(t *testing.T) {
	sets, numbers, ticking, causes, two := of(api.KSet), of(api.KMap, of(api.KMax)), of(api.KClock), of(api.KCause, of(api.KMax)), of(api.KPair, of(api.KSet), of(api.KMax))
	long := strings.Repeat("x", api.MaxText+1)
	for i, c := range []struct {
		s     api.Schema
		v, to api.Value
	}{
		{of(api.KMax), api.Value{N: 1, M: 1}, num(1)}, {of(api.KOr), num(2), num(1)}, {of(api.KLast), last(0, 0, ""), none}, {of(api.KLast), num(1), none},
		{sets, set("b", "a"), set("a", "b")}, {sets, set("a", "a"), set("a")}, {sets, set(long), none}, {sets, set(kit.Texts(0, most+1)...), set(kit.Texts(0, most)...)},
		{numbers, keyed("a", none), keyed("a", num(1))}, {numbers, keyed("b,a", num(1), num(1)), keyed("a,b", num(1), num(1))}, {numbers, keyed("a", num(1), num(1)), keyed("a", num(1))}, {numbers, keyed("a,b", num(1)), keyed("a,b", num(1), num(1))},
		{two, none, pair(none, none)}, {two, pair(none), pair(none, none)}, {two, pair(none, none, none), pair(none, none)}, {two, pair(num(1), set("a")), pair(set("a"), num(1))},
		{ticking, clocks(nil), none}, {ticking, clocks(ticks(1, 0)), none}, {ticking, clocks(ticks(2, 1, 1, 1)), clocks(ticks(1, 1, 2, 1))}, {ticking, clocks(ticks(1, 1), ticks(2, 1)), clocks(ticks(1, 1, 2, 1))}, {ticking, clocks(ticks(-1, 1)), none}, {ticking, clocks(ticks(1000001, 1)), none},
		// versions of which one has seen another one, the empty clock's among them
		{causes, cause(at(nil, none), at(ticks(1, 1), none)), cause(at(ticks(1, 1), none))}, {causes, cause(at(nil, num(1)), at(ticks(1, 1), num(1)), at(ticks(2, 1), num(1))), cause(at(ticks(1, 1), num(1)), at(ticks(2, 1), num(1)))}, {causes, cause(at(ticks(1, 1), none), at(ticks(1, 2), none)), cause(at(ticks(1, 2), none))}, {causes, cause(at(ticks(1, 1), num(1)), at(ticks(1, 1), num(2))), cause(at(ticks(1, 1), num(2)))}, {causes, cause(at(ticks(2, 1), none), at(ticks(1, 1), none)), cause(at(ticks(1, 1), none), at(ticks(2, 1), none))}, {causes, api.Value{C: [][]api.Tick{nil}}, cause(at(nil, none))},
	} {
		bottom := value.Bottom(c.s)
		if !value.Is(c.s, c.to) || !turnedAway(c.s, c.v) || !turnedAwayBoth(c.s, c.v, c.v) || !turnedAwayBoth(c.s, c.v, c.to) || !turnedAwayBoth(c.s, c.to, c.v) || !turnedAwayBoth(c.s, c.v, bottom) || !turnedAwayBoth(c.s, bottom, c.v) {
			t.Errorf("P8.1: row %d: not an ErrType", i)
		}
	}
}

// TestWrongAndLarge: what is wrong is told also where the two are too large together.
func TestWrongAndLarge(t *testing.T) {
	for _, c := range kit.Splits() {
		s, half, rest, over := of(api.KPair, c.Schema, of(api.KOr)), c.Make(0, 20), c.Make(20, most+1), c.Make(0, most+1)
		for i, x := range [][2]api.Value{{pair(half, num(2)), pair(rest, none)}, {pair(half, none), pair(rest, num(2))}, {pair(over, none), pair(rest, none)}, {pair(half, none), pair(over, none)}, {pair(over, none), pair(over, none)}} {
			if !turnedAwayBoth(s, x[0], x[1]) {
				t.Errorf("P8.2: %s, row %d: not an ErrType", c.Name, i)
			}
		}
		if !turnedAway(c.Schema, over) || !turnedAwayBoth(c.Schema, over, half) || !turnedAwayBoth(c.Schema, half, over) {
			t.Errorf("P8.1: one of %s too many: not an ErrType", c.Name)
		}
	}
}

// TestFar: far deeper, far wider than a value may be.
func TestFar(t *testing.T) {
	far := kit.Far()
	for _, s := range kit.Schemas() {
		for _, x := range far {
			if v := kit.Few(s, 2)[1]; !turnedAway(s, x) || !turnedAwayBoth(s, x, v) || !turnedAwayBoth(s, v, x) || !turnedAwayBoth(s, x, x) {
				t.Errorf("P8.1: by %v: not an ErrType", s)
			}
		}
	}
}

// answers are what the calls tell of a and b, each twice, and the errors.
func answers(s api.Schema, a, b api.Value) ([]api.Value, []error) {
	var out []api.Value
	var errs []error
	for range 2 {
		d, err := parts.Diff(s, a, b)
		l, other := parts.Parts(s, b)
		out, errs = append(out, d, api.Value{V: l}), append(errs, err, other)
	}
	return out, errs
}

// TestHandedInStays: values and schemas, right and wrong, all the way in, and the room behind them, are as they were; what is answered lies nowhere else, not in another answer, no two of its lists in one place; and whatever is done with it, the same comes again.
func TestHandedInStays(t *testing.T) {
	try := func(plain api.Schema, a, b api.Value) {
		s, handed := kit.RoomySchema(plain), kit.Roomy(pair(a, b))
		was := kit.LaidSchema(s) + kit.Laid(handed)
		got, errs := answers(s, handed.V[0], handed.V[1])
		if !kit.Apart(handed, got...) {
			t.Fatalf("P8.1: %v, %v of %v: an answer lies where something else does", a, b, plain)
		}
		if told(got[:2]) != told(got[2:]) || !slices.Equal(errs[:2], errs[2:]) {
			t.Fatalf("P8.1: %v, %v of %v: told two ways: %v", a, b, plain, got)
		}
		first := told(got)
		for _, x := range got {
			kit.Scribble(x)
		}
		if kit.LaidSchema(s)+kit.Laid(handed) != was {
			t.Fatalf("P8.1: %v, %v of %v were changed", a, b, plain)
		}
		if again, _ := answers(plain, a, b); told(again) != first {
			t.Fatalf("P8.1: %v, %v of %v: told in another way behind what was done with an answer", a, b, plain)
		}
	}
	for _, s := range kit.Schemas() {
		l := kit.Few(s, 12)
		for _, a := range l {
			for _, b := range l {
				try(s, a, b)
			}
		}
		for _, x := range kit.Wrong(s) {
			try(s, l[1], x)
			try(s, x, l[1])
			try(s, x, x)
		}
	}
	for _, c := range kit.Splits() {
		for _, w := range append(kit.Wraps(), kit.Bare()) {
			try(w.Schema(c.Schema), w.Value(c.Make(0, 20)), w.Value(c.Make(10, 10+most)))
		}
	}
	for _, s := range kit.WrongSchemas()[:19] {
		try(s, none, none)
	}
}

// TestNothingIsKept: what is handed in again, changed, is told as it is now, and what was told stays.
func TestNothingIsKept(t *testing.T) {
	s := of(api.KMap, of(api.KCause, of(api.KSet)))
	a, b := keyed("k", cause(at(ticks(1, 1), set("a")))), keyed("k", cause(at(ticks(1, 1), set("a", "b"))))
	first, err := parts.Parts(s, b)
	beyond, other := parts.Diff(s, a, b)
	was := told(append(first, beyond))
	version := func(n int, e string) api.Value { return keyed("k", cause(at(ticks(1, n), set(e)))) }
	if err != nil || other != nil || was != told(list(version(1, "a"), version(1, "b"), version(1, "b"))) {
		t.Fatalf("P8.1: %v, %v, %v, %v", first, err, beyond, other)
	}
	b.V[0].V[0].S[1], b.V[0].C[0][0].N = "c", 2
	compare(t, []gap{{s, a, b, b}})
	hold(t, []whole{{s, b, list(version(2, "a"), version(2, "c"))}})
	a.V[0].C[0][0].N = 2
	compare(t, []gap{{s, a, b, version(2, "c")}})
	a.V[0].C[0][0].N = 3
	compare(t, []gap{{s, a, b, none}})
	if told(append(first, beyond)) != was {
		t.Errorf("P8.1: what was told is another one now: %v, %v", first, beyond)
	}
	s.In[0] = of(api.KMax)
	if !turnedAway(s, b) || !turnedAwayBoth(s, a, b) {
		t.Error("P8.1: by a schema that was changed: told as it was")
	}
}

// TestOnePlace: values that share their lists are told as those are that don't, and what is told shares none.
func TestOnePlace(t *testing.T) {
	l, c := kit.Texts(0, 4), ticks(1, 1, 2, 1)
	one := cause(at(c, api.Value{S: l}), at(ticks(3, 1), api.Value{S: l[:2]}))
	s := of(api.KPair, of(api.KCause, of(api.KSet)), of(api.KCause, of(api.KSet)))
	v, less := pair(one, one), pair(cause(at(c, api.Value{S: l[1:3]})), cause(at(c[:1], api.Value{S: l})))
	for range 2 {
		got, err := parts.Parts(s, v)
		d, other := parts.Diff(s, less, v)
		if err != nil || other != nil || told(got) != told(split(s, v)) || told(list(d)) != told(list(rest(s, less, v))) {
			t.Fatalf("P8.1: %v, %v, %v, %v", got, err, d, other)
		}
		if !kit.Apart(v, append(got, d)...) {
			t.Error("P8.1: two lists of an answer lie in one place")
		}
		kit.Scribble(pair(append(got, d)...))
	}
	if d, err := parts.Diff(of(api.KSet), api.Value{S: l[1:3]}, api.Value{S: l[:3]}); err != nil || told(list(d)) != told(list(set(l[0]))) {
		t.Errorf("P8.2: pieces of one list: %v, %v", d, err)
	}
}
