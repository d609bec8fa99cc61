package canon_test

import (
	"slices"
	"strings"
	"testing"

	"trefoil/api"
	"trefoil/canon"
	"trefoil/kit"
	"trefoil/schema"
	"trefoil/value"
)

// deepen holds c as it is, and in each Kind that nests: in one of them, in two, and as deep as a schema may be.
func deepen(t *testing.T, c row) {
	t.Helper()
	hold(t, []row{c})
	for _, w := range kit.Wraps() {
		s, v, want := c.s, c.v, c.want
		for deep := 1; schema.Is(w.Schema(s)); deep++ {
			s, v = w.Schema(s), w.Value(v)
			if c.code == api.OK {
				want = w.Value(want)
			}
			if deep > 2 && schema.Is(w.Schema(s)) {
				continue
			}
			if told := amiss(s, v, want, c.code); told != "" {
				t.Fatalf("P7.1: in %s: %s", w.Name, told)
			}
		}
	}
}

// TestTexts: one as long as may be, and one longer, wherever it stands, also at a key that has nothing.
func TestTexts(t *testing.T) {
	brim, long := strings.Repeat("x", api.MaxText), strings.Repeat("é", api.MaxText/2)+"x"
	sets, numbers, lasts := of(api.KSet), of(api.KMap, of(api.KMax)), of(api.KLast)
	for i := range 4 {
		with := func(s string) string { return strings.Join(slices.Insert([]string{"b", "a", "b"}, i, s), ",") }
		l := func(s string) api.Value { return set(strings.Split(with(s), ",")...) }
		v := []api.Value{num(2), num(2), num(2), num(2)}
		deepen(t, row{sets, l(brim), set("a", "b", brim), 0})
		deepen(t, row{sets, l(long), none, api.ErrType})
		deepen(t, row{numbers, keyed(with(brim), v...), keyed("a,b,"+brim, v[1:]...), 0})
		deepen(t, row{numbers, keyed(with(long), v...), none, api.ErrType})
		v[i] = none
		deepen(t, row{numbers, keyed(with(brim), v...), keyed("a,b", num(2), num(2)), 0})
		deepen(t, row{numbers, keyed(with(long), v...), none, api.ErrType})
	}
	deepen(t, row{lasts, last(1, 2, brim), last(1, 2, brim), 0})
	deepen(t, row{lasts, last(0, 0, brim), last(0, 0, brim), 0})
	deepen(t, row{lasts, last(1, 2, long), none, api.ErrType})
	hold(t, []row{{sets, set(brim, brim[1:], brim), set(brim[1:], brim), 0}, {sets, set(strings.Repeat("x", 1<<20)), none, api.ErrType}, {numbers, keyed(long, none), none, api.ErrType}})
}

// TestMany: as many as may be, and one more, in whatever order, each once or twice, however deep they lie.
func TestMany(t *testing.T) {
	for _, c := range kit.Splits() {
		for _, way := range turns() {
			for n, code := range map[int]api.Errno{most - 1: 0, most: 0, most + 1: api.ErrLarge, 2 * most: api.ErrLarge} {
				want := c.Make(0, n)
				if code != api.OK {
					want = none
				}
				deepen(t, row{c.Schema, turned(c.Schema, c.Make(0, n), way), want, code})
			}
		}
	}
}

// TestLargeBeside: one part that is too large among others that aren't, wherever it stands.
func TestLargeBeside(t *testing.T) {
	for _, c := range kit.Splits() {
		for _, x := range kit.Threes() {
			for i := range 3 {
				l := slices.Repeat([]api.Value{c.Make(0, 1)}, 3)
				l[i] = c.Make(0, most+1)
				hold(t, []row{{x.Schema(c.Schema), x.Value(l), none, api.ErrLarge}})
			}
		}
	}
}

// many makes a map of the keys from one number on, below another, each of which has v.
func many(from, to int, v api.Value) api.Value {
	return api.Value{S: kit.Texts(from, to), V: slices.Repeat([]api.Value{v}, to-from)}
}

// both makes one thing of the rows of several.
func both(l ...api.Value) api.Value {
	var v api.Value
	for _, x := range l {
		v.S, v.C, v.V = append(v.S, x.S...), append(v.C, x.C...), append(v.V, x.V...)
	}
	return v
}

// TestCounted: keys count that have something in the end, each once.
func TestCounted(t *testing.T) {
	numbers, sets := of(api.KMap, of(api.KMax)), of(api.KMap, of(api.KMap, of(api.KSet)))
	full, nothing := many(0, most, num(1)), keyed("y", none)
	hold(t, []row{
		{numbers, both(full, many(most, 500, none)), full, 0}, {numbers, both(many(most, 500, none), full), full, 0}, {numbers, both(many(0, 500, none), full), full, 0}, {numbers, both(full, full, many(20, most, none), full), full, 0}, {numbers, many(0, 500, none), none, 0},
		{numbers, both(full, many(most, most+1, num(1))), none, api.ErrLarge}, {numbers, both(many(most, 500, none), full, many(100, 101, num(1))), none, api.ErrLarge},
		{sets, both(many(0, most, keyed("y", set("a"))), many(most, 500, nothing)), many(0, most, keyed("y", set("a"))), 0}, {sets, both(many(0, most, keyed("y", set("a"))), many(most, 500, nothing), many(0, most, keyed("y", set("b", "a")))), many(0, most, keyed("y", set("a", "b"))), 0},
	})
}

// TestAtOneKey: what stands at one key, each right alone, may be too large together; not what stands at several.
func TestAtOneKey(t *testing.T) {
	for _, c := range kit.Splits() {
		s := of(api.KMap, c.Schema)
		whole := c.Make(0, most)
		for _, by := range []int{0, 1, 20, most - 1, most} {
			some, rest, more := c.Make(0, by), c.Make(by, most), c.Make(by, most+1)
			deepen(t, row{s, keyed("a,a", some, rest), keyed("a", whole), 0})
			deepen(t, row{s, keyed("a,b,a,a", rest, c.Make(0, 1), some, rest), keyed("a,b", whole, c.Make(0, 1)), 0})
			if by > 0 {
				deepen(t, row{s, keyed("a,a", some, more), none, api.ErrLarge})
				deepen(t, row{s, keyed("a,b,a", more, c.Make(0, 1), some), none, api.ErrLarge})
			}
		}
		hold(t, []row{{s, keyed("a,b", whole, c.Make(1, most+1)), keyed("a,b", whole, c.Make(1, most+1)), 0}, {s, keyed("a,a", whole, c.Make(most, most+1)), none, api.ErrLarge}, {s, keyed("a,a,a", whole, whole, whole), keyed("a", whole), 0}})
	}
}

// apart answers n versions of which none has seen another one, each of two actors.
func apart(n int) []kit.Version {
	var l []kit.Version
	for i := range n {
		l = append(l, at(ticks(2, n-i, 1, i+1), none))
	}
	return l
}

// TestFromTheLeft: too many versions are told as soon as they stand together, also where one that comes later has seen them; not where it came ahead. Where its clock stands in order has no say.
func TestFromTheLeft(t *testing.T) {
	causes, l := of(api.KCause, of(api.KMax)), apart(most+1)
	for _, seer := range []kit.Version{at(ticks(1, 99, 2, 99), num(1)), at(ticks(0, 1, 1, 99, 2, 99), num(1)), at(ticks(1, 99, 2, 99, 3, 1), num(1)), at(ticks(1, most+1, 2, most+1), none)} {
		for _, i := range []int{0, 1, 20, most - 1, most, most + 1} {
			want, keys, code := cause(seer), keyed("b", cause(seer)), api.OK
			if i == len(l) {
				want, keys, code = none, none, api.ErrLarge
			}
			all := slices.Insert(slices.Clone(l), i, seer)
			deepen(t, row{causes, cause(all...), want, code})
			// likewise where they stand at one key
			var one api.Value
			for _, x := range all {
				one.S, one.V = append(one.S, "b", "a"), append(one.V, cause(x), none)
			}
			hold(t, []row{{of(api.KMap, causes), one, keys, code}})
		}
		plenty, more := slices.Repeat(l[:most], 3), at(ticks(4, 1), num(2))
		hold(t, []row{
			{causes, cause(append(plenty, seer)...), cause(seer), 0}, {causes, cause(slices.Concat(plenty, l)...), none, api.ErrLarge}, {causes, cause(slices.Concat(plenty, l, []kit.Version{seer})...), none, api.ErrLarge}, {causes, cause(slices.Concat(plenty, []kit.Version{seer}, l, []kit.Version{seer})...), cause(seer), 0}, {causes, cause(slices.Concat(plenty, []kit.Version{seer, more}, l)...), cause(seer, more), 0}, {causes, cause(slices.Concat(plenty, []kit.Version{more, seer}, l)...), none, api.ErrLarge},
		})
	}
}

// TestOfOneClock: what two versions of one clock have together may be too large, unless one that has seen them stands between; what one has alone may be too large wherever it stands.
func TestOfOneClock(t *testing.T) {
	for _, c := range kit.Splits() {
		s := of(api.KCause, c.Schema)
		one, seer := ticks(2, 1, 1, 1), at(ticks(1, 2, 2, 1), c.Make(0, 1))
		half, rest, over := at(one, c.Make(0, 20)), at(ticks(1, 1, 2, 1), c.Make(20, most+1)), at(one, c.Make(0, most+1))
		deepen(t, row{s, cause(half, rest), none, api.ErrLarge})
		deepen(t, row{s, cause(half, rest, seer), none, api.ErrLarge})
		deepen(t, row{s, cause(half, seer, rest), cause(seer), 0})
		deepen(t, row{s, cause(seer, half, rest), cause(seer), 0})
		deepen(t, row{s, cause(half, at(one, c.Make(20, most))), cause(at(ticks(1, 1, 2, 1), c.Make(0, most))), 0})
		deepen(t, row{s, cause(half, at(ticks(1, 1), c.Make(20, most+1))), cause(at(ticks(1, 1, 2, 1), c.Make(0, 20))), 0})
		deepen(t, row{s, cause(over), none, api.ErrLarge})
		deepen(t, row{s, cause(over, seer), none, api.ErrLarge})
		deepen(t, row{s, cause(seer, over), none, api.ErrLarge})
	}
	// a clock of too many ticks, too, though others have seen it, or it them
	var wide []api.Tick
	for who := range most + 1 {
		wide = append(wide, ticks(who, 1)...)
	}
	causes := of(api.KCause, of(api.KMax))
	for _, x := range []kit.Version{at(ticks(1, 1), num(1)), at(ticks(1, 2), num(1)), at(wide[:most], num(1))} {
		deepen(t, row{causes, cause(x, at(wide, none)), none, api.ErrLarge})
		deepen(t, row{causes, cause(at(wide, none), x), none, api.ErrLarge})
	}
	deepen(t, row{causes, cause(at(ticks(1, 1), num(1)), at(wide[:most], none)), cause(at(wide[:most], none)), 0})
}

// TestPartsThatAKindHasnt: of each Kind, each other part, beside any of its values.
func TestPartsThatAKindHasnt(t *testing.T) {
	has := map[int]string{api.KMax: "N", api.KOr: "N", api.KSet: "S", api.KMap: "SV", api.KPair: "V", api.KLast: "NMS", api.KClock: "C", api.KCause: "CV"}
	add := map[string]func(v *api.Value, i int){
		"N": func(v *api.Value, i int) { v.N = []uint64{1, 2, top}[i] },
		"M": func(v *api.Value, i int) { v.M = []uint64{1, 2, top}[i] },
		"S": func(v *api.Value, i int) { v.S = [][]string{{""}, {"a"}, {"a", "b"}}[i] },
		"C": func(v *api.Value, i int) {
			v.C = [][][]api.Tick{{nil}, {ticks(1, 1)}, {ticks(1, 1), ticks(2, 1)}}[i]
		},
		"V": func(v *api.Value, i int) {
			v.V = [][]api.Value{{none}, {num(1)}, {pair(none, none), pair(none, none)}}[i]
		},
	}
	for _, s := range kit.Schemas() {
		l := kit.Loose(s, 6)
		for part, f := range add {
			if strings.Contains(has[s.Kind], part) {
				continue
			}
			for i := range 3 {
				for _, v := range l {
					f(&v, i)
					deepen(t, row{s, v, none, api.ErrType})
				}
			}
		}
	}
}

// TestPartsThatLack: one more and one less of what must be as many.
func TestPartsThatLack(t *testing.T) {
	numbers, two, ticking, causes := of(api.KMap, of(api.KMax)), of(api.KPair, of(api.KMax), of(api.KMax)), of(api.KClock), of(api.KCause, of(api.KMax))
	for n := range 4 {
		for _, off := range []int{-1, 1} {
			if n+off < 0 {
				continue
			}
			for _, v := range []api.Value{none, num(1)} {
				l := slices.Repeat([]api.Value{v}, n+off)
				deepen(t, row{numbers, api.Value{S: kit.Texts(0, n), V: l}, none, api.ErrType})
				deepen(t, row{causes, api.Value{C: kit.Versions(0, n, 1).C, V: l}, none, api.ErrType})
				deepen(t, row{causes, api.Value{C: slices.Repeat([][]api.Tick{nil}, n), V: l}, none, api.ErrType})
			}
		}
		if n != 2 {
			deepen(t, row{two, pair(slices.Repeat([]api.Value{none}, n)...), none, api.ErrType})
			deepen(t, row{two, pair(slices.Repeat([]api.Value{num(1)}, n)...), none, api.ErrType})
		}
		if n > 1 {
			for _, c := range [][]api.Tick{nil, ticks(1, 0), ticks(1, 1)} {
				deepen(t, row{ticking, clocks(slices.Repeat([][]api.Tick{c}, n)...), none, api.ErrType})
			}
			deepen(t, row{ticking, clocks(append(make([][]api.Tick, n-1), ticks(1, 1))...), none, api.ErrType})
		}
	}
	for _, n := range []int{most - 1, most + 1, 2 * most} {
		hold(t, []row{{numbers, api.Value{S: kit.Texts(0, n), V: slices.Repeat([]api.Value{num(1)}, most)}, none, api.ErrType}, {causes, api.Value{C: kit.Versions(0, n, 1).C, V: make([]api.Value, most)}, none, api.ErrType}})
	}
}

// TestWrong: what is no value of a schema is put right, if it has the right parts, and is wrong, if it hasn't; wherever it lies.
func TestWrong(t *testing.T) {
	told := map[api.Errno]int{}
	for m := range kit.Misfits() {
		want, code := put(m.Schema, m.Bad)
		if told[code]++; amiss(m.Schema, m.Bad, want, code) != "" {
			t.Fatalf("P7.1: by %v: %s", m.Schema, amiss(m.Schema, m.Bad, want, code))
		}
		for _, x := range kit.Threes() {
			for i := range 3 {
				l := []api.Value{m.Right, m.Right, m.Right}
				l[i] = m.Bad
				want, code := put(x.Schema(m.Schema), x.Value(l))
				if told := amiss(x.Schema(m.Schema), x.Value(l), want, code); told != "" {
					t.Fatalf("P7.1: by %v, in %s: %s", m.Schema, x.Name, told)
				}
			}
		}
	}
	if told[api.OK] < 20 || told[api.ErrType] < 1000 || told[api.ErrLarge] == 0 {
		t.Errorf("of each too few: %v", told)
	}
}

// TestTypeAheadOfLarge: what is wrong is told also where something else is too large, whichever of them stands ahead, or deeper.
func TestTypeAheadOfLarge(t *testing.T) {
	for _, c := range kit.Splits() {
		over, bad := c.Make(0, most+1), api.Value{M: 1}
		for _, x := range kit.Threes() {
			for i := range 3 {
				for k := range 3 {
					l := slices.Repeat([]api.Value{c.Make(0, 1)}, 3)
					l[k] = over
					if l[i].M = 1; i != k {
						l[i] = bad
					}
					deepen(t, row{x.Schema(c.Schema), x.Value(l), none, api.ErrType})
				}
			}
		}
		// the one deep inside, the other one at the top
		for _, w := range kit.Wraps() {
			s, v, x := c.Schema, over, bad
			for schema.Is(of(api.KPair, c.Schema, w.Schema(s))) {
				s, v, x = w.Schema(s), w.Value(v), w.Value(x)
			}
			hold(t, []row{
				{of(api.KPair, c.Schema, s), pair(bad, v), none, api.ErrType}, {of(api.KPair, s, c.Schema), pair(v, bad), none, api.ErrType}, {of(api.KPair, c.Schema, s), pair(over, x), none, api.ErrType}, {of(api.KPair, s, c.Schema), pair(x, over), none, api.ErrType},
				{of(api.KPair, c.Schema, s), pair(over, v), none, api.ErrLarge}, {of(api.KPair, s, c.Schema), pair(v, over), none, api.ErrLarge},
			})
		}
	}
}

// TestTypeAheadOfLargeInOne: likewise in one row that is too long, at one key, in versions that another one has seen.
func TestTypeAheadOfLargeInOne(t *testing.T) {
	sets, ors, maps, causes := of(api.KSet), of(api.KMap, of(api.KOr)), of(api.KMap, of(api.KSet)), of(api.KCause, of(api.KSet))
	long, half, rest := strings.Repeat("x", api.MaxText+1), set(kit.Texts(0, 20)...), set(kit.Texts(20, most+1)...)
	for _, i := range []int{0, 1, 20, most, most + 1} {
		texts := slices.Insert(kit.Texts(0, most+1), i, long)
		keys, versions, clocked := many(0, most+2, num(1)), kit.Versions(0, most+2, 1), kit.Versions(0, most+2, 1)
		keys.V[i], versions.V[i], clocked.C[i] = num(2), num(1), ticks(-1, 1)
		plain := many(0, most+2, num(1))
		plain.S[i] = long
		hold(t, []row{{sets, set(texts...), none, api.ErrType}, {ors, keys, none, api.ErrType}, {ors, plain, none, api.ErrType}, {causes, versions, none, api.ErrType}, {causes, clocked, none, api.ErrType}})
	}
	bad, one, seer := num(1), ticks(1, 1), at(ticks(1, 2), none)
	for i := range 3 {
		l := slices.Insert([]api.Value{half, rest}, i, bad)
		v := slices.Insert([]kit.Version{at(one, half), at(one, rest)}, i, at(one, bad))
		x := slices.Insert([]kit.Version{at(one, half), at(one, rest)}, i, at(ticks(1000001, 0), none))
		hold(t, []row{{maps, keyed("a,a,a", l...), none, api.ErrType}, {maps, keyed("a,b,a", l...), none, api.ErrType}, {causes, cause(v...), none, api.ErrType}, {causes, cause(append(v, seer)...), none, api.ErrType}, {causes, cause(append([]kit.Version{seer}, v...)...), none, api.ErrType}, {causes, cause(x...), none, api.ErrType}, {causes, cause(append([]kit.Version{seer}, x...)...), none, api.ErrType}})
	}
}

// TestActorAheadOfLarge: likewise of an actor that no clock may name.
func TestActorAheadOfLarge(t *testing.T) {
	for _, c := range kit.Splits() {
		over := c.Make(0, most+1)
		for _, bad := range [][]api.Tick{ticks(-1, 0), ticks(1000001, 1)} {
			ticking, causes, both := clocks(bad), cause(at(bad, none)), cause(at(bad, over))
			for _, x := range []struct {
				s api.Schema
				v api.Value
			}{{of(api.KClock), ticking}, {of(api.KCause, of(api.KMax)), causes}, {of(api.KCause, c.Schema), both}} {
				deepen(t, row{of(api.KPair, x.s, c.Schema), pair(x.v, over), none, api.ErrType})
				deepen(t, row{of(api.KPair, c.Schema, x.s), pair(over, x.v), none, api.ErrType})
			}
			deepen(t, row{of(api.KCause, c.Schema), both, none, api.ErrType})
			deepen(t, row{of(api.KCause, c.Schema), cause(at(nil, over), at(bad, c.Make(0, 1))), none, api.ErrType})
			deepen(t, row{of(api.KCause, c.Schema), cause(at(bad, c.Make(0, 1)), at(nil, over)), none, api.ErrType})
		}
	}
}

func TestNoSchema(t *testing.T) {
	for _, s := range kit.WrongSchemas() {
		for _, v := range []api.Value{none, num(1), set("b", "a"), set(kit.Texts(0, most+1)...), pair(none, none), keyed("a", num(1)), clocks(ticks(2, 1, 1, 1)), cause(at(ticks(1, 1), none)), {M: 1}} {
			if got, err := canon.Put(s, v); !refused(got, err, api.ErrType) {
				t.Errorf("P7.1: Put by %v, that is no schema: %v, %v", s.Kind, got, err)
			}
		}
	}
}

// TestFar: far deeper, far wider than a value may be; and as wide as a schema can be.
func TestFar(t *testing.T) {
	for _, c := range kit.Samples() {
		for _, v := range kit.Far() {
			code := api.ErrType
			if c.Schema.Kind == api.KSet && len(v.S) > 0 {
				code = api.ErrLarge
			}
			if got, err := canon.Put(c.Schema, v); !refused(got, err, code) {
				t.Errorf("P7.1: by %v: %v", c.Schema, err)
			}
		}
	}
	const n = 100000
	numbers, causes := of(api.KMap, of(api.KMax)), of(api.KCause, of(api.KMax))
	wide := api.Value{S: make([]string, n), V: make([]api.Value, n)}
	wide.V[n/2].N = 7
	seen := api.Value{C: make([][]api.Tick, n), V: make([]api.Value, n)}
	seen.C[n/2], seen.V[n/3].N = ticks(1, 1), 7
	for i, c := range []row{{numbers, wide, keyed("", num(7)), 0}, {numbers, many(0, n, num(1)), none, api.ErrLarge}, {numbers, many(0, n, none), none, 0}, {causes, seen, cause(at(ticks(1, 1), none)), 0}, {causes, kit.Versions(0, n, 1), none, api.ErrLarge}, {of(api.KSet), set(slices.Repeat([]string{"b", "a"}, n)...), set("a", "b"), 0}} {
		if amiss(c.s, c.v, c.want, c.code) != "" {
			t.Errorf("P7.1: of %d: row %d: not as wanted", n, i)
		}
	}
	full := kit.Full(api.MaxDepth)
	v := value.Bottom(full)
	x := &v
	for range api.MaxDepth - 1 {
		x = &x.V[1]
	}
	x.N = 2
	if amiss(full, v, v, api.OK) != "" {
		t.Error("P7.1: pairs of pairs: not as they were")
	}
	if x.M = 1; amiss(full, v, none, api.ErrType) != "" {
		t.Error("P7.1: pairs of pairs, of which the last one is wrong: not told so")
	}
}

// answers are what the calls tell of v, each twice, and the errors.
func answers(s api.Schema, v api.Value) ([]api.Value, []error) {
	var out []api.Value
	var errs []error
	for range 2 {
		got, err := canon.Put(s, v)
		out, errs = append(out, got), append(errs, err)
		for _, c := range v.C {
			own, err := canon.Clock(c)
			out, errs = append(out, clocks(own)), append(errs, err)
		}
	}
	return out, errs
}

// TestHandedInStays: things and schemas, right, wrong and too large, all the way in, and the room behind them, are as they were; what is answered lies nowhere else, not in another answer, no two of its lists in one place; and whatever is done with it, the same comes again.
func TestHandedInStays(t *testing.T) {
	try := func(plain api.Schema, v api.Value) {
		s, handed := kit.RoomySchema(plain), kit.Roomy(v)
		was := kit.LaidSchema(s) + kit.Laid(handed)
		got, errs := answers(s, handed)
		if !kit.Apart(handed, got...) {
			t.Fatalf("P7.1: %v of %v: an answer lies where something else does", v, plain)
		}
		for i, x := range got {
			if n := len(got) / 2; kit.Written(x) != kit.Written(got[i%n]) || errs[i] != errs[i%n] {
				t.Fatalf("P7.1: %v of %v: told two ways: %v, %v", v, plain, x, got[i%n])
			}
		}
		told := kit.Written(pair(got...))
		for _, x := range got {
			kit.Scribble(x)
		}
		if kit.LaidSchema(s)+kit.Laid(handed) != was {
			t.Fatalf("P7.1: %v of %v were changed", v, plain)
		}
		if again, _ := answers(plain, v); kit.Written(pair(again...)) != told {
			t.Fatalf("P7.1: %v of %v: told in another way behind what was done with an answer", v, plain)
		}
	}
	for _, s := range kit.Schemas() {
		for _, v := range slices.Concat(kit.Loose(s, 60), kit.Few(s, 12), kit.Wrong(s)) {
			try(s, v)
		}
	}
	for _, c := range kit.Splits() {
		for _, w := range append(kit.Wraps(), kit.Bare()) {
			for _, n := range []int{most, most + 1} {
				try(w.Schema(c.Schema), w.Value(turned(c.Schema, c.Make(0, n), turns()[5])))
			}
		}
	}
	for _, s := range kit.WrongSchemas()[:19] {
		try(s, set("b", "a"))
	}
}

// TestNothingIsKept: what is handed in again, changed, is told as it is now, and what was told stays.
func TestNothingIsKept(t *testing.T) {
	s := of(api.KMap, of(api.KCause, of(api.KSet)))
	v := keyed("k,j,k", cause(at(ticks(2, 1, 1, 1), set("b", "a"))), cause(at(nil, none)), cause(at(ticks(1, 1, 2, 1), set("c"))))
	first, err := canon.Put(s, v)
	told := kit.Written(first)
	if err != nil || told != kit.Written(keyed("j,k", cause(at(nil, none)), cause(at(ticks(1, 1, 2, 1), set("a", "b", "c"))))) {
		t.Fatalf("P7.1: %v, %v", first, err)
	}
	v.V[0].V[0].S[0], v.V[0].C[0][0].N, v.S[1] = "z", 2, "i"
	hold(t, []row{{s, v, keyed("i,k", cause(at(nil, none)), cause(at(ticks(1, 1, 2, 2), set("a", "z")))), 0}})
	if kit.Written(first) != told {
		t.Errorf("P7.1: what was told is another one now: %v", first)
	}
	s.In[0] = of(api.KMax)
	hold(t, []row{{s, v, none, api.ErrType}})

	c := ticks(3, 1, 1, 2)
	one, _ := canon.Clock(c)
	c[0].Who = 0
	two, err := canon.Clock(c)
	if err != nil || !slices.Equal(one, ticks(1, 2, 3, 1)) || !slices.Equal(two, ticks(0, 1, 1, 2)) {
		t.Errorf("P7.1: a clock that was changed: %v, %v, %v", one, two, err)
	}
}

// TestSharedLists: what hangs on one thing at several places is put as if it were there twice.
func TestSharedLists(t *testing.T) {
	l, c := []string{"c", "a", "b"}, ticks(2, 1, 1, 1)
	one := cause(at(c, api.Value{S: l}), at(c, api.Value{S: l[:2]}), at(c[:1], api.Value{S: l[1:]}))
	s := of(api.KPair, of(api.KCause, of(api.KSet)), of(api.KCause, of(api.KSet)))
	want := cause(at(ticks(1, 1, 2, 1), set("a", "b", "c")))
	got, err := canon.Put(s, pair(one, one))
	if err != nil || kit.Written(got) != kit.Written(pair(want, want)) {
		t.Fatalf("P7.1: %v, %v", got, err)
	}
	if !kit.Apart(none, got) {
		t.Error("P7.1: two lists of an answer lie in one place")
	}
	if !slices.Equal(l, []string{"c", "a", "b"}) || !slices.Equal(c, ticks(2, 1, 1, 1)) {
		t.Errorf("P7.1: changed: %v, %v", l, c)
	}
}
