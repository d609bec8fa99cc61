package parts_test

import (
	"slices"
	"strings"
	"testing"

	"trefoil/api"
	"trefoil/join"
	"trefoil/kit"
	"trefoil/parts"
	"trefoil/schema"
	"trefoil/value"
)

// A gap is two values of a schema, and what Diff is to answer of them.
type gap struct {
	s          api.Schema
	a, b, want api.Value
}

// compare asks of each, also with an empty list wherever it has none, and holds it against the document's words too.
func compare(t *testing.T, l []gap) {
	t.Helper()
	for i, c := range l {
		if told := amissDiff(c.s, c.a, c.b, c.want) + amissDiff(c.s, kit.Emptied(c.a), kit.Emptied(c.b), c.want) + amissTwice(c.s, c.a, c.b); told != "" {
			t.Errorf("P8.2: row %d: %s", i, told)
		}
		if words := rest(c.s, c.a, c.b); kit.Written(words) != kit.Written(c.want) {
			t.Errorf("row %d: the words say %v, not %v", i, words, c.want)
		}
	}
}

func TestDiffOfNumbers(t *testing.T) {
	number, or := of(api.KMax), of(api.KOr)
	compare(t, []gap{
		{number, none, none, none}, {number, none, num(1), num(1)}, {number, num(1), none, none}, {number, num(2), num(3), num(3)}, {number, num(3), num(2), none}, {number, num(3), num(3), none}, {number, num(9), num(10), num(10)}, {number, num(top), num(top), none}, {number, num(top - 1), num(top), num(top)}, {number, num(top), num(top - 1), none}, {number, num(1<<63 - 1), num(1 << 63), num(1 << 63)}, {number, num(1 << 63), num(1), none}, {number, none, num(top), num(top)},
		{or, none, none, none}, {or, none, num(1), num(1)}, {or, num(1), none, none}, {or, num(1), num(1), none},
	})
}

func TestDiffOfLasts(t *testing.T) {
	lasts := of(api.KLast)
	rising := []api.Value{none, last(0, 0, "\x00"), last(0, 0, "a"), last(0, 0, "ab"), last(0, 1, ""), last(0, 1, "z"), last(0, top, ""), last(1, 0, ""), last(1, 0, "10"), last(1, 0, "9"), last(1, 2, ""), last(top, 0, "a"), last(top, top, "")}
	for i, a := range rising {
		for k, b := range rising {
			if want := b; k > i {
				compare(t, []gap{{lasts, a, b, want}})
			} else {
				compare(t, []gap{{lasts, a, b, none}})
			}
		}
	}
}

func TestDiffOfSets(t *testing.T) {
	sets, brim := of(api.KSet), strings.Repeat("x", api.MaxText)
	compare(t, []gap{
		{sets, none, none, none}, {sets, none, set("a", "b"), set("a", "b")}, {sets, set("a", "b"), none, none}, {sets, set("a", "b"), set("a", "b"), none}, {sets, set("a"), set("a", "b"), set("b")}, {sets, set("a", "b"), set("a"), none}, {sets, set("a", "b"), set("b", "c"), set("c")}, {sets, set("b"), set("a", "b", "c"), set("a", "c")}, {sets, set("a", "c"), set("b"), set("b")}, {sets, set("a"), set("b"), set("b")},
		{sets, none, set(""), set("")}, {sets, set(""), set("", "a"), set("a")}, {sets, set("a"), set("", "a"), set("")}, {sets, set("a"), set("ab"), set("ab")}, {sets, set("ab"), set("a"), set("a")}, {sets, set(brim[1:]), set(brim[1:], brim), set(brim)}, {sets, set("\xff"), set("\xfe", "\xff"), set("\xfe")},
	})
}

func TestDiffOfClocks(t *testing.T) {
	ticking := of(api.KClock)
	compare(t, []gap{
		{ticking, none, none, none}, {ticking, none, clocks(ticks(1, 2, 3, 4)), clocks(ticks(1, 2, 3, 4))}, {ticking, clocks(ticks(1, 2)), none, none}, {ticking, clocks(ticks(1, 2)), clocks(ticks(1, 2)), none}, {ticking, clocks(ticks(1, 2)), clocks(ticks(1, 2, 3, 4)), clocks(ticks(3, 4))}, {ticking, clocks(ticks(3, 4)), clocks(ticks(1, 2)), clocks(ticks(1, 2))},
		// a tick that the other one is past is within it, though it is no part of it
		{ticking, clocks(ticks(1, 2)), clocks(ticks(1, 1)), none}, {ticking, clocks(ticks(1, 1)), clocks(ticks(1, 2)), clocks(ticks(1, 2))}, {ticking, clocks(ticks(1, 9, 2, 1)), clocks(ticks(1, 8, 2, 2, 3, 1)), clocks(ticks(2, 2, 3, 1))}, {ticking, clocks(ticks(0, 1, 1000000, 9)), clocks(ticks(0, 2, 1000000, 8)), clocks(ticks(0, 2))}, {ticking, clocks([]api.Tick{{Who: 1, N: top - 1}}), clocks([]api.Tick{{Who: 1, N: top}}), clocks([]api.Tick{{Who: 1, N: top}})},
	})
}

func TestDiffOfMaps(t *testing.T) {
	numbers, sets, deep, causes := of(api.KMap, of(api.KMax)), of(api.KMap, of(api.KSet)), of(api.KMap, of(api.KMap, of(api.KSet))), of(api.KMap, of(api.KCause, of(api.KMax)))
	two := of(api.KMap, of(api.KPair, of(api.KMax), of(api.KSet)))
	compare(t, []gap{
		{numbers, none, none, none}, {numbers, none, keyed("a,b", num(1), num(2)), keyed("a,b", num(1), num(2))}, {numbers, keyed("a", num(1)), none, none}, {numbers, keyed("a,b", num(1), num(2)), keyed("a,b", num(1), num(2)), none}, {numbers, keyed("a,b", num(1), num(2)), keyed("a,b", num(2), num(1)), keyed("a", num(2))}, {numbers, keyed("a", num(1)), keyed("b", num(1)), keyed("b", num(1))}, {numbers, keyed("a,c", num(9), num(9)), keyed(",b,c,d", num(1), num(1), num(1), num(1)), keyed(",b,d", num(1), num(1), num(1))}, {numbers, keyed("", num(1)), keyed(",a", num(2), num(1)), keyed(",a", num(2), num(1))}, {numbers, keyed("a", num(2)), keyed("", num(2)), keyed("", num(2))},
		{sets, keyed("k,l", set("a"), set("b")), keyed("k,m", set("a", "c"), set("d")), keyed("k,m", set("c"), set("d"))}, {sets, keyed("k", set("a", "b")), keyed("k,l", set("a"), set("b")), keyed("l", set("b"))}, {sets, keyed("k", set("a")), keyed("k", set("", "a")), keyed("k", set(""))}, {sets, keyed("k,l", set("a"), set("b")), keyed("k,l", set("b"), set("a")), keyed("k,l", set("b"), set("a"))},
		{deep, keyed("a", keyed("x,y", set("p"), set("q"))), keyed("a,b", keyed("x,y", set("p"), set("q", "r")), keyed("x", set("p"))), keyed("a,b", keyed("y", set("r")), keyed("x", set("p")))}, {deep, keyed("a", keyed("x", set("p", "q"))), keyed("a", keyed("x", set("q"))), none},
		{two, keyed("a", pair(num(2), none)), keyed("a", pair(num(1), set("x"))), keyed("a", pair(none, set("x")))}, {two, keyed("a", pair(num(2), set("x", "y"))), keyed("a", pair(num(3), set("x"))), keyed("a", pair(num(3), none))},
		{causes, keyed("a", cause(at(ticks(1, 2), none))), keyed("a,b", cause(at(ticks(1, 1), num(7))), cause(at(nil, none))), keyed("b", cause(at(nil, none)))}, {causes, keyed("a", cause(at(ticks(1, 1), none))), keyed("a", cause(at(ticks(1, 1), none), at(ticks(2, 1), none))), keyed("a", cause(at(ticks(2, 1), none)))},
	})
}

func TestDiffOfPairs(t *testing.T) {
	two, twice := of(api.KPair, of(api.KMax), of(api.KSet)), of(api.KPair, of(api.KSet), of(api.KSet))
	four := of(api.KPair, two, of(api.KPair, of(api.KLast), of(api.KClock)))
	bottom := pair(pair(none, none), pair(none, none))
	compare(t, []gap{
		{two, pair(none, none), pair(none, none), pair(none, none)}, {two, pair(none, none), pair(num(1), set("a")), pair(num(1), set("a"))}, {two, pair(num(1), set("a")), pair(none, none), pair(none, none)}, {two, pair(num(5), set("a")), pair(num(5), set("a")), pair(none, none)}, {two, pair(num(5), set("a")), pair(num(4), set("a", "b")), pair(none, set("b"))}, {two, pair(num(5), set("a")), pair(num(6), set("a")), pair(num(6), none)}, {two, pair(num(5), set("a")), pair(num(6), set("b")), pair(num(6), set("b"))}, {two, pair(num(5), none), pair(none, set("a")), pair(none, set("a"))}, {two, pair(none, set("a")), pair(num(5), none), pair(num(5), none)}, {two, pair(num(5), set("a", "b")), pair(num(4), set("b")), pair(none, none)},
		// the one side isn't the other one
		{twice, pair(set("a"), none), pair(none, set("a")), pair(none, set("a"))}, {twice, pair(set("a"), set("b")), pair(set("b"), set("a")), pair(set("b"), set("a"))}, {twice, pair(none, set("a")), pair(set("a"), set("a")), pair(set("a"), none)},
		{four, bottom, bottom, bottom}, {four, pair(pair(num(1), none), pair(last(2, 0, "x"), clocks(ticks(1, 5)))), pair(pair(num(2), none), pair(last(1, 9, "z"), clocks(ticks(1, 4, 2, 1)))), pair(pair(num(2), none), pair(none, clocks(ticks(2, 1))))}, {four, pair(pair(num(1), set("a")), pair(none, none)), pair(pair(num(1), set("a")), pair(last(0, 0, "x"), none)), pair(pair(none, none), pair(last(0, 0, "x"), none))},
	})
}

func TestDiffOfCauses(t *testing.T) {
	sets, two, within := of(api.KCause, of(api.KSet)), of(api.KCause, of(api.KPair, of(api.KMax), of(api.KSet))), of(api.KCause, of(api.KCause, of(api.KMax)))
	one, other, both, later := ticks(1, 1), ticks(2, 1), ticks(1, 1, 2, 1), ticks(1, 2)
	a, b, ab := set("a"), set("b"), set("a", "b")
	compare(t, []gap{
		{sets, none, none, none}, {sets, none, cause(at(one, ab), at(other, none)), cause(at(one, ab), at(other, none))}, {sets, cause(at(one, a)), none, none}, {sets, cause(at(one, a), at(other, b)), cause(at(one, a), at(other, b)), none},
		// of one clock
		{sets, cause(at(one, a)), cause(at(one, ab)), cause(at(one, b))}, {sets, cause(at(one, ab)), cause(at(one, a)), none}, {sets, cause(at(one, a)), cause(at(one, b)), cause(at(one, b))}, {two, cause(at(one, pair(num(2), a))), cause(at(one, pair(num(1), ab))), cause(at(one, pair(none, b)))},
		// versions of nothing
		{sets, none, cause(at(one, none)), cause(at(one, none))}, {sets, cause(at(one, none)), cause(at(one, none)), none}, {sets, cause(at(one, a)), cause(at(one, none)), none}, {sets, cause(at(one, none)), cause(at(one, a)), cause(at(one, a))}, {sets, cause(at(one, a)), cause(at(one, a), at(other, none)), cause(at(other, none))}, {sets, cause(at(other, none)), cause(at(one, none), at(other, a)), cause(at(one, none), at(other, a))}, {two, cause(at(one, pair(none, none))), cause(at(one, pair(none, none)), at(other, pair(none, none))), cause(at(other, pair(none, none)))},
		// of an empty clock: whoever has another version has seen it
		{sets, none, cause(at(nil, none)), cause(at(nil, none))}, {sets, cause(at(nil, none)), cause(at(nil, none)), none}, {sets, cause(at(nil, none)), cause(at(nil, a)), cause(at(nil, a))}, {sets, cause(at(nil, a)), cause(at(nil, none)), none}, {sets, cause(at(nil, a)), cause(at(nil, ab)), cause(at(nil, b))}, {sets, cause(at(one, none)), cause(at(nil, a)), none}, {sets, cause(at(one, b), at(other, none)), cause(at(nil, ab)), none}, {sets, cause(at(nil, ab)), cause(at(one, none)), cause(at(one, none))}, {sets, cause(at(nil, a)), cause(at(one, a), at(other, none)), cause(at(one, a), at(other, none))},
		// of which the other one has seen one, both, none
		{sets, cause(at(later, none)), cause(at(one, a), at(other, b)), cause(at(other, b))}, {sets, cause(at(ticks(2, 2), none)), cause(at(one, a), at(other, b)), cause(at(one, a))}, {sets, cause(at(both, none)), cause(at(one, a), at(other, b)), none}, {sets, cause(at(later, none), at(ticks(2, 2), none)), cause(at(one, a), at(other, b)), none}, {sets, cause(at(ticks(3, 1), none)), cause(at(one, a), at(other, b)), cause(at(one, a), at(other, b))}, {sets, cause(at(one, a)), cause(at(later, a)), cause(at(later, a))}, {sets, cause(at(later, none)), cause(at(one, a)), none},
		{sets, cause(at(later, a)), cause(at(both, set("z")), at(later, ab)), cause(at(both, set("z")), at(later, b))}, {sets, cause(at(ticks(1, 1, 2, 2), none), at(later, a)), cause(at(both, set("z")), at(later, ab)), cause(at(later, b))}, {sets, cause(at(one, a), at(other, b)), cause(at(both, none)), cause(at(both, none))},
		// causes in causes
		{within, cause(at(one, cause(at(later, none)))), cause(at(one, cause(at(one, num(5)), at(other, num(6))))), cause(at(one, cause(at(other, num(6)))))}, {within, cause(at(one, cause(at(later, none)))), cause(at(one, cause(at(one, num(5)))), at(other, none)), cause(at(other, none))}, {within, cause(at(later, none)), cause(at(one, cause(at(one, num(5))))), none}, {within, cause(at(one, none)), cause(at(one, cause(at(nil, none)))), cause(at(one, cause(at(nil, none))))}, {within, cause(at(one, cause(at(one, num(6))))), cause(at(other, cause(at(one, num(5))))), cause(at(other, cause(at(one, num(5)))))},
	})
}

// TestDiffOfFew holds any two of a few values of each schema against the document's words: all of b's parts, each held against the whole of a.
func TestDiffOfFew(t *testing.T) {
	for _, s := range kit.Schemas() {
		l, something, less := kit.Few(s, 30), 0, 0
		for _, a := range l {
			for _, b := range l {
				want := rest(s, a, b)
				if told := amissDiff(s, a, b, want); told != "" {
					t.Fatalf("P8.2: by %v: %s", s, told)
				}
				if !value.None(s, want) {
					something++
				}
				if !value.None(s, want) && !value.Same(want, b) {
					less++
				}
			}
		}
		number := s.Kind == api.KMax || s.Kind == api.KOr || s.Kind == api.KLast
		if something == 0 || number != (less == 0) {
			t.Errorf("by %v: of %d two %d have something beyond, %d not all", s, len(l)*len(l), something, less)
		}
	}
}

// TestDiffTwice: what was told is, held against the same, told again, against what has it nothing; and what two are together is beyond the one what the other is.
func TestDiffTwice(t *testing.T) {
	for _, s := range kit.Schemas() {
		l := kit.Few(s, 16)
		for _, a := range l {
			for _, b := range l {
				if told := amissTwice(s, a, b); told != "" {
					t.Fatalf("P8.2: by %v: %s", s, told)
				}
			}
		}
	}
}

// TestNoMoreThanMust: without any one part of what is told it isn't the whole any more.
func TestNoMoreThanMust(t *testing.T) {
	for _, s := range kit.Schemas() {
		l := kit.Few(s, 20)
		for _, a := range l {
			for _, b := range l {
				d, err := parts.Diff(s, a, b)
				p, other := parts.Parts(s, d)
				both, third := join.Join(s, a, b)
				if err != nil || other != nil || third != nil {
					t.Fatalf("P8.3: %v, %v of %v: %v, %v, %v", a, b, s, err, other, third)
				}
				for i := range p {
					some, err := join.All(s, append(slices.Delete(slices.Clone(p), i, i+1), a))
					if err != nil || value.Same(some, both) {
						t.Fatalf("P8.3: %v beyond %v of %v: %v too is told: %v", b, a, s, p[i], err)
					}
				}
			}
		}
	}
}

// TestDiffDeepInside: what one has beyond another it has however deep they lie, whatever lies around them.
func TestDiffDeepInside(t *testing.T) {
	for _, plain := range kit.Schemas() {
		l := kit.Few(plain, 7)[1:]
		for _, x := range l {
			for _, y := range l {
				for _, w := range kit.Wraps() {
					s, a, b, want := plain, x, y, rest(plain, x, y)
					for deep := 1; schema.Is(w.Schema(s)); deep++ {
						bottom := value.None(s, want)
						s, a, b, want = w.Schema(s), w.Value(a), w.Value(b), w.Value(want)
						if w.Name == "a pair's first" {
							want.V[1] = none
						}
						if bottom {
							want = value.Bottom(s)
						}
						if deep > 2 && schema.Is(w.Schema(s)) {
							continue
						}
						if told := amissDiff(s, a, b, want); told != "" {
							t.Fatalf("P8.2: in %s: %s", w.Name, told)
						}
					}
				}
			}
		}
	}
}

// TestDiffOfNone: of a and b of which one is nothing, all or nothing; wherever they lie.
func TestDiffOfNone(t *testing.T) {
	for _, plain := range kit.Schemas() {
		none := value.Bottom(plain)
		for _, v := range kit.Few(plain, 20) {
			compare(t, []gap{{plain, none, v, v}, {plain, v, none, none}, {plain, v, v, none}})
			for _, w := range kit.Wraps()[2:] {
				s := w.Schema(plain)
				bottom, whole := value.Bottom(s), w.Value(v)
				compare(t, []gap{{s, bottom, whole, whole}, {s, whole, bottom, bottom}, {s, whole, whole, bottom}, {s, whole, w.Value(none), bottom}})
			}
		}
	}
}

func TestExample(t *testing.T) {
	sets := of(api.KSet)
	for _, v := range kit.Few(sets, 20) {
		compare(t, []gap{{sets, v, v, none}})
	}
}

// TestDiffOfLarge: of as many as may be, and of such as are too large together: what b has beyond a is no more than b.
func TestDiffOfLarge(t *testing.T) {
	for _, c := range kit.Splits() {
		for _, by := range []struct{ to, from, end, beyond int }{
			{0, 0, most, 0}, {most, 0, 0, 0}, {most, 0, most, most}, {20, 0, most, 20}, {most - 1, 0, most, most - 1}, {most, 20, most, most}, {20, 20, most, 20}, {1, 1, most, 1},
			{most, most, 2 * most, most}, {most, 20, 20 + most, most}, {most, most, most + 1, most}, {1, 1, 1 + most, 1}, {20, 10, most + 1, 20},
		} {
			a, b, want := c.Make(0, by.to), c.Make(by.from, by.end), c.Make(max(by.beyond, by.from), by.end)
			compare(t, []gap{{c.Schema, a, b, want}})
			for _, w := range kit.Wraps() {
				s := w.Schema(c.Schema)
				if !value.Is(s, w.Value(a)) || !value.Is(s, w.Value(b)) {
					continue // a key that has nothing
				}
				compare(t, []gap{{s, w.Value(a), w.Value(b), rest(s, w.Value(a), w.Value(b))}})
				for schema.Is(w.Schema(s)) {
					s, a, b = w.Schema(s), w.Value(a), w.Value(b)
				}
				a, b := w.Value(a), w.Value(b)
				if told := amissDiff(s, a, b, rest(s, a, b)); told != "" {
					t.Errorf("P8.2: %s in %s: %s", c.Name, w.Name, told)
				}
			}
		}
	}
}

// TestDiffOfLargeBeside: one part that is too large together among others that aren't, wherever it stands.
func TestDiffOfLargeBeside(t *testing.T) {
	for _, c := range kit.Splits() {
		half, more, one, two := c.Make(0, 20), c.Make(19, most+1), c.Make(0, 1), c.Make(0, 2)
		for _, x := range kit.Threes() {
			for i := range 3 {
				a, b := list(one, one, one), list(two, two, two)
				a[i], b[i] = half, more
				want := list(c.Make(1, 2), c.Make(1, 2), c.Make(1, 2))
				want[i] = c.Make(20, most+1)
				compare(t, []gap{{x.Schema(c.Schema), x.Value(a), x.Value(b), x.Value(want)}})
			}
		}
	}
}

// TestDiffOfManyOfMany: as many as may be in each of as many as may be, of which the other one has some, or all, or too many others.
func TestDiffOfManyOfMany(t *testing.T) {
	for _, c := range kit.Splits() {
		for _, kind := range []int{api.KMap, api.KCause} {
			s, full := of(kind, c.Schema), square(kind, c.Make(0, most))
			for i, by := range []struct{ a, want api.Value }{{none, full}, {full, none}, {square(kind, c.Make(0, 20)), square(kind, c.Make(20, most))}, {square(kind, c.Make(1, most+1)), square(kind, c.Make(0, 1))}} {
				if got, err := parts.Diff(s, by.a, full); err != nil || !value.Same(got, by.want) {
					t.Errorf("P8.2: %s in Kind %d, row %d: %v", c.Name, kind, i, err)
				}
			}
		}
	}
}

// TestDiffOfWide: what is given and answered isn't large, though all parts at once would be far more than that.
func TestDiffOfWide(t *testing.T) {
	s := kit.Full(api.MaxDepth)
	ones := num(1)
	for range api.MaxDepth - 1 {
		ones = pair(ones, ones)
	}
	bottom := value.Bottom(s)
	for i, c := range []gap{{s, bottom, ones, ones}, {s, ones, bottom, bottom}, {s, ones, ones, bottom}} {
		if got, err := parts.Diff(c.s, c.a, c.b); err != nil || !value.Same(got, c.want) {
			t.Errorf("P8.2: pairs of pairs, row %d: %v", i, err)
		}
	}
	deep := of(api.KMap, of(api.KMap, of(api.KSet)))
	a, b, want := square(api.KMap, square(api.KMap, set(kit.Texts(0, 20)...))), square(api.KMap, square(api.KMap, set(kit.Texts(0, most)...))), square(api.KMap, square(api.KMap, set(kit.Texts(20, most)...)))
	if got, err := parts.Diff(deep, a, b); err != nil || !value.Same(got, want) {
		t.Errorf("P8.2: maps of maps of sets: %v", err)
	}
}
