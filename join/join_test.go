package join_test

import (
	"math"
	"slices"
	"strings"
	"testing"

	"trefoil/api"
	"trefoil/join"
	"trefoil/kit"
	"trefoil/schema"
	"trefoil/value"
)

const top = math.MaxUint64

// A joined is two values of a schema, and what they are together.
type joined struct {
	s          api.Schema
	a, b, want api.Value
}

// try joins both ways round, and holds what comes of it against c.want.
func (c joined) try(t *testing.T, row int) {
	t.Helper()
	for _, l := range [][2]api.Value{{c.a, c.b}, {c.b, c.a}} {
		got, err := join.Join(c.s, l[0], l[1])
		if err != nil || kit.Written(got) != kit.Written(c.want) {
			t.Errorf("P5.1: row %d: Join(%v, %v): %v, %v, want %v", row, l[0], l[1], got, err, c.want)
		}
		if all, err := join.All(c.s, l[:]); err != nil || kit.Written(all) != kit.Written(c.want) {
			t.Errorf("P5.1: row %d: All(%v): %v, %v, want %v", row, l, all, err, c.want)
		}
	}
	if want := together(c.s, c.a, c.b); kit.Written(want) != kit.Written(c.want) {
		t.Errorf("row %d: the words say %v, not %v", row, want, c.want)
	}
}

func TestJoinOfNumbers(t *testing.T) {
	most, or := of(api.KMax), of(api.KOr)
	for i, c := range []joined{
		{most, none, none, none}, {most, num(3), num(3), num(3)}, {most, none, num(1), num(1)}, {most, num(3), num(9), num(9)}, {most, num(10), num(9), num(10)},
		{most, num(top), num(top - 1), num(top)}, {most, num(1 << 63), num(1), num(1 << 63)}, {most, num(top), num(top), num(top)},
		{or, none, none, none}, {or, none, num(1), num(1)}, {or, num(1), num(1), num(1)},
	} {
		c.try(t, i)
	}
}

func TestJoinOfSets(t *testing.T) {
	sets := of(api.KSet)
	brim := strings.Repeat("x", api.MaxText)
	for i, c := range []joined{
		{sets, none, none, none}, {sets, none, set("a"), set("a")}, {sets, set("a"), set("a"), set("a")}, {sets, set(""), none, set("")},
		{sets, set("a", "c"), set("b"), set("a", "b", "c")}, {sets, set("a", "b"), set("c", "d"), set("a", "b", "c", "d")}, {sets, set("a", "b"), set("b", "c"), set("a", "b", "c")}, {sets, set("a", "b", "c"), set("b"), set("a", "b", "c")}, {sets, set("a", "b"), set("a", "b"), set("a", "b")},
		{sets, set("ab"), set("", "a", "b"), set("", "a", "ab", "b")}, {sets, set("\xff"), set("\x00", "é"), set("\x00", "é", "\xff")}, {sets, set(brim), set("x", brim[1:]), set("x", brim[1:], brim)},
	} {
		c.try(t, i)
	}
}

func TestJoinOfMaps(t *testing.T) {
	numbers, sets, two := of(api.KMap, of(api.KMax)), of(api.KMap, of(api.KSet)), of(api.KMap, of(api.KPair, of(api.KMax), of(api.KSet)))
	deep := of(api.KMap, sets)
	for i, c := range []joined{
		{numbers, none, none, none}, {numbers, none, keyed("a", num(1)), keyed("a", num(1))}, {numbers, keyed("a", num(1)), keyed("a", num(1)), keyed("a", num(1))},
		{numbers, keyed("a", num(1)), keyed("a", num(2)), keyed("a", num(2))}, {numbers, keyed("a", num(1)), keyed("b", num(2)), keyed("a,b", num(1), num(2))}, {numbers, keyed("a,b", num(1), num(5)), keyed("b,c", num(2), num(3)), keyed("a,b,c", num(1), num(5), num(3))}, {numbers, keyed("b", num(1)), keyed(",a,b,c", num(1), num(2), num(3), num(4)), keyed(",a,b,c", num(1), num(2), num(3), num(4))},
		{sets, keyed("a", set("x")), keyed("a", set("y")), keyed("a", set("x", "y"))}, {sets, keyed("a", set("x")), keyed("b", set("x")), keyed("a,b", set("x"), set("x"))},
		{two, keyed("a", pair(num(1), none)), keyed("a", pair(none, set("x"))), keyed("a", pair(num(1), set("x")))}, {two, keyed("a", pair(num(1), none)), keyed("b", pair(none, set("x"))), keyed("a,b", pair(num(1), none), pair(none, set("x")))},
		{deep, keyed("a", keyed("x", set("p"))), keyed("a", keyed("x,y", set("q"), set("r"))), keyed("a", keyed("x,y", set("p", "q"), set("r")))}, {deep, keyed("a", keyed("x", set("p"))), keyed("b", keyed("x", set("p"))), keyed("a,b", keyed("x", set("p")), keyed("x", set("p")))},
	} {
		c.try(t, i)
	}
}

func TestJoinOfPairs(t *testing.T) {
	two := of(api.KPair, of(api.KMax), of(api.KSet))
	four := of(api.KPair, two, of(api.KPair, of(api.KLast), of(api.KOr)))
	for i, c := range []joined{
		{two, pair(none, none), pair(none, none), pair(none, none)}, {two, pair(num(1), none), pair(none, none), pair(num(1), none)}, {two, pair(none, set("a")), pair(none, none), pair(none, set("a"))},
		{two, pair(num(1), set("a")), pair(num(2), set("a")), pair(num(2), set("a"))}, {two, pair(num(1), set("a")), pair(num(1), set("b")), pair(num(1), set("a", "b"))}, {two, pair(num(1), set("a")), pair(num(2), none), pair(num(2), set("a"))}, {two, pair(num(7), none), pair(none, set("")), pair(num(7), set(""))},
		{four, pair(pair(num(1), none), pair(last(2, 0, "x"), num(1))), pair(pair(num(2), set("a")), pair(last(1, 9, "y"), none)), pair(pair(num(2), set("a")), pair(last(2, 0, "x"), num(1)))},
	} {
		c.try(t, i)
	}
}

func TestJoinOfLasts(t *testing.T) {
	lasts := of(api.KLast)
	for i, c := range []joined{
		{lasts, none, none, none}, {lasts, none, last(0, 0, "a"), last(0, 0, "a")}, {lasts, none, last(0, 1, ""), last(0, 1, "")}, {lasts, none, last(1, 0, ""), last(1, 0, "")},
		{lasts, last(1, 9, "z"), last(2, 0, ""), last(2, 0, "")}, {lasts, last(9, 1, "a"), last(10, 0, ""), last(10, 0, "")}, {lasts, last(top, 0, ""), last(1<<63, top, "z"), last(top, 0, "")},
		{lasts, last(2, 1, "z"), last(2, 3, "a"), last(2, 3, "a")}, {lasts, last(0, 1, ""), last(0, 0, "z"), last(0, 1, "")}, {lasts, last(2, top, ""), last(2, 1, "z"), last(2, top, "")},
		{lasts, last(2, 3, "a"), last(2, 3, "b"), last(2, 3, "b")}, {lasts, last(2, 3, ""), last(2, 3, "\x00"), last(2, 3, "\x00")}, {lasts, last(2, 3, "a"), last(2, 3, "ab"), last(2, 3, "ab")}, {lasts, last(2, 3, "ab"), last(2, 3, "b"), last(2, 3, "b")}, {lasts, last(2, 3, "Z"), last(2, 3, "a"), last(2, 3, "a")}, {lasts, last(2, 3, "10"), last(2, 3, "9"), last(2, 3, "9")}, {lasts, last(2, 3, "z"), last(2, 3, "\xff"), last(2, 3, "\xff")},
		{lasts, last(2, 3, "a"), last(2, 3, "a"), last(2, 3, "a")},
	} {
		c.try(t, i)
	}
}

func TestJoinOfClocks(t *testing.T) {
	ticking := of(api.KClock)
	for i, c := range []joined{
		{ticking, none, none, none}, {ticking, none, clocks(ticks(1, 1)), clocks(ticks(1, 1))}, {ticking, clocks(ticks(1, 1)), clocks(ticks(1, 1)), clocks(ticks(1, 1))}, {ticking, clocks(ticks(1, 1)), clocks(ticks(1, 2)), clocks(ticks(1, 2))},
		{ticking, clocks(ticks(1, 1)), clocks(ticks(2, 1)), clocks(ticks(1, 1, 2, 1))}, {ticking, clocks(ticks(1, 2, 2, 1)), clocks(ticks(1, 1, 2, 2)), clocks(ticks(1, 2, 2, 2))}, {ticking, clocks(ticks(1, 2)), clocks(ticks(1, 1, 3, 1)), clocks(ticks(1, 2, 3, 1))}, {ticking, clocks(ticks(0, 5, 9, 5)), clocks(ticks(4, 1, 9, 6, 1000000, 1)), clocks(ticks(0, 5, 4, 1, 9, 6, 1000000, 1))},
	} {
		c.try(t, i)
	}
}

func TestJoinOfCauses(t *testing.T) {
	sets, two, within := of(api.KCause, of(api.KSet)), of(api.KCause, of(api.KPair, of(api.KMax), of(api.KSet))), of(api.KCause, of(api.KCause, of(api.KMax)))
	one, other, both := ticks(1, 1), ticks(2, 1), ticks(1, 1, 2, 1)
	for i, c := range []joined{
		// of one clock
		{sets, none, none, none}, {sets, none, cause(at(one, set("a"))), cause(at(one, set("a")))}, {sets, cause(at(nil, none)), none, cause(at(nil, none))}, {sets, cause(at(one, none)), none, cause(at(one, none))},
		{sets, cause(at(one, set("a"))), cause(at(one, set("b"))), cause(at(one, set("a", "b")))}, {sets, cause(at(one, set("a"))), cause(at(one, none)), cause(at(one, set("a")))}, {sets, cause(at(nil, set("a"))), cause(at(nil, set("b"))), cause(at(nil, set("a", "b")))}, {two, cause(at(one, pair(num(1), none))), cause(at(one, pair(none, set("x")))), cause(at(one, pair(num(1), set("x"))))},
		{sets, cause(at(one, set("a")), at(other, set("p"))), cause(at(one, set("b")), at(other, set("q"))), cause(at(one, set("a", "b")), at(other, set("p", "q")))}, {sets, cause(at(one, set("a")), at(other, set("p"))), cause(at(other, set("q"))), cause(at(one, set("a")), at(other, set("p", "q")))},
		// below another one
		{sets, cause(at(nil, set("a"))), cause(at(one, none)), cause(at(one, none))}, {sets, cause(at(one, set("a"))), cause(at(ticks(1, 2), set("b"))), cause(at(ticks(1, 2), set("b")))}, {sets, cause(at(one, set("a"))), cause(at(both, set("b"))), cause(at(both, set("b")))}, {sets, cause(at(other, set("a"))), cause(at(both, set("b"))), cause(at(both, set("b")))},
		{sets, cause(at(one, set("a")), at(ticks(3, 1), set("c"))), cause(at(both, set("b"))), cause(at(both, set("b")), at(ticks(3, 1), set("c")))}, {sets, cause(at(one, set("a")), at(ticks(2, 2), set("c"))), cause(at(both, set("b"))), cause(at(both, set("b")), at(ticks(2, 2), set("c")))},
		// one below another one each way
		{sets, cause(at(one, set("a")), at(ticks(2, 2), set("b"))), cause(at(ticks(1, 2), set("c")), at(other, set("d"))), cause(at(ticks(1, 2), set("c")), at(ticks(2, 2), set("b")))},
		// that has seen all
		{sets, cause(at(one, set("a")), at(other, set("b"))), cause(at(both, set("c"))), cause(at(both, set("c")))}, {sets, cause(at(one, set("a")), at(other, set("b")), at(ticks(3, 4), set("z"))), cause(at(ticks(1, 1, 2, 1, 3, 4), none)), cause(at(ticks(1, 1, 2, 1, 3, 4), none))},
		// beside one another, in order
		{sets, cause(at(other, set("b"))), cause(at(one, set("a"))), cause(at(one, set("a")), at(other, set("b")))}, {sets, cause(at(ticks(1, 2), set("a")), at(ticks(2, 2), set("b"))), cause(at(ticks(1, 1, 2, 1), set("z"))), cause(at(ticks(1, 1, 2, 1), set("z")), at(ticks(1, 2), set("a")), at(ticks(2, 2), set("b")))}, {sets, cause(at(ticks(1, 2), none)), cause(at(ticks(1, 1, 3, 1), none)), cause(at(ticks(1, 1, 3, 1), none), at(ticks(1, 2), none))}, {sets, cause(at(ticks(10, 1), none)), cause(at(ticks(9, 1), none)), cause(at(ticks(9, 1), none), at(ticks(10, 1), none))}, {sets, cause(at(ticks(1, 10), none)), cause(at(ticks(1, 9, 2, 1), none)), cause(at(ticks(1, 9, 2, 1), none), at(ticks(1, 10), none))}, {sets, cause(at(ticks(1, 1, 2, 2), none)), cause(at(ticks(1, 2, 2, 1), none)), cause(at(ticks(1, 1, 2, 2), none), at(ticks(1, 2, 2, 1), none))},
		{sets, cause(at(ticks(1, 1, 9, 1), set("a")), at(ticks(1, 3), set("c"))), cause(at(ticks(1, 2, 5, 1), set("b")), at(ticks(4, 1), set("d"))), cause(at(ticks(1, 1, 9, 1), set("a")), at(ticks(1, 2, 5, 1), set("b")), at(ticks(1, 3), set("c")), at(ticks(4, 1), set("d")))},
		// causes in causes
		{within, cause(at(one, cause(at(one, num(1))))), cause(at(one, cause(at(other, num(2))))), cause(at(one, cause(at(one, num(1)), at(other, num(2)))))}, {within, cause(at(one, cause(at(one, num(1))))), cause(at(one, cause(at(both, num(2))))), cause(at(one, cause(at(both, num(2)))))}, {within, cause(at(one, cause(at(one, num(1))))), cause(at(ticks(1, 2), none)), cause(at(ticks(1, 2), none))},
	} {
		c.try(t, i)
	}
}

// TestJoinDeepInside: what two values are together they are however deep they lie.
func TestJoinDeepInside(t *testing.T) {
	for _, c := range kit.Samples() {
		for _, w := range kit.Wraps() {
			s, a, b := c.Schema, c.Values[1], c.Values[len(c.Values)-1]
			want := together(s, a, b)
			for schema.Is(w.Schema(s)) {
				s, a, b, want = w.Schema(s), w.Value(a), w.Value(b), w.Value(want)
				if got, err := join.Join(s, a, b); err != nil || kit.Written(got) != kit.Written(want) {
					t.Fatalf("P5.1: in %s: Join(%v, %v): %v, %v", w.Name, a, b, got, err)
				}
			}
		}
	}
}

// TestJoinOfFew holds any two of a few values of each schema against the document's words.
func TestJoinOfFew(t *testing.T) {
	for _, s := range kit.Schemas() {
		l := kit.Few(s, 64)
		if len(l) < 2 || !value.None(s, l[0]) {
			t.Fatalf("%v: %d values", s, len(l))
		}
		for _, a := range l {
			for _, b := range l {
				want := together(s, a, b)
				got, err := join.Join(s, a, b)
				if err != nil || kit.Written(got) != kit.Written(want) {
					t.Fatalf("P5.1: Join(%v, %v, %v): %v, %v, want %v", s, a, b, got, err, want)
				}
				if !value.Is(s, got) {
					t.Fatalf("P5.1: Join(%v, %v, %v): %v is no value of it", s, a, b, got)
				}
			}
		}
	}
}

// TestWhateverOrder: of any three of a few, joined in whatever order, this one first or that one, some of them twice, the same comes.
func TestWhateverOrder(t *testing.T) {
	put := func(s api.Schema, a, b api.Value) api.Value {
		v, err := join.Join(s, a, b)
		if err != nil {
			t.Fatalf("P5.2: Join(%v, %v, %v): %v", s, a, b, err)
		}
		return v
	}
	for _, s := range kit.Schemas() {
		l := kit.Few(s, 12)
		for _, a := range l {
			for _, b := range l {
				ab := put(s, a, b)
				if kit.Written(ab) != kit.Written(put(s, b, a)) || kit.Written(ab) != kit.Written(put(s, ab, b)) || kit.Written(ab) != kit.Written(put(s, a, ab)) {
					t.Fatalf("P5.2: %v, %v of %v: another one in another order, or again", a, b, s)
				}
				for _, c := range l {
					if kit.Written(put(s, ab, c)) != kit.Written(put(s, a, put(s, b, c))) {
						t.Fatalf("P5.2: %v, %v, %v of %v: another one in another order", a, b, c, s)
					}
				}
			}
			if kit.Written(put(s, a, a)) != kit.Written(a) || kit.Written(put(s, a, value.Bottom(s))) != kit.Written(a) || kit.Written(put(s, value.Bottom(s), a)) != kit.Written(a) {
				t.Fatalf("P5.2: %v of %v: another one with itself, or with nothing", a, s)
			}
		}
	}
}

// orders gives l in all orders.
func orders(l []api.Value) [][]api.Value {
	if len(l) == 0 {
		return [][]api.Value{nil}
	}
	var out [][]api.Value
	for i, v := range l {
		for _, rest := range orders(slices.Delete(slices.Clone(l), i, i+1)) {
			out = append(out, append([]api.Value{v}, rest...))
		}
	}
	return out
}

// TestAllInWhateverOrder: All of four of a few in each order, and with some of them again.
func TestAllInWhateverOrder(t *testing.T) {
	for _, s := range kit.Schemas() {
		l := kit.Few(s, 20)
		for i := range l {
			four := []api.Value{l[i], l[(3*i+1)%len(l)], l[(7*i+2)%len(l)], l[(11*i+3)%len(l)]}
			want := value.Bottom(s)
			for _, v := range four {
				want = together(s, want, v)
			}
			for k, order := range orders(four) {
				for _, row := range [][]api.Value{order, append(slices.Clone(order), order[:k%4]...), append(slices.Clone(order[k%4:]), order...)} {
					if got, err := join.All(s, row); err != nil || kit.Written(got) != kit.Written(want) {
						t.Fatalf("P5.2: All(%v, %v): %v, %v, want %v", s, row, got, err, want)
					}
				}
			}
		}
	}
}

func TestAll(t *testing.T) {
	for _, c := range kit.Samples() {
		s, bottom := c.Schema, c.Values[0]
		for _, l := range [][]api.Value{nil, {}, {bottom}, {bottom, bottom}} {
			if got, err := join.All(s, l); err != nil || kit.Written(got) != kit.Written(bottom) {
				t.Errorf("P5.1: All(%v) of %d that are nothing: %v, %v", s, len(l), got, err)
			}
		}
		for _, v := range c.Values {
			for _, l := range [][]api.Value{{v}, {v, v, v}, {bottom, v}, {v, bottom}} {
				if got, err := join.All(s, l); err != nil || kit.Written(got) != kit.Written(v) {
					t.Errorf("P5.1: All(%v, %v): %v, %v", s, l, got, err)
				}
			}
		}
		want := bottom
		for _, v := range c.Values {
			want = together(s, want, v)
		}
		if got, err := join.All(s, c.Values); err != nil || kit.Written(got) != kit.Written(want) {
			t.Errorf("P5.1: All(%v, %v): %v, %v", s, c.Values, got, err)
		}
	}
	row := func(from, to int) api.Value { return set(kit.Texts(from, to)...) }
	if got, err := join.All(of(api.KSet), slices.Repeat([]api.Value{row(0, 3), row(2, 9), row(7, api.MaxItems)}, 1000)); err != nil || kit.Written(got) != kit.Written(row(0, api.MaxItems)) {
		t.Errorf("P5.1: All of thousands: %v, %v", got, err)
	}
}

func TestExample(t *testing.T) {
	if got, err := join.Join(of(api.KSet), set("a"), set("b")); err != nil || kit.Written(got) != kit.Written(set("a", "b")) {
		t.Errorf("P5.1: sets a, b: %v, %v", got, err)
	}
}

// TestLarge: just as many as may be, and one more, however they are spread over the two, however deep they lie.
func TestLarge(t *testing.T) {
	const most = api.MaxItems
	for _, c := range kit.Splits() {
		for _, w := range append(kit.Wraps(), kit.Bare()) {
			for _, by := range []struct{ to, from, end int }{{20, 20, most}, {most, 0, most}, {most, 1, most}, {1, 1, most}, {39, 1, most}, {20, 20, most + 1}, {1, 1, most + 1}, {most, 1, most + 1}, {most, most, most + 1}, {20, 10, most + 1}, {most, most, 2 * most}, {most, 20, 20 + most}} {
				s, a, b, want := c.Schema, c.Make(0, by.to), c.Make(by.from, by.end), c.Make(0, by.end)
				for range 5 {
					s, a, b, want = w.Schema(s), w.Value(a), w.Value(b), w.Value(want)
					for _, l := range [][]api.Value{{a, b}, {b, a}} {
						v, err := join.Join(s, l[0], l[1])
						all, other := join.All(s, l)
						if by.end > most && (!refused(v, err, api.ErrLarge) || !refused(all, other, api.ErrLarge)) {
							t.Errorf("P5.1: %d %s in %s: %v, %v", by.end, c.Name, w.Name, err, other)
						}
						if by.end <= most && (err != nil || other != nil || kit.Written(v) != kit.Written(want) || kit.Written(all) != kit.Written(want)) {
							t.Errorf("P5.1: %d %s in %s: %v, %v", by.end, c.Name, w.Name, err, other)
						}
					}
				}
			}
		}
	}
}

// TestLargeBeside: one part that is too large among others that aren't, wherever it stands.
func TestLargeBeside(t *testing.T) {
	for _, c := range kit.Splits() {
		half, rest, small := c.Make(0, 20), c.Make(20, api.MaxItems+1), c.Make(0, 1)
		for _, x := range kit.Threes() {
			for i := range 3 {
				a, b := []api.Value{small, small, small}, []api.Value{small, small, small}
				a[i], b[i] = half, rest
				if v, err := join.Join(x.Schema(c.Schema), x.Value(a), x.Value(b)); !refused(v, err, api.ErrLarge) {
					t.Errorf("P5.1: %s, part %d of %s: %v, %v", c.Name, i, x.Name, v, err)
				}
			}
		}
	}
}

// TestNotLarge: what isn't there in the end isn't too large.
func TestNotLarge(t *testing.T) {
	causes, sets := of(api.KCause, of(api.KMax)), of(api.KCause, of(api.KSet))
	var seen []api.Tick
	for i := range api.MaxItems {
		seen = append(seen, api.Tick{Who: i, N: 1})
	}
	versions := func(from, to int) api.Value { return kit.Versions(from, to, 1) }
	after := func(from, to int) api.Value { return kit.Versions(from, to, 2) }
	half, rest := set(kit.Texts(0, 20)...), set(kit.Texts(20, api.MaxItems+1)...)
	for i, c := range []joined{
		{causes, versions(0, api.MaxItems), cause(at(seen, num(1))), cause(at(seen, num(1)))},
		{causes, versions(0, api.MaxItems), after(0, api.MaxItems), after(0, api.MaxItems)},
		{causes, versions(0, api.MaxItems), versions(0, api.MaxItems), versions(0, api.MaxItems)},
		{causes, versions(0, api.MaxItems), after(20, 40), cause(slices.Concat(each(versions(0, 20)), each(after(20, 40)))...)},
		{causes, cause(at(seen, none)), cause(at(ticks(0, 2), none)), cause(at(seen, none), at(ticks(0, 2), none))},
		{sets, cause(at(ticks(1, 1), half)), cause(at(ticks(1, 2), rest)), cause(at(ticks(1, 2), rest))},
		{sets, cause(at(ticks(1, 1), half)), cause(at(ticks(2, 1), rest)), cause(at(ticks(1, 1), half), at(ticks(2, 1), rest))},
		{of(api.KMap, of(api.KSet)), keyed("a", half), keyed("b", rest), keyed("a,b", half, rest)},
		{of(api.KPair, of(api.KSet), of(api.KSet)), pair(half, none), pair(none, rest), pair(half, rest)},
	} {
		c.try(t, i)
	}
	if v, err := join.Join(causes, versions(0, api.MaxItems), after(1, api.MaxItems+1)); !refused(v, err, api.ErrLarge) {
		t.Errorf("P5.1: one version is left of the one, all of the other: %v, %v", v, err)
	}
}

// each gives the versions of a cause.
func each(v api.Value) []kit.Version {
	var l []kit.Version
	for i, c := range v.C {
		l = append(l, at(c, v.V[i]))
	}
	return l
}

// TestAllIsOneByOne: what is too large on the way is too large, also where one that comes later has seen it all.
func TestAllIsOneByOne(t *testing.T) {
	causes := of(api.KCause, of(api.KMax))
	var l []api.Value
	for i := range api.MaxItems + 1 {
		l = append(l, cause(at(ticks(1, i+1, 2, api.MaxItems+1-i), none)))
	}
	seer := cause(at(ticks(1, 50, 2, 50), num(1)))
	for n := range l {
		if v, err := join.All(causes, append(slices.Clone(l[:n]), seer)); err != nil || kit.Written(v) != kit.Written(seer) {
			t.Errorf("P5.1: %d versions, then one that has seen them: %v, %v", n, v, err)
		}
	}
	if v, err := join.All(causes, append(slices.Clone(l), seer)); !refused(v, err, api.ErrLarge) {
		t.Errorf("P5.1: %d versions, then one that has seen them: %v, %v", len(l), v, err)
	}
	if v, err := join.All(causes, append([]api.Value{seer}, l...)); err != nil || kit.Written(v) != kit.Written(seer) {
		t.Errorf("P5.1: one, then %d versions that it has seen: %v, %v", len(l), v, err)
	}
}

func TestNoSchema(t *testing.T) {
	for _, s := range kit.WrongSchemas() {
		for _, a := range []api.Value{none, num(1), set("a"), pair(none, none), keyed("a", num(1)), cause(at(ticks(1, 1), none))} {
			if v, err := join.Join(s, a, a); !refused(v, err, api.ErrType) {
				t.Errorf("P5.1: Join by %v, that is no schema: %v, %v", s.Kind, v, err)
			}
			if v, err := join.All(s, []api.Value{a}); !refused(v, err, api.ErrType) {
				t.Errorf("P5.1: All by %v, that is no schema: %v, %v", s.Kind, v, err)
			}
		}
		for _, l := range [][]api.Value{nil, {}} {
			if v, err := join.All(s, l); !refused(v, err, api.ErrType) {
				t.Errorf("P5.1: All of none by %v, that is no schema: %v, %v", s.Kind, v, err)
			}
		}
	}
}

// TestWrong: one that isn't of the schema, on either side, on both, wherever it stands in a row; and deep inside.
func TestWrong(t *testing.T) {
	for m := range kit.Misfits() {
		for _, l := range m.Twos() {
			if v, err := join.Join(m.Schema, l[0], l[1]); !refused(v, err, api.ErrType) {
				t.Fatalf("P5.1: Join(%v, %v, %v): %v, %v", m.Schema, l[0], l[1], v, err)
			}
		}
		for i := range 4 {
			if v, err := join.All(m.Schema, slices.Insert([]api.Value{m.Right, m.Right, m.Right}, i, m.Bad)); !refused(v, err, api.ErrType) {
				t.Fatalf("P5.1: All by %v, %v at %d: %v, %v", m.Schema, m.Bad, i, v, err)
			}
		}
	}
}

// TestFirstError: of the wrong and the large that which comes first.
func TestFirstError(t *testing.T) {
	sets := of(api.KSet)
	half, rest, over, bad := set(kit.Texts(0, 20)...), set(kit.Texts(20, 41)...), set(kit.Texts(0, 41)...), num(1)
	for i, c := range []struct {
		l    []api.Value
		want api.Errno
	}{
		{[]api.Value{half, rest, bad}, api.ErrLarge}, {[]api.Value{half, bad, rest}, api.ErrType}, {[]api.Value{bad, half, rest}, api.ErrType}, {[]api.Value{over}, api.ErrType}, {[]api.Value{half, over}, api.ErrType}, {[]api.Value{half, rest, over}, api.ErrLarge}, {[]api.Value{rest, half, half, bad}, api.ErrLarge}, {[]api.Value{half, rest, rest}, api.ErrLarge},
	} {
		if v, err := join.All(sets, c.l); !refused(v, err, c.want) {
			t.Errorf("P5.1: row %d: %v, %v", i, v, err)
		}
	}
	for i, c := range [][2]api.Value{{over, half}, {half, over}, {over, over}, {over, rest}, {bad, over}} {
		if v, err := join.Join(sets, c[0], c[1]); !refused(v, err, api.ErrType) {
			t.Errorf("P5.1: row %d: %v, %v", i, v, err)
		}
	}
	two := of(api.KPair, sets, of(api.KOr))
	if v, err := join.Join(two, pair(half, none), pair(rest, num(2))); !refused(v, err, api.ErrType) {
		t.Errorf("P5.1: too large, and behind it a wrong one: %v, %v", v, err)
	}
}

// TestFar: far deeper, far wider than a value may be; and as wide as a schema can be.
func TestFar(t *testing.T) {
	far := kit.Far()
	for _, c := range kit.Samples() {
		for _, x := range far {
			if v, err := join.Join(c.Schema, x, c.Values[0]); !refused(v, err, api.ErrType) {
				t.Errorf("P5.1: by %v: %v", c.Schema, err)
			}
			if v, err := join.All(c.Schema, []api.Value{c.Values[0], x}); !refused(v, err, api.ErrType) {
				t.Errorf("P5.1: by %v: %v", c.Schema, err)
			}
		}
	}
	s := kit.Full(api.MaxDepth)
	a, b := value.Bottom(s), value.Bottom(s)
	x, y := &a, &b
	for range api.MaxDepth - 1 {
		x, y = &x.V[0], &y.V[1]
	}
	x.N, y.N = 1, 2
	if got, err := join.Join(s, a, b); err != nil || kit.Written(got) != kit.Written(together(s, a, b)) || value.Size(got) != 1<<api.MaxDepth-1 {
		t.Errorf("P5.1: pairs of pairs: %v", err)
	}
}

// answers are what the calls tell of these values, each twice.
func answers(t *testing.T, s api.Schema, l []api.Value) []api.Value {
	var out []api.Value
	for range 2 {
		v, err := join.Join(s, l[0], l[1])
		all, other := join.All(s, l)
		one, third := join.All(s, l[:1])
		if err != nil || other != nil || third != nil {
			t.Fatalf("P5.1: %v of %v: %v, %v, %v", l, s, err, other, third)
		}
		out = append(out, v, all, one)
	}
	return out
}

// TestHandedInStays: values, rows of them and schemas, all the way in, and the room behind them, are as they were; what is answered lies nowhere else, not in another answer, no two of its lists in one place.
func TestHandedInStays(t *testing.T) {
	for _, plain := range kit.Schemas() {
		l := kit.Few(plain, 12)
		for _, a := range l {
			for _, b := range l {
				s, handed := kit.RoomySchema(plain), kit.Roomy(pair(a, b, a))
				was := kit.LaidSchema(s) + kit.Laid(handed)
				got := answers(t, s, handed.V)
				if kit.LaidSchema(s)+kit.Laid(handed) != was {
					t.Fatalf("P5.1: %v, %v of %v were changed", a, b, plain)
				}
				if !kit.Apart(handed, got...) {
					t.Fatalf("P5.1: %v, %v of %v: an answer lies where something else does", a, b, plain)
				}
			}
		}
	}
}

// TestRefusedStays: what is handed in is as it was also where the answer is an error, and the same error comes again.
func TestRefusedStays(t *testing.T) {
	try := func(plain api.Schema, a, b api.Value, want api.Errno) {
		s, handed := kit.RoomySchema(plain), kit.Roomy(pair(a, b, a))
		was := kit.LaidSchema(s) + kit.Laid(handed)
		for range 2 {
			v, err := join.Join(s, handed.V[0], handed.V[1])
			all, other := join.All(s, handed.V)
			if !refused(v, err, want) || !refused(all, other, want) || kit.LaidSchema(s)+kit.Laid(handed) != was {
				t.Fatalf("P5.1: %v, %v of %v: %v, %v, or changed", a, b, plain, err, other)
			}
		}
	}
	for _, c := range kit.Samples() {
		for _, x := range kit.Wrong(c.Schema) {
			try(c.Schema, x, c.Values[1], api.ErrType)
			try(c.Schema, c.Values[1], x, api.ErrType)
		}
	}
	for _, c := range kit.Splits() {
		for _, w := range kit.Wraps() {
			try(w.Schema(c.Schema), w.Value(c.Make(0, 20)), w.Value(c.Make(20, 41)), api.ErrLarge)
		}
	}
	for _, s := range kit.WrongSchemas()[:19] {
		try(s, none, none, api.ErrType)
	}
}

// TestNothingIsKept: what is handed in again, changed, is told as it is now, and what was told stays.
func TestNothingIsKept(t *testing.T) {
	s := of(api.KMap, of(api.KCause, of(api.KSet)))
	a, b := keyed("k", cause(at(ticks(1, 1), set("a")))), keyed("k", cause(at(ticks(1, 1), set("b"))))
	first, err := join.Join(s, a, b)
	told := kit.Written(first)
	if err != nil || told != kit.Written(keyed("k", cause(at(ticks(1, 1), set("a", "b"))))) {
		t.Fatalf("P5.1: %v, %v", first, err)
	}
	a.V[0].V[0].S[0], b.V[0].C[0][0].N, a.S[0] = "c", 2, "j"
	second, err := join.Join(s, a, b)
	if err != nil || kit.Written(second) != kit.Written(keyed("j,k", cause(at(ticks(1, 1), set("c"))), cause(at(ticks(1, 2), set("b"))))) {
		t.Errorf("P5.1: of values that were changed: %v, %v", second, err)
	}
	if kit.Written(first) != told {
		t.Errorf("P5.1: what was told is another one now: %v", first)
	}
}
