package order_test

import (
	"math"
	"slices"
	"strings"
	"testing"

	"trefoil/api"
	"trefoil/join"
	"trefoil/kit"
	"trefoil/order"
	"trefoil/schema"
	"trefoil/value"
)

const top = math.MaxUint64

// A stand is two values of a schema, and what Cmp is to answer of them.
type stand struct {
	s    api.Schema
	a, b api.Value
	want int
}

// hold asks of each row, and holds it against what each Kind's join does too.
func hold(t *testing.T, l []stand) {
	t.Helper()
	for i, c := range l {
		if told := amiss(c.s, c.a, c.b, c.want); told != "" {
			t.Errorf("P6.1: row %d: %s", i, told)
		}
		if words := standing(upTo(c.s, c.a, c.b), upTo(c.s, c.b, c.a)); words != c.want {
			t.Errorf("row %d: the words say %d, not %d", i, words, c.want)
		}
	}
}

func TestNumbers(t *testing.T) {
	most, or := of(api.KMax), of(api.KOr)
	hold(t, []stand{
		{most, none, none, 0}, {most, num(1), num(1), 0}, {most, num(top), num(top), 0}, {most, num(1 << 63), num(1 << 63), 0},
		{most, none, num(1), -1}, {most, num(1), num(2), -1}, {most, num(9), num(10), -1}, {most, num(top - 1), num(top), -1}, {most, none, num(top), -1}, {most, num(1<<63 - 1), num(1 << 63), -1}, {most, num(1), num(1 << 63), -1}, {most, num(1 << 32), num(1<<32 + 1), -1}, {most, num(5), num(1 << 32), -1}, {most, num(1 << 53), num(1<<53 + 1), -1},
		{or, none, none, 0}, {or, num(1), num(1), 0}, {or, none, num(1), -1},
	})
}

func TestSets(t *testing.T) {
	sets, brim := of(api.KSet), strings.Repeat("x", api.MaxText)
	hold(t, []stand{
		{sets, none, none, 0}, {sets, set("a"), set("a"), 0}, {sets, set(""), set(""), 0}, {sets, set("", "a", brim), set("", "a", brim), 0},
		{sets, none, set("a"), -1}, {sets, none, set(""), -1}, {sets, set("a"), set("a", "b"), -1}, {sets, set("b"), set("a", "b"), -1}, {sets, set("b"), set("a", "b", "c"), -1}, {sets, set("a", "c"), set("a", "b", "c"), -1}, {sets, set("a"), set("", "a"), -1}, {sets, set(brim), set("x", brim), -1},
		{sets, set("a"), set("b"), 2}, {sets, set(""), set("a"), 2}, {sets, set("a", "b"), set("b", "c"), 2}, {sets, set("a", "b"), set("a", "c"), 2}, {sets, set("a", "c"), set("b"), 2}, {sets, set("a"), set("ab"), 2}, {sets, set("b"), set("a", "c", "d"), 2}, {sets, set("A"), set("a"), 2}, {sets, set("\xff"), set("\xfe"), 2}, {sets, set(brim[1:]), set(brim), 2}, {sets, set("a", "b", "d"), set("a", "b", "c", "e"), 2},
	})
}

func TestMaps(t *testing.T) {
	numbers, two := of(api.KMap, of(api.KMax)), of(api.KMap, of(api.KPair, of(api.KMax), of(api.KSet)))
	deep := of(api.KMap, of(api.KMap, of(api.KSet)))
	hold(t, []stand{
		{numbers, none, none, 0}, {numbers, keyed("a", num(1)), keyed("a", num(1)), 0}, {numbers, keyed(",a", num(1), num(2)), keyed(",a", num(1), num(2)), 0},
		// what the other one lacks
		{numbers, none, keyed("a", num(1)), -1}, {numbers, keyed("a", num(1)), keyed("a,b", num(1), num(1)), -1}, {numbers, keyed("b", num(1)), keyed("a,b", num(1), num(1)), -1}, {numbers, keyed("a,c", num(1), num(1)), keyed("a,b,c", num(1), num(1), num(1)), -1},
		{numbers, keyed("a", num(1)), keyed("b", num(1)), 2}, {numbers, keyed("a", num(1)), keyed("b", num(2)), 2}, {numbers, keyed("a,b", num(1), num(1)), keyed("b,c", num(1), num(1)), 2}, {numbers, keyed("a", num(1)), keyed(",b,c", num(1), num(1), num(1)), 2},
		// what is less, or more, at a key that both have
		{numbers, keyed("a", num(1)), keyed("a", num(2)), -1}, {numbers, keyed("a,b", num(1), num(1)), keyed("a,b", num(1), num(2)), -1}, {numbers, keyed("a", num(1)), keyed("a,b", num(2), num(1)), -1}, {numbers, keyed("a,b", num(1), num(1)), keyed("a,b", num(2), num(2)), -1},
		{numbers, keyed("a", num(2)), keyed("a,b", num(1), num(1)), 2}, {numbers, keyed("a,b", num(1), num(2)), keyed("a,b", num(2), num(1)), 2}, {numbers, keyed("b", num(2)), keyed("a,b", num(1), num(1)), 2},
		// further in
		{two, keyed("a", pair(num(1), none)), keyed("a", pair(num(1), set("x"))), -1}, {two, keyed("a", pair(num(1), none)), keyed("a", pair(none, set("x"))), 2}, {two, keyed("a", pair(num(1), none)), keyed("a,b", pair(num(1), none), pair(none, set("x"))), -1},
		{deep, keyed("a", keyed("x", set("p"))), keyed("a", keyed("x", set("p"))), 0}, {deep, keyed("a", keyed("x", set("p"))), keyed("a", keyed("x", set("p", "q"))), -1}, {deep, keyed("a", keyed("x", set("p"))), keyed("a", keyed("x,y", set("p"), set("q"))), -1}, {deep, keyed("a", keyed("x", set("p"))), keyed("a", keyed("x,y", set("q"), set("p"))), 2}, {deep, keyed("a", keyed("x", set("p"))), keyed("b", keyed("x", set("p"))), 2},
	})
}

func TestPairs(t *testing.T) {
	numbers, two := of(api.KPair, of(api.KMax), of(api.KMax)), of(api.KPair, of(api.KMax), of(api.KSet))
	four := of(api.KPair, two, of(api.KPair, of(api.KLast), of(api.KOr)))
	hold(t, []stand{
		{numbers, pair(none, none), pair(none, none), 0}, {numbers, pair(num(1), num(2)), pair(num(1), num(2)), 0}, {two, pair(num(1), set("a")), pair(num(1), set("a")), 0},
		// one side less, or both
		{numbers, pair(none, none), pair(num(1), none), -1}, {numbers, pair(none, none), pair(none, num(1)), -1}, {numbers, pair(num(1), num(1)), pair(num(1), num(2)), -1}, {numbers, pair(num(1), num(1)), pair(num(2), num(1)), -1}, {numbers, pair(num(1), num(1)), pair(num(2), num(2)), -1}, {two, pair(none, set("a")), pair(num(1), set("a", "b")), -1},
		// one side less, and the other side more
		{numbers, pair(num(1), num(2)), pair(num(2), num(1)), 2}, {numbers, pair(num(1), none), pair(none, num(1)), 2}, {numbers, pair(none, num(top)), pair(num(1), none), 2}, {two, pair(num(1), none), pair(none, set("a")), 2}, {two, pair(num(2), none), pair(num(1), set("a")), 2},
		// one side apart
		{two, pair(num(1), set("a")), pair(num(1), set("b")), 2}, {two, pair(num(1), set("a")), pair(num(2), set("b")), 2}, {two, pair(none, set("a")), pair(num(2), set("b")), 2},
		// further in
		{four, pair(pair(num(1), none), pair(last(1, 0, "x"), none)), pair(pair(num(1), none), pair(last(1, 0, "x"), num(1))), -1}, {four, pair(pair(num(1), none), pair(last(2, 0, "x"), none)), pair(pair(num(1), none), pair(last(1, 0, "x"), num(1))), 2}, {four, pair(pair(num(1), set("a")), pair(last(1, 0, "x"), none)), pair(pair(num(1), none), pair(last(1, 0, "y"), none)), 2},
	})
}

func TestLasts(t *testing.T) {
	lasts := of(api.KLast)
	hold(t, []stand{
		{lasts, none, none, 0}, {lasts, last(2, 3, "a"), last(2, 3, "a"), 0}, {lasts, last(top, top, ""), last(top, top, ""), 0},
		{lasts, none, last(0, 0, "a"), -1}, {lasts, none, last(0, 1, ""), -1}, {lasts, none, last(1, 0, ""), -1},
		// by N, whatever the others
		{lasts, last(1, 9, "z"), last(2, 0, ""), -1}, {lasts, last(1, 1, "a"), last(2, 1, "a"), -1}, {lasts, last(9, 1, "a"), last(10, 0, ""), -1}, {lasts, last(1<<63, top, "z"), last(top, 0, ""), -1}, {lasts, last(top-1, top, "z"), last(top, 0, ""), -1},
		// by M, whatever the text
		{lasts, last(2, 1, "z"), last(2, 3, "a"), -1}, {lasts, last(0, 0, "z"), last(0, 1, ""), -1}, {lasts, last(2, top-1, "z"), last(2, top, ""), -1}, {lasts, last(2, 0, "a"), last(2, 1, "a"), -1},
		// by the text, byte by byte
		{lasts, last(1, 1, "a"), last(1, 1, "b"), -1}, {lasts, last(1, 1, ""), last(1, 1, "\x00"), -1}, {lasts, last(1, 1, "a"), last(1, 1, "ab"), -1}, {lasts, last(1, 1, "ab"), last(1, 1, "b"), -1}, {lasts, last(1, 1, "Z"), last(1, 1, "a"), -1}, {lasts, last(1, 1, "10"), last(1, 1, "9"), -1}, {lasts, last(1, 1, "z"), last(1, 1, "\xff"), -1}, {lasts, last(0, 0, "a"), last(0, 0, "b"), -1},
	})
}

func TestClocks(t *testing.T) {
	ticking := of(api.KClock)
	hold(t, []stand{
		{ticking, none, none, 0}, {ticking, clocks(ticks(1, 1)), clocks(ticks(1, 1)), 0}, {ticking, clocks(ticks(0, 5, 9, 5)), clocks(ticks(0, 5, 9, 5)), 0},
		{ticking, none, clocks(ticks(1, 1)), -1}, {ticking, clocks(ticks(1, 1)), clocks(ticks(1, 2)), -1}, {ticking, clocks(ticks(1, 1)), clocks(ticks(1, 1, 2, 1)), -1}, {ticking, clocks(ticks(2, 1)), clocks(ticks(1, 1, 2, 1)), -1}, {ticking, clocks(ticks(1, 1, 2, 1)), clocks(ticks(1, 1, 2, 2)), -1}, {ticking, clocks(ticks(1, 1, 3, 1)), clocks(ticks(1, 2, 2, 1, 3, 1)), -1},
		// neither has seen the other one
		{ticking, clocks(ticks(1, 1)), clocks(ticks(2, 1)), 2}, {ticking, clocks(ticks(1, 2)), clocks(ticks(1, 1, 2, 1)), 2}, {ticking, clocks(ticks(1, 2, 2, 1)), clocks(ticks(1, 1, 2, 2)), 2}, {ticking, clocks(ticks(1, 1, 2, 1)), clocks(ticks(2, 1, 3, 1)), 2}, {ticking, clocks(ticks(0, 1)), clocks(ticks(1000000, 1)), 2},
	})
}

func TestCauses(t *testing.T) {
	sets, two, within := of(api.KCause, of(api.KSet)), of(api.KCause, of(api.KPair, of(api.KMax), of(api.KMax))), of(api.KCause, of(api.KCause, of(api.KMax)))
	one, other, both, later := ticks(1, 1), ticks(2, 1), ticks(1, 1, 2, 1), ticks(1, 2)
	a, b := set("a"), set("b")
	hold(t, []stand{
		{sets, none, none, 0}, {sets, cause(at(nil, none)), cause(at(nil, none)), 0}, {sets, cause(at(one, a), at(other, b)), cause(at(one, a), at(other, b)), 0},
		// a version that is nothing is more than no version
		{sets, none, cause(at(nil, none)), -1}, {sets, none, cause(at(one, none)), -1}, {sets, none, cause(at(one, a)), -1}, {sets, cause(at(nil, a)), cause(at(one, none)), -1},
		// of one clock and unlike V
		{sets, cause(at(one, none)), cause(at(one, a)), -1}, {sets, cause(at(one, a)), cause(at(one, set("a", "b"))), -1}, {sets, cause(at(one, a)), cause(at(one, b)), 2}, {sets, cause(at(nil, none)), cause(at(nil, a)), -1}, {two, cause(at(one, pair(num(1), num(2)))), cause(at(one, pair(num(2), num(1)))), 2}, {sets, cause(at(one, a), at(other, a)), cause(at(one, a), at(other, set("a", "b"))), -1}, {sets, cause(at(one, none), at(other, a)), cause(at(one, a), at(other, none)), 2},
		// of clocks below one another: whatever they have
		{sets, cause(at(one, a)), cause(at(later, none)), -1}, {sets, cause(at(one, a)), cause(at(later, b)), -1}, {sets, cause(at(one, a)), cause(at(both, none)), -1}, {sets, cause(at(other, a)), cause(at(both, none)), -1}, {sets, cause(at(one, a), at(other, b)), cause(at(both, none)), -1}, {sets, cause(at(one, a), at(other, b)), cause(at(later, none), at(other, b)), -1}, {sets, cause(at(one, a), at(other, b)), cause(at(later, none), at(other, a)), 2}, {sets, cause(at(one, a), at(other, b)), cause(at(later, none)), 2},
		// one below another one each way
		{sets, cause(at(one, none), at(ticks(2, 2), none)), cause(at(later, none), at(other, none)), 2},
		// of clocks apart
		{sets, cause(at(one, a)), cause(at(other, a)), 2}, {sets, cause(at(one, a)), cause(at(one, a), at(other, none)), -1}, {sets, cause(at(other, none)), cause(at(one, a), at(other, none)), -1}, {sets, cause(at(one, a)), cause(at(one, none), at(other, none)), 2}, {sets, cause(at(one, a), at(other, none)), cause(at(one, a), at(ticks(3, 1), none)), 2}, {sets, cause(at(later, a)), cause(at(both, none)), 2},
		// causes in causes
		{within, cause(at(one, cause(at(one, num(5))))), cause(at(one, cause(at(later, none)))), -1}, {within, cause(at(one, cause(at(one, num(5))))), cause(at(one, cause(at(other, num(5))))), 2}, {within, cause(at(one, cause(at(later, num(5))))), cause(at(later, cause(at(one, none)))), -1}, {within, cause(at(one, none)), cause(at(one, cause(at(nil, none)))), -1},
	})
}

// TestOfFew holds any two of a few values of each schema against what each Kind's join does, and Leq against what join says they are together; and sees that there are such as are less, and, but for those in a row, apart.
func TestOfFew(t *testing.T) {
	for _, s := range kit.Schemas() {
		l, seen := kit.Few(s, 40), map[int]int{}
		for _, a := range l {
			for _, b := range l {
				want := standing(upTo(s, a, b), upTo(s, b, a))
				if told := amiss(s, a, b, want); told != "" {
					t.Fatalf("P6.1: by %v: %s", s, told)
				}
				both, err := join.Join(s, a, b)
				if less, other := order.Leq(s, a, b); err != nil || other != nil || less != (kit.Written(both) == kit.Written(b)) {
					t.Fatalf("P6.1: Leq(%v, %v, %v): %v, %v: together they are %v, %v", s, a, b, less, other, both, err)
				}
				seen[want]++
			}
		}
		row := s.Kind == api.KMax || s.Kind == api.KOr || s.Kind == api.KLast
		if seen[0] != len(l) || seen[-1] == 0 || seen[-1] != seen[1] || row != (seen[2] == 0) {
			t.Errorf("by %v: %v of %d", s, seen, len(l))
		}
	}
}

// TestDeepInside: how two values stand they stand however deep they lie, whatever lies around them.
func TestDeepInside(t *testing.T) {
	seen := map[[2]int]int{}
	for _, plain := range kit.Schemas() {
		for want, two := range standings(plain) {
			for _, w := range kit.Wraps() {
				s, a, b := w.Schema(plain), w.Value(two[0]), w.Value(two[1])
				for schema.Is(s) {
					if told := amiss(s, a, b, want); told != "" {
						t.Fatalf("P6.1: in %s: %s", w.Name, told)
					}
					s, a, b = w.Schema(s), w.Value(a), w.Value(b)
					seen[[2]int{plain.Kind, want}]++
				}
			}
		}
	}
	for kind := api.KMax; kind <= api.KCause; kind++ {
		for want := -1; want <= 2; want++ {
			lacks := want == 2 && (kind == api.KMax || kind == api.KOr || kind == api.KLast) || kind == api.KOr && want != 0
			if lacks != (seen[[2]int{kind, want}] == 0) {
				t.Errorf("of Kind %d none, or some, that stand %d", kind, want)
			}
		}
	}
}

// standings answers two values of s that stand like that, none of them nothing, for each way to stand that there is.
func standings(s api.Schema) map[int][2]api.Value {
	out, l := map[int][2]api.Value{}, kit.Few(s, 64)[1:]
	for _, a := range l {
		for _, b := range l {
			out[standing(upTo(s, a, b), upTo(s, b, a))] = [2]api.Value{a, b}
		}
	}
	return out
}

// TestNothing: nothing is less than each value that is something, and is nothing, wherever either lies.
func TestNothing(t *testing.T) {
	for _, plain := range kit.Schemas() {
		l := kit.Few(plain, 64)
		for _, w := range append(kit.Wraps()[1:], kit.Bare()) {
			s, bottom := w.Schema(plain), w.Value(value.Bottom(plain))
			for i, v := range l {
				want := -1
				if i == 0 {
					want = 0
				}
				if told := amiss(s, bottom, w.Value(v), want); told != "" {
					t.Fatalf("P6.1: in %s: nothing: %s", w.Name, told)
				}
				if told := amiss(s, value.Bottom(s), w.Value(v), standing(true, value.None(s, w.Value(v)))); told != "" {
					t.Fatalf("P6.1: in %s: nothing at all: %s", w.Name, told)
				}
			}
		}
	}
}

func TestExample(t *testing.T) {
	for _, c := range kit.Samples() {
		for _, v := range c.Values {
			if less, err := order.Leq(c.Schema, value.Bottom(c.Schema), v); !less || err != nil {
				t.Errorf("P6.1: Bottom is below all: not below %v of %v: %v", v, c.Schema, err)
			}
		}
	}
}

// TestNoneAndEmpty: a list that isn't there and one of nothing are the same, all the way in.
func TestNoneAndEmpty(t *testing.T) {
	for _, c := range kit.Samples() {
		for _, a := range c.Values {
			for _, b := range c.Values {
				want := standing(upTo(c.Schema, a, b), upTo(c.Schema, b, a))
				if told := amiss(c.Schema, kit.Emptied(a), b, want) + amiss(c.Schema, a, kit.Emptied(b), want); told != "" {
					t.Errorf("P6.1: %s", told)
				}
			}
		}
	}
}

// TestLessThanLess: of any three of a few, what is less than what is less is less; what is less both ways is the same.
func TestLessThanLess(t *testing.T) {
	for _, s := range kit.Schemas() {
		l := kit.Few(s, 40)
		less := make([][]bool, len(l))
		for i, a := range l {
			for k, b := range l {
				is, err := order.Leq(s, a, b)
				n, other := order.Cmp(s, a, b)
				if err != nil || other != nil || is != (n == 0 || n == -1) || (n == 0) != value.Same(a, b) {
					t.Fatalf("P6.1: %v and %v of %v: %v, %v, %v, %v", a, b, s, is, err, n, other)
				}
				less[i] = append(less[i], is)
				if i > k && is && less[k][i] {
					t.Fatalf("P6.1: %v and %v of %v: less both ways", a, b, s)
				}
			}
		}
		for i, a := range l {
			for k, b := range l {
				for m, c := range l {
					if less[i][k] && less[k][m] && !less[i][m] {
						t.Fatalf("P6.1: %v, %v, %v of %v: less than what is less, but not less", a, b, c, s)
					}
				}
			}
		}
	}
}

// TestAsMuch: what two are together has as much as either, and no more than whatever has as much as both.
func TestAsMuch(t *testing.T) {
	leq := func(s api.Schema, a, b api.Value) bool {
		is, err := order.Leq(s, a, b)
		if err != nil {
			t.Fatalf("P6.2: Leq(%v, %v, %v): %v", s, a, b, err)
		}
		return is
	}
	for _, s := range kit.Schemas() {
		l := kit.Few(s, 16)
		for _, a := range l {
			for _, b := range l {
				both, err := join.Join(s, a, b)
				if err != nil || !leq(s, a, both) || !leq(s, b, both) {
					t.Fatalf("P6.2: %v and %v of %v: together not as much: %v, %v", a, b, s, both, err)
				}
				for _, c := range l {
					if (leq(s, a, c) && leq(s, b, c)) != leq(s, both, c) {
						t.Fatalf("P6.2: %v and %v of %v: together %v, against %v", a, b, s, both, c)
					}
				}
			}
		}
	}
}

// TestLarge: as many as may be, and more than that, however they are spread over the two, however deep they lie.
func TestLarge(t *testing.T) {
	const most = api.MaxItems
	for _, c := range kit.Splits() {
		for _, w := range append(kit.Wraps(), kit.Bare()) {
			for _, by := range []struct{ to, from, end, want int }{
				{most, 0, most, 0}, {most - 1, 0, most, -1}, {1, 0, most, -1}, {most, 1, most, 1}, {most, 39, most, 1}, {20, 20, most, 2}, {39, 1, most, 2}, {1, 1, most, 2},
				{20, 20, most + 1, 2}, {1, 1, most + 1, 2}, {most, 1, most + 1, 2}, {most, most, most + 1, 2}, {20, 10, most + 1, 2}, {most, most, 2 * most, 2}, {most, 20, 20 + most, 2},
			} {
				s, a, b := c.Schema, c.Make(0, by.to), c.Make(by.from, by.end)
				for range 5 {
					s, a, b = w.Schema(s), w.Value(a), w.Value(b)
					if told := amiss(s, a, b, by.want); told != "" {
						t.Errorf("P6.1: %d %s in %s: %s", by.end, c.Name, w.Name, told)
					}
				}
			}
		}
	}
}

// TestLargeBeside: one part that is too large together among others that are the same, less or more, wherever it stands.
func TestLargeBeside(t *testing.T) {
	for _, c := range kit.Splits() {
		half, rest, less, more := c.Make(0, 20), c.Make(20, api.MaxItems+1), c.Make(0, 1), c.Make(0, 2)
		for _, o := range [][2]api.Value{{less, less}, {less, more}, {more, less}} {
			for _, x := range kit.Threes() {
				for i := range 3 {
					a, b := slices.Repeat(o[:1], 3), slices.Repeat(o[1:], 3)
					a[i], b[i] = half, rest
					if told := amiss(x.Schema(c.Schema), x.Value(a), x.Value(b), 2); told != "" {
						t.Errorf("P6.1: %s, part %d of %s: %s", c.Name, i, x.Name, told)
					}
				}
			}
		}
	}
}

// TestNotLarge: what isn't there in the end isn't too large.
func TestNotLarge(t *testing.T) {
	causes, sets := of(api.KCause, of(api.KMax)), of(api.KCause, of(api.KSet))
	all := kit.Versions(0, api.MaxItems, 1)
	seer := cause(at(kit.Splits()[2].Make(0, api.MaxItems).C[0], none))
	half, rest := set(kit.Texts(0, 20)...), set(kit.Texts(20, api.MaxItems+1)...)
	hold(t, []stand{
		{causes, all, seer, -1}, {causes, all, kit.Versions(0, api.MaxItems, 2), -1}, {causes, all, all, 0}, {causes, all, kit.Versions(20, api.MaxItems, 2), 2}, {causes, all, kit.Versions(1, api.MaxItems+1, 2), 2}, {causes, seer, cause(at(ticks(0, 2), none)), 2},
		{sets, cause(at(ticks(1, 1), half)), cause(at(ticks(1, 2), rest)), -1}, {sets, cause(at(ticks(1, 1), half)), cause(at(ticks(2, 1), rest)), 2},
		{of(api.KMap, of(api.KSet)), keyed("a", half), keyed("b", rest), 2}, {of(api.KPair, of(api.KSet), of(api.KSet)), pair(half, none), pair(none, rest), 2}, {of(api.KPair, of(api.KSet), of(api.KSet)), pair(half, none), pair(half, rest), -1},
	})
}

func TestNoSchema(t *testing.T) {
	for _, s := range kit.WrongSchemas() {
		for _, a := range []api.Value{none, num(1), set("a"), pair(none, none), keyed("a", num(1)), cause(at(ticks(1, 1), none))} {
			if !refused(s, a, a) || !refused(s, none, a) || !refused(s, a, none) {
				t.Errorf("P6.1: %v by %v, that is no schema: not an ErrType", a, s.Kind)
			}
		}
	}
}

// TestWrong: one that isn't of the schema, on either side, on both; and deep inside.
func TestWrong(t *testing.T) {
	for m := range kit.Misfits() {
		for _, l := range m.Twos() {
			if !refused(m.Schema, l[0], l[1]) {
				t.Fatalf("P6.1: %v, %v of %v: not an ErrType", l[0], l[1], m.Schema)
			}
		}
	}
}

// TestWrongAndLarge: a wrong one is told also where what is beside it is too large together.
func TestWrongAndLarge(t *testing.T) {
	half, rest, over := set(kit.Texts(0, 20)...), set(kit.Texts(20, api.MaxItems+1)...), set(kit.Texts(0, api.MaxItems+1)...)
	sets := of(api.KSet)
	two := of(api.KPair, sets, of(api.KOr))
	for i, c := range []stand{{s: sets, a: over, b: half}, {s: sets, a: half, b: over}, {s: sets, a: over, b: over}, {s: sets, a: over, b: none}, {s: two, a: pair(half, none), b: pair(rest, num(2))}, {s: two, a: pair(half, num(2)), b: pair(rest, none)}, {s: sets, a: half, b: num(1)}} {
		if !refused(c.s, c.a, c.b) {
			t.Errorf("P6.1: row %d: not an ErrType", i)
		}
	}
}

// TestFar: far deeper, far wider than a value may be; and as wide as a schema can be.
func TestFar(t *testing.T) {
	far := kit.Far()
	for _, c := range kit.Samples() {
		for _, x := range far {
			if !refused(c.Schema, x, c.Values[0]) || !refused(c.Schema, c.Values[0], x) || !refused(c.Schema, x, x) {
				t.Errorf("P6.1: by %v: not an ErrType", c.Schema)
			}
		}
	}
	s := kit.Full(api.MaxDepth)
	a, b := value.Bottom(s), value.Bottom(s)
	x, y := &a, &b
	for range api.MaxDepth - 1 {
		x, y = &x.V[1], &y.V[1]
	}
	x.N, y.N = 1, 2
	if told := amiss(s, a, b, -1) + amiss(s, a, a, 0); told != "" {
		t.Error("P6.1: pairs of pairs, of which the last one is less: not told so")
	}
}

// answers are what the calls tell, right or wrong.
func answers(s api.Schema, a, b api.Value) [8]any {
	less, err1 := order.Leq(s, a, b)
	more, err2 := order.Leq(s, b, a)
	there, err3 := order.Cmp(s, a, b)
	here, err4 := order.Cmp(s, b, a)
	return [8]any{less, err1, more, err2, there, err3, here, err4}
}

// TestHandedInStays: values and schemas, right, wrong and too large together, all the way in, and the room behind them, are as they were, and are told the same again.
func TestHandedInStays(t *testing.T) {
	try := func(plain api.Schema, a, b api.Value) {
		s, handed := kit.RoomySchema(plain), kit.Roomy(pair(a, b))
		was := kit.LaidSchema(s) + kit.Laid(handed)
		first := answers(s, handed.V[0], handed.V[1])
		if kit.LaidSchema(s)+kit.Laid(handed) != was {
			t.Fatalf("P6.1: %v, %v of %v were changed", a, b, plain)
		}
		if again := answers(s, handed.V[0], handed.V[1]); first != again || first != answers(plain, a, b) {
			t.Fatalf("P6.1: %v, %v of %v: told two ways: %v, %v", a, b, plain, first, again)
		}
	}
	for _, s := range kit.Schemas() {
		l := kit.Few(s, 12)
		for _, a := range l {
			for _, b := range l {
				try(s, a, b)
			}
			for _, x := range kit.Wrong(s) {
				try(s, a, x)
			}
		}
	}
	for _, c := range kit.Splits() {
		for _, w := range kit.Wraps() {
			try(w.Schema(c.Schema), w.Value(c.Make(0, 20)), w.Value(c.Make(20, api.MaxItems+1)))
		}
	}
	for _, s := range kit.WrongSchemas()[:19] {
		try(s, none, none)
	}
}

// TestOnePlace: values that share their lists stand as those do that don't.
func TestOnePlace(t *testing.T) {
	sets := of(api.KSet)
	l := kit.Texts(0, 3)
	if told := amiss(sets, set(), api.Value{S: l[:0]}, 0) + amiss(sets, api.Value{S: l[:2]}, api.Value{S: l}, -1) + amiss(sets, api.Value{S: l[1:]}, api.Value{S: l[:2]}, 2) + amiss(sets, api.Value{S: l}, api.Value{S: l}, 0); told != "" {
		t.Errorf("P6.1: pieces of one list: %s", told)
	}
	one := keyed("k", api.Value{S: l})
	if told := amiss(of(api.KPair, of(api.KMap, sets), of(api.KMap, sets)), pair(one, one), pair(one, keyed("k", set(slices.Clone(l)...))), 0); told != "" {
		t.Errorf("P6.1: one value twice: %s", told)
	}
}

// TestNothingIsKept: what is handed in again, changed, is told as it is now.
func TestNothingIsKept(t *testing.T) {
	s := of(api.KMap, of(api.KCause, of(api.KSet)))
	a, b := keyed("k", cause(at(ticks(1, 1), set("a")))), keyed("k", cause(at(ticks(1, 1), set("a"))))
	hold(t, []stand{{s, a, b, 0}})
	a.V[0].V[0].S[0] = "b"
	hold(t, []stand{{s, a, b, 2}})
	b.V[0].C[0][0].N = 2
	hold(t, []stand{{s, a, b, -1}})
	a.V[0].C[0][0].N = 3
	hold(t, []stand{{s, a, b, 1}})
	b.S[0] = "j"
	hold(t, []stand{{s, a, b, 2}})
	s.In[0] = of(api.KMax)
	if !refused(s, a, b) {
		t.Error("P6.1: by a schema that was changed: told as it was")
	}
}
