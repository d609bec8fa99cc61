package canon_test

import (
	"math"
	"slices"
	"testing"

	"trefoil/api"
	"trefoil/canon"
	"trefoil/clock"
	"trefoil/kit"
	"trefoil/schema"
	"trefoil/value"
)

const (
	top  = math.MaxUint64
	most = api.MaxItems
)

// A row is a thing, and what Put is to answer of it by a schema: a value, or an error.
type row struct {
	s       api.Schema
	v, want api.Value
	code    api.Errno
}

// hold puts each, also with an empty list wherever it has none, and holds it against the document's words too.
func hold(t *testing.T, l []row) {
	t.Helper()
	for i, c := range l {
		if told := amiss(c.s, c.v, c.want, c.code) + amiss(c.s, kit.Emptied(c.v), c.want, c.code); told != "" {
			t.Errorf("P7.1: row %d: %s", i, told)
		}
		if want, code := put(c.s, c.v); kit.Written(want) != kit.Written(c.want) || code != c.code {
			t.Errorf("row %d: the words say %v, %v, not %v, %v", i, want, code, c.want, c.code)
		}
	}
}

// A clocked is ticks, and what Clock is to answer of them.
type clocked struct {
	c, want []api.Tick
	code    api.Errno
}

// holdClocks asks Clock of each, and Put, of a clock's value and of a version's clock.
func holdClocks(t *testing.T, l []clocked) {
	t.Helper()
	for i, c := range l {
		want, version := clocks(c.want), cause(at(c.want, num(1)))
		if len(c.want) == 0 {
			want = none
		}
		if c.code != api.OK {
			version = none
		}
		if told := amissClock(c.c, c.want, c.code); told != "" {
			t.Errorf("P7.1: row %d: %s", i, told)
		}
		hold(t, []row{{of(api.KClock), clocks(c.c), want, c.code}, {of(api.KCause, of(api.KMax)), cause(at(c.c, num(1))), version, c.code}})
	}
}

func TestClocks(t *testing.T) {
	holdClocks(t, []clocked{
		{nil, nil, 0}, {ticks(1, 1), ticks(1, 1), 0}, {ticks(1, 2, 3, 4), ticks(1, 2, 3, 4), 0},
		// in any order
		{ticks(3, 4, 1, 2), ticks(1, 2, 3, 4), 0}, {ticks(9, 1, 10, 1, 2, 1), ticks(2, 1, 9, 1, 10, 1), 0}, {ticks(5, 1, 4, 2, 3, 3, 2, 4, 1, 5), ticks(1, 5, 2, 4, 3, 3, 4, 2, 5, 1), 0},
		// some of one Who
		{ticks(1, 2, 1, 2), ticks(1, 2), 0}, {ticks(1, 2, 1, 5, 1, 3), ticks(1, 5), 0}, {ticks(1, 9, 1, 10), ticks(1, 10), 0}, {ticks(1, 10, 1, 9), ticks(1, 10), 0}, {ticks(2, 1, 1, 3, 2, 7, 1, 1), ticks(1, 3, 2, 7), 0}, {[]api.Tick{{Who: 1, N: 1<<63 - 1}, {Who: 1, N: 1 << 63}}, []api.Tick{{Who: 1, N: 1 << 63}}, 0}, {[]api.Tick{{Who: 1, N: top}, {Who: 1, N: 1}}, []api.Tick{{Who: 1, N: top}}, 0}, {[]api.Tick{{Who: 1, N: top - 1}, {Who: 1, N: top}, {Who: 1, N: top - 1}}, []api.Tick{{Who: 1, N: top}}, 0},
		// some with N 0
		{ticks(1, 0), nil, 0}, {ticks(1, 0, 2, 0, 1, 0), nil, 0}, {ticks(1, 0, 2, 1), ticks(2, 1), 0}, {ticks(2, 1, 1, 0), ticks(2, 1), 0}, {ticks(1, 0, 1, 4), ticks(1, 4), 0}, {ticks(1, 4, 1, 0), ticks(1, 4), 0}, {ticks(3, 1, 2, 0, 1, 1), ticks(1, 1, 3, 1), 0},
	})
}

// TestActors: just those of 0 to 1000000, wherever a tick stands, whatever its N is.
func TestActors(t *testing.T) {
	holdClocks(t, []clocked{{ticks(0, 1), ticks(0, 1), 0}, {ticks(1, 1, 0, 1), ticks(0, 1, 1, 1), 0}, {ticks(1000000, 1), ticks(1000000, 1), 0}, {ticks(1000000, 1, 999999, 1, 0, 2), ticks(0, 2, 999999, 1, 1000000, 1), 0}, {ticks(0, 0, 1000000, 0), nil, 0}})
	for _, who := range []int{-1, 1000001, -1000000, 1000002, -2, 1 << 32, 1<<32 + 1, math.MaxInt, math.MinInt} {
		for _, n := range []uint64{0, 1, top} {
			bad := api.Tick{Who: who, N: n}
			for i := range 4 {
				c := slices.Insert(ticks(3, 1, 0, 1, 2, 0), i, bad)
				holdClocks(t, []clocked{{c, nil, api.ErrType}, {append(c, bad), nil, api.ErrType}, {c[i : i+1], nil, api.ErrType}})
			}
			ok := keyed("a,b", clocks(ticks(2, 1, 1, 1)), clocks(nil))
			for i := range ok.V {
				l := slices.Clone(ok.V)
				l[i] = clocks([]api.Tick{bad})
				hold(t, []row{{of(api.KMap, of(api.KClock)), keyed("a,b", l...), none, api.ErrType}})
			}
		}
	}
}

// TestClocksOfFew: all lists of at most four of nine ticks.
func TestClocksOfFew(t *testing.T) {
	l := kit.Lists(ticks(0, 0, 0, 1, 0, 2, 9, 0, 9, 1, 9, 7, 1000000, 0, 1000000, 1, 1000000, 5), 4)
	if len(l) != 1+9+81+729+6561 {
		t.Fatalf("%d lists", len(l))
	}
	for _, c := range l {
		got, err := canon.Clock(c)
		if told := amissClock(c, settledClock(c), api.OK) + amissClock(got, got, api.OK); told != "" || err != nil || !clock.Is(got) {
			t.Fatalf("P7.1: %s, %v", told, err)
		}
	}
}

// TestManyTicks: as many actors as may be, and one more; those with N 0 and those that stand twice don't count.
func TestManyTicks(t *testing.T) {
	rising := func(n int) []api.Tick {
		var c []api.Tick
		for who := range n {
			c = append(c, ticks(10*who, who+1)...)
		}
		return c
	}
	for _, way := range turns() {
		full, over := rising(most), picked(rising(most+1), way.order(most+1))
		plenty := picked(full, way.order(most))
		idle := rising(200)
		for i := range idle {
			idle[i].N = 0
		}
		holdClocks(t, []clocked{
			{plenty, full, 0}, {over, nil, api.ErrLarge}, {slices.Concat(over, ticks(7, 1)), nil, api.ErrLarge}, {slices.Repeat(plenty, 3), full, 0}, {slices.Concat(plenty, idle), full, 0}, {slices.Concat(idle, plenty), full, 0}, {slices.Concat(ticks(7, 0), plenty, ticks(8, 0)), full, 0}, {slices.Concat(idle, over), nil, api.ErrLarge},
			// a wrong one, wherever it is, is told ahead of that they are too many
			{slices.Concat(over, ticks(-1, 0)), nil, api.ErrType}, {slices.Concat(ticks(1000001, 1), over), nil, api.ErrType}, {slices.Insert(slices.Clone(over), 20, ticks(-1, 1)...), nil, api.ErrType},
		})
	}
	far := rising(100000)
	for i := range far {
		far[i].Who = i % 100
	}
	if told := amissClock(far, nil, api.ErrLarge) + amissClock(rising(100000), nil, api.ErrLarge) + amissClock(append(far, ticks(-1, 1)...), nil, api.ErrType); told != "" {
		t.Error("P7.1: of 100000 ticks: not an ErrLarge, or not an ErrType")
	}
	for i := range far {
		far[i].Who = i % 3
	}
	if told := amissClock(far, ticks(0, 100000, 1, 99998, 2, 99999), api.OK); told != "" {
		t.Error("P7.1: of 100000 ticks of three actors: not the three")
	}
}

func TestNumbers(t *testing.T) {
	number, or := of(api.KMax), of(api.KOr)
	hold(t, []row{
		{number, none, none, 0}, {number, num(1), num(1), 0}, {number, num(2), num(2), 0}, {number, num(1 << 63), num(1 << 63), 0}, {number, num(top), num(top), 0}, {number, api.Value{M: 1}, none, api.ErrType}, {number, api.Value{N: 1, M: 1}, none, api.ErrType},
		{or, none, none, 0}, {or, num(1), num(1), 0}, {or, num(2), none, api.ErrType}, {or, num(3), none, api.ErrType}, {or, num(1 << 32), none, api.ErrType}, {or, num(1 << 63), none, api.ErrType}, {or, num(top), none, api.ErrType}, {or, api.Value{M: 1}, none, api.ErrType},
	})
}

func TestSets(t *testing.T) {
	sets := of(api.KSet)
	hold(t, []row{
		{sets, none, none, 0}, {sets, set("a"), set("a"), 0}, {sets, set(""), set(""), 0}, {sets, set("b", "a", "b"), set("a", "b"), 0}, {sets, set("c", "b", "a"), set("a", "b", "c"), 0}, {sets, set("a", "a"), set("a"), 0}, {sets, set("", "", ""), set(""), 0}, {sets, set("b", "ab", "", "a", "ab"), set("", "a", "ab", "b"), 0},
		{sets, set("9", "10"), set("10", "9"), 0}, {sets, set("a", "Z"), set("Z", "a"), 0}, {sets, set("\xff", "é", "z", "\x00"), set("\x00", "z", "é", "\xff"), 0}, {sets, set("a\x00", "a"), set("a", "a\x00"), 0},
	})
}

func TestMaps(t *testing.T) {
	numbers, sets, two := of(api.KMap, of(api.KMax)), of(api.KMap, of(api.KSet)), of(api.KMap, of(api.KPair, of(api.KMax), of(api.KSet)))
	deep, lasts, ticking, causes := of(api.KMap, sets), of(api.KMap, of(api.KLast)), of(api.KMap, of(api.KClock)), of(api.KMap, of(api.KCause, of(api.KSet)))
	hold(t, []row{
		{numbers, none, none, 0}, {numbers, keyed("b,a", num(1), num(2)), keyed("a,b", num(2), num(1)), 0}, {numbers, keyed("c,a,b,", num(3), num(1), num(2), num(4)), keyed(",a,b,c", num(4), num(1), num(2), num(3)), 0}, {numbers, keyed("a,A,Z,a", num(1), num(2), num(3), num(4)), keyed("A,Z,a", num(2), num(3), num(4)), 0}, {numbers, keyed("9,10,\xff,é,\x00", num(1), num(2), num(3), num(4), num(5)), keyed("\x00,10,9,é,\xff", num(5), num(2), num(1), num(4), num(3)), 0}, {numbers, keyed("\xff,\xfe,\xff", num(1), num(2), num(3)), keyed("\xfe,\xff", num(2), num(3)), 0},
		// several at one key
		{numbers, keyed("a,a", num(1), num(1)), keyed("a", num(1)), 0}, {numbers, keyed("a,a", num(1), num(2)), keyed("a", num(2)), 0}, {numbers, keyed("a,a,a", num(2), num(9), num(1)), keyed("a", num(9)), 0}, {numbers, keyed("b,a,b", num(1), num(2), num(7)), keyed("a,b", num(2), num(7)), 0}, {sets, keyed("a,a", set("y"), set("z", "x")), keyed("a", set("x", "y", "z")), 0}, {sets, keyed("b,a,b,a", set("q"), set("y"), set("p"), set("y")), keyed("a,b", set("y"), set("p", "q")), 0}, {two, keyed("a,a", pair(num(1), none), pair(none, set("x"))), keyed("a", pair(num(1), set("x"))), 0}, {lasts, keyed("a,a,a", last(1, 9, "z"), last(2, 0, ""), last(1, 2, "x")), keyed("a", last(2, 0, "")), 0}, {ticking, keyed("a,a", clocks(ticks(2, 1, 1, 1)), clocks(ticks(1, 3))), keyed("a", clocks(ticks(1, 3, 2, 1))), 0},
		{deep, keyed("a,a", keyed("x", set("p")), keyed("y,x", set("r"), set("q"))), keyed("a", keyed("x,y", set("p", "q"), set("r"))), 0}, {causes, keyed("a,a", cause(at(ticks(1, 1), set("p"))), cause(at(ticks(1, 1), set("q")))), keyed("a", cause(at(ticks(1, 1), set("p", "q")))), 0}, {causes, keyed("a,a", cause(at(ticks(1, 2), set("p"))), cause(at(ticks(1, 1), set("q")))), keyed("a", cause(at(ticks(1, 2), set("p")))), 0}, {causes, keyed("a,a", cause(at(ticks(2, 1), set("p"))), cause(at(ticks(1, 1), set("q")))), keyed("a", cause(at(ticks(1, 1), set("q")), at(ticks(2, 1), set("p")))), 0},
		// nothing at a key
		{numbers, keyed("a", none), none, 0}, {numbers, keyed("a,a", none, none), none, 0}, {numbers, keyed("a,b", none, num(1)), keyed("b", num(1)), 0}, {numbers, keyed("a,a", none, num(1)), keyed("a", num(1)), 0}, {numbers, keyed("a,a", num(1), none), keyed("a", num(1)), 0}, {sets, keyed("b,a,b", none, none, none), none, 0}, {two, keyed("a", pair(none, none)), none, 0}, {two, keyed("a,a", pair(none, none), pair(none, none)), none, 0}, {two, keyed("b,a,a", pair(none, none), pair(none, none), pair(none, set(""))), keyed("a", pair(none, set(""))), 0},
		// what is nothing only when it is put
		{deep, keyed("a", keyed("x", none)), none, 0}, {deep, keyed("a,b", keyed("x,y", none, none), keyed("x,y", none, set("p"))), keyed("b", keyed("y", set("p"))), 0}, {ticking, keyed("a", clocks(nil)), none, 0}, {ticking, keyed("a,b,c", clocks(ticks(1, 0)), clocks(ticks(1, 0, 2, 1)), clocks(ticks(1, 0, 2, 0))), keyed("b", clocks(ticks(2, 1))), 0}, {of(api.KMap, of(api.KPair, ticking, deep)), keyed("a", pair(keyed("x,x", clocks(nil), clocks(ticks(3, 0))), keyed("y", keyed("z", none)))), none, 0},
		// a version of nothing is something
		{causes, keyed("a", cause(at(nil, none))), keyed("a", cause(at(nil, none))), 0}, {causes, keyed("a,b", none, cause(at(ticks(1, 0), none))), keyed("b", cause(at(nil, none))), 0},
	})
}

func TestPairs(t *testing.T) {
	two := of(api.KPair, of(api.KSet), of(api.KMax))
	four := of(api.KPair, two, of(api.KPair, of(api.KClock), of(api.KMap, of(api.KOr))))
	hold(t, []row{
		{two, pair(none, none), pair(none, none), 0}, {two, pair(set("b", "a"), num(1)), pair(set("a", "b"), num(1)), 0}, {of(api.KPair, of(api.KMax), of(api.KSet)), pair(num(1), set("b", "a", "b")), pair(num(1), set("a", "b")), 0}, {of(api.KPair, of(api.KSet), of(api.KSet)), pair(set("b", "a"), set("d", "c")), pair(set("a", "b"), set("c", "d")), 0}, {of(api.KPair, of(api.KMax), of(api.KMax)), pair(num(2), num(1)), pair(num(2), num(1)), 0},
		{four, pair(pair(set("b", "a"), num(1)), pair(clocks(ticks(2, 1, 1, 1)), keyed("b,a", num(1), none))), pair(pair(set("a", "b"), num(1)), pair(clocks(ticks(1, 1, 2, 1)), keyed("b", num(1)))), 0}, {four, pair(pair(none, none), pair(clocks(nil), keyed("a", none))), pair(pair(none, none), pair(none, none)), 0},
		{two, none, none, api.ErrType}, {two, pair(none), none, api.ErrType}, {two, pair(none, none, none), none, api.ErrType}, {two, pair(num(1), set("a")), none, api.ErrType}, {four, pair(pair(none, none), none), none, api.ErrType}, {four, pair(none, pair(none, none)), none, api.ErrType},
	})
}

func TestLasts(t *testing.T) {
	lasts := of(api.KLast)
	hold(t, []row{
		{lasts, none, none, 0}, {lasts, last(1, 2, "c"), last(1, 2, "c"), 0}, {lasts, last(1, 0, ""), last(1, 0, ""), 0}, {lasts, last(0, 1, ""), last(0, 1, ""), 0}, {lasts, last(0, 0, "c"), last(0, 0, "c"), 0}, {lasts, last(top, top, ""), last(top, top, ""), 0},
		{lasts, last(0, 0, ""), none, api.ErrType}, {lasts, num(3), none, api.ErrType}, {lasts, api.Value{M: 3}, none, api.ErrType}, {lasts, last(1, 2), none, api.ErrType}, {lasts, last(1, 2, "a", "b"), none, api.ErrType}, {lasts, last(1, 2, "a", "a"), none, api.ErrType}, {lasts, last(0, 0, "", ""), none, api.ErrType},
	})
}

func TestCauses(t *testing.T) {
	sets, two, within := of(api.KCause, of(api.KSet)), of(api.KCause, of(api.KPair, of(api.KMax), of(api.KSet))), of(api.KCause, of(api.KCause, of(api.KMax)))
	one, other, both, later := ticks(1, 1), ticks(2, 1), ticks(1, 1, 2, 1), ticks(1, 2)
	back := ticks(2, 1, 1, 1)
	a, b, ab := set("a"), set("b"), set("a", "b")
	hold(t, []row{
		{sets, none, none, 0}, {sets, cause(at(nil, none)), cause(at(nil, none)), 0}, {sets, cause(at(one, set("b", "a"))), cause(at(one, ab)), 0}, {sets, cause(at(back, a)), cause(at(both, a)), 0}, {sets, cause(at(ticks(1, 0), a)), cause(at(nil, a)), 0}, {sets, cause(at(ticks(2, 1, 1, 0, 2, 3), a)), cause(at(ticks(2, 3), a)), 0},
		// in order
		{sets, cause(at(other, b), at(one, a)), cause(at(one, a), at(other, b)), 0}, {sets, cause(at(ticks(10, 1), none), at(ticks(9, 1), none)), cause(at(ticks(9, 1), none), at(ticks(10, 1), none)), 0}, {sets, cause(at(ticks(3, 1), none), at(later, none), at(ticks(2, 2), none), at(back, none)), cause(at(both, none), at(later, none), at(ticks(2, 2), none), at(ticks(3, 1), none)), 0},
		// of one clock
		{sets, cause(at(one, b), at(one, a)), cause(at(one, ab)), 0}, {sets, cause(at(one, a), at(one, a)), cause(at(one, a)), 0}, {sets, cause(at(one, none), at(one, none)), cause(at(one, none)), 0}, {sets, cause(at(nil, a), at(nil, b)), cause(at(nil, ab)), 0}, {sets, cause(at(one, a), at(other, none), at(one, b)), cause(at(one, ab), at(other, none)), 0}, {two, cause(at(one, pair(num(1), none)), at(one, pair(none, a))), cause(at(one, pair(num(1), a))), 0},
		// of the same clock, written in another way
		{sets, cause(at(both, a), at(back, b)), cause(at(both, ab)), 0}, {sets, cause(at(back, a), at(both, b)), cause(at(both, ab)), 0}, {sets, cause(at(one, a), at(ticks(1, 1, 1, 1), b)), cause(at(one, ab)), 0}, {sets, cause(at(one, a), at(ticks(2, 0, 1, 1), b)), cause(at(one, ab)), 0}, {sets, cause(at(nil, a), at(ticks(2, 0), b)), cause(at(nil, ab)), 0}, {sets, cause(at(later, a), at(ticks(1, 1, 1, 2), b)), cause(at(later, ab)), 0},
		// that another one has seen
		{sets, cause(at(one, a), at(later, b)), cause(at(later, b)), 0}, {sets, cause(at(later, b), at(one, a)), cause(at(later, b)), 0}, {sets, cause(at(nil, a), at(one, none)), cause(at(one, none)), 0}, {sets, cause(at(one, a), at(back, b)), cause(at(both, b)), 0}, {sets, cause(at(back, b), at(one, a), at(other, a)), cause(at(both, b)), 0}, {sets, cause(at(one, a), at(other, a), at(back, b)), cause(at(both, b)), 0}, {sets, cause(at(ticks(1, 2, 0, 0), b), at(one, a)), cause(at(later, b)), 0}, {sets, cause(at(one, a), at(ticks(1, 0), b)), cause(at(one, a)), 0}, {sets, cause(at(one, a), at(later, none), at(one, b)), cause(at(later, none)), 0},
		{sets, cause(at(ticks(3, 1), a), at(one, a), at(later, b)), cause(at(later, b), at(ticks(3, 1), a)), 0}, {sets, cause(at(later, a), at(back, b)), cause(at(both, b), at(later, a)), 0},
		// causes in causes
		{within, cause(at(one, cause(at(other, num(2)), at(one, num(1))))), cause(at(one, cause(at(one, num(1)), at(other, num(2))))), 0}, {within, cause(at(one, cause(at(one, num(1)))), at(one, cause(at(back, num(2))))), cause(at(one, cause(at(both, num(2))))), 0}, {within, cause(at(one, cause(at(one, num(1)))), at(later, none)), cause(at(later, none)), 0},
	})
}

// TestOfLoose holds many things that fit each schema, in whatever order, some of it twice or nothing, against the document's words.
func TestOfLoose(t *testing.T) {
	for _, s := range kit.Schemas() {
		right, l := 0, kit.Loose(s, 1000)
		for _, v := range l {
			want, code := put(s, v)
			if told := amiss(s, v, want, code); told != "" || code != api.OK {
				t.Fatalf("P7.1: by %v: %s, %v", s, told, code)
			}
			if value.Is(s, v) {
				right++
			}
		}
		numbers := s.Kind == api.KMax || s.Kind == api.KOr || s.Kind == api.KLast
		if right == 0 || numbers != (right == len(l)) {
			t.Errorf("by %v: %d of %d are right as they are", s, right, len(l))
		}
	}
}

// TestDeepInside: what a thing is it is however deep it lies, whatever lies around it.
func TestDeepInside(t *testing.T) {
	for _, plain := range kit.Schemas() {
		for _, loose := range kit.Loose(plain, 12) {
			found, code := put(plain, loose)
			if code != api.OK || value.None(plain, found) {
				continue
			}
			for _, w := range kit.Wraps() {
				s, v, want := w.Schema(plain), w.Value(loose), w.Value(found)
				for schema.Is(s) {
					if told := amiss(s, v, want, api.OK); told != "" {
						t.Fatalf("P7.1: in %s: %s", w.Name, told)
					}
					s, v, want = w.Schema(s), w.Value(v), w.Value(want)
				}
			}
		}
	}
}

// TestNothing: what is nothing, however it is written down, is nothing, wherever it lies; and a map has no key for it.
func TestNothing(t *testing.T) {
	for _, plain := range kit.Schemas() {
		bottom := value.Bottom(plain)
		for _, v := range []api.Value{bottom, padded(plain, bottom)} {
			hold(t, []row{
				{plain, v, bottom, 0}, {of(api.KMap, plain), keyed("k", v), none, 0}, {of(api.KMap, of(api.KMap, plain)), keyed("b,a,b", keyed("k", v), keyed("k,k", v, bottom), none), none, 0},
				{of(api.KPair, plain, plain), pair(v, v), pair(bottom, bottom), 0}, {of(api.KCause, plain), cause(at(nil, v)), cause(at(nil, bottom)), 0}, {of(api.KMap, of(api.KPair, plain, of(api.KMax))), keyed("a,b", pair(v, num(1)), pair(v, none)), keyed("a", pair(bottom, num(1))), 0},
			})
		}
	}
}

// TestRightStays: what is right stays as it is, also of as many as may be.
func TestRightStays(t *testing.T) {
	for _, s := range kit.Schemas() {
		for _, v := range kit.Few(s, 64) {
			hold(t, []row{{s, v, v, 0}})
		}
	}
	for _, c := range kit.Samples() {
		for _, v := range c.Values {
			hold(t, []row{{c.Schema, v, v, 0}})
		}
	}
	for _, c := range kit.Splits() {
		for _, n := range []int{0, 1, 2, most - 1, most} {
			hold(t, []row{{c.Schema, c.Make(0, n), c.Make(0, n), 0}})
		}
	}
}

// TestOneValue: however a value is written down, its rows in whatever order, all the way in, some of it twice, with what adds nothing, it is that value.
func TestOneValue(t *testing.T) {
	for _, s := range kit.Schemas() {
		for _, v := range kit.Few(s, 40) {
			for _, way := range turns() {
				for _, written := range []api.Value{turned(s, v, way), turned(s, padded(s, v), way), turned(s, turned(s, v, turns()[1]), way)} {
					if told := amiss(s, written, v, api.OK); told != "" {
						t.Fatalf("P7.2: by %v, %s: %s", s, way.name, told)
					}
				}
			}
		}
	}
}

// TestInAllOrders: in each order of its rows of three a thing is the same.
func TestInAllOrders(t *testing.T) {
	for _, s := range kit.Schemas() {
		for _, v := range kit.Loose(s, 300) {
			want, code := put(s, v)
			for _, order := range [][]int{{0, 1, 2}, {0, 2, 1}, {1, 0, 2}, {1, 2, 0}, {2, 0, 1}, {2, 1, 0}} {
				other := api.Value{N: v.N, M: v.M, S: reordered(v.S, order), C: reordered(v.C, order), V: reordered(v.V, order)}
				if told := amiss(s, other, want, code); told != "" {
					t.Fatalf("P7.2: by %v: %s", s, told)
				}
			}
		}
	}
}

// reordered leaves a list of another length as it is.
func reordered[T any](l []T, order []int) []T {
	if len(l) != len(order) {
		return l
	}
	return picked(l, order)
}

func TestExample(t *testing.T) {
	hold(t, []row{{of(api.KSet), set("b", "a", "b"), set("a", "b"), 0}})
}
