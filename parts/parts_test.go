package parts_test

import (
	"math"
	"slices"
	"strings"
	"testing"

	"trefoil/api"
	"trefoil/kit"
	"trefoil/order"
	"trefoil/parts"
	"trefoil/schema"
	"trefoil/value"
)

const (
	top  = math.MaxUint64
	most = api.MaxItems
)

// A whole is a value of a schema, and what Parts is to answer of it.
type whole struct {
	s    api.Schema
	v    api.Value
	want []api.Value
}

func list(l ...api.Value) []api.Value { return l }

// hold asks of each, also with an empty list wherever it has none, and holds it against the document's words too.
func hold(t *testing.T, l []whole) {
	t.Helper()
	for i, c := range l {
		if told := amiss(c.s, c.v, c.want) + amiss(c.s, kit.Emptied(c.v), c.want); told != "" {
			t.Errorf("P8.1: row %d: %s", i, told)
		}
		if words := told(split(c.s, c.v)); words != told(c.want) {
			t.Errorf("row %d: the words say %s, not %s", i, words, told(c.want))
		}
	}
}

func TestNumbers(t *testing.T) {
	number, or := of(api.KMax), of(api.KOr)
	hold(t, []whole{
		{number, none, nil}, {number, num(1), list(num(1))}, {number, num(3), list(num(3))}, {number, num(1 << 63), list(num(1 << 63))}, {number, num(top), list(num(top))},
		{or, none, nil}, {or, num(1), list(num(1))},
	})
}

func TestLasts(t *testing.T) {
	lasts := of(api.KLast)
	for _, v := range []api.Value{last(1, 2, "a"), last(1, 0, ""), last(0, 1, ""), last(0, 0, "a"), last(top, top, ""), last(0, top, "\x00"), last(top, 0, strings.Repeat("x", api.MaxText))} {
		hold(t, []whole{{lasts, v, list(v)}})
	}
	hold(t, []whole{{lasts, none, nil}})
}

func TestSets(t *testing.T) {
	sets, brim := of(api.KSet), strings.Repeat("x", api.MaxText)
	hold(t, []whole{
		{sets, none, nil}, {sets, set("a"), list(set("a"))}, {sets, set(""), list(set(""))}, {sets, set("a", "b"), list(set("a"), set("b"))},
		{sets, set("", "\x00", "10", "9", "a", "ab", brim, "\xff"), list(set(""), set("\x00"), set("10"), set("9"), set("a"), set("ab"), set(brim), set("\xff"))},
	})
}

func TestClocks(t *testing.T) {
	ticking := of(api.KClock)
	hold(t, []whole{
		{ticking, none, nil}, {ticking, clocks(ticks(1, 1)), list(clocks(ticks(1, 1)))}, {ticking, clocks(ticks(0, 7)), list(clocks(ticks(0, 7)))},
		{ticking, clocks(ticks(1, 2, 3, 4)), list(clocks(ticks(1, 2)), clocks(ticks(3, 4)))}, {ticking, clocks(ticks(0, 9, 5, 9, 1000000, 1)), list(clocks(ticks(0, 9)), clocks(ticks(5, 9)), clocks(ticks(1000000, 1)))},
		{ticking, clocks([]api.Tick{{Who: 1, N: top}, {Who: 2, N: 1 << 63}}), list(clocks([]api.Tick{{Who: 1, N: top}}), clocks([]api.Tick{{Who: 2, N: 1 << 63}}))},
	})
}

func TestMaps(t *testing.T) {
	numbers, sets, lasts := of(api.KMap, of(api.KMax)), of(api.KMap, of(api.KSet)), of(api.KMap, of(api.KLast))
	two, deep, causes := of(api.KMap, of(api.KPair, of(api.KMax), of(api.KSet))), of(api.KMap, sets), of(api.KMap, of(api.KCause, of(api.KSet)))
	hold(t, []whole{
		{numbers, none, nil}, {numbers, keyed("a", num(1)), list(keyed("a", num(1)))}, {numbers, keyed("", num(top)), list(keyed("", num(top)))}, {numbers, keyed(",a,b", num(3), num(1), num(2)), list(keyed("", num(3)), keyed("a", num(1)), keyed("b", num(2)))},
		{sets, keyed("k,l", set("a", "b"), set("c")), list(keyed("k", set("a")), keyed("k", set("b")), keyed("l", set("c")))}, {sets, keyed(",k", set("", "a"), set("")), list(keyed("", set("")), keyed("", set("a")), keyed("k", set("")))}, {sets, keyed("a,b", set("b"), set("a")), list(keyed("a", set("b")), keyed("b", set("a")))}, {lasts, keyed("a,b", last(0, 0, "x"), last(1, 0, "")), list(keyed("a", last(0, 0, "x")), keyed("b", last(1, 0, "")))},
		{two, keyed("a", pair(num(1), none)), list(keyed("a", pair(num(1), none)))}, {two, keyed("a", pair(none, set("x"))), list(keyed("a", pair(none, set("x"))))}, {two, keyed("a,b", pair(num(1), set("x", "y")), pair(num(2), none)), list(keyed("a", pair(num(1), none)), keyed("a", pair(none, set("x"))), keyed("a", pair(none, set("y"))), keyed("b", pair(num(2), none)))},
		{deep, keyed("a,b", keyed("x,y", set("p"), set("q", "r")), keyed("x", set("p"))), list(keyed("a", keyed("x", set("p"))), keyed("a", keyed("y", set("q"))), keyed("a", keyed("y", set("r"))), keyed("b", keyed("x", set("p"))))},
		// a version of nothing is something
		{causes, keyed("a,b", cause(at(nil, none)), cause(at(ticks(1, 1), none), at(ticks(2, 1), set("x", "y")))), list(keyed("a", cause(at(nil, none))), keyed("b", cause(at(ticks(1, 1), none))), keyed("b", cause(at(ticks(2, 1), set("x")))), keyed("b", cause(at(ticks(2, 1), set("y")))))},
	})
}

func TestPairs(t *testing.T) {
	two, twice, ends := of(api.KPair, of(api.KMax), of(api.KSet)), of(api.KPair, of(api.KSet), of(api.KSet)), of(api.KPair, of(api.KLast), of(api.KOr))
	four, causes := of(api.KPair, two, ends), of(api.KPair, of(api.KCause, of(api.KMax)), of(api.KMap, of(api.KSet)))
	hold(t, []whole{
		{two, pair(none, none), nil}, {two, pair(num(1), none), list(pair(num(1), none))}, {two, pair(none, set("a")), list(pair(none, set("a")))}, {two, pair(num(1), set("a", "b")), list(pair(num(1), none), pair(none, set("a")), pair(none, set("b")))}, {twice, pair(set("b", "c"), set("a", "b")), list(pair(set("b"), none), pair(set("c"), none), pair(none, set("a")), pair(none, set("b")))}, {ends, pair(last(0, 0, "a"), num(1)), list(pair(last(0, 0, "a"), none), pair(none, num(1)))}, {ends, pair(none, num(1)), list(pair(none, num(1)))},
		{four, pair(pair(none, none), pair(none, none)), nil}, {four, pair(pair(num(2), set("")), pair(none, num(1))), list(pair(pair(num(2), none), pair(none, none)), pair(pair(none, set("")), pair(none, none)), pair(pair(none, none), pair(none, num(1))))}, {four, pair(pair(none, none), pair(last(1, 1, "x"), none)), list(pair(pair(none, none), pair(last(1, 1, "x"), none)))},
		{of(api.KPair, of(api.KMax), two), pair(num(1), pair(num(1), none)), list(pair(num(1), pair(none, none)), pair(none, pair(num(1), none)))}, {of(api.KPair, two, of(api.KMax)), pair(pair(none, set("a")), num(1)), list(pair(pair(none, set("a")), none), pair(pair(none, none), num(1)))},
		{causes, pair(cause(at(nil, none)), none), list(pair(cause(at(nil, none)), none))}, {causes, pair(cause(at(ticks(1, 1), num(1)), at(ticks(2, 1), none)), keyed("k", set("a", "b"))), list(pair(cause(at(ticks(1, 1), num(1))), none), pair(cause(at(ticks(2, 1), none)), none), pair(none, keyed("k", set("a"))), pair(none, keyed("k", set("b"))))},
	})
}

func TestCauses(t *testing.T) {
	sets, two, within := of(api.KCause, of(api.KSet)), of(api.KCause, of(api.KPair, of(api.KMax), of(api.KSet))), of(api.KCause, of(api.KCause, of(api.KMax)))
	one, other, both, later := ticks(1, 1), ticks(2, 1), ticks(1, 1, 2, 1), ticks(1, 2)
	hold(t, []whole{
		{sets, none, nil}, {sets, cause(at(one, set("a"))), list(cause(at(one, set("a"))))}, {sets, cause(at(one, set("a", "b"))), list(cause(at(one, set("a"))), cause(at(one, set("b"))))}, {sets, cause(at(one, set("b")), at(other, set("", "a"))), list(cause(at(one, set("b"))), cause(at(other, set(""))), cause(at(other, set("a"))))}, {sets, cause(at(both, set("b", "c")), at(later, set("a"))), list(cause(at(both, set("b"))), cause(at(both, set("c"))), cause(at(later, set("a"))))},
		// of nothing that
		{sets, cause(at(nil, none)), list(cause(at(nil, none)))}, {sets, cause(at(nil, set("a", "b"))), list(cause(at(nil, set("a"))), cause(at(nil, set("b"))))}, {sets, cause(at(one, none)), list(cause(at(one, none)))}, {sets, cause(at(one, none), at(other, set("a", "b"))), list(cause(at(one, none)), cause(at(other, set("a"))), cause(at(other, set("b"))))}, {sets, cause(at(one, set("a")), at(other, none)), list(cause(at(one, set("a"))), cause(at(other, none)))}, {sets, cause(at(one, none), at(other, none)), list(cause(at(one, none)), cause(at(other, none)))},
		{two, cause(at(one, pair(none, none))), list(cause(at(one, pair(none, none))))}, {two, cause(at(both, pair(num(1), set("a"))), at(later, pair(none, none)), at(ticks(3, 1), pair(num(2), none))), list(cause(at(both, pair(num(1), none))), cause(at(both, pair(none, set("a")))), cause(at(later, pair(none, none))), cause(at(ticks(3, 1), pair(num(2), none))))},
		{within, cause(at(one, none)), list(cause(at(one, none)))}, {within, cause(at(one, cause(at(nil, none)))), list(cause(at(one, cause(at(nil, none)))))}, {within, cause(at(one, cause(at(one, num(1)), at(other, none))), at(other, none)), list(cause(at(one, cause(at(one, num(1))))), cause(at(one, cause(at(other, none)))), cause(at(other, none)))},
	})
}

// TestNothing: of nothing there are no parts, wherever it lies; but a version that holds it is a part.
func TestNothing(t *testing.T) {
	for _, s := range append(kit.Schemas(), kit.Full(3), schema.Cause(of(api.KMax))) {
		bottom := value.Bottom(s)
		version := cause(at(ticks(1, 1), bottom))
		hold(t, []whole{
			{s, bottom, nil}, {of(api.KMap, s), none, nil}, {of(api.KPair, s, s), pair(bottom, bottom), nil}, {of(api.KPair, s, of(api.KMax)), pair(bottom, num(1)), list(pair(bottom, num(1)))}, {of(api.KPair, of(api.KMax), s), pair(num(1), bottom), list(pair(num(1), bottom))},
			{of(api.KCause, s), none, nil}, {of(api.KCause, s), version, list(version)}, {of(api.KMap, of(api.KCause, s)), keyed("k", version), list(keyed("k", version))},
		})
	}
}

// TestOfFew holds the parts of a few values of each schema against the document's words; none of them is within another one, so that each is needed.
func TestOfFew(t *testing.T) {
	for _, s := range kit.Schemas() {
		many := 0
		for _, v := range kit.Few(s, 300) {
			l := split(s, v)
			if told := amiss(s, v, l); told != "" {
				t.Fatalf("P8.1: by %v: %s", s, told)
			}
			for i, x := range l {
				for k, y := range l {
					if less, err := order.Leq(s, x, y); err != nil || less != (i == k) {
						t.Fatalf("P8.3: by %v: %v is told, and so is %v: %v", s, x, y, err)
					}
				}
			}
			many = max(many, len(l))
		}
		if number := s.Kind == api.KMax || s.Kind == api.KOr || s.Kind == api.KLast; number != (many < 2) {
			t.Errorf("by %v: at most %d parts", s, many)
		}
	}
}

// TestDeepInside: as many parts however deep a value lies, each where it lies.
func TestDeepInside(t *testing.T) {
	for _, plain := range kit.Schemas() {
		for _, x := range kit.Few(plain, 8)[1:] {
			for _, w := range kit.Wraps() {
				s, v, l := plain, x, split(plain, x)
				for deep := 1; schema.Is(w.Schema(s)); deep++ {
					own := []api.Value{}
					for _, x := range l {
						own = append(own, w.Value(x))
					}
					if w.Name == "a pair's first" { // beside which there is a number
						for i := range own {
							own[i].V[1] = none
						}
						own = append(own, pair(value.Bottom(s), num(1)))
					}
					s, v, l = w.Schema(s), w.Value(v), own
					if deep > 2 && schema.Is(w.Schema(s)) {
						continue
					}
					if told := amiss(s, v, l); told != "" {
						t.Fatalf("P8.1: in %s: %s", w.Name, told)
					}
				}
			}
		}
	}
}

// TestMany: as many rows as may be: each alone, in order, however deep they lie.
func TestMany(t *testing.T) {
	for _, c := range kit.Splits() {
		for _, n := range []int{1, 2, most - 1, most} {
			var l []api.Value
			for i := range n {
				l = append(l, c.Make(i, i+1))
			}
			hold(t, []whole{{c.Schema, c.Make(0, n), l}})
			for _, w := range kit.Wraps() {
				s, v := w.Schema(c.Schema), w.Value(c.Make(0, n))
				for schema.Is(w.Schema(s)) {
					s, v = w.Schema(s), w.Value(v)
				}
				if told := amiss(s, v, split(s, v)); told != "" {
					t.Fatalf("P8.1: %d %s in %s: %s", n, c.Name, w.Name, told)
				}
			}
			for _, x := range kit.Threes() {
				s, v := x.Schema(c.Schema), x.Value(list(c.Make(0, n), c.Make(1, 2), c.Make(0, n)))
				if told := amiss(s, v, split(s, v)); told != "" {
					t.Fatalf("P8.1: %d %s in %s: %s", n, c.Name, x.Name, told)
				}
			}
		}
	}
}

// square makes a map, or a cause, of as many as may be, each of which has v.
func square(kind int, v api.Value) api.Value {
	l := slices.Repeat([]api.Value{v}, most)
	if kind == api.KMap {
		return api.Value{S: kit.Texts(0, most), V: l}
	}
	return api.Value{C: kit.Versions(0, most, 1).C, V: l}
}

// TestManyOfMany: as many as may be in each of as many as may be.
func TestManyOfMany(t *testing.T) {
	for _, c := range kit.Splits() {
		for _, kind := range []int{api.KMap, api.KCause} {
			s, v := of(kind, c.Schema), square(kind, c.Make(0, most))
			got, err := parts.Parts(s, v)
			if err != nil || len(got) != most*most || told(got) != told(split(s, v)) {
				t.Errorf("P8.1: %s in Kind %d: %d parts, %v", c.Name, kind, len(got), err)
			}
		}
	}
}

// TestWideSchema: of pairs of pairs, as deep as a schema may be, the one side that isn't nothing.
func TestWideSchema(t *testing.T) {
	s := kit.Full(api.MaxDepth)
	v := value.Bottom(s)
	if l, err := parts.Parts(s, v); err != nil || len(l) != 0 {
		t.Errorf("P8.1: pairs of pairs of nothing: %d, %v", len(l), err)
	}
	x := &v
	for i := range api.MaxDepth - 1 {
		x = &x.V[i%2]
	}
	x.N = top
	if l, err := parts.Parts(s, v); err != nil || len(l) != 1 || !value.Same(l[0], v) {
		t.Errorf("P8.1: pairs of pairs of one number: %d, %v", len(l), err)
	}
}
