package clock_test

import (
	"math"
	"slices"
	"testing"

	"trefoil/api"
	"trefoil/clock"
	"trefoil/kit"
)

const (
	maxWho = 1000000
	top    = uint64(math.MaxUint64)
)

// of makes ticks of Who, N, Who, N ..
func of(l ...uint64) []api.Tick {
	var c []api.Tick
	for i := 0; i < len(l); i += 2 {
		c = append(c, api.Tick{Who: int(l[i]), N: l[i+1]})
	}
	return c
}

// A count is what a clock stands for: of each of the actors its N, 0 of none.
type count [4]uint64

// few are actors at both ends, and two between that aren't neighbours.
var few = [4]int{0, 5, 7, maxWho}

// ticks writes the count down as a clock.
func (n count) ticks() []api.Tick {
	var c []api.Tick
	for i, who := range few {
		if n[i] > 0 {
			c = append(c, api.Tick{Who: who, N: n[i]})
		}
	}
	return c
}

// counts gives every count that is made of these N.
func counts(from ...uint64) []count {
	out := []count{{}}
	for i := range few {
		var next []count
		for _, n := range out {
			for _, x := range from {
				n[i] = x
				next = append(next, n)
			}
		}
		out = next
	}
	return out
}

// against holds a against b actor by actor.
func (n count) against(o count) int {
	below, above := false, false
	for i := range n {
		below = below || n[i] < o[i]
		above = above || n[i] > o[i]
	}
	switch {
	case below && above:
		return 2
	case below:
		return -1
	case above:
		return 1
	}
	return 0
}

func (n count) joined(o count) count {
	for i := range n {
		n[i] = max(n[i], o[i])
	}
	return n
}

// alike holds lists against each other without a call of the package.
func alike(a, b []api.Tick) bool {
	if len(a) != len(b) {
		return false
	}
	for i := range a {
		if a[i].Who != b[i].Who || a[i].N != b[i].N {
			return false
		}
	}
	return true
}

// many answers a clock of that many ticks.
func many(n int) []api.Tick {
	var c []api.Tick
	for i := range n {
		c = append(c, api.Tick{Who: 10 * i, N: uint64(i + 1)})
	}
	return c
}

// odd are ticks of which some are wrong alone, and some beside one another.
func odd() []api.Tick {
	return []api.Tick{{Who: -1, N: 2}, {Who: 3, N: 0}, {Who: 3, N: 1}, {Who: 3, N: top}, {Who: 4, N: 1}, {Who: maxWho + 1, N: 2}}
}

func spare() []api.Tick {
	return []api.Tick{{Who: -7, N: 77}, {Who: 0, N: 9}, {Who: 5, N: 9}, {Who: maxWho, N: 9}}
}

// roomy answers a copy of c with filled room behind it.
func roomy(c []api.Tick) []api.Tick {
	return append(slices.Clone(c), spare()...)[:len(c)]
}

// whole tells whether c, as roomy made it, is as it was, room included.
func whole(c, was []api.Tick) bool {
	return alike(c[:len(c)+len(spare())], append(slices.Clone(was), spare()...))
}

// overwrite changes c and all the room behind it.
func overwrite(c []api.Tick) {
	c = c[:cap(c)]
	for i := range c {
		c[i] = api.Tick{Who: -99, N: 99}
	}
}

func TestIs(t *testing.T) {
	for _, c := range []struct {
		c    []api.Tick
		want bool
	}{
		{nil, true},
		{[]api.Tick{}, true},
		{of(3, 1), true},
		{of(0, 1), true},
		{of(0, top), true},
		{of(maxWho, 1), true},
		{of(maxWho-1, 1), true},
		{of(maxWho+1, 1), false},
		{of(math.MaxInt64, 1), false},
		{[]api.Tick{{Who: -1, N: 1}}, false},
		{[]api.Tick{{Who: math.MinInt, N: 1}}, false},
		{of(3, 0), false},
		{of(0, 0), false},
		{of(0, 1, maxWho, 1), true},
		{of(0, 1, maxWho, 1, maxWho+1, 1), false},
		{[]api.Tick{{Who: -1, N: 1}, {Who: 0, N: 1}, {Who: 1, N: 1}}, false},
		{of(1, 5, 2, 5, 4, 5), true},
		{of(1, 9, 2, 1, 4, 3), true},
		{of(1, 0, 2, 5, 4, 5), false},
		{of(1, 5, 2, 0, 4, 5), false},
		{of(1, 5, 2, 5, 4, 0), false},
		{of(2, 5, 1, 5, 4, 5), false},
		{of(1, 5, 4, 5, 2, 5), false},
		{of(4, 5, 2, 5, 1, 5), false},
		{of(4, 1, 2, 2, 1, 3), false},
		{of(1, 5, 1, 5), false},
		{of(1, 5, 1, 6), false},
		{of(1, 6, 1, 5), false},
		{of(1, 5, 2, 5, 2, 5), false},
		{of(1, 5, 1, 5, 2, 5), false},
		{of(1, 5, 2, 5, 1, 5), false},
	} {
		if got := clock.Is(c.c); got != c.want {
			t.Errorf("P3.1: Is(%v): %v", c.c, got)
		}
	}
}

func TestIsOfMany(t *testing.T) {
	for n := range 3*api.MaxItems + 1 {
		if got := clock.Is(many(n)); got != (n <= api.MaxItems) {
			t.Errorf("P3.1: Is of %d ticks: %v", n, got)
		}
	}
	for i := range api.MaxItems {
		none, twice, last := many(api.MaxItems), many(api.MaxItems), many(api.MaxItems)
		none[i].N = 0
		twice[i].Who = twice[max(i, 1)-1].Who
		last[i].Who = maxWho + i
		if clock.Is(none) || clock.Is(twice) != (i == 0) || clock.Is(last) {
			t.Errorf("P3.1: Is of %d ticks, one of them wrong: the one at %d", api.MaxItems, i)
		}
	}
}

// TestIsOfLists holds Is of every short list against its words, one by one.
func TestIsOfLists(t *testing.T) {
	from := append(odd(), api.Tick{Who: 0, N: 1}, api.Tick{Who: maxWho, N: 1})
	for _, c := range kit.Lists(from, 4) {
		want := true
		for i, x := range c {
			want = want && 0 <= x.Who && x.Who <= maxWho && x.N != 0
			for _, y := range c[:i] {
				want = want && y.Who < x.Who
			}
		}
		if got := clock.Is(c); got != want {
			t.Fatalf("P3.1: Is(%v): %v", c, got)
		}
	}
}

func TestOf(t *testing.T) {
	for _, n := range counts(0, 1, 6, top) {
		c := n.ticks()
		for i, who := range few {
			if got := clock.Of(c, who); got != n[i] {
				t.Fatalf("P3.1: Of(%v, %d): %d", c, who, got)
			}
			for _, none := range []int{who - 1, who + 1, -who - 1, who + maxWho + 1, math.MinInt, math.MaxInt} {
				if got := clock.Of(c, none); got != 0 {
					t.Fatalf("P3.1: Of(%v, %d): %d", c, none, got)
				}
			}
		}
	}
}

func TestOfMany(t *testing.T) {
	for n := range api.MaxItems + 1 {
		c := many(n)
		for who := -1; who <= 10*api.MaxItems; who++ {
			want := uint64(0)
			if who >= 0 && who < 10*n && who%10 == 0 {
				want = uint64(who/10 + 1)
			}
			if got := clock.Of(c, who); got != want {
				t.Fatalf("P3.1: Of %d of %d ticks: %d", who, n, got)
			}
		}
	}
}

func TestUp(t *testing.T) {
	two := of(3, 4, 6, 9)
	for _, c := range []struct {
		c    []api.Tick
		who  int
		want []api.Tick
	}{
		{nil, 0, of(0, 1)},
		{[]api.Tick{}, 4, of(4, 1)},
		{nil, maxWho, of(maxWho, 1)},
		{of(3, 4), 3, of(3, 5)},
		{two, 3, of(3, 5, 6, 9)},
		{two, 6, of(3, 4, 6, 10)},
		{two, 0, of(0, 1, 3, 4, 6, 9)},
		{two, 2, of(2, 1, 3, 4, 6, 9)},
		{two, 4, of(3, 4, 4, 1, 6, 9)},
		{two, 5, of(3, 4, 5, 1, 6, 9)},
		{two, 7, of(3, 4, 6, 9, 7, 1)},
		{two, maxWho, of(3, 4, 6, 9, maxWho, 1)},
		{of(3, top-1), 3, of(3, top)},
		{of(3, top), 3, of(3, top)},
		{of(3, top), 2, of(2, 1, 3, top)},
		{of(3, top), 4, of(3, top, 4, 1)},
		{of(3, top, 6, top, 8, 2), 6, of(3, top, 6, top, 8, 2)},
		{of(3, top, 6, top, 8, 2), 8, of(3, top, 6, top, 8, 3)},
		{of(3, math.MaxInt64), 3, of(3, 1<<63)},
		{of(3, math.MaxUint32), 3, of(3, 1<<32)},
	} {
		if got := clock.Up(c.c, c.who); !alike(got, c.want) {
			t.Errorf("P3.1: Up(%v, %d): %v", c.c, c.who, got)
		}
	}
}

func TestUpOfEveryActor(t *testing.T) {
	for _, n := range counts(0, 1, 6, top-1, top) {
		for i, who := range few {
			want := n
			if want[i] < top {
				want[i]++
			}
			if got := clock.Up(n.ticks(), who); !alike(got, want.ticks()) || !clock.Is(got) {
				t.Fatalf("P3.1: Up(%v, %d): %v", n.ticks(), who, got)
			}
		}
	}
}

// TestUpOfMany: each place of a long clock; one tick more than a clock may have is no clock.
func TestUpOfMany(t *testing.T) {
	for _, n := range []int{api.MaxItems - 1, api.MaxItems} {
		for i := range n {
			want := many(n)
			want[i].N++
			if got := clock.Up(many(n), 10*i); !alike(got, want) || !clock.Is(got) {
				t.Errorf("P3.1: Up of %d of %d ticks: %v", 10*i, n, got)
			}
			want = slices.Insert(many(n), i, api.Tick{Who: 10*i - 1, N: 1})
			if got := clock.Up(many(n), 10*i-1); !alike(got, want) || clock.Is(got) != (i > 0 && n < api.MaxItems) {
				t.Errorf("P3.1: Up of %d, that isn't there, of %d ticks: %v", 10*i-1, n, got)
			}
		}
	}
}

// TestUpOfNoActor: who is as the caller says, the clock is none then.
func TestUpOfNoActor(t *testing.T) {
	for _, who := range []int{-1, maxWho + 1, math.MinInt, math.MaxInt} {
		got := clock.Up(of(3, 4), who)
		want := []api.Tick{{Who: who, N: 1}, {Who: 3, N: 4}}
		if who > 3 {
			slices.Reverse(want)
		}
		if !alike(got, want) || clock.Is(got) {
			t.Errorf("P3.1: Up of %d: %v", who, got)
		}
	}
}

func TestJoin(t *testing.T) {
	for _, c := range []struct{ a, b, want []api.Tick }{
		{nil, nil, nil},
		{nil, of(3, 4), of(3, 4)},
		{of(3, 4), of(3, 4), of(3, 4)},
		{of(3, 4), of(3, 5), of(3, 5)},
		{of(3, 4), of(5, 4), of(3, 4, 5, 4)},
		{of(3, 4, 5, 1), of(3, 2, 5, 6), of(3, 4, 5, 6)},
		{of(3, 4, 5, 1), of(5, 6, 9, 2), of(3, 4, 5, 6, 9, 2)},
		{of(1, 1, 2, 2), of(7, 7, 8, 8), of(1, 1, 2, 2, 7, 7, 8, 8)},
		{of(1, 1, 5, 5, 9, 9), of(3, 3, 7, 7), of(1, 1, 3, 3, 5, 5, 7, 7, 9, 9)},
		{of(1, 1, 9, 9), of(3, 3, 5, 5, 7, 7), of(1, 1, 3, 3, 5, 5, 7, 7, 9, 9)},
		{of(1, 1, 3, 3, 9, 9), of(3, 4, 5, 5, 9, 8, 11, 1), of(1, 1, 3, 4, 5, 5, 9, 9, 11, 1)},
		{of(0, top), of(0, top-1, maxWho, 1), of(0, top, maxWho, 1)},
		{of(2, math.MaxInt64), of(2, 1<<63), of(2, 1<<63)},
	} {
		if got, back := clock.Join(c.a, c.b), clock.Join(c.b, c.a); !alike(got, c.want) || !alike(back, c.want) {
			t.Errorf("P3.1: Join(%v, %v): %v, and the other way round %v", c.a, c.b, got, back)
		}
	}
}

func TestJoinOfAnyTwo(t *testing.T) {
	all := counts(0, 1, 2, top)
	for _, n := range all {
		for _, o := range all {
			a, b, want := n.ticks(), o.ticks(), n.joined(o).ticks()
			if got := clock.Join(a, b); !alike(got, want) || !clock.Is(got) {
				t.Fatalf("P3.1: Join(%v, %v): %v", a, b, got)
			}
		}
	}
}

// TestJoinOfMany: as many ticks as come of it, also where a clock may not have that many.
func TestJoinOfMany(t *testing.T) {
	for n := range api.MaxItems + 1 {
		a, b := many(n), many(api.MaxItems)
		for i := range b {
			b[i].Who += 5
		}
		var want []api.Tick
		for i := range b {
			if i < n {
				want = append(want, a[i])
			}
			want = append(want, b[i])
		}
		got := clock.Join(a, b)
		if !alike(got, want) || !alike(clock.Join(b, a), want) || clock.Is(got) != (n == 0) {
			t.Errorf("P3.1: Join of %d and %d ticks: %v", n, len(b), got)
		}
	}
}

func TestCmp(t *testing.T) {
	for _, c := range []struct {
		a, b []api.Tick
		want int
	}{
		{nil, nil, 0},
		{nil, []api.Tick{}, 0},
		{nil, of(0, 1), -1},
		{nil, of(maxWho, top), -1},
		{of(3, 4), of(3, 4), 0},
		{of(3, 4), of(3, 5), -1},
		{of(3, top-1), of(3, top), -1},
		{of(3, math.MaxInt64), of(3, 1<<63), -1},
		{of(3, 4), of(3, 4, 5, 1), -1},
		{of(3, 4), of(2, 1, 3, 4), -1},
		{of(3, 4), of(2, 1, 3, 5), -1},
		{of(2, 1, 6, 1), of(2, 1, 4, 1, 6, 1), -1},
		{of(3, 4, 5, 6), of(3, 4, 5, 7), -1},
		{of(3, 4, 5, 6), of(3, 5, 5, 6), -1},
		{of(3, 4, 5, 6), of(3, 5, 5, 7), -1},
		{of(3, 4), of(5, 4), 2},
		{of(3, 4), of(5, 9), 2},
		{of(3, 4), of(3, 3, 5, 1), 2},
		{of(3, 4), of(2, 1, 3, 3), 2},
		{of(3, 4, 5, 6), of(3, 5, 5, 5), 2},
		{of(1, 1, 2, 2), of(2, 2, 3, 3), 2},
		{of(1, 1, 5, 5, 9, 9), of(3, 3, 7, 7), 2},
	} {
		back := map[int]int{-1: 1, 0: 0, 2: 2}[c.want]
		if got, other := clock.Cmp(c.a, c.b), clock.Cmp(c.b, c.a); got != c.want || other != back {
			t.Errorf("P3.1: Cmp(%v, %v): %d, and the other way round %d", c.a, c.b, got, other)
		}
	}
}

func TestCmpOfAnyTwo(t *testing.T) {
	all := counts(0, 1, 2, top)
	for _, n := range all {
		for _, o := range all {
			a, b, want := n.ticks(), o.ticks(), n.against(o)
			if got := clock.Cmp(a, b); got != want {
				t.Fatalf("P3.1: Cmp(%v, %v): %d, not %d", a, b, got, want)
			}
			if got := clock.Same(a, b); got != (want == 0) {
				t.Fatalf("P3.1: Same(%v, %v): %v", a, b, got)
			}
		}
	}
}

// TestCmpOfMany: one tick of a long clock decides, wherever it is.
func TestCmpOfMany(t *testing.T) {
	for i := range api.MaxItems {
		a, more := many(api.MaxItems), many(api.MaxItems)
		more[i].N++
		less := slices.Delete(many(api.MaxItems), i, i+1)
		if clock.Cmp(a, more) != -1 || clock.Cmp(more, a) != 1 || clock.Cmp(less, a) != -1 || clock.Cmp(a, less) != 1 {
			t.Errorf("P3.1: Cmp: the tick at %d", i)
		}
		apart := slices.Clone(more)
		apart[(i+1)%len(apart)].N = 0
		apart = slices.DeleteFunc(apart, func(t api.Tick) bool { return t.N == 0 })
		if clock.Cmp(a, apart) != 2 || clock.Cmp(apart, a) != 2 {
			t.Errorf("P3.1: Cmp: apart by the ticks at %d and behind it", i)
		}
	}
}

func TestExample(t *testing.T) {
	if got := clock.Cmp(nil, of(0, 1)); got != -1 {
		t.Errorf("P3.1: Cmp of none and one: %d", got)
	}
}

// TestSameOfLists holds Same of every two short lists, clocks or not, against a look at each part.
func TestSameOfLists(t *testing.T) {
	all := kit.Lists(odd(), 3)
	for i, a := range all {
		for j, b := range all {
			if got := clock.Same(roomy(a), b); got != (i == j) {
				t.Fatalf("P3.1: Same(%v, %v): %v", a, b, got)
			}
		}
	}
}

func TestSameOfMany(t *testing.T) {
	for _, n := range []int{1, api.MaxItems, api.MaxItems + 1, 1000} {
		a := many(n)
		if !clock.Same(a, many(n)) || clock.Same(a, many(n-1)) || clock.Same(many(n-1), a) {
			t.Errorf("P3.1: Same of %d ticks", n)
		}
		for i := range a {
			who, count := many(n), many(n)
			who[i].Who++
			count[i].N++
			if clock.Same(a, who) || clock.Same(count, a) {
				t.Errorf("P3.1: Same of %d ticks, the one at %d another one", n, i)
			}
		}
	}
}

// TestNoneAndEmpty: nil and a list of nothing are the same, whatever room is behind it.
func TestNoneAndEmpty(t *testing.T) {
	one := of(3, 4)
	for _, none := range [][]api.Tick{nil, {}, make([]api.Tick, 0, 4), roomy(nil)} {
		if !clock.Is(none) || clock.Of(none, 0) != 0 || !alike(clock.Up(none, 3), of(3, 1)) {
			t.Errorf("P3.1: of none: %#v", none)
		}
		if !alike(clock.Join(none, one), one) || !alike(clock.Join(one, none), one) || len(clock.Join(none, nil)) != 0 {
			t.Errorf("P3.1: Join of %#v", none)
		}
		if clock.Cmp(none, one) != -1 || clock.Cmp(one, none) != 1 || clock.Cmp(none, nil) != 0 || clock.Cmp(nil, none) != 0 {
			t.Errorf("P3.1: Cmp of %#v", none)
		}
		if !clock.Same(none, nil) || !clock.Same(nil, none) || clock.Same(none, one) || clock.Same(one, none) {
			t.Errorf("P3.1: Same of %#v", none)
		}
	}
}

// TestClocksJoin: in whatever order, however often; below is what joined is the other.
func TestClocksJoin(t *testing.T) {
	all := counts(0, 1, 2)
	for _, n := range all {
		a := n.ticks()
		if !alike(clock.Join(a, a), a) {
			t.Fatalf("P3.2: %v joined with itself", a)
		}
		for _, o := range all {
			b := o.ticks()
			ab := clock.Join(a, b)
			if !alike(ab, clock.Join(b, a)) || !alike(ab, clock.Join(ab, a)) || !alike(ab, clock.Join(b, ab)) {
				t.Fatalf("P3.2: %v, %v: the order, how often", a, b)
			}
			if order := clock.Cmp(a, b); alike(ab, b) != (order == -1 || order == 0) || alike(ab, a) != (order == 1 || order == 0) {
				t.Fatalf("P3.2: %v, %v: %d isn't what joining them says", a, b, order)
			}
			for _, p := range all {
				c := p.ticks()
				if !alike(clock.Join(ab, c), clock.Join(a, clock.Join(b, c))) {
					t.Fatalf("P3.2: %v, %v, %v joined", a, b, c)
				}
			}
		}
	}
}

// TestUpLiesAbove: what is done lies above what was seen, apart from what another one does.
func TestUpLiesAbove(t *testing.T) {
	for _, n := range counts(0, 1, 6, top-1) {
		c := n.ticks()
		for i, who := range few {
			up := clock.Up(c, who)
			if clock.Cmp(c, up) != -1 || clock.Cmp(up, c) != 1 || clock.Of(up, who) != n[i]+1 {
				t.Fatalf("P3.2: Up(%v, %d): %v", c, who, up)
			}
			for _, other := range few {
				if other != who && clock.Cmp(up, clock.Up(c, other)) != 2 {
					t.Fatalf("P3.2: of %v: Up of %d, Up of %d", c, who, other)
				}
			}
		}
	}
}

// A done is a step of a story: its clock, and, as bits, which steps came ahead of it, itself among them.
type done struct {
	clock []api.Tick
	ahead uint
}

// grow answers the story with one step more: who does something, behind having heard of what other did last (who itself: of nothing).
func grow(story []done, last [3]int, who, other int) ([]done, [3]int) {
	now := done{ahead: 1 << len(story)}
	for _, at := range []int{last[who], last[other]} {
		if at >= 0 {
			now.ahead |= story[at].ahead
			now.clock = clock.Join(now.clock, story[at].clock)
		}
	}
	now.clock = clock.Up(now.clock, few[who])
	last[who] = len(story)
	return append(slices.Clone(story), now), last
}

// stories gives, of three actors, every story of n steps.
func stories(n int, story []done, last [3]int, tell func([]done)) {
	if n == 0 {
		tell(story)
		return
	}
	for who := range last {
		for other := range last {
			next, at := grow(story, last, who, other)
			stories(n-1, next, at, tell)
		}
	}
}

// TestWhatCameAhead: a step's clock is below another one's just where the step came ahead of the other.
func TestWhatCameAhead(t *testing.T) {
	stories(5, nil, [3]int{-1, -1, -1}, func(story []done) {
		for i, a := range story {
			for j, b := range story {
				want := 2
				switch {
				case i == j:
					want = 0
				case b.ahead>>i&1 == 1:
					want = -1
				case a.ahead>>j&1 == 1:
					want = 1
				}
				if got := clock.Cmp(a.clock, b.clock); got != want || !clock.Is(a.clock) {
					t.Fatalf("P3.2: steps %d, %d of %v: %d", i, j, story, got)
				}
			}
		}
	})
}

// calls gives each call that answers a clock, by name.
func calls(a, b []api.Tick, who int) map[string]func() []api.Tick {
	return map[string]func() []api.Tick{
		"Up":   func() []api.Tick { return clock.Up(a, who) },
		"Join": func() []api.Tick { return clock.Join(a, b) },
	}
}

// told are the calls that answer numbers and whethers.
type told struct {
	is, same bool
	n        uint64
	cmp      int
}

func tell(a, b []api.Tick, who int) told {
	return told{clock.Is(a), clock.Same(a, b), clock.Of(a, who), clock.Cmp(a, b)}
}

// TestWrongClocks: whatever lists: each call ends, none panics, what is handed in stays, and the same makes the same.
func TestWrongClocks(t *testing.T) {
	all := kit.Lists(odd(), 3)
	for i, x := range all {
		for j, y := range all {
			a, b := roomy(x), roomy(y)
			c, d := slices.Clone(x), slices.Clone(y) // x, y themselves are never handed in: they say what was there
			first := tell(a, b, 3)
			if first != tell(c, d, 3) || first.same != (i == j) || !slices.Contains([]int{-1, 0, 1, 2}, first.cmp) {
				t.Fatalf("P3.1: %v, %v: %v, told two ways, or wrong", x, y, first)
			}
			for name, call := range calls(a, b, 3) {
				if got, again := call(), calls(c, d, 3)[name](); !alike(got, again) {
					t.Fatalf("P3.1: %s of %v, %v: told two ways", name, x, y)
				}
				if !whole(a, x) || !whole(b, y) {
					t.Fatalf("P3.1: %s changed %v, %v: %v, %v", name, x, y, a[:cap(a)], b[:cap(b)])
				}
			}
			if !whole(a, x) || !whole(b, y) {
				t.Fatalf("P3.1: %v, %v were changed: %v, %v", x, y, a[:cap(a)], b[:cap(b)])
			}
		}
	}
}

// TestWrongClocksOfMany: far more ticks than a clock has, rising, falling, all of one actor.
func TestWrongClocksOfMany(t *testing.T) {
	rising, falling, one := many(100000), many(100000), many(100000)
	slices.Reverse(falling)
	for i := range one {
		one[i].Who = 3
	}
	long := [][]api.Tick{rising, falling, one}
	for i, a := range long {
		for j, b := range long {
			was, beside := roomy(a), roomy(b)
			first := tell(was, beside, 3)
			for _, call := range calls(was, beside, 3) {
				call()
			}
			if first.is || first.same != (i == j) || !whole(was, a) || !whole(beside, b) {
				t.Errorf("P3.1: %d, %d: %v, or changed", i, j, first)
			}
		}
	}
	if got := clock.Join(rising, rising); !alike(got, rising) {
		t.Errorf("P3.1: Join of %d ticks that rise: %d", len(rising), len(got))
	}
}

// TestHandedInStays: clocks, and their spare room, are as they were.
func TestHandedInStays(t *testing.T) {
	all := counts(0, 1, top)
	for _, n := range all {
		for _, o := range all {
			a, b := roomy(n.ticks()), roomy(o.ticks())
			for _, who := range []int{-1, 0, 1, 5, 6, 7, 8, maxWho, maxWho + 1} {
				for _, call := range calls(a, b, who) {
					call()
				}
				tell(a, b, who)
			}
			if !whole(a, n.ticks()) || !whole(b, o.ticks()) {
				t.Fatalf("P3.1: handed in, changed: %v, %v", a[:cap(a)], b[:cap(b)])
			}
		}
	}
}

// TestAnswersAreNew: neither an argument nor another answer is touched by what is done with an answer, its spare room included, nor an answer by what is done with an argument.
func TestAnswersAreNew(t *testing.T) {
	all := counts(0, 1, top)
	for _, n := range all {
		for _, o := range all {
			for _, who := range []int{0, 1, 7, maxWho} {
				a, b := roomy(n.ticks()), roomy(o.ticks())
				kept := map[string][]api.Tick{}
				were := map[string][]api.Tick{}
				for name, call := range calls(a, b, who) {
					first, second := call(), call()
					were[name] = slices.Clone(second)
					overwrite(first)
					if !whole(a, n.ticks()) || !whole(b, o.ticks()) {
						t.Fatalf("P3.1: %s of %v, %v, %d: the answer is an argument", name, a, b, who)
					}
					if !alike(second, were[name]) {
						t.Fatalf("P3.1: %s of %v, %v, %d: two answers are one", name, a, b, who)
					}
					kept[name] = second
				}
				overwrite(a)
				overwrite(b)
				for name, got := range kept {
					if !alike(got, were[name]) {
						t.Fatalf("P3.1: %s of %v, %v, %d: the answer is an argument's", name, n, o, who)
					}
				}
			}
		}
	}
}

// TestNothingIsKept: a list that is handed in again, changed, is told as it is now.
func TestNothingIsKept(t *testing.T) {
	a, b := of(3, 4, 6, 9), of(3, 4, 6, 9)
	tell(a, b, 6)
	clock.Up(a, 6)
	clock.Join(a, b)
	a[1] = api.Tick{Who: 5, N: 2}
	if got := tell(a, b, 5); got != (told{true, false, 2, 2}) {
		t.Errorf("P3.1: of a list that was changed: %v", got)
	}
	if !alike(clock.Up(a, 6), of(3, 4, 5, 2, 6, 1)) || !alike(clock.Join(a, b), of(3, 4, 5, 2, 6, 9)) {
		t.Errorf("P3.1: of a list that was changed: %v, %v", clock.Up(a, 6), clock.Join(a, b))
	}
}
