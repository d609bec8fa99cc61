package order_test

import (
	"cmp"
	"slices"
	"strconv"
	"strings"

	"trefoil/api"
	"trefoil/kit"
	"trefoil/order"
)

var none api.Value

// Short names, so that tables of values read as such.
var (
	of     = kit.Of
	num    = kit.Num
	set    = kit.Set
	last   = kit.Last
	pair   = kit.Pair
	keyed  = kit.Keyed
	ticks  = kit.Ticks
	clocks = kit.Clocks
	at     = kit.At
	cause  = kit.Cause
)

// upTo says what Leq is to answer of values of s, by what each Kind's join does, with no call of a layer: nothing is joined, so that nothing is too large.
func upTo(s api.Schema, a, b api.Value) bool {
	switch s.Kind {
	case api.KMax, api.KOr:
		return a.N <= b.N
	case api.KSet:
		return all(len(a.S), func(i int) bool { return slices.Contains(b.S, a.S[i]) })
	case api.KMap:
		return all(len(a.S), func(i int) bool {
			k := slices.Index(b.S, a.S[i])
			return k >= 0 && upTo(s.In[0], a.V[i], b.V[k])
		})
	case api.KPair:
		return upTo(s.In[0], a.V[0], b.V[0]) && upTo(s.In[1], a.V[1], b.V[1])
	case api.KLast:
		return cmp.Or(cmp.Compare(a.N, b.N), cmp.Compare(a.M, b.M), strings.Compare(strings.Join(a.S, ""), strings.Join(b.S, ""))) <= 0
	case api.KClock:
		return kit.UpTo(slices.Concat(a.C...), slices.Concat(b.C...))
	}
	return all(len(a.C), func(i int) bool { return heard(s.In[0], a.C[i], a.V[i], b) })
}

// heard tells whether a cause has as much as this version of another one: the version itself, with as much in it, or one that has seen it.
func heard(s api.Schema, c []api.Tick, v api.Value, b api.Value) bool {
	for i, o := range b.C {
		if slices.Equal(c, o) && upTo(s, v, b.V[i]) || !slices.Equal(c, o) && kit.UpTo(c, o) {
			return true
		}
	}
	return false
}

// all tells whether it is so of each number below n.
func all(n int, is func(int) bool) bool {
	for i := range n {
		if !is(i) {
			return false
		}
	}
	return true
}

// standing is what Cmp is to answer, if Leq answers that, one way and the other.
func standing(less, more bool) int {
	return map[[2]bool]int{{true, true}: 0, {true, false}: -1, {false, true}: 1, {false, false}: 2}[[2]bool{less, more}]
}

// amiss tells what the calls answer of a and b, values of s, either way round, if Cmp isn't as wanted, or one of the others doesn't agree with it; nothing, if all is right.
func amiss(s api.Schema, a, b api.Value, want int) string {
	back := want
	if want == -1 || want == 1 {
		back = -want
	}
	there, err1 := order.Cmp(s, a, b)
	here, err2 := order.Cmp(s, b, a)
	less, err3 := order.Leq(s, a, b)
	more, err4 := order.Leq(s, b, a)
	if there == want && here == back && less == (want == 0 || want == -1) && more == (want == 0 || want == 1) && err1 == nil && err2 == nil && err3 == nil && err4 == nil {
		return ""
	}
	out := "of " + kit.Written(a) + " and " + kit.Written(b) + ": Cmp " + strconv.Itoa(there) + ", " + strconv.Itoa(here) + ", Leq " + strconv.FormatBool(less) + ", " + strconv.FormatBool(more) + ", not as " + strconv.Itoa(want) + " has it"
	for _, err := range []error{err1, err2, err3, err4} {
		if err != nil {
			out += ", " + err.Error()
		}
	}
	return out
}

// refused tells whether both calls answer an ErrType, and nothing beside it.
func refused(s api.Schema, a, b api.Value) bool {
	n, err := order.Cmp(s, a, b)
	less, other := order.Leq(s, a, b)
	return n == 0 && !less && kit.Tells(err, api.ErrType) && kit.Tells(other, api.ErrType)
}
