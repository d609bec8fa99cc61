package order_test

import (
	"strconv"

	"trefoil/api"
	"trefoil/kit"
	"trefoil/order"
)

var none api.Value

// Short names, so that tables of values read as such.
var (
	of     = kit.Of
	num    = kit.Num
	set    = kit.Set
	last   = kit.Last
	pair   = kit.Pair
	keyed  = kit.Keyed
	ticks  = kit.Ticks
	clocks = kit.Clocks
	at     = kit.At
	cause  = kit.Cause

	upTo = kit.Leq
)

// standing is what Cmp is to answer, if Leq answers that, one way and the other.
func standing(less, more bool) int {
	return map[[2]bool]int{{true, true}: 0, {true, false}: -1, {false, true}: 1, {false, false}: 2}[[2]bool{less, more}]
}

// amiss tells what the calls answer of a and b, values of s, either way round, if Cmp isn't as wanted, or one of the others doesn't agree with it; nothing, if all is right.
func amiss(s api.Schema, a, b api.Value, want int) string {
	back := want
	if want == -1 || want == 1 {
		back = -want
	}
	there, err1 := order.Cmp(s, a, b)
	here, err2 := order.Cmp(s, b, a)
	less, err3 := order.Leq(s, a, b)
	more, err4 := order.Leq(s, b, a)
	if there == want && here == back && less == (want == 0 || want == -1) && more == (want == 0 || want == 1) && err1 == nil && err2 == nil && err3 == nil && err4 == nil {
		return ""
	}
	out := "of " + kit.Written(a) + " and " + kit.Written(b) + ": Cmp " + strconv.Itoa(there) + ", " + strconv.Itoa(here) + ", Leq " + strconv.FormatBool(less) + ", " + strconv.FormatBool(more) + ", not as " + strconv.Itoa(want) + " has it"
	for _, err := range []error{err1, err2, err3, err4} {
		if err != nil {
			out += ", " + err.Error()
		}
	}
	return out
}

// refused tells whether both calls answer an ErrType, and nothing beside it.
func refused(s api.Schema, a, b api.Value) bool {
	n, err := order.Cmp(s, a, b)
	less, other := order.Leq(s, a, b)
	return n == 0 && !less && kit.Tells(err, api.ErrType) && kit.Tells(other, api.ErrType)
}
