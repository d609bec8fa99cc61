package parts_test

import (
	"errors"
	"slices"
	"strconv"
	"strings"

	"trefoil/api"
	"trefoil/join"
	"trefoil/kit"
	"trefoil/order"
	"trefoil/parts"
	"trefoil/value"
)

var none api.Value

// Short names, so that tables of values read as such.
var (
	of     = kit.Of
	num    = kit.Num
	set    = kit.Set
	last   = kit.Last
	pair   = kit.Pair
	keyed  = kit.Keyed
	ticks  = kit.Ticks
	clocks = kit.Clocks
	at     = kit.At
	cause  = kit.Cause

	refused = kit.Refused
)

// split says what Parts is to answer of v, a value of s, by the document's words, one by one.
func split(s api.Schema, v api.Value) []api.Value {
	var out []api.Value
	switch s.Kind {
	case api.KMax, api.KOr, api.KLast:
		if v.N != 0 || v.M != 0 || len(v.S) > 0 {
			out = append(out, v)
		}
	case api.KSet:
		for _, e := range v.S {
			out = append(out, set(e))
		}
	case api.KMap:
		for i, k := range v.S {
			for _, x := range split(s.In[0], v.V[i]) {
				out = append(out, api.Value{S: []string{k}, V: []api.Value{x}})
			}
		}
	case api.KPair:
		for _, x := range split(s.In[0], v.V[0]) {
			out = append(out, pair(x, value.Bottom(s.In[1])))
		}
		for _, x := range split(s.In[1], v.V[1]) {
			out = append(out, pair(value.Bottom(s.In[0]), x))
		}
	case api.KClock:
		for _, t := range slices.Concat(v.C...) {
			out = append(out, clocks([]api.Tick{t}))
		}
	case api.KCause:
		for i, c := range v.C {
			l := split(s.In[0], v.V[i])
			if len(l) == 0 {
				l = []api.Value{v.V[i]}
			}
			for _, x := range l {
				out = append(out, cause(at(c, x)))
			}
		}
	}
	return out
}

// rest says what Diff is to answer of a and b, values of s, likewise: each part of b is held against the whole of a.
func rest(s api.Schema, a, b api.Value) api.Value {
	var l []api.Value
	for _, x := range split(s, b) {
		if !kit.Leq(s, x, a) {
			l = append(l, x)
		}
	}
	d, err := join.All(s, l)
	if err != nil {
		panic("parts of one value are too large together, or wrong: " + kit.Written(b))
	}
	return d
}

// told writes values one behind the other, each so that another one is written in another way.
func told(l []api.Value) string {
	var b strings.Builder
	for _, v := range l {
		b.WriteString("[" + kit.Written(v) + "]")
	}
	return b.String()
}

// amiss tells what Parts answers of v, a value of s, if that isn't as wanted, or isn't what parts are: each something of s that has itself alone as its part, and all of them v. Nothing, if all is right.
func amiss(s api.Schema, v api.Value, want []api.Value) string {
	got, err := parts.Parts(s, v)
	if err != nil || told(got) != told(want) {
		return "Parts(" + kit.Written(v) + "): " + told(got) + outcome(err) + ", not " + told(want)
	}
	for _, x := range got {
		own, err := parts.Parts(s, x)
		if err != nil || told(own) != told([]api.Value{x}) || !value.Is(s, x) || value.None(s, x) {
			return "part " + kit.Written(x) + ": its parts: " + told(own) + outcome(err)
		}
	}
	all, err := join.All(s, got)
	if err != nil || kit.Written(all) != kit.Written(v) {
		return "parts of " + kit.Written(v) + ": together " + kit.Written(all) + outcome(err)
	}
	return ""
}

// amissDiff tells what Diff answers of a and b, values of s, if that isn't as wanted, or isn't what b has beyond a: with a it is what b is with a, it is of b, and no part of it is of a. Nothing, if all is right.
func amissDiff(s api.Schema, a, b, want api.Value) string {
	of := "Diff(" + kit.Written(a) + ", " + kit.Written(b) + "): "
	got, err := parts.Diff(s, a, b)
	if err != nil || kit.Written(got) != kit.Written(want) || !value.Is(s, got) {
		return of + kit.Written(got) + outcome(err) + ", not " + kit.Written(want)
	}
	both, err := join.Join(s, a, b)
	with, other := join.Join(s, a, got)
	if kit.Written(both) != kit.Written(with) || !errors.Is(err, other) {
		return of + kit.Written(got) + ", with which it is " + kit.Written(with) + outcome(other) + ", not " + kit.Written(both) + outcome(err)
	}
	if less, err := order.Leq(s, got, b); err != nil || !less {
		return of + kit.Written(got) + ", that isn't of b" + outcome(err)
	}
	l, err := parts.Parts(s, got)
	for _, x := range l {
		if less, err := order.Leq(s, x, a); err != nil || less {
			return of + kit.Written(got) + ", of which a has " + kit.Written(x) + outcome(err)
		}
	}
	return outcome(err)
}

// amissTwice tells likewise of what Diff answered once more, and of what two are together.
func amissTwice(s api.Schema, a, b api.Value) string {
	got, bottom := rest(s, a, b), value.Bottom(s)
	out := amissDiff(s, a, got, got) + amissDiff(s, b, got, bottom) + amissDiff(s, bottom, b, b) + amissDiff(s, b, bottom, bottom) + amissDiff(s, b, b, bottom)
	if both, err := join.Join(s, a, b); err == nil {
		out += amissDiff(s, both, b, bottom) + amissDiff(s, both, a, bottom) + amissDiff(s, a, both, got)
	}
	return out
}

func outcome(err error) string {
	var n api.Errno
	if err == nil {
		return ""
	}
	if errors.As(err, &n) {
		return ", an error " + strconv.Itoa(int(n))
	}
	return ", " + err.Error()
}

// turnedAway tells whether Parts of v is an ErrType, and nothing beside it.
func turnedAway(s api.Schema, v api.Value) bool {
	l, err := parts.Parts(s, v)
	return len(l) == 0 && kit.Tells(err, api.ErrType)
}

// turnedAwayBoth tells likewise of Diff.
func turnedAwayBoth(s api.Schema, a, b api.Value) bool {
	d, err := parts.Diff(s, a, b)
	return refused(d, err, api.ErrType)
}
