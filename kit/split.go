package kit

import (
	"slices"

	"trefoil/api"
)

// A Split makes values of the things from one number on, below another: of those that may be as many as MaxItems.
type Split struct {
	Name   string
	Schema api.Schema
	Make   func(from, to int) api.Value
}

func Splits() []Split {
	return []Split{
		{"elements", Of(api.KSet), func(from, to int) api.Value { return Set(Texts(from, to)...) }},
		{"keys", Of(api.KMap, Of(api.KMax)), func(from, to int) api.Value {
			return api.Value{S: Texts(from, to), V: slices.Repeat([]api.Value{Num(1)}, to-from)}
		}},
		{"ticks", Of(api.KClock), clockOf},
		{"versions", Of(api.KCause, Of(api.KMax)), func(from, to int) api.Value { return Versions(from, to, 1) }},
	}
}

// Versions makes a cause of nothing by each of these actors, each at its n-th tick.
func Versions(from, to, n int) api.Value {
	var l []Version
	for who := from; who < to; who++ {
		l = append(l, At(Ticks(who, n), api.Value{}))
	}
	return Cause(l...)
}

// clockOf makes the clock that has seen the first tick of each of these actors.
func clockOf(from, to int) api.Value {
	if from == to {
		return api.Value{}
	}
	var c []api.Tick
	for who := from; who < to; who++ {
		c = append(c, Ticks(who, 1)...)
	}
	return Clocks(c)
}
