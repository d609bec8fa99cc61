package kit

import (
	"slices"
	"strconv"

	"trefoil/api"
)

// spare is how much room Roomy leaves behind a list.
const spare = 2

// Roomy answers a copy of v whose lists, all the way in, have filled room behind them.
func Roomy(v api.Value) api.Value {
	var c [][]api.Tick
	for _, x := range v.C {
		c = append(c, room(x, api.Tick{Who: 77, N: 7}))
	}
	var l []api.Value
	for _, x := range v.V {
		l = append(l, Roomy(x))
	}
	return api.Value{N: v.N, M: v.M, S: room(v.S, "spare"), C: room(c, Ticks(77, 7)), V: room(l, Keyed("spare", Num(7)))}
}

// RoomySchema answers likewise of a schema.
func RoomySchema(s api.Schema) api.Schema {
	var in []api.Schema
	for _, p := range s.In {
		in = append(in, RoomySchema(p))
	}
	return api.Schema{Kind: s.Kind, In: room(in, Of(-77, Of(-7)))}
}

func room[T any](l []T, t T) []T {
	return append(slices.Clone(l), slices.Repeat([]T{t}, spare)...)[:len(l)]
}

// Emptied answers v with an empty list wherever it has none.
func Emptied(v api.Value) api.Value {
	e := api.Value{N: v.N, M: v.M, S: append([]string{}, v.S...), C: [][]api.Tick{}, V: []api.Value{}}
	for _, c := range v.C {
		e.C = append(e.C, append([]api.Tick{}, c...))
	}
	for _, x := range v.V {
		e.V = append(e.V, Emptied(x))
	}
	return e
}

// Laid tells all that lies in the lists of what Roomy made, and in the room behind them.
func Laid(v api.Value) string { return Written(opened(v)) }

// LaidSchema tells likewise of what RoomySchema made.
func LaidSchema(s api.Schema) string {
	out := strconv.Itoa(s.Kind) + "("
	for _, p := range s.In {
		out += LaidSchema(p)
	}
	for _, p := range behind(s.In) {
		out += " " + strconv.Itoa(p.Kind)
	}
	return out + ")"
}

// opened answers a copy of v whose lists have taken the room behind them in.
func opened(v api.Value) api.Value {
	o := api.Value{N: v.N, M: v.M, S: slices.Concat(v.S, behind(v.S))}
	for _, c := range v.C {
		o.C = append(o.C, slices.Concat(c, behind(c)))
	}
	for _, x := range v.V {
		o.V = append(o.V, opened(x))
	}
	o.C, o.V = append(o.C, behind(v.C)...), append(o.V, behind(v.V)...)
	return o
}

func behind[T any](l []T) []T { return l[len(l) : len(l)+spare] }

// Places gives where v's lists lie, all the way in, and the room behind them.
func Places(v api.Value) []any {
	var out []any
	for i := range v.S[:cap(v.S)] {
		out = append(out, &v.S[:cap(v.S)][i])
	}
	for i, c := range v.C[:cap(v.C)] {
		out = append(out, &v.C[:cap(v.C)][i])
		for k := range c[:cap(c)] {
			out = append(out, &c[:cap(c)][k])
		}
	}
	for i, x := range v.V[:cap(v.V)] {
		out = append(append(out, &v.V[:cap(v.V)][i]), Places(x)...)
	}
	return out
}

// Apart tells whether of all these no two lists, all the way in, lie in one place, the room behind them included, and none lies where one of given does.
func Apart(given api.Value, l ...api.Value) bool {
	seen := map[any]bool{}
	for _, p := range Places(given) {
		seen[p] = true
	}
	for _, v := range l {
		for _, p := range Places(v) {
			if seen[p] {
				return false
			}
			seen[p] = true
		}
	}
	return true
}

// Scribble writes over all that lies in v's lists, all the way in, and in the room behind them.
func Scribble(v api.Value) {
	for _, p := range Places(v) {
		switch x := p.(type) {
		case *string:
			*x = "scribbled"
		case *api.Tick:
			*x = api.Tick{Who: -5, N: 5}
		case *[]api.Tick:
			*x = Ticks(-7, 7)
		case *api.Value:
			*x = api.Value{N: 9, M: 9}
		}
	}
}
