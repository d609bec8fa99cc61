// Package kit: schemas and values for the tests of the layers to try; no layer calls it.
package kit

import (
	"slices"
	"strconv"
	"strings"

	"trefoil/api"
)

func Of(kind int, in ...api.Schema) api.Schema {
	return api.Schema{Kind: kind, In: slices.Clone(in)}
}

func Num(n uint64) api.Value { return api.Value{N: n} }

func Set(l ...string) api.Value { return api.Value{S: slices.Clone(l)} }

func Last(n, m uint64, l ...string) api.Value { return api.Value{N: n, M: m, S: slices.Clone(l)} }

func Pair(l ...api.Value) api.Value { return api.Value{V: slices.Clone(l)} }

// Keyed makes a map of keys, parted by commas, and values.
func Keyed(keys string, l ...api.Value) api.Value {
	return api.Value{S: strings.Split(keys, ","), V: slices.Clone(l)}
}

// Ticks makes a list of Who, N, Who, N ..
func Ticks(l ...int) []api.Tick {
	var c []api.Tick
	for i := 1; i < len(l); i += 2 {
		c = append(c, api.Tick{Who: l[i-1], N: uint64(l[i])})
	}
	return c
}

func Clocks(l ...[]api.Tick) api.Value { return api.Value{C: slices.Clone(l)} }

// A Version is what a cause has several of.
type Version struct {
	Clock []api.Tick
	Value api.Value
}

func At(c []api.Tick, v api.Value) Version { return Version{Clock: c, Value: v} }

func Cause(l ...Version) api.Value {
	var v api.Value
	for _, x := range l {
		v.C, v.V = append(v.C, x.Clock), append(v.V, x.Value)
	}
	return v
}

// Texts answers those that are the numbers from a on, below b, all as long, so that they rise.
func Texts(a, b int) []string {
	var l []string
	for i := a; i < b; i++ {
		n := strconv.Itoa(i)
		l = append(l, strings.Repeat("0", max(0, 8-len(n)))+n)
	}
	return l
}

// Lists gives every list of at most n of these, in whatever order, however often.
func Lists[T any](from []T, n int) [][]T {
	out := [][]T{nil}
	for begin := 0; n > 0; n-- {
		end := len(out)
		for _, head := range out[begin:end] {
			for _, t := range from {
				out = append(out, append(slices.Clone(head), t))
			}
		}
		begin = end
	}
	return out
}
