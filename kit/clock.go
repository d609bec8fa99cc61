package kit

import (
	"slices"

	"trefoil/api"
)

// Row writes the ticks of a clock one behind the other: by what comes of it versions stand in order.
func Row(c []api.Tick) []uint64 {
	var l []uint64
	for _, t := range c {
		l = append(l, uint64(t.Who), t.N)
	}
	return l
}

// UpTo tells whether none of a's N is above b's, in another way than layer 3 does.
func UpTo(a, b []api.Tick) bool {
	n := map[int]uint64{}
	for _, t := range b {
		n[t.Who] = t.N
	}
	return !slices.ContainsFunc(a, func(t api.Tick) bool { return t.N > n[t.Who] })
}
