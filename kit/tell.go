package kit

import (
	"errors"
	"strconv"
	"strings"

	"trefoil/api"
)

// Written tells v in one way, and each other one in another way; none and empty are the same.
func Written(v api.Value) string {
	var b strings.Builder
	write(&b, v)
	return b.String()
}

func write(b *strings.Builder, v api.Value) {
	b.WriteString(strconv.FormatUint(v.N, 10) + "," + strconv.FormatUint(v.M, 10))
	for _, s := range counted(b, v.S) {
		b.WriteString(strconv.Quote(s))
	}
	for _, c := range counted(b, v.C) {
		for _, t := range counted(b, c) {
			b.WriteString(" " + strconv.Itoa(t.Who) + ":" + strconv.FormatUint(t.N, 10))
		}
	}
	for _, x := range counted(b, v.V) {
		b.WriteString("(")
		write(b, x)
		b.WriteString(")")
	}
}

// counted tells how long l is ahead of what is in it, so that no two lists are told alike.
func counted[T any](b *strings.Builder, l []T) []T {
	b.WriteString(";" + strconv.Itoa(len(l)))
	return l
}

// Tells tells whether err is that error, both ways in which one asks.
func Tells(err error, want api.Errno) bool {
	var number api.Errno
	return errors.Is(err, want) && errors.As(err, &number) && number == want
}

// Refused tells whether an answer is that error, and nothing beside it.
func Refused(v api.Value, err error, want api.Errno) bool {
	return Tells(err, want) && Written(v) == Written(api.Value{})
}
