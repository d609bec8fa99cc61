package rows_test

import (
	"fmt"
	"slices"
	"testing"

	"trefoil/kit"
	"trefoil/rows"
)

// texts rise: the empty one, one that begins another one, capitals ahead of small letters, bytes above 127 as the highest.
var texts = []string{"", "\x00", "10", "9", "B", "a", "a\x00", "ab", "b", "\x7f", "\x80", "é", "\xff"}

// spare is what lies in the room behind a list that is handed in.
const spare = "spare"

// roomy answers a copy of l with filled room behind it.
func roomy(l []string) []string {
	c := append(slices.Clone(l), spare, spare, spare, spare)
	return c[:len(l)]
}

// whole tells whether l, as roomy made it, is as it was, room included.
func whole(l, was []string) bool {
	return slices.Equal(l[:len(l)+4], append(slices.Clone(was), spare, spare, spare, spare))
}

// subset answers those of l whose bit is set, in l's order.
func subset(l []string, bits int) []string {
	var out []string
	for i, s := range l {
		if bits>>i&1 == 1 {
			out = append(out, s)
		}
	}
	return out
}

func TestIs(t *testing.T) {
	for _, c := range []struct {
		l    []string
		want bool
	}{
		{nil, true},
		{[]string{}, true},
		{[]string{""}, true},
		{[]string{"a"}, true},
		{[]string{"", ""}, false},
		{[]string{"a", "a"}, false},
		{[]string{"", "a"}, true},
		{[]string{"a", ""}, false},
		{[]string{"a", "b", "c"}, true},
		{[]string{"c", "b", "a"}, false},
		{[]string{"a", "c", "b"}, false},
		{[]string{"b", "a", "c"}, false},
		{[]string{"a", "b", "b"}, false},
		{[]string{"a", "a", "b"}, false},
		{[]string{"a", "b", "a"}, false},
		{[]string{"a", "ab"}, true},
		{[]string{"ab", "a"}, false},
		{[]string{"a", "a\x00"}, true},
		{[]string{"10", "9"}, true},
		{[]string{"9", "10"}, false},
		{[]string{"B", "a"}, true},
		{[]string{"a", "B"}, false},
		{[]string{"\x7f", "\x80"}, true},
		{[]string{"\x80", "\x7f"}, false},
		{[]string{"z", "é"}, true},
		{[]string{"é", "\xff"}, true},
		{[]string{"\xff", "é"}, false},
		{texts, true},
	} {
		if got := rows.Is(c.l); got != c.want {
			t.Errorf("P1.1: Is(%q): %v", c.l, got)
		}
	}
}

// TestIsOfPairs holds Is, byte by byte, against the texts' places in a row that is written out.
func TestIsOfPairs(t *testing.T) {
	for i, a := range texts {
		for j, b := range texts {
			if got := rows.Is([]string{a, b}); got != (i < j) {
				t.Errorf("P1.1: Is of %q, %q: %v", a, b, got)
			}
		}
	}
}

func TestSort(t *testing.T) {
	for _, c := range []struct{ l, want []string }{
		{nil, nil},
		{[]string{}, nil},
		{[]string{""}, []string{""}},
		{[]string{"", ""}, []string{""}},
		{[]string{"a"}, []string{"a"}},
		{[]string{"a", "a", "a"}, []string{"a"}},
		{[]string{"c", "b", "a"}, []string{"a", "b", "c"}},
		{[]string{"b", "a", "b"}, []string{"a", "b"}},
		{[]string{"ab", "a", "", "b"}, []string{"", "a", "ab", "b"}},
		{[]string{"9", "10"}, []string{"10", "9"}},
		{[]string{"a", "B"}, []string{"B", "a"}},
		{[]string{"\xff", "é", "\x80", "\x7f", "z"}, []string{"z", "\x7f", "\x80", "é", "\xff"}},
	} {
		if got := rows.Sort(c.l); !slices.Equal(got, c.want) {
			t.Errorf("P1.1: Sort(%q): %q", c.l, got)
		}
	}
}

// TestSortOfMany: what is rising, falling, and doubled comes to one row.
func TestSortOfMany(t *testing.T) {
	var l, want []string
	for i := range 1000 {
		want = append(want, fmt.Sprintf("%04d", i))
		l = append(l, fmt.Sprintf("%04d", i*7%1000), fmt.Sprintf("%04d", 999-i))
	}
	if got := rows.Sort(l); !slices.Equal(got, want) {
		t.Errorf("P1.1: Sort of %d: %d", len(l), len(got))
	}
}

func TestSortOfAllLists(t *testing.T) {
	from := []string{"", "a", "ab", "\xff"}
	for _, l := range kit.Lists(from, 5) {
		var want []string
		for _, s := range from {
			if slices.Contains(l, s) {
				want = append(want, s)
			}
		}
		in := roomy(l)
		got := rows.Sort(in)
		if !slices.Equal(got, want) || !rows.Is(got) || rows.Is(in) != slices.Equal(l, want) || !whole(in, l) {
			t.Errorf("P1.1: Sort(%q): %q", l, got)
		}
	}
}

func TestExample(t *testing.T) {
	if got := rows.With([]string{"a", "c"}, "b"); !slices.Equal(got, []string{"a", "b", "c"}) {
		t.Errorf("P1.1: With of a, c and b: %q", got)
	}
}

// TestOneElement holds Has, With, Without of every row of texts against what a search from end to end says.
func TestOneElement(t *testing.T) {
	for bits := range 1 << len(texts) {
		l := subset(texts, bits)
		for i, s := range texts {
			if got := rows.Has(l, s); got != slices.Contains(l, s) {
				t.Fatalf("P1.1: Has(%q, %q): %v", l, s, got)
			}
			if got := rows.With(l, s); !slices.Equal(got, subset(texts, bits|1<<i)) {
				t.Fatalf("P1.1: With(%q, %q): %q", l, s, got)
			}
			if got := rows.Without(l, s); !slices.Equal(got, subset(texts, bits&^(1<<i))) {
				t.Fatalf("P1.1: Without(%q, %q): %q", l, s, got)
			}
		}
	}
}

// TestElementThatIsNear: a text that begins one of the row, or goes on behind it, is another one.
func TestElementThatIsNear(t *testing.T) {
	l := []string{"ab", "cd"}
	for _, s := range []string{"", "a", "abc", "b", "c", "cde", "AB", "ab\x00", "\xff"} {
		if rows.Has(l, s) || len(rows.With(l, s)) != 3 || !slices.Equal(rows.Without(l, s), l) {
			t.Errorf("P1.1: %q isn't in %q", s, l)
		}
	}
}

// TestTwoRows holds Both and Within of any two rows against the bits that made them.
func TestTwoRows(t *testing.T) {
	few := []string{"", "a", "ab", "b", "\x7f", "\x80", "\xff"}
	for x := range 1 << len(few) {
		for y := range 1 << len(few) {
			a, b := subset(few, x), subset(few, y)
			if got := rows.Both(a, b); !slices.Equal(got, subset(few, x|y)) {
				t.Fatalf("P1.1: Both(%q, %q): %q", a, b, got)
			}
			if got := rows.Within(a, b); got != (x&^y == 0) {
				t.Fatalf("P1.1: Within(%q, %q): %v", a, b, got)
			}
		}
	}
}

// TestSets: what sets are, rows are.
func TestSets(t *testing.T) {
	few := []string{"", "a", "ab", "\xff"}
	for x := range 1 << len(few) {
		for y := range 1 << len(few) {
			a, b := subset(few, x), subset(few, y)
			ab := rows.Both(a, b)
			if !rows.Is(ab) || !slices.Equal(ab, rows.Both(b, a)) || !slices.Equal(ab, rows.Both(ab, a)) {
				t.Errorf("P1.2: both of %q, %q: the order, how often", a, b)
			}
			if rows.Within(a, b) != slices.Equal(ab, b) {
				t.Errorf("P1.2: %q within %q is not what both say", a, b)
			}
			if rows.Within(a, b) && rows.Within(b, a) && !slices.Equal(a, b) {
				t.Errorf("P1.2: %q, %q within each other", a, b)
			}
			if !slices.Equal(ab, rows.Sort(append(slices.Clone(b), a...))) {
				t.Errorf("P1.2: both of %q, %q is not what is sorted", a, b)
			}
			for z := range 1 << len(few) {
				c := subset(few, z)
				if !slices.Equal(rows.Both(ab, c), rows.Both(a, rows.Both(b, c))) {
					t.Errorf("P1.2: both of %q, %q, %q", a, b, c)
				}
			}
		}
	}
}

// TestSetGrowsAndShrinks: elements go in, in falling order, twice, and out again.
func TestSetGrowsAndShrinks(t *testing.T) {
	var l []string
	for range 2 {
		for _, s := range slices.Backward(texts) {
			l = rows.With(l, s)
			if !rows.Is(l) || !rows.Has(l, s) {
				t.Fatalf("P1.2: with %q: %q", s, l)
			}
		}
		if !slices.Equal(l, texts) {
			t.Fatalf("P1.2: all: %q", l)
		}
	}
	for i, s := range texts {
		l = rows.Without(rows.Without(l, s), s)
		if !slices.Equal(l, texts[i+1:]) {
			t.Fatalf("P1.2: without %q: %q", s, l)
		}
	}
}

// TestNoneAndEmpty: nil and a list of nothing are the same.
func TestNoneAndEmpty(t *testing.T) {
	one := []string{"a"}
	for _, none := range [][]string{nil, {}, make([]string, 0, 4)} {
		if !rows.Is(none) || rows.Has(none, "") || len(rows.Sort(none)) != 0 || len(rows.Without(none, "")) != 0 {
			t.Errorf("P1.1: of none: %#v", none)
		}
		if !slices.Equal(rows.With(none, ""), []string{""}) {
			t.Errorf("P1.1: With(%#v, \"\")", none)
		}
		if !slices.Equal(rows.Both(none, one), one) || !slices.Equal(rows.Both(one, none), one) || len(rows.Both(none, nil)) != 0 {
			t.Errorf("P1.1: Both of %#v", none)
		}
		if !rows.Within(none, one) || rows.Within(one, none) || !rows.Within(none, nil) || !rows.Within(nil, none) {
			t.Errorf("P1.1: Within of %#v", none)
		}
	}
}

// calls gives each call that answers a row, by name.
func calls(a, b []string, s string) map[string]func() []string {
	return map[string]func() []string{
		"With":    func() []string { return rows.With(a, s) },
		"Without": func() []string { return rows.Without(a, s) },
		"Both":    func() []string { return rows.Both(a, b) },
		"Sort":    func() []string { return rows.Sort(a) },
	}
}

// TestWrongRows: rows that don't rise: each call ends, none panics, what is handed in stays, and the same makes the same.
func TestWrongRows(t *testing.T) {
	all := kit.Lists([]string{"", "a", "\xff"}, 4)
	for _, x := range all {
		for _, y := range all {
			a, b := roomy(x), roomy(y)
			c, d := slices.Clone(x), slices.Clone(y) // x, y themselves are never handed in: they say what was there
			rows.Is(a)
			if rows.Within(a, b) != rows.Within(c, d) || rows.Has(a, "a") != rows.Has(c, "a") {
				t.Fatalf("P1.1: %q, %q: told two ways", x, y)
			}
			for name, call := range calls(a, b, "a") {
				got, again := call(), calls(c, d, "a")[name]()
				if !whole(a, x) || !whole(b, y) {
					t.Fatalf("P1.1: %s changed %q, %q: %q, %q", name, x, y, a[:len(a)+4], b[:len(b)+4])
				}
				if !slices.Equal(got, again) {
					t.Fatalf("P1.1: %s of %q, %q: told two ways", name, x, y)
				}
			}
			if !whole(a, x) || !whole(b, y) {
				t.Fatalf("P1.1: %q, %q were changed: %q, %q", x, y, a[:len(a)+4], b[:len(b)+4])
			}
		}
	}
}

// TestHandedInStays: rows that rise, and their spare room, are as they were.
func TestHandedInStays(t *testing.T) {
	few := []string{"", "a", "ab", "b", "\xff"}
	for x := range 1 << len(few) {
		for y := range 1 << len(few) {
			a, b := roomy(subset(few, x)), roomy(subset(few, y))
			for _, s := range []string{"", "ab", "zz", "\xff"} {
				for _, call := range calls(a, b, s) {
					call()
				}
				rows.Has(a, s)
			}
			rows.Is(a)
			rows.Within(a, b)
			if !whole(a, subset(few, x)) || !whole(b, subset(few, y)) {
				t.Fatalf("P1.2: handed in, changed: %q, %q", a[:len(a)+4], b[:len(b)+4])
			}
		}
	}
}

// TestAnswersAreNew: neither an argument nor another answer is touched by what is done with an answer, its spare room included, nor an answer by what is done with an argument.
func TestAnswersAreNew(t *testing.T) {
	few := []string{"a", "b", "c"}
	for x := range 1 << len(few) {
		for y := range 1 << len(few) {
			for _, s := range []string{"", "a", "b", "c", "d"} {
				a, b := roomy(subset(few, x)), roomy(subset(few, y))
				for name, call := range calls(a, b, s) {
					first, second := call(), call()
					was := slices.Clone(second)
					overwrite(first)
					if !whole(a, subset(few, x)) || !whole(b, subset(few, y)) {
						t.Fatalf("P1.2: %s of %q, %q, %q: the answer is an argument", name, a, b, s)
					}
					if !slices.Equal(second, was) {
						t.Fatalf("P1.2: %s of %q, %q, %q: two answers are one", name, a, b, s)
					}
				}
				kept := map[string][2][]string{}
				for name, call := range calls(a, b, s) {
					kept[name] = [2][]string{call(), slices.Clone(call())}
				}
				overwrite(a)
				overwrite(b)
				for name, k := range kept {
					if !slices.Equal(k[0], k[1]) {
						t.Fatalf("P1.2: %s: the answer keeps an argument", name)
					}
				}
			}
		}
	}
}

// overwrite changes l and all the room behind it.
func overwrite(l []string) {
	l = l[:cap(l)]
	for i := range l {
		l[i] = "overwritten"
	}
}
