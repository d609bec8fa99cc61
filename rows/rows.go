// Package rows: rows that rise: see doc/01-rows.md.
package rows

// Is tells whether l rises: whether each is above the one ahead of it, byte by byte.
func Is(l []string) bool { return row[string](l).rises() }

// Has tells whether s is in l, a row that rises.
func Has(l []string, s string) bool { return row[string](l).has(s) }

// With answers the row of those of l, a row that rises, and s.
func With(l []string, s string) []string { return row[string](l).with(row[string]{s}) }

// Without answers the row of those of l, a row that rises, but s.
func Without(l []string, s string) []string { return row[string](l).without(row[string]{s}) }

// Both answers the row of those that are in a or in b, rows that rise.
func Both(a, b []string) []string { return row[string](a).with(b) }

// Within tells whether all of a are in b, rows that rise.
func Within(a, b []string) bool { return row[string](a).within(b) }

// Sort answers the row of those of l, in whatever order they are there, however often.
func Sort(l []string) []string { return sorted(l) }
