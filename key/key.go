// Package key is layer 2: see shared/doc/02-key.md.
package key

import "catchment/api"

// Right: may a key be?
func Right(s string, most int) bool { return s != "" && len(s) <= most }

// After is the least text above one.
func After(s string) string { return s + "\x00" }

// Before: does an end come before another one?
func Before(a, b string) bool {
	if a == "" || b == "" {
		return a != "" && b == ""
	}
	return a < b
}

// First is the end that comes first.
func First(a, b string) string {
	if Before(b, a) {
		return b
	}
	return a
}

// Last is the end that comes last.
func Last(a, b string) string {
	if Before(a, b) {
		return b
	}
	return a
}

// RightRange: may a range be?
func RightRange(r api.Range) bool { return startsBefore(r.From, r.To) }

// startsBefore: is there room from a key on up to an end?
func startsBefore(from, end string) bool { return end == "" || from < end }

// Holds: has a range a key?
func Holds(r api.Range, s string) bool { return r.From <= s && startsBefore(s, r.To) }

// Meet is what two ranges have in common.
func Meet(a, b api.Range) (api.Range, bool) {
	if !RightRange(a) || !RightRange(b) {
		return api.Range{}, false
	}
	if a == b {
		return a, true
	}
	both := api.Range{From: max(a.From, b.From), To: First(a.To, b.To)}
	if !RightRange(both) {
		return api.Range{}, false
	}
	return both, true
}

// Within: has one range all that another one has?
func Within(a, b api.Range) bool {
	// What a has in common with b is all of a only if b leaves nothing of it out.
	both, ok := Meet(a, b)
	return ok && both == a
}

// Split is both parts of a range.
func Split(r api.Range, at string) (api.Range, api.Range, bool) {
	if !RightRange(r) || at <= r.From || !startsBefore(at, r.To) {
		return api.Range{}, api.Range{}, false
	}
	return api.Range{From: r.From, To: at}, api.Range{From: at, To: r.To}, true
}

// Point is the range that has one key alone.
func Point(s string) api.Range { return api.Range{From: s, To: After(s)} }

// Shared is how many bytes two texts begin with alike.
func Shared(a, b string) int {
	n := 0
	for n < len(a) && n < len(b) && a[n] == b[n] {
		n++
	}
	return n
}

// Between is the shortest text above one, and not above another one.
func Between(a, b string) string {
	if a >= b {
		return ""
	}
	return b[:Shared(a, b)+1]
}

// Pieces is a range, split at ends.
func Pieces(r api.Range, ends ...string) []api.Range {
	if !RightRange(r) {
		return nil
	}
	var pieces []api.Range
	for _, end := range ends {
		if piece, rest, ok := Split(r, end); ok {
			pieces = append(pieces, piece)
			r = rest
		}
	}
	return append(pieces, r)
}
