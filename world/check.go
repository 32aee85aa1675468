package world

import (
	"slices"

	"clew/api"
)

// greatest is the greatest number where none below 0 may stand.
const greatest = 32767

// check reports whether a part of tables or of a world is valid.
type check[T any] func(part T) bool

// within returns the check of a number from least to most.
func within(least, most int) check[int] {
	return func(n int) bool { return least <= n && n <= most }
}

// or returns the check of a number that is other, or passes valid.
func or(other int, valid check[int]) check[int] {
	return func(n int) bool { return n == other || valid(n) }
}

// list returns the check of a list of from least to most elements that all pass valid.
func list[T any](least, most int, valid check[T]) check[[]T] {
	wrong := func(element T) bool { return !valid(element) }
	return func(l []T) bool {
		return least <= len(l) && len(l) <= most && !slices.ContainsFunc(l, wrong)
	}
}

// thingCheck returns the check of a number that is a thing, where there are that many with the nothing.
func thingCheck(count int) check[int] {
	return within(api.Player, count-1)
}

// flagsCheck returns the check of what flags a thing has, where there are that many.
func flagsCheck(count int) check[int] {
	// Unsigned, because a count that is no count must not end the program.
	return within(0, 1<<uint(count)-1)
}
