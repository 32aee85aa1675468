package nest

import (
	"clew/api"
	"clew/world"
)

// Move returns w with x as the first child of to.
func Move(w api.World, x, to int) (api.World, api.Errno) {
	moved := world.Copy(w)
	switch {
	case !Is(w, x) || !Is(w, to):
		return moved, api.ErrNone
	case Within(w, to, x):
		return moved, api.ErrState
	}
	unlink(moved, x)
	put(moved.Parent, x, to)
	put(moved.Next, x, at(moved, moved.Child, to))
	put(moved.Child, to, x)
	return moved, api.OK
}

// Remove returns w with x in nothing; what is in x stays there.
func Remove(w api.World, x int) (api.World, api.Errno) {
	removed := world.Copy(w)
	if !Is(w, x) {
		return removed, api.ErrNone
	}
	unlink(removed, x)
	put(removed.Parent, x, 0)
	put(removed.Next, x, 0)
	return removed, api.OK
}

// unlink takes x out of the list of its parent, in the memory of w.
func unlink(w api.World, x int) {
	parent, next := at(w, w.Parent, x), at(w, w.Next, x)
	if at(w, w.Child, parent) == x {
		put(w.Child, parent, next)
		return
	}
	for y := range children(w, parent) {
		if at(w, w.Next, y) == x {
			put(w.Next, y, next)
			return
		}
	}
}

// put sets the element of l for the thing x to n, if x has one.
func put(l []int, x, n int) {
	if x < len(l) {
		l[x] = n
	}
}
