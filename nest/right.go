package nest

import "clew/api"

// Right reports whether the containment tree of w is valid.
func Right(w api.World) bool {
	count := len(w.Parent)
	if count == 0 || len(w.Child) != count || len(w.Next) != count {
		return false
	}
	return w.Parent[0] == 0 && w.Child[0] == 0 && w.Next[0] == 0 && listsRight(w)
}

// listsRight reports whether the lists of w, which have the same length and begin with 0, are valid.
// They are if every thing is reached from the tops by lists that are right: it then is in the list of its parent, and not inside itself.
func listsRight(w api.World) bool {
	first := marker(w)
	reached, right := tops(w), true
lists:
	for i := 0; i < len(reached); i++ {
		x := reached[i]
		end := w.Child[x]
		for y := range children(w, x) {
			right = w.Parent[y] == x && first(y)
			if !right {
				break lists
			}
			reached, end = append(reached, y), w.Next[y]
		}
		right = end == 0
		if !right {
			break lists
		}
	}
	return right && len(reached) == len(w.Parent)-1
}

// tops returns the things of w that are in nothing and followed by nothing.
func tops(w api.World) []int {
	var l []int
	for x := api.Player; x < len(w.Parent); x++ {
		if w.Parent[x] == 0 && w.Next[x] == 0 {
			l = append(l, x)
		}
	}
	return l
}
