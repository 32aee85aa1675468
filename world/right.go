package world

import (
	"math"

	"clew/api"
	"clew/num"
)

// Right reports whether w is a valid world of the story of t.
func Right(t api.Tables, w api.World) bool {
	return listsRight(t, w) && numbersRight(t, w) && treeRight(w) && placesRight(t, w)
}

// listsRight reports whether the lists of w are as long as those that t begins with, and hold what they may, but for the containment tree.
func listsRight(t api.Tables, w api.World) bool {
	things, daemons := len(t.Things), len(t.Daemons)
	values := func(count int) check[[]int] { return list(count, count, num.Is) }
	globals, props := values(len(t.Globals)), values(things*len(t.Props))
	flags := list(things, things, flagsCheck(t.Flags))
	timers := list(daemons, daemons, within(0, greatest))
	return globals(w.Globals) && props(w.Props) && flags(w.Flags) && timers(w.Timers) && len(w.Parent) == things
}

// numbersRight reports whether the numbers of w are within their bounds.
func numbersRight(t api.Tables, w api.World) bool {
	turns, over, dir := within(0, math.MaxInt32), within(api.Playing, api.Left), within(0, api.Out)
	it := or(0, thingCheck(len(t.Things)))
	return num.Is(w.Score) && turns(w.Turns) && over(w.Over) && it(w.It) && dir(w.Go)
}

// placesRight reports whether no room of w, whose containment tree is valid, is in anything, and the player is in a room.
func placesRight(t api.Tables, w api.World) bool {
	for x, thing := range t.Things {
		if thing.Room && w.Parent[x] != 0 {
			return false
		}
	}
	place := top(w.Parent, api.Player)
	return t.Things[place].Room
}

// treeRight reports whether the containment tree of w is valid.
func treeRight(w api.World) bool {
	count := len(w.Parent)
	if count == 0 || len(w.Child) != count || len(w.Next) != count {
		return false
	}
	return w.Parent[0] == 0 && w.Child[0] == 0 && w.Next[0] == 0 && rooted(w.Parent) && childrenRight(w)
}

// childrenRight reports whether the list of each thing of w consists of its children, and no other thing is followed by one.
func childrenRight(w api.World) bool {
	isThing := thingCheck(len(w.Parent))
	listed := make([]bool, len(w.Parent))
	mark := func(x int) (first bool) {
		first, listed[x] = !listed[x], true
		return first
	}
	right := true
lists:
	for parent, x := range w.Child {
		for ; x != 0; x = w.Next[x] {
			right = isThing(x) && w.Parent[x] == parent && mark(x)
			if !right {
				break lists
			}
		}
	}
	for x, parent := range w.Parent {
		right = right && (listed[x] || parent == 0 && w.Next[x] == 0)
	}
	return right
}

// rooted reports whether the parent of each thing is 0 or a thing, and none is inside itself.
func rooted(parents []int) bool {
	for x := api.Player; x < len(parents); x++ {
		if top(parents, x) == 0 {
			return false
		}
	}
	return true
}

// top returns the last thing that is reached from x by parents; 0 if they do not end, or if one of them or x is no thing.
func top(parents []int, x int) int {
	isThing := thingCheck(len(parents))
	for range parents {
		switch {
		case !isThing(x):
			return 0
		case parents[x] == 0:
			return x
		}
		x = parents[x]
	}
	return 0
}
