package fold_test

import (
	"hash/fnv"
	"slices"
	"strconv"

	"clew/api"
)

// run is a routine that is executed. What it does to a world is noted; what it learns from the world depends on all that was noted ahead of it.
type run struct {
	notes []string
	cost  int
	end   string
}

// halted is how a routine ends early.
type halted string

// executed is l, executed with that much fuel.
func executed(l []api.Stmt, fuel int) (r *run) {
	r = &run{end: "end"}
	defer func() {
		if why, early := recover().(halted); early {
			r.end = string(why)
		}
	}()
	r.block(l, fuel)
	return r
}

// valued is the value of an expression, and what is noted when it is evaluated.
func valued(e api.Expr) (value int, r *run) {
	r = &run{end: "end"}
	defer func() {
		if why, early := recover().(halted); early {
			r.end = string(why)
		}
	}()
	return r.value(e), r
}

// note notes that something was done or asked with these values, and tells what the world answers.
func (r *run) note(what string, kind, op, num int, values []int) int {
	text := what
	for _, n := range append([]int{kind, op, num}, values...) {
		text += " " + strconv.Itoa(n)
	}
	r.notes = append(r.notes, text)
	h := fnv.New32a()
	for _, text := range r.notes {
		h.Write([]byte(text))
	}
	answers := []int{0, 0, 0, 1, 1, 2, 5, -1, -32768, 32767}
	return answers[h.Sum32()%uint32(len(answers))]
}

// tick is that a statement or a round begins.
func (r *run) tick(fuel int) {
	if r.cost >= fuel {
		panic(halted("fuel"))
	}
	r.cost++
}

// values evaluates a list of expressions.
func (r *run) values(l []api.Expr) []int {
	var values []int
	for _, e := range l {
		values = append(values, r.value(e))
	}
	return values
}

// value evaluates an expression.
func (r *run) value(e api.Expr) int {
	if e.Kind == 1 {
		return e.Num
	}
	if e.Kind == binary && (e.Op == or || e.Op == and) {
		left := r.value(e.Args[0])
		if (left != 0) == (e.Op == or) {
			return map[bool]int{true: 1}[left != 0]
		}
		return map[bool]int{true: 1}[r.value(e.Args[1]) != 0]
	}
	values := r.values(e.Args)
	switch {
	case e.Kind == binary && e.Op != in:
		n, is := result(e.Op, values[0], values[1])
		if !is {
			panic(halted("error"))
		}
		return n
	case e.Kind == not:
		return map[bool]int{true: 1}[values[0] == 0]
	case e.Kind == neg:
		n, _ := result(sub, 0, values[0])
		return n
	}
	return r.note("asks", e.Kind, e.Op, e.Num, values)
}

// block executes statements.
func (r *run) block(l []api.Stmt, fuel int) {
	for _, s := range l {
		switch r.tick(fuel); s.Kind {
		case branch:
			if r.value(s.Args[0]) != 0 {
				r.block(s.Body, fuel)
			} else {
				r.block(s.Else, fuel)
			}
		case while:
			for r.value(s.Args[0]) != 0 {
				r.block(s.Body, fuel)
				r.tick(fuel)
			}
		case each:
			for r.note("each", s.Kind, 0, s.Num, r.values(s.Args)) > 0 {
				r.tick(fuel)
				r.block(s.Body, fuel)
			}
		default:
			r.note("does", s.Kind, 0, s.Num, r.values(s.Args))
			if slices.Contains([]int{give, stop, win, lose}, s.Kind) {
				panic(halted("ended"))
			}
		}
	}
}

// alike reports whether two runs note the same and end in the same way.
func alike(a, b *run) bool {
	return a.end == b.end && slices.Equal(a.notes, b.notes)
}
