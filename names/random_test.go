package names_test

import (
	"strconv"
	"testing"

	"clew/api"
	"clew/names"
)

// dice is a source of numbers that are the same in every run.
type dice struct{ state uint64 }

func (d *dice) below(n int) int {
	d.state = d.state*6364136223846793005 + 1442695040888963407
	return int(d.state>>33) % n
}

// one is one of a list.
func one[T any](d *dice, l []T) T { return l[d.below(len(l))] }

// wild is the names of a source, of which few are there twice and few are wrong.
func (d *dice) wild() [][]string {
	l := make([][]string, len(parts()))
	odd := append(badNames(), goodNames()...)
	odd = append(odd, "lit", "open", "box", "hidden")
	total := 0
	for i, p := range parts() {
		for range one(d, []int{0, 1, d.below(p.most + 1), p.most - 1, p.most, p.most, p.most, p.most + d.below(2)*d.below(3)}) {
			name := one(d, []string{"n", "m", "o"}) + strconv.Itoa(total)
			if d.below(300) == 0 {
				name = one(d, odd)
			}
			if total > 0 && d.below(400) == 0 {
				name = "n" + strconv.Itoa(d.below(total))
			}
			l[i] = append(l[i], name)
			total++
		}
	}
	return l
}

// TestRandom compares Make with the chapter for sources at random; 15.3: there are four more names than the source declares.
func TestRandom(t *testing.T) {
	d := &dice{15}
	errs := map[api.Errno]int{}
	faultyParts := map[int]int{}
	for range 3000 {
		l := d.wild()
		checkWanted(t, "at random", l)
		made, fault := names.Make(source(l))
		errs[fault.Err]++
		faultyParts[fault.Part]++
		declared := 4
		for _, declarations := range l {
			declared += len(declarations)
		}
		if fault == (api.Fault{}) && len(made) != declared {
			t.Fatal(len(made), "names of", declared)
		}
	}
	for _, err := range []api.Errno{api.OK, api.ErrCount, api.ErrName, api.ErrTwice} {
		if errs[err] < 100 {
			t.Errorf("only %d sources with %v", errs[err], err)
		}
	}
	for _, p := range parts() {
		if faultyParts[p.number] < 20 {
			t.Errorf("only %d sources with a fault in the %s", faultyParts[p.number], p.label)
		}
	}
}
