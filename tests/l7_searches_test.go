package tests

import (
	"math"
	"slices"
	"strconv"
	"strings"
	"testing"

	"loop.example/coinmachine/impl"
)

// searchMachines has machines without goods, without coins, with coins put in, with full kinds, with a good that
// four coins pay for, with goods of one price, and with change that greed misses.
func searchMachines() []impl.Machine {
	none := []int{0, 0, 0, 0}
	return []impl.Machine{
		machineOf([]int{1, 1, 0, 0}, none, goodsOf(7, 1, 3, 2)),
		machineOf([]int{1, 1, 0, 0}, []int{0, 0, 0, 1}, goodsOf(7, 1, 3, 2)),
		machineOf(none, none, nil),
		machineOf([]int{3, 0, 0, 2}, []int{1, 0, 2, 0}, nil),
		machineOf(none, none, goodsOf(8, 1, 6, 2)),
		machineOf(none, []int{0, 0, 0, 18}, goodsOf(40, 1)),
		machineOf([]int{20, 20, 20, 20}, []int{20, 20, 20, 20}, goodsOf(1, 5)),
		machineOf([]int{0, 3, 0, 0}, []int{0, 0, 1, 0}, goodsOf(9, 2, 4, 0, 1, 1)),
		machineOf([]int{5, 5, 5, 5}, []int{0, 0, 1, 0}, goodsOf(5, 1, 5, 1, 5, 0)),
		machineOf([]int{4, 4, 4, 4}, none, goodsOf(10, 5, 7, 1, 2, 5)),
	}
}

// searchChoices has choices of 1 act to 4, of all kinds, with acts that are never done.
func searchChoices() [][]impl.Act {
	return [][]impl.Act{
		{coinOf(3)}, {pickOf(0)}, {backAct()}, {coinOf(4)},
		{coinOf(1), pickOf(0)}, {backAct(), coinOf(3)}, {pickOf(1), pickOf(0)},
		{coinOf(3), pickOf(0), backAct()}, {coinOf(1), {Do: 3}, pickOf(1)},
		{coinOf(3), pickOf(0), pickOf(1), backAct()}, {coinOf(0), coinOf(1), coinOf(2), coinOf(3)},
		{pickOf(2), pickOf(1), coinOf(2), pickOf(0)}, {coinOf(-1), pickOf(3), {Do: impl.DoBack, N: 1}, {Do: -1}},
	}
}

// searchClaims has claims that hold of every run, that the first run breaks, and that no run of fewer than 2, 3 or 4 acts breaks.
func searchClaims() []string {
	return []string{
		"(d|!d)", "(c&!c)", "d", "!d", "c", "!c", "!p", "b", "!g", "!o", "Xd", "!Xd", "Gd", "G!d", "G!g", "G!o", "F!d",
		"G(!g|o)", "G(!b|o)", "G(c|p)", "!(cUg)", "(!pUb)", "!XXc", "!XXp", "!XXXd", "!XXX!d", "!XXXg", "!XXXb", "!(c&XXXp)", "!(p&XXXp)",
		"!(c&X(c&X(c&Xd)))", "!F(g&XFg)", "G(!g|X!g)",
	}
}

// noChoices has no acts, an act too many, and two that are equal, at each pair of places.
func noChoices() [][]impl.Act {
	list := [][]impl.Act{
		nil, {}, {coinOf(0), coinOf(1), coinOf(2), coinOf(3), backAct()}, slices.Repeat([]impl.Act{coinOf(3)}, 5), slices.Repeat(trueActs(), 200), trueActs(),
	}
	for long := 2; long <= 4; long++ {
		for first := range long {
			for second := range first {
				choice := []impl.Act{coinOf(3), pickOf(0), backAct(), {Do: 3, N: 3}}[:long]
				choice[first] = choice[second]
				list = append(list, choice)
			}
		}
	}
	return list
}

func noDepths() []int {
	return []int{-1, -2, -4, -5, 5, 6, 8, 20, math.MaxInt, math.MinInt}
}

// searchedRuns returns all runs of 1 act to 4 out of a choice, from short to long and by number, with what comes of them:
// each run is one that is an act shorter, with each act of the choice behind it.
func searchedRuns(m impl.Machine, choice []impl.Act) []toldRun {
	return searchedRunsWith(plainFewest, m, choice)
}

// searchedRunsWith is searchedRuns with change that a function finds.
func searchedRunsWith(find plainFinder, m impl.Machine, choice []impl.Act) []toldRun {
	type ended struct {
		run  toldRun
		last impl.Machine
	}
	newest := []ended{{last: m}}
	var runs []toldRun
	for range 4 {
		var longer []ended
		for _, before := range newest {
			for _, a := range choice {
				last, what := plainActedWith(find, before.last, a)
				run := toldRun{append(slices.Clone(before.run.acts), a), append(slices.Clone(before.run.results), what)}
				longer = append(longer, ended{run, last})
				runs = append(runs, run)
			}
		}
		newest = longer
	}
	return runs
}

// plainBreaking returns the first one of runs of which a claim does not hold, or none.
func plainBreaking(runs []toldRun, claim string) []impl.Act {
	for _, run := range runs {
		if !plainAnswers(claim, run)[0] {
			return run.acts
		}
	}
	return nil
}

// plainReached is ReachedIn as the document tells it, written down anew for the tests.
func plainReached(m impl.Machine, choice []impl.Act, depth int) []impl.Machine {
	list := []impl.Machine{copyOf(m)}
	newest := list
	for range depth {
		var next []impl.Machine
		for _, before := range newest {
			for _, a := range choice {
				after, _ := plainActed(before, a)
				if placeOf(list, after) < 0 {
					list, next = append(list, after), append(next, after)
				}
			}
		}
		newest = next
	}
	return list
}

// placeOf returns the first place at which a machine is told, -1 if it is not.
func placeOf(list []impl.Machine, m impl.Machine) int {
	return slices.IndexFunc(list, func(other impl.Machine) bool { return sameMachine(m, other) })
}

// plainDead returns the acts that are done in none of some machines.
func plainDead(list []impl.Machine, choice []impl.Act) []impl.Act {
	var dead []impl.Act
	for _, a := range choice {
		done := slices.ContainsFunc(list, func(m impl.Machine) bool {
			_, what := plainActed(m, a)
			return what.Done
		})
		if !done {
			dead = append(dead, a)
		}
	}
	return dead
}

func sameMachines(list []impl.Machine, other []impl.Machine) bool {
	return slices.EqualFunc(list, other, sameMachine)
}

// forSearches calls a function with all machines and choices.
func forSearches(check func(m impl.Machine, choice []impl.Act)) {
	for _, m := range searchMachines() {
		for _, choice := range searchChoices() {
			check(m, choice)
		}
	}
}

// forNoSearches calls a function with arguments of which at least one is wrong: a machine, a choice, a depth, or all of them.
func forNoSearches(check func(m impl.Machine, choice []impl.Act, depth int)) {
	for _, choice := range searchChoices() {
		for _, m := range noMachines() {
			check(m, choice, 2)
			check(m, choice, 0)
		}
		for _, depth := range noDepths() {
			check(searchMachines()[0], choice, depth)
		}
	}
	for _, m := range searchMachines() {
		for _, choice := range noChoices() {
			for depth := range 5 {
				check(m, choice, depth)
			}
		}
	}
	check(impl.Machine{}, nil, -1)
}

// power returns how many runs of a length there are.
func power(base int, long int) int {
	count := 1
	for range long {
		count *= base
	}
	return count
}

func TestSearchConstants(t *testing.T) {
	must(t, impl.MaxActs == 4 && impl.MaxDepth == 4, impl.MaxActs, impl.MaxDepth)
}

func TestP59OneActIsAChoice(t *testing.T) {
	check := func(acts []impl.Act, want bool) {
		must(t, impl.ChoiceOk(acts) == want, acts, want)
		if want {
			must(t, impl.ChoiceOk(acts[:1]), acts)
		}
	}
	for _, choice := range searchChoices() {
		check(choice, true)
	}
	for _, choice := range noChoices() {
		check(choice, false)
	}
	for _, a := range append(trueActs(), otherActs()...) {
		check([]impl.Act{a}, true)
		check([]impl.Act{a, a}, false)
		check([]impl.Act{a, {Do: a.Do, N: a.N ^ 1}, {Do: a.Do ^ 1, N: a.N}}, true)
	}
}

// All lists of up to 5 acts are asked, out of acts that differ in one of both numbers, or in both.
func TestP59AllLists(t *testing.T) {
	some := []impl.Act{{Do: 0, N: 0}, {Do: 0, N: 1}, {Do: 1, N: 0}, {Do: 1, N: 1}, {Do: -1, N: 1}}
	lists := [][]impl.Act{nil}
	for long := range 6 {
		var longer [][]impl.Act
		for _, list := range lists {
			known := map[impl.Act]bool{}
			for _, a := range list {
				known[a] = true
			}
			want := long >= 1 && long <= 4 && len(known) == long
			must(t, impl.ChoiceOk(list) == want, list, want)
			must(t, !want || impl.ChoiceOk(list[:1]), list)
			for _, a := range some {
				longer = append(longer, append(slices.Clone(list), a))
			}
		}
		lists = longer
	}
}

func TestP26RunsAreNumbered(t *testing.T) {
	for _, choice := range searchChoices() {
		for long := range 5 {
			first, ok := impl.RunAt(choice, long, 0)
			must(t, ok && len(first) == long, "the number 0", choice, long, first, ok)
			count, last := 0, []impl.Act(nil)
			for number := 0; ; number++ {
				acts, ok := impl.RunAt(choice, long, number)
				if !ok {
					must(t, acts == nil, choice, long, number, acts)
					break
				}
				must(t, len(acts) == long, choice, long, number, acts)
				for _, a := range acts {
					must(t, slices.Contains(choice, a), choice, long, number, acts)
				}
				must(t, number == 0 || !slices.Equal(acts, last), "the run before", choice, long, number, acts)
				count, last = count+1, acts
			}
			must(t, count == power(len(choice), long), choice, long, count)
			must(t, slices.Equal(first, slices.Repeat(choice[:1], long)), choice, long, first)
			must(t, slices.Equal(last, slices.Repeat(choice[len(choice)-1:], long)), choice, long, last)
		}
	}
}

func TestP26RunsAreAsTold(t *testing.T) {
	for _, choice := range searchChoices() {
		for long := range 5 {
			for number := range power(len(choice), long) {
				digits := ""
				if len(choice) > 1 && number > 0 {
					digits = strconv.FormatInt(int64(number), len(choice))
				}
				digits = strings.Repeat("0", long-len(digits)) + digits
				var want []impl.Act
				for _, digit := range digits {
					want = append(want, choice[digit-'0'])
				}
				acts, ok := impl.RunAt(choice, long, number)
				must(t, ok && slices.Equal(acts, want), choice, long, number, acts, ok)
			}
		}
	}
}

func TestP26Runs(t *testing.T) {
	a, b, c, d := coinOf(3), pickOf(0), backAct(), impl.Act{Do: 9, N: -9}
	for _, r := range []struct {
		choice []impl.Act
		long   int
		number int
		acts   []impl.Act
	}{
		{[]impl.Act{a}, 0, 0, nil}, {[]impl.Act{a}, 1, 0, []impl.Act{a}}, {[]impl.Act{d}, 4, 0, []impl.Act{d, d, d, d}},
		{[]impl.Act{a, b, c, d}, 0, 0, nil}, {[]impl.Act{a, b, c, d}, 1, 3, []impl.Act{d}},
		{[]impl.Act{a, b}, 2, 1, []impl.Act{a, b}}, {[]impl.Act{a, b}, 2, 2, []impl.Act{b, a}}, {[]impl.Act{b, a}, 2, 2, []impl.Act{a, b}},
		{[]impl.Act{a, b}, 4, 15, []impl.Act{b, b, b, b}}, {[]impl.Act{a, b}, 4, 8, []impl.Act{b, a, a, a}},
		{[]impl.Act{a, b, c}, 3, 5, []impl.Act{a, b, c}}, {[]impl.Act{a, b, c}, 3, 26, []impl.Act{c, c, c}}, {[]impl.Act{c, b, a}, 3, 5, []impl.Act{c, b, a}},
		{[]impl.Act{a, b, c, d}, 4, 27, []impl.Act{a, b, c, d}}, {[]impl.Act{a, b, c, d}, 4, 228, []impl.Act{d, c, b, a}}, {[]impl.Act{a, b, c, d}, 4, 255, []impl.Act{d, d, d, d}},
	} {
		acts, ok := impl.RunAt(r.choice, r.long, r.number)
		must(t, ok && slices.Equal(acts, r.acts), r.choice, r.long, r.number, acts, ok)
	}
}

func TestP26OtherNumbers(t *testing.T) {
	for _, choice := range searchChoices() {
		for long := range 5 {
			past := power(len(choice), long)
			for _, number := range []int{past, past + 1, past + 2, 2 * past, past * len(choice), 256, 257, 1 << 32, math.MaxInt - 1, math.MaxInt, -1, -2, -past, math.MinInt} {
				if number >= 0 && number < past {
					continue
				}
				acts, ok := impl.RunAt(choice, long, number)
				must(t, !ok && acts == nil, choice, long, number, acts, ok)
			}
		}
	}
}

func TestP26OtherLengthsAndChoices(t *testing.T) {
	for _, number := range []int{0, 1, 2, -1, 255, math.MaxInt} {
		for _, choice := range searchChoices() {
			for _, long := range noDepths() {
				acts, ok := impl.RunAt(choice, long, number)
				must(t, !ok && acts == nil, choice, long, number, acts, ok)
			}
		}
		for _, choice := range noChoices() {
			for long := -1; long <= 5; long++ {
				acts, ok := impl.RunAt(choice, long, number)
				must(t, !ok && acts == nil, choice, long, number, acts, ok)
			}
		}
	}
}

func TestP27TheShortestRunThatBreaksItBreaksIt(t *testing.T) {
	forSearches(func(m impl.Machine, choice []impl.Act) {
		for at, claim := range searchClaims() {
			depth := 1 + at%4
			acts, ok := impl.BreakingRun(m, choice, claim, depth)
			if !ok {
				must(t, acts == nil, m, choice, claim, depth, acts)
				continue
			}
			must(t, len(acts) >= 1 && len(acts) <= depth, m, choice, claim, depth, acts)
			_, results, _ := impl.RunOf(m, acts)
			must(t, !impl.HoldsOf(claim, acts, results), "not broken", m, choice, claim, depth, acts)
			must(t, impl.SureUpTo(m, choice, claim, len(acts)-1), "a shorter one breaks it", m, choice, claim, depth, acts)
			for number := 0; ; number++ {
				before, there := impl.RunAt(choice, len(acts), number)
				must(t, there, "no run of the choice", m, choice, claim, depth, acts)
				if slices.Equal(before, acts) {
					break
				}
				_, results, _ := impl.RunOf(m, before)
				must(t, impl.HoldsOf(claim, before, results), "one before breaks it", m, choice, claim, depth, acts, before)
			}
		}
	})
}

func TestP27BreakingRunsAreAsTold(t *testing.T) {
	var lengths [5]int
	forSearches(func(m impl.Machine, choice []impl.Act) {
		runs := searchedRuns(m, choice)
		for _, claim := range searchClaims() {
			want := plainBreaking(runs, claim)
			lengths[len(want)]++
			for depth := range 5 {
				acts, ok := impl.BreakingRun(m, choice, claim, depth)
				if len(want) == 0 || len(want) > depth {
					must(t, !ok && acts == nil, m, choice, claim, depth, acts, ok)
					continue
				}
				must(t, ok && slices.Equal(acts, want), m, choice, claim, depth, acts, want)
			}
		}
	})
	must(t, slices.Min(lengths[:]) > 10, "hardly any claims are first broken by runs of a length", lengths)
}

func TestP27LongClaims(t *testing.T) {
	claims := slices.Concat(longClaims(10), greatestClaims())
	at := 0
	forSearches(func(m impl.Machine, choice []impl.Act) {
		runs := searchedRuns(m, choice)
		for range 7 {
			claim := claims[at%len(claims)]
			at++
			want := plainBreaking(runs, claim)
			acts, ok := impl.BreakingRun(m, choice, claim, 4)
			must(t, ok == (len(want) > 0) && slices.Equal(acts, want), m, choice, claim, acts, want)
			must(t, impl.SureUpTo(m, choice, claim, 4) != ok, m, choice, claim, acts)
		}
	})
}

func TestP27BreakingRuns(t *testing.T) {
	m := machineOf([]int{1, 1, 0, 0}, []int{0, 0, 0, 0}, goodsOf(7, 1, 3, 2))
	coin, pick, back := coinOf(3), pickOf(0), backAct()
	choice := []impl.Act{coin, pick, back}
	for _, c := range []struct {
		claim string
		depth int
		acts  []impl.Act
	}{
		{"G!g", 0, nil}, {"G!g", 1, nil}, {"G!g", 2, []impl.Act{coin, pick}}, {"G!g", 3, []impl.Act{coin, pick}}, {"G!g", 4, []impl.Act{coin, pick}},
		{"Gd", 0, nil}, {"Gd", 1, []impl.Act{pick}}, {"Gd", 4, []impl.Act{pick}}, {"d", 4, []impl.Act{pick}},
		{"p", 1, []impl.Act{coin}}, {"(c&!c)", 4, []impl.Act{coin}}, {"(c&!c)", 0, nil}, {"Xd", 4, []impl.Act{coin}}, {"c", 4, []impl.Act{pick}}, {"!b", 4, []impl.Act{back}},
		{"(d|!d)", 4, nil}, {"G(!g|o)", 4, nil}, {"G(!b|d)", 4, nil}, {"G!(c&o)", 4, nil}, {"!XXXXc", 4, nil},
		{"G!o", 1, nil}, {"G!o", 2, []impl.Act{coin, pick}}, {"G(!o|g)", 4, []impl.Act{coin, back}}, {"G(!b|o)", 4, []impl.Act{back}},
		{"!XXXb", 3, nil}, {"!XXXb", 4, []impl.Act{coin, coin, coin, back}}, {"!(b&XXXb)", 4, []impl.Act{back, coin, coin, back}}, {"!(b&XXXg)", 4, []impl.Act{back, coin, coin, pick}},
		{"!(c&X(p&X(c&Xb)))", 3, nil}, {"!(c&X(p&X(c&Xb)))", 4, []impl.Act{coin, pick, coin, back}}, {"!XXX(p&!d)", 4, []impl.Act{coin, coin, pick, pick}},
		{"!XXX!d", 4, []impl.Act{coin, coin, pick, pick}}, {"G(!g|XXd)", 4, []impl.Act{coin, pick}}, {"G(d|c)", 4, []impl.Act{pick}},
	} {
		acts, ok := impl.BreakingRun(m, choice, c.claim, c.depth)
		must(t, ok == (len(c.acts) > 0) && slices.Equal(acts, c.acts), c.claim, c.depth, acts, ok)
	}
}

// A good that four coins pay for comes out by no run of four acts, and one that three pay for by the last act of one.
func TestP27BrokenAtTheLastAct(t *testing.T) {
	m := machineOf([]int{0, 0, 0, 0}, []int{0, 0, 0, 0}, goodsOf(8, 1, 6, 1))
	for _, c := range []struct {
		choice []impl.Act
		acts   []impl.Act
	}{
		{[]impl.Act{coinOf(1), pickOf(0)}, nil},
		{[]impl.Act{coinOf(1), pickOf(1)}, []impl.Act{coinOf(1), coinOf(1), coinOf(1), pickOf(1)}},
		{[]impl.Act{pickOf(1), backAct(), coinOf(1), pickOf(0)}, []impl.Act{coinOf(1), coinOf(1), coinOf(1), pickOf(1)}},
		{[]impl.Act{coinOf(2), pickOf(1), coinOf(0)}, []impl.Act{coinOf(2), coinOf(0), pickOf(1)}},
		{[]impl.Act{coinOf(0), pickOf(1), coinOf(2)}, []impl.Act{coinOf(0), coinOf(2), pickOf(1)}},
	} {
		for depth := range 5 {
			acts, ok := impl.BreakingRun(m, c.choice, "G!g", depth)
			if len(c.acts) == 0 || len(c.acts) > depth {
				must(t, !ok && acts == nil && impl.SureUpTo(m, c.choice, "G!g", depth), c.choice, depth, acts, ok)
				continue
			}
			must(t, ok && slices.Equal(acts, c.acts) && !impl.SureUpTo(m, c.choice, "G!g", depth), c.choice, depth, acts, ok)
		}
	}
}

func TestP27OtherSearches(t *testing.T) {
	forNoSearches(func(m impl.Machine, choice []impl.Act, depth int) {
		for _, claim := range []string{"(c&!c)", "(d|!d)", "G!g"} {
			acts, ok := impl.BreakingRun(m, choice, claim, depth)
			must(t, !ok && acts == nil, m, choice, claim, depth, acts, ok)
		}
	})
}

func TestP27OtherClaims(t *testing.T) {
	for _, m := range searchMachines()[:3] {
		for _, claim := range noClaims() {
			for depth := range 5 {
				acts, ok := impl.BreakingRun(m, []impl.Act{coinOf(3), pickOf(0)}, claim, depth)
				must(t, !ok && acts == nil, m, claim, depth, acts, ok)
			}
		}
	}
}

func TestP28WhatIsSureForLongRunsIsSureForShortOnes(t *testing.T) {
	var depths [5]int
	forSearches(func(m impl.Machine, choice []impl.Act) {
		runs := searchedRuns(m, choice)
		for _, claim := range searchClaims() {
			want := plainBreaking(runs, claim)
			before := true
			for depth := range 5 {
				sure := impl.SureUpTo(m, choice, claim, depth)
				_, broken := impl.BreakingRun(m, choice, claim, depth)
				must(t, sure != broken, m, choice, claim, depth, sure)
				must(t, !sure || before, "not sure for one act fewer", m, choice, claim, depth)
				must(t, sure == (len(want) == 0 || len(want) > depth), m, choice, claim, depth, sure, want)
				if sure {
					depths[depth]++
				}
				before = sure
			}
		}
	})
	for depth := range 4 {
		must(t, depths[depth] > depths[depth+1] && depths[depth+1] > 100, "hardly any claims are sure up to one depth alone", depths)
	}
}

// Of no runs every claim is sure, also one that never holds.
func TestP28SureOfNoRuns(t *testing.T) {
	forSearches(func(m impl.Machine, choice []impl.Act) {
		for _, claim := range append(searchClaims(), greatestClaims()...) {
			must(t, impl.SureUpTo(m, choice, claim, 0), m, choice, claim)
			acts, ok := impl.BreakingRun(m, choice, claim, 0)
			must(t, !ok && acts == nil, m, choice, claim, acts)
		}
	})
}

func TestP28Sure(t *testing.T) {
	m := machineOf([]int{1, 1, 0, 0}, []int{0, 0, 0, 0}, goodsOf(7, 1, 3, 2))
	for _, c := range []struct {
		claim  string
		choice []impl.Act
		depth  int
	}{
		{"G!g", []impl.Act{coinOf(3), pickOf(0), pickOf(1), backAct()}, 1},
		{"G(!g|o)", []impl.Act{coinOf(3), pickOf(0), pickOf(1), backAct()}, 4},
		{"G!g", []impl.Act{pickOf(0), pickOf(1), backAct()}, 4},
		{"G!d", []impl.Act{pickOf(0), pickOf(1), coinOf(4)}, 4},
		{"G!o", []impl.Act{backAct()}, 4},
		{"G!o", []impl.Act{backAct(), coinOf(3)}, 1},
		{"c", []impl.Act{coinOf(3)}, 4},
		{"c", []impl.Act{coinOf(3), backAct()}, 0},
		{"!XXXc", []impl.Act{backAct(), coinOf(3)}, 3},
		{"!XXXXc", []impl.Act{backAct(), coinOf(3)}, 4},
		{"Xc", []impl.Act{coinOf(3)}, 0},
	} {
		for depth := range 5 {
			must(t, impl.SureUpTo(m, c.choice, c.claim, depth) == (depth <= c.depth), c.claim, c.choice, depth)
		}
	}
}

func TestP28OtherSearches(t *testing.T) {
	forNoSearches(func(m impl.Machine, choice []impl.Act, depth int) {
		for _, claim := range []string{"(d|!d)", "(c&!c)", "G!g"} {
			must(t, !impl.SureUpTo(m, choice, claim, depth), m, choice, claim, depth)
		}
	})
}

func TestP28OtherClaims(t *testing.T) {
	for _, m := range searchMachines()[:3] {
		for _, claim := range noClaims() {
			for depth := range 5 {
				must(t, !impl.SureUpTo(m, []impl.Act{coinOf(3), pickOf(0)}, claim, depth), m, claim, depth)
			}
		}
	}
}

func TestP29WhateverIsDoneNextLeadsToWhatIsReached(t *testing.T) {
	forSearches(func(m impl.Machine, choice []impl.Act) {
		var fewer []impl.Machine
		for depth := range 5 {
			list := impl.ReachedIn(m, choice, depth)
			must(t, len(list) > 0 && sameMachine(list[0], m), "itself first", m, choice, depth)
			for at, reached := range list {
				must(t, impl.MachineOk(reached), m, choice, depth, reached)
				must(t, placeOf(list, reached) == at, "told twice", m, choice, depth, reached)
			}
			must(t, len(fewer) <= len(list) && sameMachines(fewer, list[:len(fewer)]), m, choice, depth)
			for _, before := range fewer {
				for _, a := range choice {
					after, _ := impl.Acted(before, a)
					must(t, placeOf(list, after) >= 0, "not reached", m, choice, depth, before, a)
				}
			}
			fewer = list
		}
	})
}

func TestP29ReachedAsTold(t *testing.T) {
	forSearches(func(m impl.Machine, choice []impl.Act) {
		for depth := range 5 {
			list := impl.ReachedIn(m, choice, depth)
			must(t, sameMachines(list, plainReached(m, choice, depth)), m, choice, depth, list)
		}
	})
}

func TestP29Reached(t *testing.T) {
	none := []int{0, 0, 0, 0}
	m := machineOf([]int{1, 1, 0, 0}, none, goodsOf(7, 1, 3, 2))
	sold := machineOf([]int{0, 0, 0, 1}, none, goodsOf(7, 0, 3, 2))
	with := func(m impl.Machine, in ...int) impl.Machine { return machineOf(m.Own, in, m.Goods) }
	for _, c := range []struct {
		choice []impl.Act
		counts []int
		list   []impl.Machine
	}{
		// The good comes out for one coin and for two: the same machine is left.
		{[]impl.Act{coinOf(3), pickOf(0), backAct()}, []int{1, 2, 4, 6, 8}, []impl.Machine{
			m, with(m, 0, 0, 0, 1), with(m, 0, 0, 0, 2), sold, with(m, 0, 0, 0, 3), with(sold, 0, 0, 0, 1), with(m, 0, 0, 0, 4), with(sold, 0, 0, 0, 2)}},
		{[]impl.Act{backAct(), pickOf(0), coinOf(3)}, []int{1, 2, 4, 6, 8}, []impl.Machine{
			m, with(m, 0, 0, 0, 1), sold, with(m, 0, 0, 0, 2), with(sold, 0, 0, 0, 1), with(m, 0, 0, 0, 3), with(sold, 0, 0, 0, 2), with(m, 0, 0, 0, 4)}},
		// In whatever order coins are put in; and what is worth as much is another machine all the same.
		{[]impl.Act{coinOf(0), coinOf(1)}, []int{1, 3, 6}, []impl.Machine{
			m, with(m, 1, 0, 0, 0), with(m, 0, 1, 0, 0), with(m, 2, 0, 0, 0), with(m, 1, 1, 0, 0), with(m, 0, 2, 0, 0)}},
		{[]impl.Act{coinOf(1), coinOf(0)}, []int{1, 3, 6}, []impl.Machine{
			m, with(m, 0, 1, 0, 0), with(m, 1, 0, 0, 0), with(m, 0, 2, 0, 0), with(m, 1, 1, 0, 0), with(m, 2, 0, 0, 0)}},
		// Acts that change nothing lead nowhere else.
		{[]impl.Act{backAct()}, []int{1, 1, 1, 1, 1}, []impl.Machine{m}},
		{[]impl.Act{coinOf(4), pickOf(0), pickOf(3), backAct()}, []int{1, 1, 1, 1, 1}, []impl.Machine{m}},
		{[]impl.Act{coinOf(3)}, []int{1, 2, 3, 4, 5}, []impl.Machine{
			m, with(m, 0, 0, 0, 1), with(m, 0, 0, 0, 2), with(m, 0, 0, 0, 3), with(m, 0, 0, 0, 4)}},
	} {
		for depth, count := range c.counts {
			list := impl.ReachedIn(m, c.choice, depth)
			must(t, sameMachines(list, c.list[:count]), c.choice, depth, list)
		}
	}
}

func TestP29ReachedInMoreWays(t *testing.T) {
	coins := []impl.Act{coinOf(0), coinOf(1), coinOf(2), coinOf(3)}
	for _, m := range searchMachines()[:3] {
		for depth, count := range []int{1, 5, 15, 35, 70} {
			must(t, len(impl.ReachedIn(m, coins, depth)) == count, m, depth, len(impl.ReachedIn(m, coins, depth)))
		}
	}
	// A kind that gets full, and one that is full.
	almost := machineOf([]int{0, 0, 0, 0}, []int{0, 0, 20, 18}, nil)
	for depth, count := range []int{1, 2, 3, 3, 3} {
		list := impl.ReachedIn(almost, []impl.Act{coinOf(2), coinOf(3)}, depth)
		must(t, len(list) == count && list[count-1].In[3] == 17+count, depth, list)
	}
	// Goods of one price: which one is gone makes another machine.
	twins := machineOf([]int{0, 0, 0, 0}, []int{0, 0, 1, 0}, goodsOf(5, 1, 5, 1))
	list := impl.ReachedIn(twins, []impl.Act{pickOf(1), pickOf(0)}, 4)
	must(t, sameMachines(list, []impl.Machine{
		twins,
		machineOf([]int{0, 0, 1, 0}, []int{0, 0, 0, 0}, goodsOf(5, 1, 5, 0)),
		machineOf([]int{0, 0, 1, 0}, []int{0, 0, 0, 0}, goodsOf(5, 0, 5, 1)),
	}), list)
	// A good that is paid with a coin of 10 or with coins of 5 and 2 leaves other coins.
	m := machineOf([]int{1, 1, 0, 0}, []int{0, 0, 0, 0}, goodsOf(7, 1))
	list = impl.ReachedIn(m, []impl.Act{coinOf(3), pickOf(0), coinOf(2), coinOf(1)}, 3)
	for _, own := range [][]int{{0, 0, 0, 1}, {1, 2, 1, 0}, {0, 0, 2, 0}} {
		at := placeOf(list, machineOf(own, []int{0, 0, 0, 0}, goodsOf(7, 0)))
		must(t, at > 0, own, list)
	}
	// What was put in is given back: this is another machine, and it is told again in no other way.
	paid := machineOf([]int{0, 0, 0, 0}, []int{0, 0, 1, 0}, nil)
	list = impl.ReachedIn(paid, []impl.Act{backAct(), coinOf(2)}, 2)
	must(t, sameMachines(list, []impl.Machine{
		paid, machineOf([]int{0, 0, 0, 0}, []int{0, 0, 0, 0}, nil), machineOf([]int{0, 0, 0, 0}, []int{0, 0, 2, 0}, nil), machineOf([]int{0, 0, 0, 0}, []int{0, 0, 3, 0}, nil),
	}), list)
}

func TestP29OtherSearches(t *testing.T) {
	forNoSearches(func(m impl.Machine, choice []impl.Act, depth int) {
		list := impl.ReachedIn(m, choice, depth)
		must(t, list == nil, m, choice, depth, list)
	})
}

func TestP30DeadActsStayDeadForShorterRuns(t *testing.T) {
	forSearches(func(m impl.Machine, choice []impl.Act) {
		fewer := choice
		for depth := range 5 {
			dead := impl.DeadActs(m, choice, depth)
			list := impl.ReachedIn(m, choice, depth)
			at := 0
			for _, a := range choice {
				done := slices.ContainsFunc(list, func(reached impl.Machine) bool {
					_, what := impl.Acted(reached, a)
					return what.Done
				})
				told := at < len(dead) && dead[at] == a
				must(t, told != done, m, choice, depth, dead, a)
				if told {
					must(t, slices.Contains(fewer, a), "not dead for shorter runs", m, choice, depth, a)
					at++
				}
			}
			must(t, at == len(dead), "not in the order of the choice", m, choice, depth, dead)
			must(t, len(fewer) > 0 || len(dead) == 0, m, choice, depth, dead)
			fewer = dead
		}
	})
}

func TestP30DeadAsTold(t *testing.T) {
	forSearches(func(m impl.Machine, choice []impl.Act) {
		for depth := range 5 {
			want := plainDead(plainReached(m, choice, depth), choice)
			dead := impl.DeadActs(m, choice, depth)
			must(t, slices.Equal(dead, want), m, choice, depth, dead, want)
		}
	})
}

func TestP30Dead(t *testing.T) {
	none := []int{0, 0, 0, 0}
	m := machineOf([]int{1, 1, 0, 0}, none, goodsOf(7, 1, 3, 2))
	dear := machineOf(none, none, goodsOf(8, 1, 10, 1))
	full := machineOf(none, []int{0, 0, 0, 20}, nil)
	never := []impl.Act{coinOf(4), {Do: 3}, {Do: impl.DoBack, N: 1}, pickOf(2)}
	for _, c := range []struct {
		told   string
		m      impl.Machine
		choice []impl.Act
		dead   [][]impl.Act
	}{
		{"until a coin is put in", m, []impl.Act{coinOf(3), pickOf(0), backAct()}, [][]impl.Act{{pickOf(0)}, nil, nil, nil, nil}},
		{"no change", m, []impl.Act{pickOf(1), coinOf(3), pickOf(0)}, [][]impl.Act{{pickOf(1), pickOf(0)}, {pickOf(1)}, {pickOf(1)}, {pickOf(1)}, {pickOf(1)}}},
		{"until there is change", m, []impl.Act{coinOf(2), pickOf(1), pickOf(0)}, [][]impl.Act{{pickOf(1), pickOf(0)}, {pickOf(0)}, nil, nil, nil}},
		{"until four coins are put in", dear, []impl.Act{pickOf(0), coinOf(1)}, [][]impl.Act{{pickOf(0)}, {pickOf(0)}, {pickOf(0)}, {pickOf(0)}, nil}},
		{"not paid by four coins", dear, []impl.Act{pickOf(1), coinOf(1), pickOf(0)},
			[][]impl.Act{{pickOf(1), pickOf(0)}, {pickOf(1), pickOf(0)}, {pickOf(1), pickOf(0)}, {pickOf(1), pickOf(0)}, {pickOf(1)}}},
		{"never done", m, never, [][]impl.Act{never, never, never, never, never}},
		{"never done, beside others", m, []impl.Act{coinOf(4), coinOf(0), {Do: -1}, backAct()},
			[][]impl.Act{{coinOf(4), {Do: -1}}, {coinOf(4), {Do: -1}}, {coinOf(4), {Do: -1}}, {coinOf(4), {Do: -1}}, {coinOf(4), {Do: -1}}}},
		{"it changes nothing, but is done", m, []impl.Act{backAct()}, [][]impl.Act{nil, nil, nil, nil, nil}},
		{"a full kind", full, []impl.Act{coinOf(3)}, [][]impl.Act{{coinOf(3)}, {coinOf(3)}, {coinOf(3)}, {coinOf(3)}, {coinOf(3)}}},
		{"a full kind that is given back", full, []impl.Act{coinOf(3), backAct()}, [][]impl.Act{{coinOf(3)}, nil, nil, nil, nil}},
		{"no goods", full, []impl.Act{pickOf(0), coinOf(0)}, [][]impl.Act{{pickOf(0)}, {pickOf(0)}, {pickOf(0)}, {pickOf(0)}, {pickOf(0)}}},
		{"done at first alone", machineOf(none, []int{0, 1, 1, 0}, goodsOf(7, 1)), []impl.Act{pickOf(0)}, [][]impl.Act{nil, nil, nil, nil, nil}},
	} {
		for depth, want := range c.dead {
			dead := impl.DeadActs(c.m, c.choice, depth)
			must(t, slices.Equal(dead, want), c.told, depth, dead)
		}
	}
}

func TestP30OtherSearches(t *testing.T) {
	forNoSearches(func(m impl.Machine, choice []impl.Act, depth int) {
		dead := impl.DeadActs(m, choice, depth)
		must(t, dead == nil, m, choice, depth, dead)
	})
}

// checkOwnActs writes other acts all over each list in turn, and looks whether they are still there behind the others.
func checkOwnActs(t *testing.T, lists ...[]impl.Act) {
	t.Helper()
	for mark, list := range lists {
		for i := range list[:cap(list)] {
			list[:cap(list)][i] = impl.Act{Do: mark, N: mark}
		}
	}
	for mark, list := range lists {
		for _, a := range list[:cap(list)] {
			must(t, a == impl.Act{Do: mark, N: mark}, "shared memory", mark, list)
		}
	}
}

func TestSearchesAreNotWrittenTo(t *testing.T) {
	for _, want := range searchMachines() {
		for _, acts := range searchChoices() {
			m, choice := roomyMachine(want), roomyActs(acts)
			wholeBefore, choiceBefore := copyOf(wholeMachine(m)), slices.Clone(choice[:cap(choice)])
			impl.ChoiceOk(choice)
			for depth := -1; depth <= 5; depth++ {
				run, _ := impl.RunAt(choice, depth, 0)
				overwriteActs(run)
				for _, claim := range []string{"G!g", "(c&!c)", "!XXXd", "(c"} {
					run, _ = impl.BreakingRun(m, choice, claim, depth)
					overwriteActs(run)
					impl.SureUpTo(m, choice, claim, depth)
				}
				for _, reached := range impl.ReachedIn(m, choice, depth) {
					overwriteMachine(reached)
				}
				overwriteActs(impl.DeadActs(m, choice, depth))
			}
			must(t, sameMachine(wholeMachine(m), wholeBefore), want, acts, wholeMachine(m))
			must(t, slices.Equal(choice[:cap(choice)], choiceBefore), want, acts, choice[:cap(choice)])
		}
	}
}

func TestSearchesShareNoMemory(t *testing.T) {
	forSearches(func(want impl.Machine, acts []impl.Act) {
		m, choice := copyOf(want), slices.Clone(acts)
		lists := [][]impl.Act{choice}
		for range 2 {
			run, _ := impl.RunAt(choice, 4, 0)
			breaking, _ := impl.BreakingRun(m, choice, "!XXXd", 4)
			first, _ := impl.BreakingRun(m, choice, "(c&!c)", 4)
			lists = append(lists, run, breaking, first, impl.DeadActs(m, choice, 0), impl.DeadActs(m, choice, 3))
		}
		rows, shelves := [][]int{m.Own, m.In}, [][]impl.Good{m.Goods}
		for _, reached := range append(impl.ReachedIn(m, choice, 3), impl.ReachedIn(m, choice, 3)...) {
			rows, shelves = append(rows, reached.Own, reached.In), append(shelves, reached.Goods)
		}
		checkParts(t, acts, shelves, rows...)
		checkOwnActs(t, lists...)
	})
	// The list of machines itself is new, too.
	m, choice := searchMachines()[0], searchChoices()[7]
	list, again := impl.ReachedIn(m, choice, 4), impl.ReachedIn(m, choice, 4)
	want := slices.Clone(again)
	clear(list[:cap(list)])
	must(t, sameMachines(again, want), "shared machines", again)
}

// No answer hangs on what was searched before.
func TestSearchesKeepNothing(t *testing.T) {
	m, choice := searchMachines()[0], searchChoices()[9]
	wantList, wantDead := impl.ReachedIn(m, choice, 3), impl.DeadActs(m, choice, 1)
	wantActs, wantOk := impl.BreakingRun(m, choice, "!F(g&XFg)", 4)
	forSearches(func(other impl.Machine, acts []impl.Act) {
		impl.ReachedIn(other, acts, 2)
		impl.BreakingRun(other, acts, "G!g", 2)
		must(t, sameMachines(impl.ReachedIn(m, choice, 3), wantList), "another list", other, acts)
		must(t, slices.Equal(impl.DeadActs(m, choice, 1), wantDead), "other acts", other, acts)
	})
	acts, ok := impl.BreakingRun(m, choice, "!F(g&XFg)", 4)
	must(t, ok == wantOk && slices.Equal(acts, wantActs), acts, wantActs)
}
