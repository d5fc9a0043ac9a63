package tests

import (
	"math"
	"math/rand/v2"
	"slices"
	"testing"

	"loop.example/coinmachine/impl"
)

// allVersions has the numbers of all versions, from the one that can do most to the one that can do least.
func allVersions() []int {
	return []int{impl.Fewest, impl.Greedy, impl.Exact}
}

func noVersions() []int {
	return []int{-1, -2, -3, 3, 4, 5, 256, 1 << 32, math.MaxInt, math.MinInt}
}

func plainNone(_ []int, amount int) ([]int, bool) {
	return []int{0, 0, 0, 0}, amount == 0
}

// plainVersion returns what finds the change by a version.
func plainVersion(version int) plainFinder {
	switch version {
	case 0:
		return plainFewest
	case 1:
		return plainGreed
	}
	return plainNone
}

// givenMachine has goods that can be picked by fewest coins only, by all versions, and greedily.
func givenMachine() impl.Machine {
	return machineOf([]int{0, 3, 1, 0}, []int{0, 0, 0, 1}, goodsOf(4, 2, 10, 1, 3, 1))
}

// unlikeMachines has machines of which two versions make something else at the first act, and only after two to four acts.
func unlikeMachines() []impl.Machine {
	none := []int{0, 0, 0, 0}
	return []impl.Machine{
		givenMachine(),
		machineOf([]int{0, 3, 0, 0}, none, goodsOf(9, 1, 10, 2)),
		machineOf([]int{0, 3, 0, 0}, none, goodsOf(14, 1)),
		machineOf([]int{0, 3, 0, 0}, []int{0, 0, 1, 0}, goodsOf(9, 1, 7, 5, 1, 1)),
		machineOf([]int{1, 3, 1, 0}, none, goodsOf(9, 1, 4, 1)),
		machineOf(none, none, goodsOf(25, 1, 10, 1)),
		machineOf([]int{0, 0, 0, 20}, []int{0, 0, 3, 0}, goodsOf(5, 2, 10, 1)),
	}
}

// versionMachines has the machines of searches and runs, and those above.
func versionMachines() []impl.Machine {
	return slices.Concat(searchMachines(), unlikeMachines(), runMachines())
}

// randomMachines returns machines with any coins and goods, which are the same ones in each call.
// There are hardly any coins of 1, without which greed misses most.
func randomMachines(count int) []impl.Machine {
	random := rand.New(rand.NewPCG(8, 3))
	purse := func() []int {
		return []int{random.IntN(2), random.IntN(5), random.IntN(3), random.IntN(3)}
	}
	var list []impl.Machine
	for range count {
		goods := []impl.Good{}
		for range random.IntN(4) {
			goods = append(goods, impl.Good{Price: 1 + random.IntN(20), Stock: random.IntN(6)})
		}
		list = append(list, machineOf(purse(), purse(), goods))
	}
	return list
}

func isZero(m impl.Machine) bool {
	return m.Own == nil && m.In == nil && m.Goods == nil
}

// forVersions calls a function with versions, machines, all acts, and what comes of them.
func forVersions(check func(version int, m impl.Machine, a impl.Act, after impl.Machine, what impl.Result)) {
	machines := slices.Concat(manyMachines(), versionMachines(), randomMachines(300))
	for _, version := range allVersions() {
		for _, m := range machines {
			for _, a := range append(trueActs(), otherActs()...) {
				after, what := impl.ActedBy(version, m, a)
				check(version, m, a, after, what)
			}
		}
	}
}

func TestVersionConstants(t *testing.T) {
	must(t, impl.Fewest == 0 && impl.Greedy == 1 && impl.Exact == 2, impl.Fewest, impl.Greedy, impl.Exact)
}

func TestP31NoVersionMakesOrLosesCoins(t *testing.T) {
	forVersions(func(version int, m impl.Machine, a impl.Act, after impl.Machine, what impl.Result) {
		must(t, impl.MachineOk(after), version, m, a, after)
		if !what.Done {
			must(t, sameMachine(after, m) && what.Piece == 0 && len(what.Out) == 0, version, m, a, after, what)
			return
		}
		must(t, impl.PurseOk(what.Out), version, m, a, what)
		put := 0
		if a.Do == impl.DoCoin {
			put = impl.WorthOf(a.N)
		}
		must(t, impl.MoneyIn(after)+impl.ValueOf(what.Out) == impl.MoneyIn(m)+put, version, m, a, after, what)
		if what.Piece > 0 {
			cost := impl.ValueOf(m.In) - impl.ValueOf(what.Out)
			must(t, cost == m.Goods[what.Piece-1].Price, version, m, a, after, what)
		}
	})
}

func TestP31VersionsAreAsTold(t *testing.T) {
	picked := map[int]int{}
	forVersions(func(version int, m impl.Machine, a impl.Act, after impl.Machine, what impl.Result) {
		wantAfter, want := plainActedWith(plainVersion(version), m, a)
		must(t, sameMachine(after, wantAfter) && sameResult(what, want), version, m, a, after, what)
		if what.Piece > 0 {
			picked[version]++
		}
	})
	must(t, picked[0] > picked[1] && picked[1] > picked[2] && picked[2] > 20, "hardly any goods are picked", picked)
}

func TestP31ByFewestItIsActed(t *testing.T) {
	for _, m := range slices.Concat(manyMachines(), versionMachines(), randomMachines(300), noMachines()) {
		for _, a := range append(trueActs(), otherActs()...) {
			after, what := impl.ActedBy(impl.Fewest, m, a)
			wantAfter, want := impl.Acted(m, a)
			must(t, sameMachine(after, wantAfter) && sameResult(what, want), m, a, after, what)
		}
	}
}

func TestP31WhatIsDoneByExactIsDoneByAllAlike(t *testing.T) {
	forVersions(func(version int, m impl.Machine, a impl.Act, after impl.Machine, what impl.Result) {
		wantAfter, want := impl.ActedBy(impl.Exact, m, a)
		if want.Done {
			must(t, sameMachine(after, wantAfter) && sameResult(what, want), version, m, a, after, what)
		}
		if version == impl.Exact && what.Piece > 0 {
			must(t, slices.Equal(what.Out, []int{0, 0, 0, 0}), "change", m, a, what)
		}
	})
}

// Coins are put in and given back by all versions alike: only picking needs change.
func TestP31OnlyPicksAreUnlike(t *testing.T) {
	forVersions(func(version int, m impl.Machine, a impl.Act, after impl.Machine, what impl.Result) {
		if a.Do == impl.DoPick {
			return
		}
		wantAfter, want := impl.Acted(m, a)
		must(t, sameMachine(after, wantAfter) && sameResult(what, want), version, m, a, after, what)
	})
}

func TestP31Picked(t *testing.T) {
	for _, c := range []struct {
		told string
		m    impl.Machine
		good int
		done []int
		own  []int
		out  []int
	}{
		{"paid exactly", machineOf([]int{0, 0, 0, 0}, []int{0, 1, 1, 0}, goodsOf(7, 1)), 0, []int{0, 1, 2}, []int{0, 1, 1, 0}, []int{0, 0, 0, 0}},
		{"paid exactly, with change at hand", machineOf([]int{5, 5, 5, 5}, []int{0, 0, 0, 1}, goodsOf(7, 1, 10, 3)), 1, []int{0, 1, 2}, []int{5, 5, 5, 6}, []int{0, 0, 0, 0}},
		{"full kinds, paid exactly", machineOf([]int{20, 20, 19, 0}, []int{0, 0, 1, 0}, goodsOf(5, 5)), 0, []int{0, 1, 2}, []int{20, 20, 20, 0}, []int{0, 0, 0, 0}},
		{"greedily", machineOf([]int{1, 1, 0, 0}, []int{0, 0, 0, 1}, goodsOf(7, 1)), 0, []int{0, 1}, []int{0, 0, 0, 1}, []int{1, 1, 0, 0}},
		{"greedily, out of what was put in", machineOf([]int{0, 0, 0, 0}, []int{0, 1, 0, 1}, goodsOf(3, 1, 10, 2)), 1, []int{0, 1}, []int{0, 0, 0, 1}, []int{0, 1, 0, 0}},
		{"greedily, 1 too much", machineOf([]int{1, 0, 0, 0}, []int{0, 0, 0, 1}, goodsOf(9, 1)), 0, []int{0, 1}, []int{0, 0, 0, 1}, []int{1, 0, 0, 0}},
		{"99 too much", machineOf([]int{0, 2, 1, 9}, []int{0, 0, 0, 10}, goodsOf(1, 1)), 0, []int{0, 1}, []int{0, 0, 0, 10}, []int{0, 2, 1, 9}},
		{"6 behind a coin of 5", machineOf([]int{0, 3, 0, 0}, []int{0, 0, 1, 1}, goodsOf(9, 1)), 0, []int{0}, []int{0, 0, 1, 1}, []int{0, 3, 0, 0}},
		{"8 behind a coin of 5", machineOf([]int{0, 4, 1, 0}, []int{0, 0, 0, 1}, goodsOf(2, 1)), 0, []int{0}, []int{0, 0, 1, 1}, []int{0, 4, 0, 0}},
		{"11 behind a coin of 10", machineOf([]int{0, 3, 1, 0}, []int{0, 0, 0, 2}, goodsOf(9, 1)), 0, []int{0}, []int{0, 0, 0, 2}, []int{0, 3, 1, 0}},
		{"no change", machineOf([]int{0, 0, 0, 0}, []int{0, 0, 0, 1}, goodsOf(7, 1)), 0, nil, nil, nil},
		{"no coin of 1", machineOf([]int{0, 18, 20, 19}, []int{0, 0, 0, 1}, goodsOf(9, 1)), 0, nil, nil, nil},
		{"100 too much", machineOf([]int{9, 0, 0, 0}, []int{1, 0, 0, 10}, goodsOf(1, 1)), 0, nil, nil, nil},
		{"1 too little", machineOf([]int{9, 9, 9, 9}, []int{0, 3, 0, 0}, goodsOf(7, 1)), 0, nil, nil, nil},
		{"gone, paid exactly", machineOf([]int{9, 9, 9, 9}, []int{0, 1, 1, 0}, goodsOf(7, 0)), 0, nil, nil, nil},
		{"too many coins of a kind, paid exactly", machineOf([]int{0, 0, 0, 20}, []int{0, 0, 0, 1}, goodsOf(10, 1)), 0, nil, nil, nil},
		{"too many coins of a kind", machineOf([]int{0, 20, 0, 0}, []int{0, 1, 0, 1}, goodsOf(10, 1)), 0, nil, nil, nil},
		{"nothing put in", machineOf([]int{9, 9, 9, 9}, []int{0, 0, 0, 0}, goodsOf(1, 1)), 0, nil, nil, nil},
		{"no goods", machineOf([]int{9, 9, 9, 9}, []int{0, 1, 1, 0}, nil), 0, nil, nil, nil},
		{"behind the last good", machineOf([]int{9, 9, 9, 9}, []int{0, 1, 1, 0}, goodsOf(7, 1, 7, 1)), 2, nil, nil, nil},
		{"before the first good", machineOf([]int{9, 9, 9, 9}, []int{0, 1, 1, 0}, goodsOf(7, 1, 7, 1)), -1, nil, nil, nil},
	} {
		for _, version := range allVersions() {
			after, what := impl.ActedBy(version, c.m, pickOf(c.good))
			if !slices.Contains(c.done, version) {
				must(t, sameMachine(after, c.m) && sameResult(what, impl.Result{}), c.told, version, after, what)
				continue
			}
			want := machineOf(c.own, []int{0, 0, 0, 0}, slices.Clone(c.m.Goods))
			want.Goods[c.good].Stock--
			must(t, sameMachine(after, want), c.told, version, after)
			must(t, sameResult(what, impl.Result{Done: true, Piece: c.good + 1, Out: c.out}), c.told, version, what)
		}
	}
}

func TestP31OtherActsDoNothing(t *testing.T) {
	rich := machineOf([]int{5, 5, 5, 5}, []int{5, 5, 5, 5}, goodsOf(7, 1, 3, 2, 40, 5))
	for _, version := range allVersions() {
		for _, m := range append(versionMachines(), rich) {
			for _, a := range otherActs() {
				after, what := impl.ActedBy(version, m, a)
				must(t, sameMachine(after, m) && sameResult(what, impl.Result{}), version, m, a, after, what)
			}
		}
	}
}

func TestP31OtherVersionsAndMachines(t *testing.T) {
	check := func(version int, m impl.Machine, a impl.Act) {
		after, what := impl.ActedBy(version, m, a)
		must(t, isZero(after), version, m, a, after)
		must(t, !what.Done && what.Piece == 0 && what.Out == nil, version, m, a, what)
	}
	for _, a := range append(trueActs(), otherActs()...) {
		for _, version := range noVersions() {
			for _, m := range versionMachines() {
				check(version, m, a)
			}
			check(version, impl.Machine{}, a)
		}
		for _, version := range allVersions() {
			for _, m := range noMachines() {
				check(version, m, a)
			}
		}
	}
}

// forVersionRuns calls a function with versions, machines, runs of acts, and what comes of them.
func forVersionRuns(t *testing.T, check func(version int, m impl.Machine, acts []impl.Act, last impl.Machine, results []impl.Result)) {
	t.Helper()
	runs := slices.Concat(shortRuns(), longRuns()[:600], [][]impl.Act{deadRun()})
	for _, version := range allVersions() {
		for _, m := range append(runMachines(), unlikeMachines()...) {
			for _, acts := range runs {
				last, results, ok := impl.RunBy(version, m, acts)
				must(t, ok, version, m, acts)
				check(version, m, acts, last, results)
			}
		}
	}
}

func TestP32WhatWasPutInIsGivenOutOrKept(t *testing.T) {
	sold := map[int]int{}
	forVersionRuns(t, func(version int, m impl.Machine, acts []impl.Act, last impl.Machine, results []impl.Result) {
		put, given := impl.PutInBy(acts, results), impl.GivenBy(results)
		must(t, put >= 0 && given >= 0, version, m, acts, put, given)
		must(t, impl.MoneyIn(last)+given == impl.MoneyIn(m)+put, version, m, acts, last, put, given)
		for at, count := range impl.SoldBy(len(m.Goods), results) {
			must(t, count == m.Goods[at].Stock-last.Goods[at].Stock, version, m, acts, last, results)
			sold[version] += count
		}
	})
	must(t, sold[0] > sold[1] && sold[1] > sold[2] && sold[2] > 100, "hardly anything is sold", sold)
}

func TestP32RunsAreAsTold(t *testing.T) {
	forVersionRuns(t, func(version int, m impl.Machine, acts []impl.Act, last impl.Machine, results []impl.Result) {
		wantLast, want := plainRunWith(plainVersion(version), m, acts)
		must(t, sameMachine(last, wantLast) && sameResults(results, want), version, m, acts, last, results)
	})
}

func TestP32ByFewestItIsRunOf(t *testing.T) {
	runs := slices.Concat(shortRuns(), longRuns(), [][]impl.Act{deadRun(), slices.Repeat([]impl.Act{coinOf(0)}, 21)})
	for _, m := range slices.Concat(runMachines(), unlikeMachines(), noMachines()[:4]) {
		for _, acts := range runs {
			last, results, ok := impl.RunBy(impl.Fewest, m, acts)
			wantLast, want, wantOk := impl.RunOf(m, acts)
			must(t, ok == wantOk && sameMachine(last, wantLast) && sameResults(results, want), m, acts, last, results, ok)
		}
	}
}

func TestP32RunsInTwoParts(t *testing.T) {
	runs := slices.Concat(shortRuns()[:200], longRuns()[:200])
	for _, version := range allVersions() {
		for _, m := range append(runMachines(), unlikeMachines()...) {
			for _, acts := range runs {
				last, results, _ := impl.RunBy(version, m, acts)
				for cut := range len(acts) + 1 {
					between, before, ok := impl.RunBy(version, m, acts[:cut])
					must(t, ok && impl.MachineOk(between), version, m, acts, cut)
					end, behind, ok := impl.RunBy(version, between, acts[cut:])
					must(t, ok && sameMachine(end, last), version, m, acts, cut, end, last)
					must(t, sameResults(slices.Concat(before, behind), results), version, m, acts, cut, before, behind)
				}
			}
		}
	}
}

// Act by act it is ActedBy.
func TestP32ActByAct(t *testing.T) {
	forVersionRuns(t, func(version int, m impl.Machine, acts []impl.Act, last impl.Machine, results []impl.Result) {
		must(t, len(results) == len(acts), version, m, acts, results)
		for at, a := range acts {
			after, what := impl.ActedBy(version, m, a)
			must(t, sameResult(what, results[at]), version, m, acts, at, what)
			m = after
		}
		must(t, sameMachine(m, last), version, m, acts, last)
	})
}

func TestP32Runs(t *testing.T) {
	m := machineOf([]int{1, 3, 1, 0}, []int{0, 0, 0, 0}, goodsOf(9, 1, 4, 1))
	acts := []impl.Act{coinOf(3), pickOf(0), coinOf(3), pickOf(1), backAct(), coinOf(1), coinOf(1), pickOf(1)}
	no := impl.Result{}
	in := doneOf(0, 0, 0, 0, 0)
	for _, c := range []struct {
		version int
		last    impl.Machine
		results []impl.Result
	}{
		// With the coin of 1 the greedy version has no change behind the coin of 5 any more.
		{impl.Fewest, machineOf([]int{0, 0, 1, 2}, []int{0, 2, 0, 0}, goodsOf(9, 0, 4, 0)),
			[]impl.Result{in, doneOf(1, 1, 0, 0, 0), in, doneOf(2, 0, 3, 0, 0), in, in, in, no}},
		{impl.Greedy, machineOf([]int{0, 5, 1, 1}, []int{0, 0, 0, 0}, goodsOf(9, 0, 4, 0)),
			[]impl.Result{in, doneOf(1, 1, 0, 0, 0), in, no, doneOf(0, 0, 0, 0, 1), in, in, doneOf(2, 0, 0, 0, 0)}},
		{impl.Exact, machineOf([]int{1, 5, 1, 0}, []int{0, 0, 0, 0}, goodsOf(9, 1, 4, 0)),
			[]impl.Result{in, no, in, no, doneOf(0, 0, 0, 0, 2), in, in, doneOf(2, 0, 0, 0, 0)}},
	} {
		last, results, ok := impl.RunBy(c.version, m, acts)
		must(t, ok && sameMachine(last, c.last), c.version, last, ok)
		must(t, sameResults(results, c.results), c.version, results)
	}
}

func TestP32LengthsOfRuns(t *testing.T) {
	m := machineOf([]int{1, 1, 0, 0}, []int{0, 0, 0, 0}, goodsOf(7, 1))
	for _, version := range allVersions() {
		for long := range 45 {
			for _, a := range []impl.Act{coinOf(0), backAct(), pickOf(7)} {
				acts := slices.Repeat([]impl.Act{a}, long)
				last, results, ok := impl.RunBy(version, m, acts)
				must(t, ok == (long <= 20), version, long, a, ok)
				if !ok {
					must(t, isZero(last) && results == nil, version, long, a, last, results)
					continue
				}
				wantLast, want := plainRun(m, acts)
				must(t, sameMachine(last, wantLast) && sameResults(results, want), version, long, a, last, results)
			}
		}
		for _, m := range append(manyMachines(), versionMachines()...) {
			last, results, ok := impl.RunBy(version, m, nil)
			must(t, ok && sameMachine(last, m) && len(results) == 0, "without acts", version, m, last, results, ok)
		}
	}
}

func TestP32OtherVersionsAndMachines(t *testing.T) {
	runs := [][]impl.Act{nil, {coinOf(3)}, {coinOf(3), pickOf(0), backAct()}, deadRun(), slices.Repeat([]impl.Act{backAct()}, 21)}
	check := func(version int, m impl.Machine) {
		for _, acts := range runs {
			last, results, ok := impl.RunBy(version, m, acts)
			must(t, !ok && isZero(last) && results == nil, version, m, acts, last, results, ok)
		}
	}
	for _, version := range noVersions() {
		for _, m := range versionMachines() {
			check(version, m)
		}
		check(version, impl.Machine{})
	}
	for _, version := range allVersions() {
		for _, m := range noMachines() {
			check(version, m)
		}
	}
}

func TestP33BetterVersionsCanDoMore(t *testing.T) {
	more := [2]int{}
	for _, m := range slices.Concat(manyMachines(), versionMachines(), randomMachines(3000)) {
		fewest, greedy, exact := impl.PicksBy(impl.Fewest, m), impl.PicksBy(impl.Greedy, m), impl.PicksBy(impl.Exact, m)
		for _, good := range exact {
			must(t, slices.Contains(greedy, good), "by Exact, but not by Greedy", m, good)
		}
		for _, good := range greedy {
			must(t, slices.Contains(fewest, good), "by Greedy, but not by Fewest", m, good)
		}
		must(t, slices.Equal(fewest, impl.CanPick(m)), m, fewest)
		more[0] += len(fewest) - len(greedy)
		more[1] += len(greedy) - len(exact)
	}
	must(t, slices.Min(more[:]) > 50, "hardly any versions can do more", more)
}

func TestP33PicksAreAsTold(t *testing.T) {
	for _, version := range allVersions() {
		for _, m := range slices.Concat(manyMachines(), versionMachines(), randomMachines(1000)) {
			list := impl.PicksBy(version, m)
			var want []int
			for good := range m.Goods {
				_, plain := plainActedWith(plainVersion(version), m, pickOf(good))
				_, what := impl.ActedBy(version, m, pickOf(good))
				must(t, plain.Done == what.Done, version, m, good, what)
				if plain.Done {
					want = append(want, good)
				}
			}
			must(t, slices.Equal(list, want), version, m, list)
		}
	}
}

func TestP33Picks(t *testing.T) {
	for _, c := range []struct {
		told  string
		m     impl.Machine
		lists [3][]int
	}{
		{"one good more by each", givenMachine(), [3][]int{{0, 1, 2}, {1, 2}, {1}}},
		{"the last one by all", machineOf([]int{0, 3, 1, 0}, []int{0, 0, 0, 1}, goodsOf(3, 1, 4, 2, 10, 1)), [3][]int{{0, 1, 2}, {0, 2}, {2}}},
		{"none without change", machineOf([]int{1, 1, 0, 0}, []int{0, 0, 0, 1}, goodsOf(7, 1, 3, 2)), [3][]int{{0}, {0}, nil}},
		{"by fewest coins alone", machineOf([]int{0, 3, 0, 0}, []int{0, 0, 1, 1}, goodsOf(9, 1, 4, 1, 8, 1)), [3][]int{{0, 1, 2}, {2}, nil}},
		{"by fewest coins alone, gone", machineOf([]int{0, 3, 0, 0}, []int{0, 0, 1, 1}, goodsOf(9, 0, 4, 0)), [3][]int{nil, nil, nil}},
		{"by none", machineOf([]int{0, 0, 0, 0}, []int{0, 0, 0, 1}, goodsOf(7, 1, 9, 5)), [3][]int{nil, nil, nil}},
		{"by all alike", machineOf([]int{0, 0, 0, 0}, []int{0, 1, 1, 0}, goodsOf(7, 1, 7, 5, 7, 0)), [3][]int{{0, 1}, {0, 1}, {0, 1}}},
		{"no goods", machineOf([]int{9, 9, 9, 9}, []int{1, 1, 1, 1}, nil), [3][]int{nil, nil, nil}},
		{"no coins", machineOf([]int{0, 0, 0, 0}, []int{0, 0, 0, 0}, goodsOf(1, 1, 2, 5)), [3][]int{nil, nil, nil}},
		{"too full", machineOf([]int{20, 20, 20, 20}, []int{0, 0, 0, 1}, goodsOf(10, 1, 5, 1)), [3][]int{nil, nil, nil}},
		{"nothing put in", machineOf([]int{9, 9, 9, 9}, []int{0, 0, 0, 0}, goodsOf(10, 1, 5, 1)), [3][]int{nil, nil, nil}},
	} {
		for _, version := range allVersions() {
			list := impl.PicksBy(version, c.m)
			must(t, slices.Equal(list, c.lists[version]), c.told, version, list)
		}
	}
}

func TestP33OtherVersionsAndMachines(t *testing.T) {
	for _, version := range noVersions() {
		for _, m := range append(versionMachines(), impl.Machine{}) {
			must(t, impl.PicksBy(version, m) == nil, version, m, impl.PicksBy(version, m))
		}
	}
	for _, version := range allVersions() {
		for _, m := range noMachines() {
			must(t, impl.PicksBy(version, m) == nil, version, m, impl.PicksBy(version, m))
		}
	}
}

// versionPairs has each version beside each, also beside itself.
func versionPairs() [][2]int {
	var list [][2]int
	for _, a := range allVersions() {
		for _, b := range allVersions() {
			list = append(list, [2]int{a, b})
		}
	}
	return list
}

// unlikeChoices has choices with which something is paid, not paid, and given back.
func unlikeChoices() [][]impl.Act {
	return append(searchChoices(),
		[]impl.Act{coinOf(2), coinOf(3), pickOf(0)},
		[]impl.Act{coinOf(3), coinOf(2), pickOf(0)},
		[]impl.Act{coinOf(3), pickOf(0), pickOf(1)},
		[]impl.Act{pickOf(0), pickOf(1), pickOf(2), coinOf(2)},
	)
}

// forPairs calls a function with all pairs of versions, machines and choices.
func forPairs(check func(a int, b int, m impl.Machine, choice []impl.Act)) {
	for _, m := range append(searchMachines(), unlikeMachines()...) {
		for _, choice := range unlikeChoices() {
			for _, pair := range versionPairs() {
				check(pair[0], pair[1], m, choice)
			}
		}
	}
}

// alikeBy reports whether the same comes of a run by two versions.
func alikeBy(a int, b int, m impl.Machine, acts []impl.Act) bool {
	last, results, _ := impl.RunBy(a, m, acts)
	other, otherResults, _ := impl.RunBy(b, m, acts)
	return sameMachine(last, other) && sameResults(results, otherResults)
}

func TestP34UnlikeVersionsDifferAtTheLastActFirst(t *testing.T) {
	forPairs(func(a int, b int, m impl.Machine, choice []impl.Act) {
		acts, ok := impl.UnlikeRun(a, b, m, choice, 4)
		if !ok {
			must(t, acts == nil, a, b, m, choice, acts)
			return
		}
		must(t, len(acts) >= 1 && len(acts) <= 4 && a != b, a, b, m, choice, acts)
		must(t, !alikeBy(a, b, m, acts), "alike", a, b, m, choice, acts)
		must(t, alikeBy(a, b, m, acts[:len(acts)-1]), "unlike before the last act", a, b, m, choice, acts)
		_, shorter := impl.UnlikeRun(a, b, m, choice, len(acts)-1)
		must(t, !shorter, "a shorter one", a, b, m, choice, acts)
		for number := 0; ; number++ {
			before, there := impl.RunAt(choice, len(acts), number)
			must(t, there, "no run of the choice", a, b, m, choice, acts)
			if slices.Equal(before, acts) {
				break
			}
			must(t, alikeBy(a, b, m, before), "one before", a, b, m, choice, acts, before)
		}
	})
}

// plainUnlike returns the first one of runs of which something else came by another version, or none.
func plainUnlike(runs []toldRun, others []toldRun) []impl.Act {
	for at, run := range runs {
		if !sameResults(run.results, others[at].results) {
			return run.acts
		}
	}
	return nil
}

func TestP34UnlikeRunsAreAsTold(t *testing.T) {
	var lengths [3][5]int
	for _, m := range append(searchMachines(), unlikeMachines()...) {
		for _, choice := range unlikeChoices() {
			var runs [3][]toldRun
			for _, version := range allVersions() {
				runs[version] = searchedRunsWith(plainVersion(version), m, choice)
			}
			for _, pair := range versionPairs() {
				want := plainUnlike(runs[pair[0]], runs[pair[1]])
				lengths[(pair[0]+pair[1])%3][len(want)]++
				for depth := range 5 {
					acts, ok := impl.UnlikeRun(pair[0], pair[1], m, choice, depth)
					if len(want) == 0 || len(want) > depth {
						must(t, !ok && acts == nil, pair, m, choice, depth, acts, ok)
						continue
					}
					must(t, ok && slices.Equal(acts, want), pair, m, choice, depth, acts, want)
				}
			}
		}
	}
	for _, counts := range lengths {
		must(t, slices.Min(counts[:]) > 0, "no versions differ first after so many acts", lengths)
	}
}

func TestP34AVersionAndItself(t *testing.T) {
	for _, version := range allVersions() {
		for _, m := range append(versionMachines(), randomMachines(20)...) {
			for _, choice := range unlikeChoices() {
				for depth := range 4 {
					acts, ok := impl.UnlikeRun(version, version, m, choice, depth)
					must(t, !ok && acts == nil, version, m, choice, depth, acts)
				}
			}
		}
		acts, ok := impl.UnlikeRun(version, version, givenMachine(), []impl.Act{pickOf(0), pickOf(2), coinOf(3), backAct()}, 4)
		must(t, !ok && acts == nil, version, acts)
	}
}

func TestP34InBothOrders(t *testing.T) {
	forPairs(func(a int, b int, m impl.Machine, choice []impl.Act) {
		acts, ok := impl.UnlikeRun(a, b, m, choice, 3)
		other, otherOk := impl.UnlikeRun(b, a, m, choice, 3)
		must(t, ok == otherOk && slices.Equal(acts, other), a, b, m, choice, acts, other)
	})
}

func TestP34UnlikeRuns(t *testing.T) {
	five, ten, first, second, third, back := coinOf(2), coinOf(3), pickOf(0), pickOf(1), pickOf(2), backAct()
	none := []int{0, 0, 0, 0}
	missing := machineOf([]int{0, 3, 0, 0}, none, goodsOf(9, 1))
	late := machineOf([]int{0, 3, 0, 0}, none, goodsOf(14, 1))
	spent := machineOf([]int{1, 3, 1, 0}, none, goodsOf(9, 1, 4, 1))
	small := machineOf([]int{1, 1, 0, 0}, none, goodsOf(7, 1))
	for _, c := range []struct {
		told   string
		m      impl.Machine
		choice []impl.Act
		// The runs of Fewest and Greedy, of Fewest and Exact, and of Greedy and Exact.
		runs [3][]impl.Act
	}{
		{"at the first act", givenMachine(), []impl.Act{third, first}, [3][]impl.Act{{first}, {third}, {third}}},
		{"at the first act, in the other order", givenMachine(), []impl.Act{first, third}, [3][]impl.Act{{first}, {first}, {third}}},
		{"at the first act, beside one that is alike", givenMachine(), []impl.Act{second, back, first}, [3][]impl.Act{{first}, {first}, nil}},
		{"never, paid exactly", givenMachine(), []impl.Act{second, back}, [3][]impl.Act{}},
		{"never, without picking", givenMachine(), []impl.Act{five, ten, coinOf(0), back}, [3][]impl.Act{}},
		{"never, without goods", machineOf([]int{3, 0, 0, 2}, []int{1, 0, 2, 0}, nil), []impl.Act{first, five, second, back}, [3][]impl.Act{}},
		{"never, with acts of no kind", givenMachine(), []impl.Act{{Do: 3}, {Do: -1}, {Do: impl.DoBack, N: 1}, pickOf(3)}, [3][]impl.Act{}},
		{"after two acts", small, []impl.Act{ten, first}, [3][]impl.Act{nil, {ten, first}, {ten, first}}},
		{"after two acts, in the other order", small, []impl.Act{first, ten}, [3][]impl.Act{nil, {ten, first}, {ten, first}}},
		{"after three acts", missing, []impl.Act{five, ten, first, back}, [3][]impl.Act{{five, ten, first}, {five, ten, first}, nil}},
		{"after three acts, in the other order", missing, []impl.Act{ten, first, five}, [3][]impl.Act{{ten, five, first}, {ten, five, first}, nil}},
		{"after four acts", late, []impl.Act{five, ten, first}, [3][]impl.Act{{five, five, ten, first}, {ten, ten, first}, {ten, ten, first}}},
		{"after four acts, in the other order", late, []impl.Act{ten, five, first}, [3][]impl.Act{{ten, ten, five, first}, {ten, ten, first}, {ten, ten, first}}},
		{"behind a good that both sell", spent, []impl.Act{ten, first, second}, [3][]impl.Act{{ten, first, ten, second}, {ten, first}, {ten, first}}},
		{"too dear for three coins", machineOf(none, none, goodsOf(35, 1)), []impl.Act{ten, first}, [3][]impl.Act{}},
	} {
		for at, pair := range [][2]int{{impl.Fewest, impl.Greedy}, {impl.Fewest, impl.Exact}, {impl.Greedy, impl.Exact}} {
			want := c.runs[at]
			for depth := range 5 {
				acts, ok := impl.UnlikeRun(pair[0], pair[1], c.m, c.choice, depth)
				told := len(want) > 0 && len(want) <= depth
				must(t, ok == told, c.told, pair, depth, acts, ok)
				must(t, !told && acts == nil || told && slices.Equal(acts, want), c.told, pair, depth, acts)
			}
		}
	}
}

func TestP34OtherSearches(t *testing.T) {
	check := func(a int, b int, m impl.Machine, choice []impl.Act, depth int) {
		acts, ok := impl.UnlikeRun(a, b, m, choice, depth)
		must(t, !ok && acts == nil, a, b, m, choice, depth, acts, ok)
	}
	forNoSearches(func(m impl.Machine, choice []impl.Act, depth int) {
		check(impl.Fewest, impl.Exact, m, choice, depth)
		check(impl.Greedy, impl.Greedy, m, choice, depth)
	})
	// Each of these is unlike at the first act, if it is one.
	choice := []impl.Act{pickOf(0), pickOf(2)}
	for _, depth := range append(noDepths(), 0) {
		check(impl.Fewest, impl.Greedy, givenMachine(), choice, depth)
		check(impl.Exact, impl.Greedy, givenMachine(), choice, depth)
	}
	for _, other := range noChoices() {
		check(impl.Fewest, impl.Exact, givenMachine(), append([]impl.Act{pickOf(0), pickOf(0)}, other...), 4)
		check(impl.Fewest, impl.Exact, givenMachine(), other, 4)
	}
	bad := givenMachine()
	bad.Goods[1].Stock = 6
	check(impl.Fewest, impl.Exact, bad, choice, 4)
}

func TestP34OtherVersions(t *testing.T) {
	choice := []impl.Act{pickOf(0), pickOf(2), coinOf(3), backAct()}
	for _, no := range noVersions() {
		for depth := range 5 {
			for _, version := range append(allVersions(), noVersions()...) {
				for _, pair := range [][2]int{{no, version}, {version, no}} {
					acts, ok := impl.UnlikeRun(pair[0], pair[1], givenMachine(), choice, depth)
					must(t, !ok && acts == nil, pair, depth, acts, ok)
				}
			}
		}
	}
}

func TestVersionsAreNotWrittenTo(t *testing.T) {
	for _, want := range versionMachines() {
		for _, run := range memoryRuns() {
			m, acts := roomyMachine(want), roomyActs(run)
			wholeBefore, actsBefore := copyOf(wholeMachine(m)), slices.Clone(acts[:cap(acts)])
			for version := -1; version <= 3; version++ {
				for _, a := range append(trueActs(), otherActs()...) {
					after, what := impl.ActedBy(version, m, a)
					overwriteMachine(after)
					overwriteRow(what.Out)
				}
				last, results, _ := impl.RunBy(version, m, acts)
				overwriteMachine(last)
				overwriteResults(results)
				overwriteRow(impl.PicksBy(version, m))
			}
			must(t, sameMachine(wholeMachine(m), wholeBefore), want, run, wholeMachine(m))
			must(t, slices.Equal(acts[:cap(acts)], actsBefore), want, run, acts[:cap(acts)])
		}
		for _, acts := range unlikeChoices() {
			m, choice := roomyMachine(want), roomyActs(acts)
			wholeBefore, choiceBefore := copyOf(wholeMachine(m)), slices.Clone(choice[:cap(choice)])
			for depth := -1; depth <= 3; depth++ {
				for _, pair := range append(versionPairs(), [2]int{3, 0}, [2]int{0, -1}) {
					unlike, _ := impl.UnlikeRun(pair[0], pair[1], m, choice, depth)
					overwriteActs(unlike)
				}
			}
			must(t, sameMachine(wholeMachine(m), wholeBefore), want, acts, wholeMachine(m))
			must(t, slices.Equal(choice[:cap(choice)], choiceBefore), want, acts, choice[:cap(choice)])
		}
	}
}

func TestVersionsShareNoMemory(t *testing.T) {
	for _, want := range versionMachines() {
		for _, a := range append(trueActs(), otherActs()...) {
			m := copyOf(want)
			rows, shelves := [][]int{m.Own, m.In}, [][]impl.Good{m.Goods}
			for _, version := range append(allVersions(), allVersions()...) {
				after, what := impl.ActedBy(version, m, a)
				rows, shelves = append(rows, after.Own, after.In, what.Out), append(shelves, after.Goods)
			}
			checkParts(t, a, shelves, rows...)
		}
		for _, acts := range memoryRuns() {
			m := copyOf(want)
			rows, shelves := [][]int{m.Own, m.In}, [][]impl.Good{m.Goods}
			for _, version := range append(allVersions(), allVersions()...) {
				last, results, _ := impl.RunBy(version, m, acts)
				rows, shelves = append(rows, last.Own, last.In, impl.PicksBy(version, m)), append(shelves, last.Goods)
				rows = append(rows, outsOf(results)...)
			}
			checkParts(t, acts, shelves, rows...)
		}
		for _, acts := range unlikeChoices() {
			choice := slices.Clone(acts)
			lists := [][]impl.Act{choice}
			for range 2 {
				unlike, _ := impl.UnlikeRun(impl.Fewest, impl.Exact, want, choice, 4)
				other, _ := impl.UnlikeRun(impl.Fewest, impl.Greedy, want, choice, 3)
				lists = append(lists, unlike, other)
			}
			checkOwnActs(t, lists...)
		}
	}
	// The list of results itself is new, too.
	_, results, _ := impl.RunBy(impl.Greedy, givenMachine(), memoryRuns()[3])
	_, again, _ := impl.RunBy(impl.Greedy, givenMachine(), memoryRuns()[3])
	want := slices.Clone(again)
	clear(results[:cap(results)])
	must(t, sameResults(again, want), "shared results", again)
}

// No answer hangs on what was asked before, of this version or of another one.
func TestVersionsKeepNothing(t *testing.T) {
	m, choice := givenMachine(), []impl.Act{pickOf(2), pickOf(0)}
	for _, other := range versionMachines() {
		for _, version := range append(allVersions(), noVersions()...) {
			impl.ActedBy(version, other, pickOf(0))
			impl.RunBy(version, other, []impl.Act{coinOf(3), pickOf(0)})
			impl.UnlikeRun(version, impl.Greedy, other, choice, 2)
			for at, want := range [][]int{{0, 1, 2}, {1, 2}, {1}} {
				must(t, slices.Equal(impl.PicksBy(at, m), want), at, other, impl.PicksBy(at, m))
			}
			acts, ok := impl.UnlikeRun(impl.Fewest, impl.Greedy, m, choice, 2)
			must(t, ok && slices.Equal(acts, choice[1:]), other, acts, ok)
		}
	}
}
