package tests

import (
	"math"
	"slices"
	"testing"

	"loop.example/coinmachine/impl"
)

// noAmounts are out of the bounds of amounts.
func noAmounts() []int {
	return []int{-1, -2, -10, 100, 101, 360, math.MaxInt, math.MinInt}
}

func allAmounts() []int {
	var list []int
	for amount := range 100 {
		list = append(list, amount)
	}
	return list
}

// changePurses has purses that greed fails with, and purses with kinds that are missing or full.
func changePurses() [][]int {
	list := pursesOf(0, 1, 3, 20)
	return append(list, []int{0, 2, 1, 0}, []int{5, 2, 1, 0}, []int{0, 4, 5, 2}, []int{4, 9, 2, 7}, []int{9, 0, 2, 8}, []int{19, 19, 19, 19})
}

// plainWays is AllWays as the document tells it, written down anew for the tests.
func plainWays(p []int, amount int) [][]int {
	var list [][]int
	for tens := p[3]; tens >= 0; tens-- {
		for fives := p[2]; fives >= 0; fives-- {
			for twos := p[1]; twos >= 0; twos-- {
				ones := amount - 10*tens - 5*fives - 2*twos
				if ones >= 0 && ones <= p[0] {
					list = append(list, []int{ones, twos, fives, tens})
				}
			}
		}
	}
	return list
}

// plainGreed is GreedyOf as the document tells it, written down anew for the tests.
func plainGreed(p []int, amount int) ([]int, bool) {
	given := []int{0, 0, 0, 0}
	for _, coin := range []struct{ kind, worth int }{{3, 10}, {2, 5}, {1, 2}, {0, 1}} {
		given[coin.kind] = min(p[coin.kind], amount/coin.worth)
		amount -= given[coin.kind] * coin.worth
	}
	if amount > 0 {
		return nil, false
	}
	return given, true
}

// plainFewest is FewestOf as the document tells it, written down anew for the tests.
func plainFewest(p []int, amount int) ([]int, bool) {
	var best []int
	for _, way := range plainWays(p, amount) {
		if best == nil || way[0]+way[1]+way[2]+way[3] < best[0]+best[1]+best[2]+best[3] {
			best = way
		}
	}
	return best, best != nil
}

// forOthers calls a function with each argument that is out of bounds, beside some that are not.
func forOthers(check func(p []int, amount int)) {
	for _, p := range noPurses() {
		for _, amount := range append(noAmounts(), 0, 1, 6, 99) {
			check(p, amount)
		}
	}
	for _, p := range [][]int{{0, 0, 0, 0}, {0, 3, 1, 0}, {20, 20, 20, 20}} {
		for _, amount := range noAmounts() {
			check(p, amount)
		}
	}
}

func sameRows(list [][]int, other [][]int) bool {
	return slices.EqualFunc(list, other, slices.Equal[[]int])
}

func TestChangeConstants(t *testing.T) {
	must(t, impl.MaxAmount == 99, impl.MaxAmount)
}

func TestP5GreedGivesWhatIsAskedForOrNothing(t *testing.T) {
	for _, p := range manyPurses() {
		for _, amount := range allAmounts() {
			given, ok := impl.GreedyOf(p, amount)
			want, wantOk := plainGreed(p, amount)
			must(t, ok == wantOk && slices.Equal(given, want), p, amount, given, ok)
			must(t, !ok || impl.WithinOf(given, p) && impl.ValueOf(given) == amount, p, amount, given)
		}
	}
}

func TestP5GreedIsTheFirstWay(t *testing.T) {
	for _, p := range changePurses() {
		for _, amount := range allAmounts() {
			given, ok := impl.GreedyOf(p, amount)
			if !ok {
				must(t, given == nil, p, amount, given)
				continue
			}
			list := impl.AllWays(p, amount)
			must(t, len(list) > 0 && slices.Equal(list[0], given), p, amount, given, list)
		}
	}
}

func TestP5Greed(t *testing.T) {
	for _, c := range []struct {
		p      []int
		amount int
		given  []int
	}{
		{[]int{0, 0, 0, 0}, 0, []int{0, 0, 0, 0}},
		{[]int{20, 20, 20, 20}, 0, []int{0, 0, 0, 0}},
		{[]int{0, 3, 1, 0}, 9, []int{0, 2, 1, 0}},
		{[]int{0, 3, 1, 0}, 11, []int{0, 3, 1, 0}},
		{[]int{5, 5, 5, 5}, 18, []int{1, 1, 1, 1}},
		{[]int{5, 0, 0, 1}, 14, []int{4, 0, 0, 1}},
		{[]int{20, 20, 0, 0}, 60, []int{20, 20, 0, 0}},
		{[]int{19, 20, 8, 0}, 99, []int{19, 20, 8, 0}},
		{[]int{20, 20, 20, 20}, 99, []int{0, 2, 1, 9}},
	} {
		given, ok := impl.GreedyOf(c.p, c.amount)
		must(t, ok && slices.Equal(given, c.given), c.p, c.amount, given, ok)
	}
}

func TestP5GreedGivesNothing(t *testing.T) {
	for _, c := range []struct {
		p      []int
		amount int
	}{
		{[]int{0, 3, 1, 0}, 6},   // 2+2+2
		{[]int{0, 4, 1, 0}, 8},   // 2+2+2+2
		{[]int{0, 4, 1, 1}, 13},  // 5+2+2+2+2
		{[]int{0, 3, 20, 20}, 6}, // 2+2+2
		{[]int{0, 0, 0, 0}, 1},
		{[]int{0, 0, 0, 0}, 99},
		{[]int{0, 20, 20, 20}, 1},
		{[]int{0, 0, 0, 1}, 9},
		{[]int{0, 0, 0, 1}, 11},
		{[]int{20, 0, 0, 0}, 21},
		{[]int{20, 20, 7, 0}, 99},
	} {
		given, ok := impl.GreedyOf(c.p, c.amount)
		must(t, !ok && given == nil, c.p, c.amount, given, ok)
	}
}

func TestP5GreedOfOthers(t *testing.T) {
	forOthers(func(p []int, amount int) {
		given, ok := impl.GreedyOf(p, amount)
		must(t, !ok && given == nil, p, amount, given, ok)
	})
}

func TestP6AllWaysAreWays(t *testing.T) {
	for _, p := range changePurses() {
		for _, amount := range allAmounts() {
			list := impl.AllWays(p, amount)
			must(t, sameRows(list, plainWays(p, amount)), p, amount, list)
			told := map[[impl.Coins]int]bool{}
			for _, way := range list {
				must(t, impl.WithinOf(way, p) && impl.ValueOf(way) == amount, p, amount, way)
				must(t, !told[[impl.Coins]int(way)], "told twice", p, amount, way)
				told[[impl.Coins]int(way)] = true
			}
		}
	}
}

func TestP6TheRestIsLeftInAsManyWays(t *testing.T) {
	for _, p := range changePurses() {
		for _, amount := range allAmounts() {
			rest := impl.ValueOf(p) - amount
			if rest >= 0 && rest <= impl.MaxAmount {
				many, left := len(impl.AllWays(p, amount)), len(impl.AllWays(p, rest))
				must(t, many == left, p, amount, many, rest, left)
			}
		}
	}
}

func TestP6TheOrderOfWays(t *testing.T) {
	for _, c := range []struct {
		p      []int
		amount int
		list   [][]int
	}{
		{[]int{0, 0, 0, 0}, 0, [][]int{{0, 0, 0, 0}}},
		{[]int{20, 20, 20, 20}, 0, [][]int{{0, 0, 0, 0}}},
		{[]int{0, 3, 1, 0}, 6, [][]int{{0, 3, 0, 0}}},
		{[]int{5, 2, 1, 0}, 9, [][]int{{0, 2, 1, 0}, {2, 1, 1, 0}, {4, 0, 1, 0}, {5, 2, 0, 0}}},
		{[]int{1, 5, 2, 1}, 10, [][]int{{0, 0, 0, 1}, {0, 0, 2, 0}, {1, 2, 1, 0}, {0, 5, 0, 0}}},
		{[]int{20, 20, 20, 20}, 5, [][]int{{0, 0, 1, 0}, {1, 2, 0, 0}, {3, 1, 0, 0}, {5, 0, 0, 0}}},
		{[]int{19, 20, 8, 0}, 99, [][]int{{19, 20, 8, 0}}},
		{[]int{1, 0, 0, 10}, 99, nil},
		{[]int{0, 0, 0, 0}, 1, nil},
		{[]int{0, 0, 0, 1}, 9, nil},
		{[]int{20, 0, 0, 0}, 21, nil},
	} {
		list := impl.AllWays(c.p, c.amount)
		must(t, sameRows(list, c.list), c.p, c.amount, list)
	}
	full := []int{20, 20, 20, 20}
	must(t, sameRows(impl.AllWays(full, 99), plainWays(full, 99)), impl.AllWays(full, 99))
}

func TestP6NoWaysOfOthers(t *testing.T) {
	forOthers(func(p []int, amount int) {
		must(t, impl.AllWays(p, amount) == nil, p, amount, impl.AllWays(p, amount))
	})
}

func TestP7NoWayHasFewerCoins(t *testing.T) {
	for _, p := range changePurses() {
		for _, amount := range allAmounts() {
			given, ok := impl.FewestOf(p, amount)
			want, wantOk := plainFewest(p, amount)
			must(t, ok == wantOk && slices.Equal(given, want), p, amount, given, ok)
			must(t, ok || given == nil, p, amount, given)
			list := impl.AllWays(p, amount)
			is := func(way []int) bool { return slices.Equal(way, given) }
			must(t, ok == slices.ContainsFunc(list, is), p, amount, given, ok)
			for _, way := range list {
				must(t, impl.CoinsIn(way) >= impl.CoinsIn(given), p, amount, given, way)
			}
		}
	}
}

// Where greed gives the amount at all, it gives as few coins as may be.
func TestP7GreedHasFewestCoins(t *testing.T) {
	for _, p := range manyPurses() {
		for amount := 0; amount < 100; amount += 3 {
			greedy, greedyOk := impl.GreedyOf(p, amount)
			fewest, ok := impl.FewestOf(p, amount)
			if greedyOk {
				must(t, ok && impl.CoinsIn(greedy) == impl.CoinsIn(fewest), p, amount, greedy, fewest)
			}
		}
	}
}

func TestP7Fewest(t *testing.T) {
	for _, c := range []struct {
		p      []int
		amount int
		given  []int
	}{
		{[]int{0, 0, 0, 0}, 0, []int{0, 0, 0, 0}},
		{[]int{20, 20, 20, 20}, 0, []int{0, 0, 0, 0}},
		{[]int{0, 3, 1, 0}, 6, []int{0, 3, 0, 0}},
		{[]int{0, 4, 1, 1}, 13, []int{0, 4, 1, 0}},
		{[]int{5, 2, 1, 0}, 9, []int{0, 2, 1, 0}},
		{[]int{9, 2, 0, 0}, 9, []int{5, 2, 0, 0}},
		{[]int{10, 5, 2, 0}, 10, []int{0, 0, 2, 0}},
		{[]int{20, 20, 20, 20}, 99, []int{0, 2, 1, 9}},
		{[]int{19, 20, 8, 0}, 99, []int{19, 20, 8, 0}},
		{[]int{20, 20, 0, 0}, 60, []int{20, 20, 0, 0}},
	} {
		given, ok := impl.FewestOf(c.p, c.amount)
		must(t, ok && slices.Equal(given, c.given), c.p, c.amount, given, ok)
	}
}

func TestP7FewestOfOthers(t *testing.T) {
	forOthers(func(p []int, amount int) {
		given, ok := impl.FewestOf(p, amount)
		must(t, !ok && given == nil, p, amount, given, ok)
	})
	for _, c := range []struct {
		p      []int
		amount int
	}{
		{[]int{0, 0, 0, 0}, 1},
		{[]int{0, 3, 1, 0}, 1},
		{[]int{0, 3, 1, 0}, 10},
		{[]int{0, 3, 1, 0}, 12},
		{[]int{4, 0, 0, 9}, 99},
	} {
		given, ok := impl.FewestOf(c.p, c.amount)
		must(t, !ok && given == nil, c.p, c.amount, given, ok)
	}
}

func TestP8WhatCanBeGivenCanBeKept(t *testing.T) {
	for _, p := range changePurses() {
		for _, amount := range allAmounts() {
			can := impl.CanGive(p, amount)
			must(t, can == (len(plainWays(p, amount)) > 0), p, amount, can)
			rest := impl.ValueOf(p) - amount
			if rest < 0 {
				must(t, !can, "more than all", p, amount)
			} else if rest <= impl.MaxAmount {
				must(t, can == impl.CanGive(p, rest), p, amount, can, rest)
			}
		}
	}
}

func TestP8WithOneCoinMoreItCanBeGivenToo(t *testing.T) {
	for _, p := range changePurses() {
		for kind := range impl.Coins {
			more := slices.Clone(p)
			more[kind]++
			for _, amount := range allAmounts() {
				can := impl.CanGive(more, amount)
				if more[kind] > impl.MaxCoins {
					must(t, !can, more, amount)
				} else {
					must(t, can || !impl.CanGive(p, amount), p, kind, amount)
				}
			}
		}
	}
}

func TestP8CanGive(t *testing.T) {
	p := []int{0, 3, 1, 0}
	for _, amount := range allAmounts() {
		must(t, impl.CanGive(p, amount) == slices.Contains([]int{0, 2, 4, 5, 6, 7, 9, 11}, amount), amount)
		must(t, impl.CanGive([]int{0, 0, 0, 0}, amount) == (amount == 0), "an empty purse", amount)
		must(t, impl.CanGive([]int{20, 20, 20, 20}, amount), "a full purse", amount)
	}
	forOthers(func(p []int, amount int) {
		must(t, !impl.CanGive(p, amount), p, amount)
	})
}

func TestP9AmountsRise(t *testing.T) {
	for _, p := range changePurses() {
		list := impl.GivenFrom(p, 99)
		must(t, len(list) > 0 && list[0] == 0, p, list)
		for _, amount := range allAmounts() {
			must(t, slices.Contains(list, amount) == impl.CanGive(p, amount), p, amount, list)
		}
		for i, amount := range list {
			must(t, i == 0 || amount > list[i-1], p, list)
		}
		for _, most := range []int{0, 1, 2, 5, 6, 50, 98, 99} {
			checkGiven(t, p, most)
		}
	}
}

func checkGiven(t *testing.T, p []int, most int) {
	t.Helper()
	var want []int
	for amount := range most + 1 {
		if len(plainWays(p, amount)) > 0 {
			want = append(want, amount)
		}
	}
	list := impl.GivenFrom(p, most)
	must(t, slices.Equal(list, want), p, most, list)
}

func TestP9Given(t *testing.T) {
	for _, c := range []struct {
		p    []int
		most int
		list []int
	}{
		{[]int{0, 0, 0, 0}, 0, []int{0}},
		{[]int{0, 0, 0, 0}, 99, []int{0}},
		{[]int{20, 20, 20, 20}, 0, []int{0}},
		{[]int{20, 20, 20, 20}, 99, allAmounts()},
		{[]int{0, 3, 1, 0}, 8, []int{0, 2, 4, 5, 6, 7}},
		{[]int{0, 3, 1, 0}, 11, []int{0, 2, 4, 5, 6, 7, 9, 11}},
		{[]int{0, 3, 1, 0}, 10, []int{0, 2, 4, 5, 6, 7, 9}},
		{[]int{4, 0, 0, 20}, 23, []int{0, 1, 2, 3, 4, 10, 11, 12, 13, 14, 20, 21, 22, 23}},
		{[]int{0, 0, 20, 0}, 99, []int{0, 5, 10, 15, 20, 25, 30, 35, 40, 45, 50, 55, 60, 65, 70, 75, 80, 85, 90, 95}},
		{[]int{0, 0, 0, 20}, 99, []int{0, 10, 20, 30, 40, 50, 60, 70, 80, 90}},
	} {
		list := impl.GivenFrom(c.p, c.most)
		must(t, slices.Equal(list, c.list), c.p, c.most, list)
	}
	forOthers(func(p []int, amount int) {
		must(t, impl.GivenFrom(p, amount) == nil, p, amount, impl.GivenFrom(p, amount))
	})
}

// plainMisses is GreedMisses as the document tells it, written down anew for the tests.
func plainMisses(p []int) (int, bool) {
	for _, amount := range allAmounts() {
		_, ok := plainGreed(p, amount)
		if !ok && len(plainWays(p, amount)) > 0 {
			return amount, true
		}
	}
	return -1, false
}

func TestP10BelowItGreedDoesNotMiss(t *testing.T) {
	for _, p := range changePurses() {
		missed, ok := impl.GreedMisses(p)
		want, wantOk := plainMisses(p)
		must(t, ok == wantOk && missed == want, p, missed, ok)
		least := 100
		if ok {
			_, greedy := impl.GreedyOf(p, missed)
			must(t, impl.CanGive(p, missed) && !greedy, p, missed)
			least = missed
		}
		for amount := range least {
			_, greedy := impl.GreedyOf(p, amount)
			must(t, greedy == impl.CanGive(p, amount), p, amount, missed, ok)
		}
	}
}

// With a coin of 1, two of 2, one of 5 and nine of 10 greed gives every amount.
func TestP10WithAllCoinsGreedNeverMisses(t *testing.T) {
	for _, ones := range []int{1, 2, 20} {
		for _, twos := range []int{2, 3, 20} {
			for _, fives := range []int{1, 2, 20} {
				for _, tens := range []int{9, 10, 20} {
					p := []int{ones, twos, fives, tens}
					missed, ok := impl.GreedMisses(p)
					must(t, !ok && missed == -1, p, missed, ok)
				}
			}
		}
	}
}

func TestP10Misses(t *testing.T) {
	for _, p := range [][]int{{0, 3, 1, 0}, {0, 4, 1, 0}, {0, 3, 1, 1}, {0, 20, 20, 20}, {0, 3, 20, 0}} {
		missed, ok := impl.GreedMisses(p)
		must(t, ok && missed == 6, p, missed, ok)
	}
	for _, p := range [][]int{{0, 0, 0, 0}, {1, 3, 1, 0}, {0, 2, 1, 0}, {0, 3, 0, 20}, {0, 0, 20, 20}, {20, 20, 20, 20}} {
		missed, ok := impl.GreedMisses(p)
		must(t, !ok && missed == -1, p, missed, ok)
	}
	for _, p := range noPurses() {
		missed, ok := impl.GreedMisses(p)
		must(t, !ok && missed == -1, p, missed, ok)
	}
}

func TestChangeIsNotWrittenTo(t *testing.T) {
	p := roomy([]int{5, 3, 2, 1})
	impl.CanGive(p, 9)
	impl.GreedMisses(p)
	overwrite := func() {
		greedy, _ := impl.GreedyOf(p, 9)
		fewest, _ := impl.FewestOf(p, 9)
		for _, list := range append(impl.AllWays(p, 9), greedy, fewest, impl.GivenFrom(p, 9)) {
			for i := range list[:cap(list)] {
				list[:cap(list)][i] = 77
			}
		}
	}
	overwrite()
	must(t, slices.Equal(p[:12], []int{5, 3, 2, 1, 0, 0, 0, 0, 0, 0, 0, 0}), p[:12])
	must(t, sameRows(impl.AllWays(p, 9), plainWays(p, 9)), impl.AllWays(p, 9))
	must(t, slices.Equal(impl.GivenFrom(p, 5), []int{0, 1, 2, 3, 4, 5}), impl.GivenFrom(p, 5))
}

// Each way has its own memory: to write into one, and behind it, changes no other one.
func TestWaysShareNoMemory(t *testing.T) {
	p := []int{20, 20, 20, 20}
	list, want := impl.AllWays(p, 30), plainWays(p, 30)
	for i, way := range list {
		must(t, slices.Equal(way, want[i]), i, way)
		for j := range way[:cap(way)] {
			way[:cap(way)][j] = 77
		}
	}
}
