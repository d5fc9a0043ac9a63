package tests

import (
	"math"
	"math/rand/v2"
	"slices"
	"testing"

	"loop.example/coinmachine/impl"
)

// runMachines has machines with which some acts are done and some are not: without goods, with goods that are gone,
// with full purses, with change that needs more than greed, and into which something was put.
func runMachines() []impl.Machine {
	return append(fewMachines(),
		machineOf([]int{0, 3, 1, 0}, []int{0, 0, 0, 0}, goodsOf(9, 2, 4, 0, 1, 1)),
		machineOf([]int{0, 0, 0, 19}, []int{0, 0, 0, 0}, goodsOf(10, 5, 20, 5)),
		machineOf([]int{5, 5, 5, 5}, []int{19, 0, 0, 0}, goodsOf(2, 1)),
		machineOf([]int{20, 20, 20, 20}, []int{20, 20, 20, 20}, nil),
	)
}

// runActs has an act of each kind that may be done, and some that are never done.
func runActs() []impl.Act {
	return append(trueActs(), coinOf(4), coinOf(-1), pickOf(3), impl.Act{Do: impl.DoBack, N: 1}, impl.Act{Do: 3})
}

// shortRuns returns all runs of at most two acts, and those of three acts that may be done.
func shortRuns() [][]impl.Act {
	list := [][]impl.Act{nil, {}}
	for _, first := range runActs() {
		list = append(list, []impl.Act{first})
		for _, second := range runActs() {
			list = append(list, []impl.Act{first, second})
		}
	}
	for _, first := range trueActs() {
		for _, second := range trueActs() {
			for _, third := range trueActs() {
				list = append(list, []impl.Act{first, second, third})
			}
		}
	}
	return list
}

// longRuns returns runs of all lengths up to 20, which are the same ones in each call.
func longRuns() [][]impl.Act {
	random := rand.New(rand.NewPCG(5, 20))
	// Coins of 5 and 10 are there more than once, so that more goods are paid for.
	choice := append(runActs(), coinOf(2), coinOf(3), coinOf(3), pickOf(0), pickOf(1))
	var list [][]impl.Act
	for range 60 {
		for long := range impl.MaxRun + 1 {
			acts := make([]impl.Act, long)
			for at := range acts {
				acts[at] = choice[random.IntN(len(choice))]
			}
			list = append(list, acts)
		}
	}
	return list
}

// deadRun returns acts of which none is done with any machine.
func deadRun() []impl.Act {
	return otherActs()[:20]
}

// plainRun is RunOf of a machine as the document tells it, written down anew for the tests.
func plainRun(m impl.Machine, acts []impl.Act) (impl.Machine, []impl.Result) {
	return plainRunWith(plainFewest, m, acts)
}

// plainRunWith is plainRun with change that a function finds.
func plainRunWith(find plainFinder, m impl.Machine, acts []impl.Act) (impl.Machine, []impl.Result) {
	m = copyOf(m)
	var results []impl.Result
	for _, a := range acts {
		after, what := plainActedWith(find, m, a)
		m, results = after, append(results, what)
	}
	return m, results
}

func sameResults(list []impl.Result, other []impl.Result) bool {
	return slices.EqualFunc(list, other, sameResult)
}

// forRuns calls a function with machines, runs of acts, and what comes of them.
func forRuns(t *testing.T, check func(m impl.Machine, acts []impl.Act, last impl.Machine, results []impl.Result)) {
	t.Helper()
	runs := slices.Concat(shortRuns(), longRuns(), [][]impl.Act{deadRun()})
	for _, m := range runMachines() {
		for _, acts := range runs {
			last, results, ok := impl.RunOf(m, acts)
			must(t, ok, m, acts)
			check(m, acts, last, results)
		}
	}
}

func doneOf(piece int, out ...int) impl.Result {
	return impl.Result{Done: true, Piece: piece, Out: out}
}

func TestRunConstants(t *testing.T) {
	must(t, impl.MaxRun == 20, impl.MaxRun)
}

func TestP19WhatWasPutInIsGivenOutOrKept(t *testing.T) {
	forRuns(t, func(m impl.Machine, acts []impl.Act, last impl.Machine, results []impl.Result) {
		put, given := impl.PutInBy(acts, results), impl.GivenBy(results)
		must(t, put >= 0 && given >= 0, m, acts, put, given)
		must(t, impl.MoneyIn(last)+given == impl.MoneyIn(m)+put, m, acts, last, put, given)
	})
}

func TestP19RunsAreAsTold(t *testing.T) {
	forRuns(t, func(m impl.Machine, acts []impl.Act, last impl.Machine, results []impl.Result) {
		wantLast, want := plainRun(m, acts)
		must(t, sameMachine(last, wantLast) && sameResults(results, want), m, acts, last, results)
	})
}

func TestP19RunsInTwoParts(t *testing.T) {
	for _, m := range runMachines() {
		for _, acts := range slices.Concat(shortRuns(), longRuns()[:200]) {
			last, results, _ := impl.RunOf(m, acts)
			for cut := range len(acts) + 1 {
				between, before, ok := impl.RunOf(m, acts[:cut])
				must(t, ok && impl.MachineOk(between), m, acts, cut)
				end, behind, ok := impl.RunOf(between, acts[cut:])
				must(t, ok && sameMachine(end, last), m, acts, cut, end, last)
				must(t, sameResults(slices.Concat(before, behind), results), m, acts, cut, before, behind)
			}
		}
	}
}

func TestP19Runs(t *testing.T) {
	m := machineOf([]int{1, 1, 0, 0}, []int{0, 0, 0, 0}, goodsOf(7, 1, 3, 2))
	acts := []impl.Act{coinOf(3), pickOf(1), pickOf(0), coinOf(2), backAct(), coinOf(1), coinOf(0), pickOf(1), pickOf(0)}
	last, results, ok := impl.RunOf(m, acts)
	must(t, ok && sameMachine(last, machineOf([]int{1, 1, 0, 1}, []int{0, 0, 0, 0}, goodsOf(7, 0, 3, 1))), last, ok)
	must(t, sameResults(results, []impl.Result{
		doneOf(0, 0, 0, 0, 0), {}, doneOf(1, 1, 1, 0, 0), doneOf(0, 0, 0, 0, 0), doneOf(0, 0, 0, 1, 0),
		doneOf(0, 0, 0, 0, 0), doneOf(0, 0, 0, 0, 0), doneOf(2, 0, 0, 0, 0), {},
	}), results)
	must(t, impl.PutInBy(acts, results) == 18 && impl.GivenBy(results) == 8, results)
}

func TestP19RunsWithoutActs(t *testing.T) {
	for _, m := range append(manyMachines(), runMachines()...) {
		for _, acts := range [][]impl.Act{nil, {}} {
			last, results, ok := impl.RunOf(m, acts)
			must(t, ok && sameMachine(last, m) && len(results) == 0, m, last, results, ok)
		}
	}
}

func TestP19WhatIsNotDoneChangesNothing(t *testing.T) {
	for _, m := range runMachines() {
		acts := deadRun()
		last, results, ok := impl.RunOf(m, acts)
		must(t, ok && sameMachine(last, m), m, last, ok)
		must(t, sameResults(results, make([]impl.Result, len(acts))), m, results)
		must(t, impl.PutInBy(acts, results) == 0 && impl.GivenBy(results) == 0 && impl.DoneIn(results) == 0, m, results)
		for _, result := range results {
			must(t, result.Out == nil, m, result)
		}
	}
	// Between acts that are not done, others are done as they are without them.
	m := machineOf([]int{1, 1, 0, 0}, []int{0, 0, 0, 0}, goodsOf(7, 1))
	last, results, _ := impl.RunOf(m, []impl.Act{pickOf(0), coinOf(4), coinOf(3), pickOf(1), pickOf(0), pickOf(0), coinOf(-1)})
	must(t, sameMachine(last, machineOf([]int{0, 0, 0, 1}, []int{0, 0, 0, 0}, goodsOf(7, 0))), last)
	must(t, sameResults(results, []impl.Result{{}, {}, doneOf(0, 0, 0, 0, 0), {}, doneOf(1, 1, 1, 0, 0), {}, {}}), results)
}

func TestP19LengthsOfRuns(t *testing.T) {
	m := machineOf([]int{1, 1, 0, 0}, []int{0, 0, 0, 0}, goodsOf(7, 1))
	for long := range 45 {
		for _, a := range []impl.Act{coinOf(0), backAct(), pickOf(7)} {
			acts := slices.Repeat([]impl.Act{a}, long)
			last, results, ok := impl.RunOf(m, acts)
			must(t, ok == (long <= 20), long, a, ok)
			if !ok {
				must(t, last.Own == nil && last.In == nil && last.Goods == nil && results == nil, long, a, last, results)
				continue
			}
			wantLast, want := plainRun(m, acts)
			must(t, sameMachine(last, wantLast) && sameResults(results, want), long, a, last, results)
		}
	}
}

func TestP19RunsOfNoMachines(t *testing.T) {
	for _, m := range noMachines() {
		for _, acts := range [][]impl.Act{nil, {coinOf(3)}, {coinOf(3), pickOf(0), backAct()}, slices.Repeat([]impl.Act{backAct()}, 21)} {
			last, results, ok := impl.RunOf(m, acts)
			must(t, !ok && results == nil, m, acts, results, ok)
			must(t, last.Own == nil && last.In == nil && last.Goods == nil, m, acts, last)
		}
	}
}

func TestP20WhatIsSoldIsGone(t *testing.T) {
	sold := 0
	forRuns(t, func(m impl.Machine, acts []impl.Act, last impl.Machine, results []impl.Result) {
		list := impl.SoldBy(len(m.Goods), results)
		must(t, len(list) == len(m.Goods), m, acts, list)
		together := 0
		for at, good := range m.Goods {
			must(t, list[at] == good.Stock-last.Goods[at].Stock, m, acts, list, last)
			together += list[at]
		}
		must(t, together <= impl.DoneIn(results), m, acts, list)
		sold += together
	})
	must(t, sold > 1000, "hardly anything is sold", sold)
}

func TestP20Sold(t *testing.T) {
	results := []impl.Result{doneOf(2, 0, 0, 0, 0), doneOf(0, 0, 0, 0, 0), {}, doneOf(1, 1, 0, 0, 0), doneOf(2, 0, 0, 0, 1)}
	for _, c := range []struct {
		goods   int
		results []impl.Result
		list    []int
	}{
		{2, results, []int{1, 2}},
		{3, results, []int{1, 2, 0}},
		{1, results, nil},
		{0, results, nil},
		{1, results[1:4], []int{1}},
		{0, results[1:3], nil},
		{3, nil, []int{0, 0, 0}},
		{2, []impl.Result{}, []int{0, 0}},
		{1, []impl.Result{{}}, []int{0}},
		{0, nil, nil},
		{3, []impl.Result{doneOf(3, 0, 0, 0, 0)}, []int{0, 0, 1}},
		// What comes out counts, done or not, with coins or without.
		{2, []impl.Result{{Piece: 1}, {Piece: 2, Out: []int{-1}}, {Done: true, Piece: 1}}, []int{2, 1}},
	} {
		list := impl.SoldBy(c.goods, c.results)
		must(t, slices.Equal(list, c.list), c.goods, c.results, list)
	}
}

func TestP20NumbersOfGoods(t *testing.T) {
	for _, goods := range []int{0, 1, 2, 3} {
		must(t, slices.Equal(impl.SoldBy(goods, nil), make([]int, goods)), goods)
	}
	for _, goods := range []int{-1, -3, 4, 5, 20, math.MaxInt, math.MinInt} {
		for _, results := range [][]impl.Result{nil, {{}}, {doneOf(0, 0, 0, 0, 0)}, {doneOf(1, 0, 0, 0, 0)}} {
			must(t, impl.SoldBy(goods, results) == nil, goods, results, impl.SoldBy(goods, results))
		}
	}
}

// A good that is none of them makes all of it nil, wherever it comes out.
func TestP20PiecesOfOtherGoods(t *testing.T) {
	for goods := range 4 {
		for _, piece := range []int{-1, -2, 4, 5, goods + 1, math.MaxInt, math.MinInt} {
			for at := range 3 {
				results := []impl.Result{doneOf(min(1, goods), 0, 0, 0, 0), doneOf(goods, 0, 0, 0, 0), {}}
				must(t, len(impl.SoldBy(goods, results)) == goods, goods, results)
				results[at].Piece = piece
				must(t, impl.SoldBy(goods, results) == nil, goods, results, impl.SoldBy(goods, results))
			}
		}
	}
}

// emptied returns a machine with nothing put in.
func emptied(m impl.Machine) impl.Machine {
	m = copyOf(m)
	m.In = []int{0, 0, 0, 0}
	return m
}

func TestP21InWhateverOrderCoinsArePutIn(t *testing.T) {
	for _, p := range pursesOf(0, 1, 3, 5, 17, 20) {
		acts := impl.CoinsPut(p)
		if impl.CoinsIn(p) > 20 {
			must(t, acts == nil, p, acts)
			continue
		}
		other := slices.Clone(acts)
		slices.Reverse(other)
		for _, before := range runMachines() {
			before = emptied(before)
			want := machineOf(before.Own, p, before.Goods)
			for _, order := range [][]impl.Act{acts, other} {
				last, results, ok := impl.RunOf(before, order)
				must(t, ok && sameMachine(last, want), p, order, last, ok)
				must(t, impl.DoneIn(results) == len(order) && impl.PutInBy(order, results) == impl.ValueOf(p), p, order, results)
				end, results, ok := impl.RunOf(last, []impl.Act{backAct()})
				must(t, ok && sameMachine(end, before) && sameResults(results, []impl.Result{doneOf(0, p...)}), p, order, end, results)
			}
		}
	}
}

func TestP21CoinsArePutInFromTheLeastKindOn(t *testing.T) {
	for _, p := range allPurses() {
		if impl.CoinsIn(p) > 20 {
			must(t, impl.CoinsPut(p) == nil, p, impl.CoinsPut(p))
			continue
		}
		var want []impl.Act
		for kind := range 4 {
			want = append(want, slices.Repeat([]impl.Act{coinOf(kind)}, p[kind])...)
		}
		must(t, slices.Equal(impl.CoinsPut(p), want), p, impl.CoinsPut(p))
	}
}

func TestP21CoinsPut(t *testing.T) {
	for _, c := range []struct {
		p    []int
		acts []impl.Act
	}{
		{[]int{0, 0, 0, 0}, nil},
		{[]int{1, 0, 2, 0}, []impl.Act{coinOf(0), coinOf(2), coinOf(2)}},
		{[]int{0, 1, 0, 1}, []impl.Act{coinOf(1), coinOf(3)}},
		{[]int{0, 0, 0, 20}, slices.Repeat([]impl.Act{coinOf(3)}, 20)},
		{[]int{20, 1, 0, 0}, nil},
		{[]int{5, 5, 5, 6}, nil},
		{[]int{20, 20, 20, 20}, nil},
	} {
		must(t, slices.Equal(impl.CoinsPut(c.p), c.acts), c.p, impl.CoinsPut(c.p))
	}
	for _, p := range noPurses() {
		must(t, impl.CoinsPut(p) == nil, p, impl.CoinsPut(p))
	}
}

// Into a machine into which something was put not all coins may go.
func TestP21FullKinds(t *testing.T) {
	m := machineOf([]int{0, 0, 0, 0}, []int{17, 0, 0, 20}, goodsOf(7, 1))
	acts := impl.CoinsPut([]int{5, 1, 0, 2})
	last, results, ok := impl.RunOf(m, acts)
	must(t, ok && slices.Equal(last.In, []int{20, 1, 0, 20}), last, ok)
	must(t, impl.DoneIn(results) == 4 && impl.PutInBy(acts, results) == 5, results)
}

func TestP55WhatIsNotDonePutsNothingIn(t *testing.T) {
	forRuns(t, func(m impl.Machine, acts []impl.Act, last impl.Machine, results []impl.Result) {
		put := impl.PutInBy(acts, results)
		must(t, put >= 0 && put <= 10*len(acts), m, acts, results, put)
		want := 0
		for at, a := range acts {
			if a.Do == 0 && results[at].Done {
				want += []int{1, 2, 5, 10}[a.N]
			}
		}
		must(t, put == want, m, acts, results, put)
		must(t, impl.PutInBy(acts, make([]impl.Result, len(acts))) == 0, "none is done", acts)
	})
}

func TestP55PutIn(t *testing.T) {
	done, not := doneOf(0, 0, 0, 0, 0), impl.Result{}
	for _, c := range []struct {
		told    string
		acts    []impl.Act
		results []impl.Result
		put     int
	}{
		{"none of both", nil, nil, 0},
		{"none of both", []impl.Act{}, []impl.Result{}, 0},
		{"each kind", []impl.Act{coinOf(0), coinOf(1), coinOf(2), coinOf(3)}, []impl.Result{done, done, done, done}, 18},
		{"not done", []impl.Act{coinOf(0), coinOf(1), coinOf(2), coinOf(3)}, []impl.Result{done, not, done, not}, 6},
		{"other acts", []impl.Act{pickOf(3), backAct(), pickOf(0)}, []impl.Result{done, done, doneOf(1, 0, 0, 0, 1)}, 0},
		{"acts of no kind", []impl.Act{{Do: 3, N: 3}, {Do: -1, N: 3}, coinOf(1)}, []impl.Result{done, done, done}, 2},
		{"picks of no good", []impl.Act{pickOf(9), pickOf(-1), coinOf(2)}, []impl.Result{done, done, done}, 5},
		{"fewer results", []impl.Act{coinOf(3)}, nil, -1},
		{"fewer acts", nil, []impl.Result{not}, -1},
		{"one more act", []impl.Act{coinOf(3), coinOf(3)}, []impl.Result{done}, -1},
		{"one more result", []impl.Act{coinOf(3)}, []impl.Result{done, not}, -1},
		{"only whether it is done counts", []impl.Act{coinOf(3)}, []impl.Result{{Done: true, Piece: 9, Out: []int{-1}}}, 10},
		{"no coin, not done", []impl.Act{coinOf(4), coinOf(3)}, []impl.Result{not, done}, 10},
		{"no coin, done", []impl.Act{coinOf(3), coinOf(4)}, []impl.Result{done, done}, -1},
		{"no coin, done, and other coins behind", []impl.Act{coinOf(-1), coinOf(3)}, []impl.Result{done, done}, -1},
		{"more than a run", slices.Repeat([]impl.Act{coinOf(3)}, 50), slices.Repeat([]impl.Result{done}, 50), 500},
	} {
		put := impl.PutInBy(c.acts, c.results)
		must(t, put == c.put, c.told, put)
	}
}

func TestP55CoinsThatAreNone(t *testing.T) {
	for _, kind := range []int{-1, -4, 4, 5, 10, math.MaxInt, math.MinInt} {
		acts := []impl.Act{coinOf(2), coinOf(kind), coinOf(1)}
		results := slices.Repeat([]impl.Result{doneOf(0, 0, 0, 0, 0)}, 3)
		must(t, impl.PutInBy(acts, results) == -1, "done", kind, impl.PutInBy(acts, results))
		results[1] = impl.Result{}
		must(t, impl.PutInBy(acts, results) == 7, "not done", kind, impl.PutInBy(acts, results))
	}
}

func TestP56WhatComesOutAddsUp(t *testing.T) {
	forRuns(t, func(m impl.Machine, acts []impl.Act, last impl.Machine, results []impl.Result) {
		want := 0
		for _, result := range results {
			if len(result.Out) > 0 {
				want += plainWorth(result.Out)
			}
		}
		must(t, impl.GivenBy(results) == want, m, acts, results, impl.GivenBy(results))
		if len(results) > 0 {
			first, others := impl.GivenBy(results[:1]), impl.GivenBy(results[1:])
			must(t, first+others == want, m, acts, results, first, others)
		}
	})
}

func TestP56Given(t *testing.T) {
	for _, c := range []struct {
		told    string
		results []impl.Result
		given   int
	}{
		{"no results", nil, 0},
		{"no results", []impl.Result{}, 0},
		{"no coins", []impl.Result{{}, {Out: []int{}}, {Done: true}}, 0},
		{"empty purses", []impl.Result{doneOf(0, 0, 0, 0, 0), doneOf(1, 0, 0, 0, 0)}, 0},
		{"each kind", []impl.Result{doneOf(0, 1, 0, 0, 0), doneOf(0, 0, 1, 0, 0), doneOf(1, 0, 0, 1, 0), doneOf(0, 0, 0, 0, 1)}, 18},
		{"some without coins", []impl.Result{doneOf(0, 3, 0, 1, 2), {}, doneOf(1, 0, 2, 0, 0), {}}, 32},
		{"full purses", slices.Repeat([]impl.Result{doneOf(0, 20, 20, 20, 20)}, 20), 7200},
		{"what comes out counts, done or not", []impl.Result{{Out: []int{1, 1, 0, 0}}, doneOf(0, 0, 0, 1, 0)}, 8},
	} {
		given := impl.GivenBy(c.results)
		must(t, given == c.given, c.told, given)
	}
}

func TestP56CoinsThatAreNoPurse(t *testing.T) {
	for _, out := range noPurses() {
		if len(out) == 0 {
			continue
		}
		for at := range 3 {
			results := []impl.Result{doneOf(0, 1, 1, 0, 0), {}, doneOf(0, 0, 0, 0, 5)}
			results[at].Out = out
			must(t, impl.GivenBy(results) == -1, out, at, impl.GivenBy(results))
		}
		must(t, impl.GivenBy([]impl.Result{{Out: out}}) == -1, "not done", out)
	}
}

func TestP57NoMoreIsDoneThanThereIs(t *testing.T) {
	forRuns(t, func(m impl.Machine, acts []impl.Act, last impl.Machine, results []impl.Result) {
		must(t, len(results) == len(acts), m, acts, results)
		want := 0
		for _, result := range results {
			if result.Done {
				want++
			}
		}
		done := impl.DoneIn(results)
		must(t, done == want && done <= len(results), m, acts, results, done)
	})
}

func TestP57Done(t *testing.T) {
	for _, c := range []struct {
		results []impl.Result
		done    int
	}{
		{nil, 0},
		{[]impl.Result{}, 0},
		{[]impl.Result{{}}, 0},
		{[]impl.Result{{Piece: 1, Out: []int{1, 1, 1, 1}}}, 0},
		{[]impl.Result{{Done: true}}, 1},
		{[]impl.Result{{}, doneOf(9, -1), {}, doneOf(0, 0, 0, 0, 0), {}}, 2},
		{slices.Repeat([]impl.Result{{Done: true}}, 50), 50},
	} {
		must(t, impl.DoneIn(c.results) == c.done, c.results, impl.DoneIn(c.results))
	}
}

// roomyActs returns acts with spare capacity behind them, in which a function must not write.
func roomyActs(acts []impl.Act) []impl.Act {
	room := slices.Repeat([]impl.Act{{Do: 66, N: 66}}, len(acts)+8)
	copy(room, acts)
	return room[:len(acts)]
}

// roomyResults returns results with spare capacity behind them, and behind the coins of each.
func roomyResults(results []impl.Result) []impl.Result {
	room := slices.Repeat([]impl.Result{{Piece: 66}}, len(results)+8)
	for at, result := range results {
		room[at] = impl.Result{Done: result.Done, Piece: result.Piece, Out: roomy(result.Out)}
	}
	return room[:len(results)]
}

// wholeResults returns a copy of results, and of the coins of each, as long as there is room for them.
func wholeResults(results []impl.Result) []impl.Result {
	whole := slices.Clone(results[:cap(results)])
	for at, result := range whole {
		whole[at].Out = slices.Clone(result.Out[:cap(result.Out)])
	}
	return whole
}

func overwriteActs(acts []impl.Act) {
	for i := range acts[:cap(acts)] {
		acts[:cap(acts)][i] = impl.Act{Do: 77, N: 77}
	}
}

func overwriteResults(results []impl.Result) {
	for i := range results[:cap(results)] {
		overwriteRow(results[:cap(results)][i].Out)
		results[:cap(results)][i] = impl.Result{Done: true, Piece: 77}
	}
}

// outsOf returns the coins of each result.
func outsOf(results []impl.Result) [][]int {
	var rows [][]int
	for _, result := range results {
		rows = append(rows, result.Out)
	}
	return rows
}

func memoryRuns() [][]impl.Act {
	return [][]impl.Act{
		nil,
		{backAct()},
		{coinOf(4), pickOf(3)},
		{coinOf(3), pickOf(0), backAct(), coinOf(2), backAct(), backAct(), pickOf(1)},
		{coinOf(3), coinOf(3), coinOf(0), pickOf(0), pickOf(0), coinOf(1), pickOf(1), backAct()},
	}
}

func TestRunsAreNotWrittenTo(t *testing.T) {
	for _, want := range runMachines() {
		for _, run := range memoryRuns() {
			m, acts := roomyMachine(want), roomyActs(run)
			wholeBefore, actsBefore := copyOf(wholeMachine(m)), slices.Clone(acts[:cap(acts)])
			last, results, _ := impl.RunOf(m, acts)
			args := roomyResults(results)
			overwriteMachine(last)
			overwriteResults(results)
			argsBefore := wholeResults(args)
			impl.PutInBy(acts, args)
			impl.GivenBy(args)
			overwriteRow(impl.SoldBy(3, args))
			impl.DoneIn(args)
			must(t, sameMachine(wholeMachine(m), wholeBefore), want, run, wholeMachine(m))
			must(t, slices.Equal(acts[:cap(acts)], actsBefore), want, run, acts[:cap(acts)])
			must(t, sameResults(wholeResults(args), argsBefore), want, run, args)
		}
	}
	for _, want := range fewPurses() {
		p := roomy(want)
		before := slices.Clone(p[:cap(p)])
		overwriteActs(impl.CoinsPut(p))
		must(t, slices.Equal(p[:cap(p)], before), want, p[:cap(p)])
	}
}

func TestRunsShareNoMemory(t *testing.T) {
	for _, want := range runMachines() {
		for _, acts := range memoryRuns() {
			m := copyOf(want)
			last, results, _ := impl.RunOf(m, acts)
			again, resultsAgain, _ := impl.RunOf(m, acts)
			sold, soldAgain := impl.SoldBy(3, results), impl.SoldBy(3, results)
			rows := append(outsOf(results), outsOf(resultsAgain)...)
			rows = append(rows, m.Own, m.In, last.Own, last.In, again.Own, again.In, sold, soldAgain)
			checkParts(t, acts, [][]impl.Good{m.Goods, last.Goods, again.Goods}, rows...)
		}
	}
	m := runMachines()[1]
	_, results, _ := impl.RunOf(m, memoryRuns()[3])
	_, want, _ := impl.RunOf(m, memoryRuns()[3])
	_, other, _ := impl.RunOf(m, memoryRuns()[3])
	overwriteResults(other)
	must(t, sameResults(results, want), "shared results", results)
	acts, actsAgain := impl.CoinsPut([]int{1, 2, 0, 1}), impl.CoinsPut([]int{1, 2, 0, 1})
	overwriteActs(actsAgain)
	must(t, slices.Equal(acts, []impl.Act{coinOf(0), coinOf(1), coinOf(1), coinOf(3)}), acts)
}
