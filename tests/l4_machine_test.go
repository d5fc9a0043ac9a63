package tests

import (
	"math"
	"slices"
	"testing"

	"loop.example/coinmachine/impl"
)

func coinOf(kind int) impl.Act {
	return impl.Act{Do: impl.DoCoin, N: kind}
}

func pickOf(good int) impl.Act {
	return impl.Act{Do: impl.DoPick, N: good}
}

func backAct() impl.Act {
	return impl.Act{Do: impl.DoBack}
}

func machineOf(own []int, in []int, goods []impl.Good) impl.Machine {
	return impl.Machine{Own: own, In: in, Goods: goods}
}

// manyMachines has empty and full purses, kinds that are full together, change that needs more than greed,
// change out of coins that were put in, and shelves without goods and with goods that are gone.
func manyMachines() []impl.Machine {
	owns := [][]int{{0, 0, 0, 0}, {1, 1, 0, 0}, {0, 3, 1, 0}, {0, 0, 0, 20}, {20, 0, 0, 0}, {19, 19, 19, 19}, {7, 2, 0, 4}, {20, 20, 20, 20}}
	ins := [][]int{{0, 0, 0, 0}, {1, 0, 0, 0}, {0, 3, 0, 0}, {0, 3, 1, 0}, {0, 0, 0, 1}, {0, 0, 0, 14}, {20, 0, 0, 0}, {1, 1, 1, 1}, {0, 3, 0, 1}, {20, 20, 20, 20}}
	shelves := [][]impl.Good{
		nil, goodsOf(1, 1), goodsOf(7, 0), goodsOf(40, 5), goodsOf(7, 1, 3, 2), goodsOf(3, 2, 4, 0),
		goodsOf(10, 1, 6, 5, 1, 0), goodsOf(40, 1, 20, 1, 5, 5),
	}
	var list []impl.Machine
	for _, own := range owns {
		for _, in := range ins {
			for _, goods := range shelves {
				list = append(list, machineOf(own, in, goods))
			}
		}
	}
	return list
}

// noMachines has machines whose own coins, coins that were put in, or shelves are none, beside parts that are.
func noMachines() []impl.Machine {
	var list []impl.Machine
	for _, p := range noPurses() {
		list = append(list,
			machineOf(p, []int{0, 0, 0, 0}, goodsOf(7, 1)),
			machineOf([]int{1, 1, 0, 0}, p, goodsOf(7, 1)),
			machineOf(p, p, nil))
	}
	for _, goods := range noShelves() {
		list = append(list,
			machineOf([]int{1, 1, 0, 0}, []int{0, 0, 0, 0}, goods),
			machineOf([]int{0, 0, 0, 0}, []int{0, 0, 0, 2}, goods))
	}
	return append(list, impl.Machine{}, machineOf(nil, nil, goodsOf(7, 1)))
}

// trueActs has each act that may be done with some machine.
func trueActs() []impl.Act {
	return []impl.Act{coinOf(0), coinOf(1), coinOf(2), coinOf(3), pickOf(0), pickOf(1), pickOf(2), backAct()}
}

// otherActs can be done with no machine: numbers that name nothing, and acts of no kind.
func otherActs() []impl.Act {
	list := []impl.Act{coinOf(4), pickOf(3), pickOf(4)}
	for _, n := range []int{-1, 5, 10, math.MaxInt, math.MinInt} {
		list = append(list, coinOf(n), pickOf(n), impl.Act{Do: impl.DoBack, N: n})
	}
	for n := range 5 {
		for _, do := range []int{-1, 3, 4, math.MaxInt, math.MinInt} {
			list = append(list, impl.Act{Do: do, N: n})
		}
	}
	return append(list, impl.Act{Do: impl.DoBack, N: 1}, impl.Act{Do: impl.DoBack, N: 2})
}

func sameMachine(m impl.Machine, other impl.Machine) bool {
	return slices.Equal(m.Own, other.Own) && slices.Equal(m.In, other.In) && slices.Equal(m.Goods, other.Goods)
}

func sameResult(r impl.Result, other impl.Result) bool {
	return r.Done == other.Done && r.Piece == other.Piece && slices.Equal(r.Out, other.Out)
}

func copyOf(m impl.Machine) impl.Machine {
	return machineOf(slices.Clone(m.Own), slices.Clone(m.In), slices.Clone(m.Goods))
}

func plainWorth(p []int) int {
	return p[0] + 2*p[1] + 5*p[2] + 10*p[3]
}

// plainSum returns two purses together, whatever the bounds are.
func plainSum(p []int, q []int) []int {
	return []int{p[0] + q[0], p[1] + q[1], p[2] + q[2], p[3] + q[3]}
}

// plainActed is Acted of a machine as the document tells it, written down anew for the tests.
func plainActed(m impl.Machine, a impl.Act) (impl.Machine, impl.Result) {
	return plainActedWith(plainFewest, m, a)
}

// plainActedWith is plainActed with change that a function finds.
func plainActedWith(find plainFinder, m impl.Machine, a impl.Act) (impl.Machine, impl.Result) {
	after := copyOf(m)
	switch {
	case a.Do == 0 && a.N >= 0 && a.N <= 3 && m.In[a.N] < 20:
		after.In[a.N]++
		return after, impl.Result{Done: true, Out: []int{0, 0, 0, 0}}
	case a.Do == 1 && a.N >= 0 && a.N < len(m.Goods):
		change, ok := plainChange(find, m, m.Goods[a.N])
		if !ok {
			return after, impl.Result{}
		}
		for kind := range 4 {
			after.Own[kind] += m.In[kind] - change[kind]
		}
		after.In = []int{0, 0, 0, 0}
		after.Goods[a.N].Stock--
		return after, impl.Result{Done: true, Piece: a.N + 1, Out: change}
	case a.Do == 2 && a.N == 0:
		after.In = []int{0, 0, 0, 0}
		return after, impl.Result{Done: true, Out: slices.Clone(m.In)}
	}
	return after, impl.Result{}
}

// plainFinder finds coins in a purse for an amount.
type plainFinder func(p []int, amount int) ([]int, bool)

func plainChange(find plainFinder, m impl.Machine, good impl.Good) ([]int, bool) {
	both := plainSum(m.Own, m.In)
	left := plainWorth(m.In) - good.Price
	if good.Stock == 0 || slices.Max(both) > 20 || left < 0 || left > 99 {
		return nil, false
	}
	return find(both, left)
}

// forActs calls a function with machines, all acts, and what comes of them.
func forActs(check func(m impl.Machine, a impl.Act, after impl.Machine, what impl.Result)) {
	for _, m := range manyMachines() {
		for _, a := range append(trueActs(), otherActs()...) {
			after, what := impl.Acted(m, a)
			check(m, a, after, what)
		}
	}
}

func TestMachineConstants(t *testing.T) {
	must(t, impl.DoCoin == 0 && impl.DoPick == 1 && impl.DoBack == 2, impl.DoCoin, impl.DoPick, impl.DoBack)
}

func TestP15NoCoinIsMadeAndNoneIsLost(t *testing.T) {
	forActs(func(m impl.Machine, a impl.Act, after impl.Machine, what impl.Result) {
		must(t, impl.MachineOk(after), m, a, after)
		if !what.Done {
			must(t, sameMachine(after, m) && what.Piece == 0 && len(what.Out) == 0, m, a, after, what)
			return
		}
		must(t, impl.PurseOk(what.Out), m, a, what)
		put := 0
		if a.Do == impl.DoCoin {
			put = impl.WorthOf(a.N)
		}
		must(t, impl.MoneyIn(after)+impl.ValueOf(what.Out) == impl.MoneyIn(m)+put, m, a, after, what)
		if what.Piece > 0 {
			cost := impl.ValueOf(m.In) - impl.ValueOf(what.Out)
			must(t, cost == m.Goods[what.Piece-1].Price, m, a, after, what)
		}
	})
}

func TestP15ActsAreAsTold(t *testing.T) {
	forActs(func(m impl.Machine, a impl.Act, after impl.Machine, what impl.Result) {
		wantAfter, want := plainActed(m, a)
		must(t, sameMachine(after, wantAfter) && sameResult(what, want), m, a, after, what)
	})
}

func TestP15PutIn(t *testing.T) {
	for kind := range 4 {
		for count := range 21 {
			m := machineOf([]int{20, 20, 20, 20}, []int{3, 3, 3, 3}, goodsOf(7, 1))
			m.In[kind] = count
			want := copyOf(m)
			want.In[kind]++
			after, what := impl.Acted(m, coinOf(kind))
			if count == 20 {
				must(t, sameMachine(after, m) && sameResult(what, impl.Result{}), "one too many", m, after, what)
				continue
			}
			must(t, sameMachine(after, want), "of its own there may be as many", m, after)
			must(t, sameResult(what, impl.Result{Done: true, Out: []int{0, 0, 0, 0}}), m, what)
		}
	}
}

func TestP15Picked(t *testing.T) {
	for _, c := range []struct {
		told   string
		before impl.Machine
		good   int
		after  impl.Machine
		out    []int
	}{
		{"the price paid exactly", machineOf([]int{0, 0, 0, 0}, []int{0, 1, 1, 0}, goodsOf(7, 1)), 0,
			machineOf([]int{0, 1, 1, 0}, []int{0, 0, 0, 0}, goodsOf(7, 0)), []int{0, 0, 0, 0}},
		{"change of its own", machineOf([]int{1, 1, 0, 0}, []int{0, 0, 0, 1}, goodsOf(7, 1, 3, 2)), 0,
			machineOf([]int{0, 0, 0, 1}, []int{0, 0, 0, 0}, goodsOf(7, 0, 3, 2)), []int{1, 1, 0, 0}},
		{"change out of what was put in alone", machineOf([]int{0, 0, 0, 0}, []int{0, 1, 0, 1}, goodsOf(3, 1, 10, 2)), 1,
			machineOf([]int{0, 0, 0, 1}, []int{0, 0, 0, 0}, goodsOf(3, 1, 10, 1)), []int{0, 1, 0, 0}},
		{"change out of both", machineOf([]int{1, 0, 0, 0}, []int{0, 1, 1, 0}, goodsOf(9, 1, 4, 1)), 1,
			machineOf([]int{0, 0, 1, 0}, []int{0, 0, 0, 0}, goodsOf(9, 1, 4, 0)), []int{1, 1, 0, 0}},
		{"greed gives none", machineOf([]int{0, 3, 0, 0}, []int{0, 0, 1, 1}, goodsOf(9, 1)), 0,
			machineOf([]int{0, 0, 1, 1}, []int{0, 0, 0, 0}, goodsOf(9, 0)), []int{0, 3, 0, 0}},
		{"as few coins as may be", machineOf([]int{9, 5, 2, 0}, []int{0, 0, 0, 2}, goodsOf(10, 5)), 0,
			machineOf([]int{9, 5, 2, 1}, []int{0, 0, 0, 0}, goodsOf(10, 4)), []int{0, 0, 0, 1}},
		{"the third good", machineOf([]int{4, 4, 4, 4}, []int{0, 0, 0, 3}, goodsOf(10, 5, 11, 0, 13, 1)), 2,
			machineOf([]int{4, 3, 3, 6}, []int{0, 0, 0, 0}, goodsOf(10, 5, 11, 0, 13, 0)), []int{0, 1, 1, 1}},
		{"as much change as may be", machineOf([]int{0, 2, 1, 9}, []int{0, 0, 0, 10}, goodsOf(1, 1)), 0,
			machineOf([]int{0, 0, 0, 10}, []int{0, 0, 0, 0}, goodsOf(1, 0)), []int{0, 2, 1, 9}},
		{"full kinds", machineOf([]int{17, 15, 20, 11}, []int{3, 5, 0, 9}, goodsOf(40, 1, 5, 1)), 0,
			machineOf([]int{19, 19, 20, 14}, []int{0, 0, 0, 0}, goodsOf(40, 0, 5, 1)), []int{1, 1, 0, 6}},
	} {
		after, what := impl.Acted(c.before, pickOf(c.good))
		must(t, sameMachine(after, c.after), c.told, after)
		must(t, sameResult(what, impl.Result{Done: true, Piece: c.good + 1, Out: c.out}), c.told, what)
	}
}

// Of each kind Own and In together may have 20 coins, and no more, even if the price is paid exactly.
func TestP15FullMachinesPickNothing(t *testing.T) {
	for kind := range 4 {
		for own := range 21 {
			for in := range 21 {
				m := machineOf([]int{4, 4, 4, 4}, []int{1, 1, 1, 1}, goodsOf(18, 1))
				m.Own[kind], m.In[kind] = own, in
				_, what := impl.Acted(m, pickOf(0))
				_, want := plainActed(m, pickOf(0))
				must(t, sameResult(what, want), m, what)
				must(t, own+in <= 20 || !what.Done, m, what)
			}
		}
	}
	m := machineOf([]int{0, 0, 0, 20}, []int{0, 0, 0, 1}, goodsOf(10, 1))
	_, what := impl.Acted(m, pickOf(0))
	must(t, !what.Done, "paid exactly", what)
}

func TestP15NotPicked(t *testing.T) {
	for _, c := range []struct {
		told string
		m    impl.Machine
		good int
	}{
		{"no change", machineOf([]int{0, 0, 0, 0}, []int{0, 0, 0, 1}, goodsOf(7, 1)), 0},
		{"no coin of 1", machineOf([]int{0, 20, 20, 19}, []int{0, 0, 0, 1}, goodsOf(9, 1)), 0},
		{"too little change", machineOf([]int{1, 1, 0, 0}, []int{0, 0, 0, 1}, goodsOf(7, 1, 3, 2)), 1},
		{"1 too little put in", machineOf([]int{9, 9, 9, 9}, []int{0, 3, 0, 0}, goodsOf(7, 1)), 0},
		{"nothing put in", machineOf([]int{9, 9, 9, 9}, []int{0, 0, 0, 0}, goodsOf(1, 1)), 0},
		{"gone", machineOf([]int{9, 9, 9, 9}, []int{0, 1, 1, 0}, goodsOf(7, 0)), 0},
		{"gone, beside one that is there", machineOf([]int{9, 9, 9, 9}, []int{0, 1, 1, 0}, goodsOf(7, 3, 7, 0)), 1},
		{"no goods", machineOf([]int{9, 9, 9, 9}, []int{0, 1, 1, 0}, nil), 0},
		{"behind the last one", machineOf([]int{9, 9, 9, 9}, []int{0, 1, 1, 0}, goodsOf(7, 1, 7, 1)), 2},
		{"before the first one", machineOf([]int{9, 9, 9, 9}, []int{0, 1, 1, 0}, goodsOf(7, 1, 7, 1)), -1},
		{"100 too much", machineOf([]int{9, 0, 0, 0}, []int{1, 0, 0, 10}, goodsOf(1, 1)), 0},
		{"everything empty", machineOf([]int{0, 0, 0, 0}, []int{0, 0, 0, 0}, nil), 0},
	} {
		after, what := impl.Acted(c.m, pickOf(c.good))
		must(t, sameMachine(after, c.m) && sameResult(what, impl.Result{}), c.told, after, what)
	}
}

func TestP15OtherActsDoNothing(t *testing.T) {
	rich := machineOf([]int{5, 5, 5, 5}, []int{5, 5, 5, 5}, goodsOf(7, 1, 3, 2, 40, 5))
	for _, a := range otherActs() {
		after, what := impl.Acted(rich, a)
		must(t, sameMachine(after, rich) && sameResult(what, impl.Result{}), a, after, what)
	}
	for _, a := range trueActs() {
		_, what := impl.Acted(rich, a)
		must(t, what.Done, a, what)
	}
}

func TestP15ActsWithNoMachines(t *testing.T) {
	for _, m := range noMachines() {
		for _, a := range append(trueActs(), otherActs()...) {
			after, what := impl.Acted(m, a)
			must(t, after.Own == nil && after.In == nil && after.Goods == nil, m, a, after)
			must(t, !what.Done && what.Piece == 0 && what.Out == nil, m, a, what)
		}
	}
}

func TestP15Money(t *testing.T) {
	for _, m := range manyMachines() {
		must(t, impl.MoneyIn(m) == plainWorth(m.Own)+plainWorth(m.In), m, impl.MoneyIn(m))
	}
	for _, c := range []struct {
		own   []int
		in    []int
		money int
	}{
		{[]int{0, 0, 0, 0}, []int{0, 0, 0, 0}, 0},
		{[]int{1, 1, 0, 0}, []int{0, 0, 0, 0}, 3},
		{[]int{0, 0, 0, 0}, []int{0, 0, 1, 1}, 15},
		{[]int{1, 1, 0, 0}, []int{0, 0, 0, 1}, 13},
		{[]int{20, 20, 20, 20}, []int{20, 20, 20, 20}, 720},
	} {
		m := machineOf(c.own, c.in, goodsOf(7, 1))
		must(t, impl.MoneyIn(m) == c.money, m, impl.MoneyIn(m))
	}
	for _, m := range noMachines() {
		must(t, impl.MoneyIn(m) == -1, m, impl.MoneyIn(m))
	}
}

func TestP16GivingBackGivesWhatWasPutIn(t *testing.T) {
	for _, m := range manyMachines() {
		want := copyOf(m)
		want.In = []int{0, 0, 0, 0}
		after, what := impl.Acted(m, backAct())
		must(t, sameMachine(after, want), m, after)
		must(t, sameResult(what, impl.Result{Done: true, Out: m.In}), m, what)
		must(t, impl.MoneyIn(after) == impl.MoneyIn(m)-impl.ValueOf(m.In), m, after)
		again, what := impl.Acted(after, backAct())
		must(t, sameMachine(again, after), "given back twice", m, again)
		must(t, sameResult(what, impl.Result{Done: true, Out: []int{0, 0, 0, 0}}), "given back twice", m, what)
	}
}

func TestP16WhatIsPutInIsGivenBack(t *testing.T) {
	start := machineOf([]int{20, 0, 20, 1}, []int{0, 0, 0, 0}, goodsOf(7, 1))
	m := start
	for _, kind := range []int{3, 0, 0, 2, 3, 1} {
		m, _ = impl.Acted(m, coinOf(kind))
	}
	after, what := impl.Acted(m, backAct())
	must(t, sameMachine(after, start) && slices.Equal(what.Out, []int{2, 1, 1, 2}), after, what)
}

// What was put in for a good that was picked is given back no more.
func TestP16WhatIsPaidIsNotGivenBack(t *testing.T) {
	m := machineOf([]int{1, 1, 0, 0}, []int{0, 0, 0, 1}, goodsOf(7, 2))
	m, _ = impl.Acted(m, pickOf(0))
	after, what := impl.Acted(m, backAct())
	must(t, sameMachine(after, m) && sameResult(what, impl.Result{Done: true, Out: []int{0, 0, 0, 0}}), after, what)
	_, what = impl.Acted(m, pickOf(0))
	must(t, !what.Done, "paid once, picked twice", what)
}

func TestP17WhatCanBePickedIsThereAndPaidFor(t *testing.T) {
	for _, m := range manyMachines() {
		list := impl.CanPick(m)
		var want []int
		for good := range m.Goods {
			if _, what := plainActed(m, pickOf(good)); what.Done {
				want = append(want, good)
			}
		}
		must(t, slices.Equal(list, want), m, list)
		for _, good := range list {
			must(t, m.Goods[good].Stock > 0 && impl.ValueOf(m.In) >= m.Goods[good].Price, m, list)
		}
		_, together := impl.PutTogether(m.Own, m.In)
		for at, good := range m.Goods {
			_, what := impl.Acted(m, pickOf(at))
			must(t, what.Done == slices.Contains(list, at), m, at, list)
			exact := together && good.Stock > 0 && impl.ValueOf(m.In) == good.Price
			must(t, !exact || slices.Contains(list, at), "paid exactly", m, at, list)
		}
	}
}

func TestP17CanPick(t *testing.T) {
	for _, c := range []struct {
		m    impl.Machine
		list []int
	}{
		{machineOf([]int{0, 0, 0, 0}, []int{0, 0, 0, 0}, nil), nil},
		{machineOf([]int{5, 5, 5, 5}, []int{5, 5, 5, 5}, nil), nil},
		{machineOf([]int{1, 1, 0, 0}, []int{0, 0, 0, 0}, goodsOf(7, 1, 3, 2)), nil},
		{machineOf([]int{1, 1, 0, 0}, []int{0, 0, 0, 1}, goodsOf(7, 1, 3, 2)), []int{0}},
		{machineOf([]int{1, 1, 1, 0}, []int{0, 0, 0, 1}, goodsOf(7, 1, 3, 2)), []int{0, 1}},
		{machineOf([]int{1, 1, 1, 0}, []int{0, 0, 0, 1}, goodsOf(7, 0, 3, 2)), []int{1}},
		{machineOf([]int{4, 4, 4, 4}, []int{0, 0, 0, 1}, goodsOf(10, 1, 11, 1, 9, 1)), []int{0, 2}},
		{machineOf([]int{4, 4, 4, 4}, []int{0, 0, 0, 1}, goodsOf(10, 1, 5, 5, 1, 1)), []int{0, 1, 2}},
		{machineOf([]int{0, 0, 0, 20}, []int{0, 1, 1, 0}, goodsOf(7, 1, 5, 1, 6, 1)), []int{0, 1}},
		{machineOf([]int{0, 0, 0, 20}, []int{0, 0, 0, 1}, goodsOf(10, 1)), nil},
		{machineOf([]int{0, 3, 0, 0}, []int{0, 0, 1, 1}, goodsOf(15, 1, 9, 1, 8, 1)), []int{0, 1, 2}},
	} {
		must(t, slices.Equal(impl.CanPick(c.m), c.list), c.m, impl.CanPick(c.m))
	}
	for _, m := range noMachines() {
		must(t, impl.CanPick(m) == nil, m, impl.CanPick(m))
	}
}

func TestP18NobodyLosesWhatWasPutIn(t *testing.T) {
	own, goods := []int{2, 0, 7, 20}, goodsOf(9, 5)
	for _, m := range manyMachines() {
		filled, ok := impl.Refilled(m, own, goods)
		must(t, ok == (impl.ValueOf(m.In) == 0), m, ok)
		if !ok {
			must(t, filled.Own == nil && filled.In == nil && filled.Goods == nil, m, filled)
			continue
		}
		fresh, _ := impl.MachineNew(own, goods)
		must(t, sameMachine(filled, fresh), m, filled)
		must(t, sameMachine(filled, machineOf(own, []int{0, 0, 0, 0}, goods)), m, filled)
	}
}

func TestP18OneCoinIsEnough(t *testing.T) {
	for kind := range 4 {
		m := machineOf([]int{0, 0, 0, 0}, []int{0, 0, 0, 0}, nil)
		m, _ = impl.Acted(m, coinOf(kind))
		filled, ok := impl.Refilled(m, []int{1, 1, 1, 1}, nil)
		must(t, !ok && filled.Own == nil && filled.In == nil && filled.Goods == nil, kind, filled, ok)
		m, _ = impl.Acted(m, backAct())
		filled, ok = impl.Refilled(m, []int{1, 1, 1, 1}, nil)
		must(t, ok && sameMachine(filled, machineOf([]int{1, 1, 1, 1}, []int{0, 0, 0, 0}, nil)), kind, filled, ok)
	}
}

func TestP18Refills(t *testing.T) {
	m := machineOf([]int{1, 1, 0, 0}, []int{0, 0, 0, 0}, goodsOf(7, 1))
	for _, own := range fewPurses() {
		for _, goods := range fewShelves() {
			filled, ok := impl.Refilled(m, own, goods)
			must(t, ok && sameMachine(filled, machineOf(own, []int{0, 0, 0, 0}, goods)), own, goods, filled, ok)
		}
	}
}

func TestP18RefillsOfOthers(t *testing.T) {
	check := func(m impl.Machine, own []int, goods []impl.Good) {
		filled, ok := impl.Refilled(m, own, goods)
		must(t, !ok && filled.Own == nil && filled.In == nil && filled.Goods == nil, m, own, goods, filled, ok)
	}
	m := machineOf([]int{1, 1, 0, 0}, []int{0, 0, 0, 0}, goodsOf(7, 1))
	for _, own := range noPurses() {
		check(m, own, goodsOf(3, 2))
	}
	for _, goods := range noShelves() {
		check(m, []int{1, 1, 1, 1}, goods)
	}
	for _, other := range noMachines() {
		check(other, []int{1, 1, 1, 1}, goodsOf(3, 2))
	}
}

func TestP53MachinesMayBeEmpty(t *testing.T) {
	empty := []int{0, 0, 0, 0}
	must(t, impl.MachineOk(machineOf(empty, empty, nil)), "everything empty")
	must(t, impl.MachineOk(machineOf(empty, empty, []impl.Good{})), "everything empty")
	for _, m := range manyMachines() {
		must(t, impl.MachineOk(m), m)
		must(t, impl.MachineOk(machineOf(empty, m.In, m.Goods)), "no coins of its own", m)
		must(t, impl.MachineOk(machineOf(m.Own, empty, m.Goods)), "nothing put in", m)
		must(t, impl.MachineOk(machineOf(m.Own, m.In, nil)), "no goods", m)
	}
	for _, m := range noMachines() {
		must(t, !impl.MachineOk(m), m)
	}
}

func TestP53Bounds(t *testing.T) {
	for kind := range 4 {
		for count := -2; count <= 23; count++ {
			own := machineOf([]int{20, 0, 1, 2}, []int{0, 20, 2, 1}, goodsOf(40, 5))
			in := copyOf(own)
			own.Own[kind], in.In[kind] = count, count
			is := count >= 0 && count <= 20
			must(t, impl.MachineOk(own) == is && impl.MachineOk(in) == is, own, in)
		}
	}
	for many := range 6 {
		m := machineOf([]int{0, 0, 0, 0}, []int{0, 0, 0, 0}, slices.Repeat(goodsOf(7, 2), many))
		must(t, impl.MachineOk(m) == (many <= 3), m)
	}
}

func TestP54NewMachinesHaveTheirOwnCoinsAlone(t *testing.T) {
	for _, own := range fewPurses() {
		for _, goods := range fewShelves() {
			m, ok := impl.MachineNew(own, goods)
			must(t, ok && sameMachine(m, machineOf(own, []int{0, 0, 0, 0}, goods)), own, goods, m, ok)
			must(t, impl.MachineOk(m) && impl.MoneyIn(m) == impl.ValueOf(own), own, goods, m)
		}
	}
}

func TestP54NoNewMachines(t *testing.T) {
	check := func(own []int, goods []impl.Good) {
		m, ok := impl.MachineNew(own, goods)
		must(t, !ok && m.Own == nil && m.In == nil && m.Goods == nil, own, goods, m, ok)
	}
	for _, own := range noPurses() {
		check(own, nil)
		check(own, goodsOf(7, 1))
	}
	for _, goods := range noShelves() {
		check([]int{0, 0, 0, 0}, goods)
		check([]int{1, 1, 0, 0}, goods)
		check([]int{21, 1, 0, 0}, goods)
	}
}

// roomyMachine returns a machine with spare capacity behind each part, in which a function must not write.
func roomyMachine(m impl.Machine) impl.Machine {
	return machineOf(roomy(m.Own), roomy(m.In), roomyGoods(m.Goods))
}

// overwriteMachine writes numbers all over a machine, and behind each part.
func overwriteMachine(m impl.Machine) {
	overwriteRow(m.Own)
	overwriteRow(m.In)
	overwriteGoods(m.Goods)
}

// wholeMachine returns a machine whose parts are as long as there is room for them.
func wholeMachine(m impl.Machine) impl.Machine {
	return machineOf(m.Own[:cap(m.Own)], m.In[:cap(m.In)], m.Goods[:cap(m.Goods)])
}

func fewMachines() []impl.Machine {
	return []impl.Machine{
		machineOf([]int{0, 0, 0, 0}, []int{0, 0, 0, 0}, nil),
		machineOf([]int{1, 1, 0, 0}, []int{0, 0, 0, 1}, goodsOf(7, 1, 3, 2)),
		machineOf([]int{9, 9, 9, 9}, []int{0, 3, 1, 1}, goodsOf(6, 5)),
		machineOf([]int{4, 4, 4, 4}, []int{2, 2, 2, 2}, goodsOf(10, 5, 7, 1, 40, 5)),
		machineOf([]int{4, 4, 4, 4}, []int{0, 0, 0, 0}, goodsOf(10, 5, 7, 1, 40, 5)),
		machineOf([]int{20, 20, 20, 20}, []int{20, 20, 20, 20}, goodsOf(10, 0)),
	}
}

func TestMachinesAreNotWrittenTo(t *testing.T) {
	for _, want := range fewMachines() {
		m := roomyMachine(want)
		before := copyOf(wholeMachine(m))
		own, goods := roomy(want.Own), roomyGoods(want.Goods)
		impl.MachineOk(m)
		impl.MoneyIn(m)
		overwriteRow(impl.CanPick(m))
		for _, a := range append(trueActs(), otherActs()...) {
			after, what := impl.Acted(m, a)
			overwriteMachine(after)
			overwriteRow(what.Out)
		}
		fresh, _ := impl.MachineNew(own, goods)
		overwriteMachine(fresh)
		filled, _ := impl.Refilled(m, own, goods)
		overwriteMachine(filled)
		must(t, sameMachine(wholeMachine(m), before), want, wholeMachine(m))
		must(t, slices.Equal(own[:cap(own)], before.Own), want, own[:cap(own)])
		must(t, slices.Equal(goods[:cap(goods)], before.Goods), want, goods[:cap(goods)])
	}
}

// checkParts writes other numbers all over each part in turn, and looks whether they are still there behind the others.
func checkParts(t *testing.T, told any, shelves [][]impl.Good, rows ...[]int) {
	t.Helper()
	checkOwnMemory(t, rows)
	for mark, goods := range shelves {
		goods = goods[:cap(goods)]
		for i := range goods {
			goods[i] = impl.Good{Price: mark, Stock: mark}
		}
	}
	for mark, goods := range shelves {
		for _, good := range goods[:cap(goods)] {
			must(t, good == impl.Good{Price: mark, Stock: mark}, "shared memory", told, mark, goods)
		}
	}
}

func TestMachinesShareNoMemory(t *testing.T) {
	for _, m := range fewMachines() {
		for _, a := range append(trueActs(), otherActs()...) {
			after, what := impl.Acted(m, a)
			again, whatAgain := impl.Acted(m, a)
			shelves := [][]impl.Good{after.Goods, again.Goods}
			checkParts(t, m, shelves, after.Own, after.In, what.Out, again.Own, again.In, whatAgain.Out)
		}
		fresh, _ := impl.MachineNew(m.Own, m.Goods)
		again, _ := impl.MachineNew(m.Own, m.Goods)
		filled, _ := impl.Refilled(fresh, m.Own, m.Goods)
		shelves := [][]impl.Good{fresh.Goods, again.Goods, filled.Goods}
		checkParts(t, m, shelves, fresh.Own, fresh.In, again.Own, again.In, filled.Own, filled.In)
		checkOwnMemory(t, [][]int{impl.CanPick(m), impl.CanPick(m)})
	}
}

// One row may stand for several parts: a result has a copy for each all the same.
func TestMachinesOfOneRow(t *testing.T) {
	row := []int{5, 5, 5, 5}
	m := machineOf(row, row, goodsOf(10, 5))
	after, what := impl.Acted(m, coinOf(0))
	must(t, what.Done && slices.Equal(after.Own, []int{5, 5, 5, 5}) && slices.Equal(after.In, []int{6, 5, 5, 5}), after, what)
	after, what = impl.Acted(m, backAct())
	must(t, slices.Equal(after.Own, row) && slices.Equal(after.In, []int{0, 0, 0, 0}) && slices.Equal(what.Out, row), after, what)
	after, what = impl.Acted(m, impl.Act{Do: 7})
	checkParts(t, m, nil, row, after.Own, after.In, what.Out)
}
