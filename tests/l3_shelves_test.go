package tests

import (
	"math"
	"slices"
	"testing"

	"loop.example/coinmachine/impl"
)

// goodsOf returns shelves, told by the price and the stock of each good in turn.
func goodsOf(numbers ...int) []impl.Good {
	var goods []impl.Good
	for pair := range slices.Chunk(numbers, 2) {
		goods = append(goods, impl.Good{Price: pair[0], Stock: pair[1]})
	}
	return goods
}

// shelvesOf returns all shelves of at most three goods whose prices and stocks are all among some.
func shelvesOf(prices []int, stocks []int) [][]impl.Good {
	last := [][]impl.Good{{}}
	list := [][]impl.Good{nil, {}}
	for range 3 {
		var longer [][]impl.Good
		for _, goods := range last {
			for _, price := range prices {
				for _, stock := range stocks {
					longer = append(longer, append(slices.Clone(goods), impl.Good{Price: price, Stock: stock}))
				}
			}
		}
		list = append(list, longer...)
		last = longer
	}
	return list
}

// manyShelves has shelves without goods, goods that are gone, prices and stocks at their bounds, and equal prices.
func manyShelves() [][]impl.Good {
	return shelvesOf([]int{1, 3, 40}, []int{0, 1, 5})
}

// fewShelves is small enough for all amounts, and has goods for which different baskets cost the same.
func fewShelves() [][]impl.Good {
	return [][]impl.Good{
		nil, {},
		goodsOf(7, 0), goodsOf(1, 0), goodsOf(40, 0), goodsOf(1, 1), goodsOf(40, 5), goodsOf(1, 5), goodsOf(13, 2),
		goodsOf(7, 2, 3, 1), goodsOf(3, 1, 7, 2), goodsOf(5, 0, 5, 0), goodsOf(5, 0, 5, 3), goodsOf(5, 3, 5, 0), goodsOf(5, 1, 5, 1),
		goodsOf(6, 1, 3, 2), goodsOf(3, 2, 6, 1), goodsOf(40, 5, 39, 5),
		goodsOf(1, 0, 1, 0, 1, 0), goodsOf(4, 0, 3, 2, 5, 0), goodsOf(4, 2, 3, 0, 5, 1), goodsOf(2, 3, 2, 3, 2, 3),
		goodsOf(6, 2, 10, 1, 15, 1), goodsOf(15, 1, 10, 1, 6, 2), goodsOf(40, 5, 40, 5, 40, 5), goodsOf(1, 5, 1, 5, 1, 5),
		goodsOf(1, 5, 8, 5, 40, 5), goodsOf(40, 1, 39, 1, 20, 1), goodsOf(33, 3, 34, 1, 32, 2),
	}
}

// noShelves has a good too many, and prices and stocks out of bounds at each place.
func noShelves() [][]impl.Good {
	list := [][]impl.Good{
		goodsOf(1, 0, 1, 0, 1, 0, 1, 0),
		goodsOf(7, 2, 3, 1, 5, 5, 40, 1),
		goodsOf(7, 2, 3, 1, 5, 5, 0, 0),
		make([]impl.Good, 1), make([]impl.Good, 4), make([]impl.Good, 100),
	}
	var bad []impl.Good
	for _, number := range []int{-1, 0, 41, math.MaxInt, math.MinInt} {
		bad = append(bad, goodsOf(number, 0, number, 1)...)
	}
	for _, number := range []int{-1, 6, math.MaxInt, math.MinInt} {
		bad = append(bad, goodsOf(7, number, 41, number)...)
	}
	for many := 1; many <= 3; many++ {
		for at := range many {
			for _, good := range bad {
				goods := goodsOf(7, 2, 3, 1, 40, 5)[:many]
				goods[at] = good
				list = append(list, goods)
			}
		}
	}
	return list
}

// noBaskets returns rows that are no basket of shelves: too few or too many numbers, and numbers out of bounds at each place.
func noBaskets(goods []impl.Good) [][]int {
	list := [][]int{make([]int, len(goods)+1), make([]int, len(goods)+2), make([]int, 100)}
	if len(goods) > 0 {
		list = append(list, nil, []int{}, make([]int, len(goods)-1))
	}
	for at, good := range goods {
		for _, count := range []int{-1, good.Stock + 1, 6, math.MaxInt, math.MinInt} {
			row := make([]int, len(goods))
			row[at] = count
			list = append(list, row)
		}
	}
	return list
}

// someAmounts has the bounds, and amounts around the prices of the shelves here.
func someAmounts() []int {
	return []int{0, 1, 2, 3, 4, 7, 39, 40, 41, 43, 80, 98, 99}
}

// roomyGoods returns shelves with spare capacity behind them, in which a function must not write.
func roomyGoods(goods []impl.Good) []impl.Good {
	room := make([]impl.Good, len(goods), len(goods)+8)
	copy(room, goods)
	return room
}

// plainCost is CostOf of a basket as the document tells it, written down anew for the tests.
func plainCost(goods []impl.Good, row []int) int {
	cost := 0
	for at := range goods {
		cost += goods[at].Price * row[at]
	}
	return cost
}

func plainPieces(row []int) int {
	sum := 0
	for _, count := range row {
		sum += count
	}
	return sum
}

// allBaskets returns all baskets of shelves in the order of rows, whatever they cost.
func allBaskets(goods []impl.Good) [][]int {
	if len(goods) == 0 {
		return [][]int{{}}
	}
	var list [][]int
	for count := range goods[0].Stock + 1 {
		for _, rest := range allBaskets(goods[1:]) {
			list = append(list, append([]int{count}, rest...))
		}
	}
	return list
}

// plainBaskets is BasketsFor as the document tells it, written down anew for the tests.
func plainBaskets(goods []impl.Good, amount int) [][]int {
	var list [][]int
	for _, row := range allBaskets(goods) {
		if plainCost(goods, row) <= amount {
			list = append(list, row)
		}
	}
	return list
}

// plainBest returns the first basket for an amount of which a number is greatest.
func plainBest(goods []impl.Good, amount int, rank func([]int) int) []int {
	list := plainBaskets(goods, amount)
	best := list[0]
	for _, row := range list {
		if rank(row) > rank(best) {
			best = row
		}
	}
	return best
}

func allPieces(goods []impl.Good) []int {
	row := []int{}
	for _, good := range goods {
		row = append(row, good.Stock)
	}
	return row
}

// forNoPurchase calls a function with shelves and amounts of which one is out of bounds, or both are.
func forNoPurchase(check func(goods []impl.Good, amount int)) {
	for _, goods := range noShelves() {
		for _, amount := range append(noAmounts(), 0, 1, 50, 99) {
			check(goods, amount)
		}
	}
	for _, goods := range fewShelves() {
		for _, amount := range noAmounts() {
			check(goods, amount)
		}
	}
}

// forNoBasket calls a function with shelves and rows of which one is none, or both are.
func forNoBasket(check func(goods []impl.Good, row []int)) {
	for _, goods := range noShelves() {
		for _, row := range append(noBaskets(goods), nil, make([]int, len(goods)), allPieces(goods)) {
			check(goods, row)
		}
	}
	for _, goods := range manyShelves() {
		for _, row := range noBaskets(goods) {
			check(goods, row)
		}
	}
}

func TestShelvesConstants(t *testing.T) {
	must(t, impl.MaxGoods == 3 && impl.MaxPrice == 40 && impl.MaxStock == 5, impl.MaxGoods, impl.MaxPrice, impl.MaxStock)
}

func TestP11MoreMoneyBuysNoLess(t *testing.T) {
	for _, goods := range fewShelves() {
		var before [][]int
		for _, amount := range allAmounts() {
			list := impl.BasketsFor(goods, amount)
			must(t, len(list) > 0 && plainPieces(list[0]) == 0, goods, amount, list)
			for _, row := range list {
				must(t, len(row) == len(goods), goods, amount, row)
				cost := impl.CostOf(goods, row)
				must(t, cost >= 0 && cost <= amount, goods, amount, row, cost)
			}
			for _, row := range before {
				is := func(other []int) bool { return slices.Equal(row, other) }
				must(t, slices.ContainsFunc(list, is), "one for 1 less", goods, amount, row)
			}
			before = list
		}
	}
}

func TestP11AllBasketsInOrder(t *testing.T) {
	for _, goods := range manyShelves() {
		for _, amount := range someAmounts() {
			list := impl.BasketsFor(goods, amount)
			must(t, sameRows(list, plainBaskets(goods, amount)), goods, amount, list)
			for i, row := range list {
				must(t, i == 0 || slices.Compare(list[i-1], row) < 0, goods, amount, list)
			}
		}
	}
}

func TestP11Baskets(t *testing.T) {
	for _, c := range []struct {
		goods  []impl.Good
		amount int
		list   [][]int
	}{
		{nil, 0, [][]int{{}}},
		{nil, 99, [][]int{{}}},
		{[]impl.Good{}, 5, [][]int{{}}},
		{goodsOf(7, 0), 99, [][]int{{0}}},
		{goodsOf(7, 5), 0, [][]int{{0}}},
		{goodsOf(7, 5), 6, [][]int{{0}}},
		{goodsOf(7, 5), 7, [][]int{{0}, {1}}},
		{goodsOf(7, 5), 99, [][]int{{0}, {1}, {2}, {3}, {4}, {5}}},
		{goodsOf(40, 5), 99, [][]int{{0}, {1}, {2}}},
		{goodsOf(7, 2, 3, 1), 10, [][]int{{0, 0}, {0, 1}, {1, 0}, {1, 1}}},
		{goodsOf(3, 1, 7, 2), 10, [][]int{{0, 0}, {0, 1}, {1, 0}, {1, 1}}},
		{goodsOf(3, 1, 7, 2), 14, [][]int{{0, 0}, {0, 1}, {0, 2}, {1, 0}, {1, 1}}},
		{goodsOf(4, 0, 3, 2, 5, 0), 99, [][]int{{0, 0, 0}, {0, 1, 0}, {0, 2, 0}}},
		{goodsOf(4, 1, 3, 0, 5, 1), 5, [][]int{{0, 0, 0}, {0, 0, 1}, {1, 0, 0}}},
		{goodsOf(2, 1, 3, 1, 4, 1), 6, [][]int{{0, 0, 0}, {0, 0, 1}, {0, 1, 0}, {1, 0, 0}, {1, 0, 1}, {1, 1, 0}}},
		{goodsOf(40, 1, 39, 1, 20, 1), 99, [][]int{{0, 0, 0}, {0, 0, 1}, {0, 1, 0}, {0, 1, 1}, {1, 0, 0}, {1, 0, 1}, {1, 1, 0}, {1, 1, 1}}},
		{goodsOf(40, 1, 39, 1, 20, 1), 98, [][]int{{0, 0, 0}, {0, 0, 1}, {0, 1, 0}, {0, 1, 1}, {1, 0, 0}, {1, 0, 1}, {1, 1, 0}}},
	} {
		list := impl.BasketsFor(c.goods, c.amount)
		must(t, sameRows(list, c.list), c.goods, c.amount, list)
	}
	must(t, len(impl.BasketsFor(goodsOf(1, 5, 1, 5, 1, 5), 99)) == 216, "all baskets there may be")
}

func TestP11NoBasketsOfOthers(t *testing.T) {
	forNoPurchase(func(goods []impl.Good, amount int) {
		list := impl.BasketsFor(goods, amount)
		must(t, list == nil, goods, amount, list)
	})
}

func TestP12NoBasketHasMorePieces(t *testing.T) {
	for _, goods := range manyShelves() {
		for _, amount := range someAmounts() {
			row, ok := impl.MostFor(goods, amount)
			must(t, ok && slices.Equal(row, plainBest(goods, amount, plainPieces)), goods, amount, row, ok)
			cost := impl.CostOf(goods, row)
			must(t, cost >= 0 && cost <= amount, goods, amount, row, cost)
			for _, other := range impl.BasketsFor(goods, amount) {
				must(t, plainPieces(other) <= plainPieces(row), goods, amount, row, other)
			}
		}
	}
}

func TestP12ForAllAmounts(t *testing.T) {
	for _, goods := range fewShelves() {
		for _, amount := range allAmounts() {
			row, ok := impl.MostFor(goods, amount)
			must(t, ok && slices.Equal(row, plainBest(goods, amount, plainPieces)), goods, amount, row, ok)
		}
	}
}

func TestP12Most(t *testing.T) {
	for _, c := range []struct {
		goods  []impl.Good
		amount int
		row    []int
	}{
		{nil, 0, []int{}},
		{[]impl.Good{}, 99, []int{}},
		{goodsOf(7, 0), 99, []int{0}},
		{goodsOf(7, 5), 0, []int{0}},
		{goodsOf(7, 5, 8, 5, 40, 5), 6, []int{0, 0, 0}},
		{goodsOf(7, 0, 8, 5, 9, 5), 7, []int{0, 0, 0}},
		{goodsOf(7, 2, 3, 1), 10, []int{1, 1}},
		{goodsOf(7, 2, 3, 1), 15, []int{1, 1}}, // [2 0] has as many pieces, and costs more
		{goodsOf(5, 1, 5, 1), 5, []int{0, 1}},
		{goodsOf(5, 0, 5, 3), 12, []int{0, 2}},
		{goodsOf(2, 3, 2, 3, 2, 3), 4, []int{0, 0, 2}},
		{goodsOf(2, 3, 2, 3, 2, 3), 8, []int{0, 1, 3}},
		{goodsOf(6, 1, 3, 2), 6, []int{0, 2}},
		{goodsOf(3, 2, 6, 1), 6, []int{2, 0}},
		{goodsOf(6, 1, 10, 1, 3, 1), 13, []int{0, 1, 1}}, // so has [1 0 1]
		{goodsOf(40, 5, 40, 5, 40, 5), 99, []int{0, 0, 2}},
		{goodsOf(1, 5, 1, 5, 1, 5), 99, []int{5, 5, 5}},
	} {
		row, ok := impl.MostFor(c.goods, c.amount)
		must(t, ok && slices.Equal(row, c.row), c.goods, c.amount, row, ok)
	}
}

func TestP12MostOfOthers(t *testing.T) {
	forNoPurchase(func(goods []impl.Good, amount int) {
		row, ok := impl.MostFor(goods, amount)
		must(t, !ok && row == nil, goods, amount, row, ok)
	})
}

func TestP13NoBasketLeavesLess(t *testing.T) {
	for _, goods := range manyShelves() {
		cost := func(row []int) int { return plainCost(goods, row) }
		for _, amount := range someAmounts() {
			row, ok := impl.DearestFor(goods, amount)
			must(t, ok && slices.Equal(row, plainBest(goods, amount, cost)), goods, amount, row, ok)
			most := impl.CostOf(goods, row)
			must(t, most >= 0 && most <= amount, goods, amount, row, most)
			for _, other := range impl.BasketsFor(goods, amount) {
				must(t, impl.CostOf(goods, other) <= most, goods, amount, row, other)
			}
			if worth := impl.StockWorth(goods); worth <= amount {
				must(t, most == worth, "everything may be bought", goods, amount, row, worth)
			}
		}
	}
}

func TestP13ForAllAmounts(t *testing.T) {
	for _, goods := range fewShelves() {
		cost := func(row []int) int { return plainCost(goods, row) }
		for _, amount := range allAmounts() {
			row, ok := impl.DearestFor(goods, amount)
			must(t, ok && slices.Equal(row, plainBest(goods, amount, cost)), goods, amount, row, ok)
		}
	}
}

func TestP13Dearest(t *testing.T) {
	for _, c := range []struct {
		goods  []impl.Good
		amount int
		row    []int
	}{
		{nil, 0, []int{}},
		{[]impl.Good{}, 99, []int{}},
		{goodsOf(7, 0), 99, []int{0}},
		{goodsOf(7, 5), 0, []int{0}},
		{goodsOf(7, 5, 8, 5, 40, 5), 6, []int{0, 0, 0}},
		{goodsOf(7, 2, 3, 1), 15, []int{2, 0}},
		{goodsOf(7, 2, 3, 1), 17, []int{2, 1}},
		{goodsOf(7, 2, 3, 1), 16, []int{2, 0}},
		{goodsOf(5, 1, 5, 1), 9, []int{0, 1}},
		{goodsOf(6, 1, 3, 2), 6, []int{0, 2}}, // [1 0] costs as much
		{goodsOf(3, 2, 6, 1), 6, []int{0, 1}}, // [2 0] costs as much, and has more pieces
		{goodsOf(2, 3, 2, 3, 2, 3), 9, []int{0, 1, 3}},
		{goodsOf(10, 1, 6, 2), 12, []int{0, 2}}, // the dearest piece first leaves more
		{goodsOf(6, 2, 10, 1), 12, []int{2, 0}},
		{goodsOf(40, 5, 39, 5), 99, []int{2, 0}},
		{goodsOf(33, 3, 34, 1, 32, 2), 99, []int{1, 1, 1}}, // and so does [3 0 0]
		{goodsOf(1, 5, 1, 5, 1, 5), 15, []int{5, 5, 5}},
	} {
		row, ok := impl.DearestFor(c.goods, c.amount)
		must(t, ok && slices.Equal(row, c.row), c.goods, c.amount, row, ok)
	}
}

func TestP13DearestOfOthers(t *testing.T) {
	forNoPurchase(func(goods []impl.Good, amount int) {
		row, ok := impl.DearestFor(goods, amount)
		must(t, !ok && row == nil, goods, amount, row, ok)
	})
}

func TestP14WhatIsTakenIsPaidFor(t *testing.T) {
	for _, goods := range manyShelves() {
		for _, row := range allBaskets(goods) {
			rest, ok := impl.AfterBasket(goods, row)
			must(t, ok && len(rest) == len(goods) && impl.ShelvesOk(rest), goods, row, rest, ok)
			must(t, impl.StockWorth(rest) == impl.StockWorth(goods)-impl.CostOf(goods, row), goods, row, rest)
			for at, good := range goods {
				must(t, rest[at] == impl.Good{Price: good.Price, Stock: good.Stock - row[at]}, goods, row, rest)
			}
		}
	}
}

func TestP14AfterBaskets(t *testing.T) {
	for _, c := range []struct {
		goods []impl.Good
		row   []int
		rest  []impl.Good
	}{
		{nil, nil, nil},
		{nil, []int{}, nil},
		{[]impl.Good{}, nil, nil},
		{[]impl.Good{}, []int{}, nil},
		{goodsOf(7, 0), []int{0}, goodsOf(7, 0)},
		{goodsOf(7, 2, 3, 1), []int{2, 0}, goodsOf(7, 0, 3, 1)},
		{goodsOf(7, 2, 3, 1), []int{0, 0}, goodsOf(7, 2, 3, 1)},
		{goodsOf(4, 0, 3, 2, 5, 0), []int{0, 1, 0}, goodsOf(4, 0, 3, 1, 5, 0)},
		{goodsOf(40, 5, 1, 5, 40, 5), []int{5, 4, 0}, goodsOf(40, 0, 1, 1, 40, 5)},
	} {
		rest, ok := impl.AfterBasket(c.goods, c.row)
		must(t, ok && slices.Equal(rest, c.rest), c.goods, c.row, rest, ok)
	}
}

func TestP14AfterBasketsOfOthers(t *testing.T) {
	forNoBasket(func(goods []impl.Good, row []int) {
		rest, ok := impl.AfterBasket(goods, row)
		must(t, !ok && rest == nil, goods, row, rest, ok)
	})
}

func TestP50ShelvesMayBeEmpty(t *testing.T) {
	must(t, impl.ShelvesOk(nil) && impl.ShelvesOk([]impl.Good{}), "without goods")
	for _, goods := range append(manyShelves(), fewShelves()...) {
		must(t, impl.ShelvesOk(goods), goods)
		for at := range goods {
			must(t, impl.ShelvesOk(goods[at+1:]), "without the first goods", goods, at)
		}
	}
	for _, goods := range noShelves() {
		must(t, !impl.ShelvesOk(goods), goods)
	}
}

func TestP50Bounds(t *testing.T) {
	for many := 1; many <= 3; many++ {
		for at := range many {
			for price := -2; price <= 43; price++ {
				for stock := -2; stock <= 8; stock++ {
					goods := goodsOf(7, 2, 3, 0, 40, 5)[:many]
					goods[at] = impl.Good{Price: price, Stock: stock}
					is := price >= 1 && price <= 40 && stock >= 0 && stock <= 5
					must(t, impl.ShelvesOk(goods) == is, goods)
				}
			}
		}
	}
	for many := range 9 {
		goods := slices.Repeat(goodsOf(7, 2), many)
		must(t, impl.ShelvesOk(goods) == (many <= 3), goods)
	}
}

func TestP51BasketsCostTheirGoods(t *testing.T) {
	for _, goods := range manyShelves() {
		must(t, impl.CostOf(goods, make([]int, len(goods))) == 0, "a basket of nothing", goods)
		for _, row := range allBaskets(goods) {
			cost := impl.CostOf(goods, row)
			must(t, cost == plainCost(goods, row), goods, row, cost)
			for at, count := range row {
				less := slices.Clone(row)
				less[at]--
				want := cost - goods[at].Price
				if count == 0 {
					want = -1
				}
				must(t, impl.CostOf(goods, less) == want, goods, less, impl.CostOf(goods, less))
			}
		}
	}
}

func TestP51Costs(t *testing.T) {
	for _, c := range []struct {
		goods []impl.Good
		row   []int
		cost  int
	}{
		{nil, nil, 0},
		{nil, []int{}, 0},
		{[]impl.Good{}, nil, 0},
		{[]impl.Good{}, []int{}, 0},
		{nil, []int{0}, -1},
		{goodsOf(7, 0), []int{0}, 0},
		{goodsOf(7, 0), []int{1}, -1},
		{goodsOf(7, 0), nil, -1},
		{goodsOf(7, 0), []int{0, 0}, -1},
		{goodsOf(7, 2, 3, 1), []int{1, 1}, 10},
		{goodsOf(7, 2, 3, 1), []int{3, 0}, -1},
		{goodsOf(7, 2, 3, 1), []int{2, -1}, -1},
		{goodsOf(7, 2, 3, 1), []int{1, 2}, -1},
		{goodsOf(4, 2, 3, 0, 5, 1), []int{2, 0, 1}, 13},
		{goodsOf(40, 5, 40, 5, 40, 5), []int{5, 5, 5}, 600},
	} {
		cost := impl.CostOf(c.goods, c.row)
		must(t, cost == c.cost, c.goods, c.row, cost)
	}
}

func TestP51CostsOfOthers(t *testing.T) {
	forNoBasket(func(goods []impl.Good, row []int) {
		cost := impl.CostOf(goods, row)
		must(t, cost == -1, goods, row, cost)
	})
}

func TestP52AllPiecesAreABasket(t *testing.T) {
	for _, goods := range append(manyShelves(), fewShelves()...) {
		row := allPieces(goods)
		worth := impl.StockWorth(goods)
		must(t, worth == plainCost(goods, row), goods, worth)
		must(t, worth == impl.CostOf(goods, row), goods, row, worth)
	}
}

func TestP52StockWorths(t *testing.T) {
	for _, c := range []struct {
		goods []impl.Good
		worth int
	}{
		{nil, 0},
		{[]impl.Good{}, 0},
		{goodsOf(7, 0), 0},
		{goodsOf(40, 0, 1, 0, 39, 0), 0},
		{goodsOf(7, 2, 3, 1), 17},
		{goodsOf(7, 0, 3, 1), 3},
		{goodsOf(40, 5, 40, 5, 40, 5), 600},
	} {
		must(t, impl.StockWorth(c.goods) == c.worth, c.goods, impl.StockWorth(c.goods))
	}
	for _, goods := range noShelves() {
		must(t, impl.StockWorth(goods) == -1, goods, impl.StockWorth(goods))
	}
}

func overwriteRow(row []int) {
	for i := range row[:cap(row)] {
		row[:cap(row)][i] = 77
	}
}

func overwriteGoods(goods []impl.Good) {
	for i := range goods[:cap(goods)] {
		goods[:cap(goods)][i] = impl.Good{Price: 77, Stock: 77}
	}
}

func TestShelvesAreNotWrittenTo(t *testing.T) {
	for _, want := range fewShelves() {
		goods, row := roomyGoods(want), roomy(allPieces(want))
		impl.ShelvesOk(goods)
		impl.StockWorth(goods)
		impl.CostOf(goods, row)
		for _, basket := range impl.BasketsFor(goods, 20) {
			overwriteRow(basket)
		}
		most, _ := impl.MostFor(goods, 20)
		overwriteRow(most)
		dearest, _ := impl.DearestFor(goods, 20)
		overwriteRow(dearest)
		rest, _ := impl.AfterBasket(goods, row)
		overwriteGoods(rest)
		nothing, _ := impl.AfterBasket(goods, make([]int, len(goods)))
		overwriteGoods(nothing)
		room := len(want) + 8
		must(t, slices.Equal(goods[:room], append(slices.Clone(want), make([]impl.Good, 8)...)), want, goods[:room])
		must(t, slices.Equal(row[:room], append(allPieces(want), make([]int, 8)...)), want, row[:room])
		must(t, sameRows(impl.BasketsFor(goods, 20), plainBaskets(want, 20)), want)
	}
}

// Each result has its own memory: to write into one, and behind it, changes no other one.
func TestBasketsShareNoMemory(t *testing.T) {
	for _, goods := range fewShelves() {
		list, want := impl.BasketsFor(goods, 30), plainBaskets(goods, 30)
		most, _ := impl.MostFor(goods, 30)
		dearest, _ := impl.DearestFor(goods, 30)
		mostAgain, _ := impl.MostFor(goods, 30)
		dearestAgain, _ := impl.DearestFor(goods, 30)
		rest, _ := impl.AfterBasket(goods, most)
		restAgain, _ := impl.AfterBasket(goods, most)
		overwriteRow(mostAgain)
		overwriteRow(dearestAgain)
		overwriteGoods(restAgain)
		must(t, impl.CostOf(goods, most) == impl.StockWorth(goods)-impl.StockWorth(rest), goods, most, rest)
		must(t, slices.Equal(most, plainBest(goods, 30, plainPieces)), goods, most)
		must(t, impl.CostOf(goods, dearest) >= impl.CostOf(goods, most), goods, dearest)
		must(t, sameRows(list, want), goods, list)
		checkOwnMemory(t, list)
	}
}

// checkOwnMemory writes another number all over each row, and looks whether it is still there behind the others.
func checkOwnMemory(t *testing.T, rows [][]int) {
	t.Helper()
	for mark, row := range rows {
		for i := range row[:cap(row)] {
			row[:cap(row)][i] = mark
		}
	}
	for mark, row := range rows {
		for _, number := range row[:cap(row)] {
			must(t, number == mark, "shared memory", mark, row)
		}
	}
}
