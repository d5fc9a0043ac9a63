package tests

import (
	"math"
	"slices"
	"strconv"
	"strings"
	"testing"

	"loop.example/coinmachine/impl"
)

// pursesOf returns all purses whose counts are all among some counts.
func pursesOf(counts ...int) [][]int {
	list := [][]int{{}}
	for range impl.Coins {
		var longer [][]int
		for _, p := range list {
			for _, count := range counts {
				longer = append(longer, append(slices.Clone(p), count))
			}
		}
		list = longer
	}
	return list
}

// manyPurses has the empty purse, full kinds, and purses that are worth the same.
func manyPurses() [][]int {
	return pursesOf(0, 1, 2, 5, 19, 20)
}

// fewPurses is small enough for all pairs of it.
func fewPurses() [][]int {
	return pursesOf(0, 1, 10, 20)
}

func allPurses() [][]int {
	var counts []int
	for count := range impl.MaxCoins + 1 {
		counts = append(counts, count)
	}
	return pursesOf(counts...)
}

// noPurses has rows that are no purse: too few or too many numbers, and numbers out of bounds at each place.
func noPurses() [][]int {
	list := [][]int{nil, {}, {0}, {1, 1, 1}, {0, 0, 0, 0, 0}, {20, 20, 20, 20, 20, 20, 20, 20}}
	for kind := range impl.Coins {
		for _, count := range []int{-1, 21, math.MaxInt, math.MinInt} {
			p := []int{0, 1, 2, 3}
			p[kind] = count
			list = append(list, p)
		}
	}
	return list
}

// roomy returns a row with spare capacity behind it, in which a function must not write.
func roomy(p []int) []int {
	room := make([]int, len(p), len(p)+8)
	copy(room, p)
	return room
}

func must(t *testing.T, holds bool, told ...any) {
	t.Helper()
	if !holds {
		t.Fatal(told...)
	}
}

// plainText is PurseText as the document tells it, written down anew for the tests.
func plainText(p []int) string {
	text := ""
	for _, coin := range []struct{ kind, worth int }{{3, 10}, {2, 5}, {1, 2}, {0, 1}} {
		if p[coin.kind] > 0 {
			text += "+" + strconv.Itoa(p[coin.kind]) + "x" + strconv.Itoa(coin.worth)
		}
	}
	if text == "" {
		return "0"
	}
	return strings.TrimPrefix(text, "+")
}
