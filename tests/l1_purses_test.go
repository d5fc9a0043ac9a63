package tests

import (
	"math"
	"slices"
	"strconv"
	"strings"
	"testing"

	"loop.example/coinmachine/impl"
)

func TestPurseConstants(t *testing.T) {
	must(t, impl.Coins == 4 && impl.MaxCoins == 20, impl.Coins, impl.MaxCoins)
}

func TestP1WorthAddsUp(t *testing.T) {
	for _, p := range manyPurses() {
		value := impl.ValueOf(p)
		must(t, value == p[0]+2*p[1]+5*p[2]+10*p[3], p, value)
		for kind := range impl.Coins {
			more := slices.Clone(p)
			more[kind]++
			want := value + impl.WorthOf(kind)
			if p[kind] == impl.MaxCoins {
				want = -1
			}
			must(t, impl.ValueOf(more) == want, p, kind, impl.ValueOf(more))
		}
	}
}

func TestP1Values(t *testing.T) {
	must(t, impl.ValueOf([]int{0, 0, 0, 0}) == 0, "an empty purse")
	must(t, impl.ValueOf([]int{3, 0, 1, 2}) == 28, "an ordinary purse")
	must(t, impl.ValueOf([]int{20, 20, 20, 20}) == 360, "a full purse")
	for _, p := range [][]int{{10, 0, 0, 0}, {0, 5, 0, 0}, {0, 0, 2, 0}, {0, 0, 0, 1}, {1, 2, 1, 0}} {
		must(t, impl.ValueOf(p) == 10, "purses that are worth the same", p)
	}
	for _, p := range noPurses() {
		must(t, impl.ValueOf(p) == -1, p, impl.ValueOf(p))
	}
}

func TestP2TogetherTheyAreWorthBoth(t *testing.T) {
	for _, p := range fewPurses() {
		for _, q := range fewPurses() {
			checkTogether(t, p, q)
		}
	}
}

func checkTogether(t *testing.T, p []int, q []int) {
	t.Helper()
	both, ok := impl.PutTogether(p, q)
	turned, turnedOk := impl.PutTogether(q, p)
	must(t, ok == turnedOk && slices.Equal(both, turned), p, q, both, turned)
	fits := true
	for kind := range p {
		fits = fits && p[kind]+q[kind] <= 20
	}
	must(t, ok == fits, p, q, ok)
	if !ok {
		must(t, both == nil, p, q, both)
		return
	}
	must(t, impl.PurseOk(both), p, q, both)
	must(t, impl.ValueOf(both) == impl.ValueOf(p)+impl.ValueOf(q), p, q, both)
	must(t, impl.WithinOf(p, both) && impl.WithinOf(q, both), p, q, both)
	rest, ok := impl.TakenOut(both, p)
	must(t, ok && slices.Equal(rest, q), p, q, rest)
	rest, ok = impl.TakenOut(both, q)
	must(t, ok && slices.Equal(rest, p), p, q, rest)
}

func TestP2PutTogether(t *testing.T) {
	both, ok := impl.PutTogether([]int{3, 0, 1, 2}, []int{1, 1, 0, 4})
	must(t, ok && slices.Equal(both, []int{4, 1, 1, 6}), both, ok)
	both, ok = impl.PutTogether([]int{0, 0, 0, 0}, []int{0, 0, 0, 0})
	must(t, ok && slices.Equal(both, []int{0, 0, 0, 0}), "empty purses", both, ok)
	for kind := range impl.Coins {
		p, q := []int{1, 1, 1, 1}, []int{2, 2, 2, 2}
		p[kind], q[kind] = 15, 5
		both, ok = impl.PutTogether(p, q)
		must(t, ok && both[kind] == 20, "as many as may be", p, q, both, ok)
		q[kind] = 6
		both, ok = impl.PutTogether(p, q)
		must(t, !ok && both == nil, "one too many", p, q, both, ok)
	}
	for _, p := range noPurses() {
		for _, q := range [][]int{{0, 0, 0, 0}, {3, 0, 1, 2}, p} {
			both, ok = impl.PutTogether(p, q)
			must(t, !ok && both == nil, p, q, both, ok)
			both, ok = impl.PutTogether(q, p)
			must(t, !ok && both == nil, q, p, both, ok)
		}
	}
	both, ok = impl.PutTogether([]int{21, 0, 0, 0}, []int{-1, 0, 0, 0})
	must(t, !ok && both == nil, "no purses that would be one together", both, ok)
}

func TestP3WhatIsWithinIsWorthNoMore(t *testing.T) {
	for _, p := range manyPurses() {
		must(t, impl.WithinOf(p, p), p)
	}
	for _, p := range fewPurses() {
		for _, q := range fewPurses() {
			within := p[0] <= q[0] && p[1] <= q[1] && p[2] <= q[2] && p[3] <= q[3]
			must(t, impl.WithinOf(p, q) == within, p, q, within)
			if within {
				must(t, impl.ValueOf(p) <= impl.ValueOf(q), p, q)
				must(t, impl.CoinsIn(p) <= impl.CoinsIn(q), p, q)
			}
		}
	}
}

func TestP3Within(t *testing.T) {
	must(t, impl.WithinOf([]int{0, 0, 0, 0}, []int{0, 0, 0, 0}), "empty purses")
	must(t, impl.WithinOf([]int{0, 0, 0, 0}, []int{0, 0, 0, 1}), "nothing in a purse")
	must(t, !impl.WithinOf([]int{0, 0, 0, 1}, []int{0, 0, 0, 0}), "a purse in nothing")
	same := [][]int{{10, 0, 0, 0}, {0, 5, 0, 0}, {0, 0, 2, 0}, {0, 0, 0, 1}}
	for i, p := range same {
		for j, q := range same {
			must(t, impl.WithinOf(p, q) == (i == j), "worth the same", p, q)
		}
	}
	for _, p := range noPurses() {
		for _, q := range [][]int{{0, 0, 0, 0}, {20, 20, 20, 20}, p} {
			must(t, !impl.WithinOf(p, q) && !impl.WithinOf(q, p), p, q)
		}
	}
}

func TestP4TakenOutAndPutBackItIsAsBefore(t *testing.T) {
	for _, p := range fewPurses() {
		for _, q := range fewPurses() {
			rest, ok := impl.TakenOut(p, q)
			must(t, ok == impl.WithinOf(q, p), p, q, ok)
			if !ok {
				must(t, rest == nil, p, q, rest)
				continue
			}
			back, ok := impl.PutTogether(rest, q)
			must(t, ok && slices.Equal(back, p), p, q, back)
		}
	}
}

func TestP4TakenOut(t *testing.T) {
	rest, ok := impl.TakenOut([]int{20, 3, 1, 2}, []int{7, 3, 0, 1})
	must(t, ok && slices.Equal(rest, []int{13, 0, 1, 1}), rest, ok)
	rest, ok = impl.TakenOut([]int{0, 0, 0, 0}, []int{0, 0, 0, 0})
	must(t, ok && slices.Equal(rest, []int{0, 0, 0, 0}), "empty purses", rest, ok)
	rest, ok = impl.TakenOut([]int{20, 20, 20, 20}, []int{20, 20, 20, 20})
	must(t, ok && slices.Equal(rest, []int{0, 0, 0, 0}), "all coins", rest, ok)
	for kind := range impl.Coins {
		p, q := []int{5, 5, 5, 5}, []int{0, 0, 0, 0}
		q[kind] = 6
		rest, ok = impl.TakenOut(p, q)
		must(t, !ok && rest == nil, "one too many", p, q, rest, ok)
	}
	rest, ok = impl.TakenOut([]int{0, 0, 0, 1}, []int{0, 0, 2, 0})
	must(t, !ok && rest == nil, "worth the same", rest, ok)
	for _, p := range noPurses() {
		for _, q := range [][]int{{0, 0, 0, 0}, {20, 20, 20, 20}, p} {
			rest, ok = impl.TakenOut(p, q)
			must(t, !ok && rest == nil, p, q, rest, ok)
			rest, ok = impl.TakenOut(q, p)
			must(t, !ok && rest == nil, q, p, rest, ok)
		}
	}
}

func TestP45GreaterKindsAreWorthMore(t *testing.T) {
	for kind := 1; kind < impl.Coins; kind++ {
		must(t, impl.WorthOf(kind) > impl.WorthOf(kind-1), kind)
	}
	for kind, worth := range []int{1, 2, 5, 10} {
		must(t, impl.WorthOf(kind) == worth, kind, impl.WorthOf(kind))
	}
	for _, kind := range []int{-1, -2, 4, 5, 10, math.MaxInt, math.MinInt} {
		must(t, impl.WorthOf(kind) == -1, kind, impl.WorthOf(kind))
	}
}

func TestP46PursesMayBeEmpty(t *testing.T) {
	must(t, impl.PurseOk([]int{0, 0, 0, 0}), "an empty purse")
	must(t, impl.PurseOk([]int{20, 20, 20, 20}), "a full purse")
	for _, p := range manyPurses() {
		must(t, impl.PurseOk(p), p)
		for kind := range impl.Coins {
			less := slices.Clone(p)
			less[kind] = 0
			must(t, impl.PurseOk(less), less)
		}
	}
	for _, p := range noPurses() {
		must(t, !impl.PurseOk(p), p)
	}
	for kind := range impl.Coins {
		for count := -3; count <= 24; count++ {
			p := []int{1, 20, 0, 7}
			p[kind] = count
			must(t, impl.PurseOk(p) == (count >= 0 && count <= 20), p)
		}
	}
}

func TestP47CoinsAreCounted(t *testing.T) {
	for _, p := range manyPurses() {
		must(t, impl.CoinsIn(p) == p[0]+p[1]+p[2]+p[3], p, impl.CoinsIn(p))
	}
	must(t, impl.CoinsIn([]int{0, 0, 0, 0}) == 0, "an empty purse")
	must(t, impl.CoinsIn([]int{20, 20, 20, 20}) == 80, "a full purse")
	must(t, impl.CoinsIn([]int{0, 0, 2, 0}) == 2, "two coins of 5")
	must(t, impl.CoinsIn([]int{0, 0, 0, 1}) == 1, "worth the same, and another number of coins")
	for _, p := range noPurses() {
		must(t, impl.CoinsIn(p) == -1, p, impl.CoinsIn(p))
	}
}

func TestP48TextsOfPursesAreRead(t *testing.T) {
	told := map[string]bool{}
	for _, p := range allPurses() {
		text := impl.PurseText(p)
		must(t, text == plainText(p), p, text)
		must(t, !told[text], "told of two purses", text)
		told[text] = true
		read, ok := impl.ReadPurse(text)
		must(t, ok && slices.Equal(read, p), p, text, read, ok)
	}
}

func TestP48PurseTexts(t *testing.T) {
	for text, p := range map[string][]int{
		"0":                    {0, 0, 0, 0},
		"1x1":                  {1, 0, 0, 0},
		"5x2":                  {0, 5, 0, 0},
		"2x5":                  {0, 0, 2, 0},
		"1x10":                 {0, 0, 0, 1},
		"2x10+1x5+3x1":         {3, 0, 1, 2},
		"10x10+10x1":           {10, 0, 0, 10},
		"20x10+20x5+20x2+20x1": {20, 20, 20, 20},
	} {
		must(t, impl.PurseText(p) == text, p, impl.PurseText(p))
	}
	for _, p := range noPurses() {
		must(t, impl.PurseText(p) == "", p, impl.PurseText(p))
	}
}

func TestP49ReadTextsAreCanonical(t *testing.T) {
	for _, s := range noPurseTexts() {
		p, ok := impl.ReadPurse(s)
		must(t, !ok && p == nil, strconv.Quote(s), p, ok)
	}
}

func noPurseTexts() []string {
	return []string{
		"", " ", "x", "+", "1", "10", "00", "-0", "+0", "0 ", " 0", "0\n", "0+0",
		"0x1", "0x5", "0x10", "1x10+0x1", "0x10+1x1", "-1x1", "+1x1", "-0x1", "21x1", "21x10", "20x10+21x1",
		"01x1", "1x01", "00x1", "1x010", "020x1", "1x", "x1", "1xx1", "1x1x1", "1x10x", "1X1", "1*1", "1x-1",
		"1x0", "1x3", "1x20", "1x100", "1x1 ", " 1x1", "1 x1", "1x 1", "1x1\n", "1x1\x00", "\xff", "1x1\xff",
		"4x2+1x10", "1x1+1x10", "1x5+1x10", "1x1+1x2", "1x2+1x2", "1x10+1x10", "1x2+2x2", "1x2+1x1+1x1",
		"+1x1", "1x1+", "1x10++1x1", "1x10+1x1+", "1x10,1x1", "1x10 + 1x1", "1x10+1", "1x10+0", "0+1x1", "1x10+x1",
		"1_0x1", "1e1x1", "0x1x1", "0b1x1", "18446744073709551617x1", "99999999999999999999x1", "1x18446744073709551617",
		"١x1", "1×1", strings.Repeat("1x1+", 5000) + "1x1", strings.Repeat("9", 5000) + "x1",
	}
}

// Each text near that of a purse is read exactly if it is the text of a purse itself.
func TestP49NoOtherTextsAreRead(t *testing.T) {
	told := map[string][]int{}
	for _, p := range allPurses() {
		told[plainText(p)] = p
	}
	for _, p := range pursesOf(0, 1, 12, 20) {
		for _, s := range near(plainText(p)) {
			checkRead(t, told, s)
		}
	}
}

func TestP49ShortTexts(t *testing.T) {
	told := map[string][]int{}
	for _, p := range allPurses() {
		told[plainText(p)] = p
	}
	texts := []string{""}
	for range 6 {
		var longer []string
		for _, s := range texts {
			checkRead(t, told, s)
			for _, letter := range "0125x+" {
				longer = append(longer, s+string(letter))
			}
		}
		texts = longer
	}
	for _, s := range texts {
		checkRead(t, told, s)
	}
}

// near returns the texts with one byte less, one byte other or one byte more.
func near(s string) []string {
	var list []string
	for i := range len(s) + 1 {
		for _, letter := range "0129x+- \x00" {
			list = append(list, s[:i]+string(letter)+s[i:])
			if i < len(s) {
				list = append(list, s[:i]+string(letter)+s[i+1:])
			}
		}
		if i < len(s) {
			list = append(list, s[:i]+s[i+1:])
		}
	}
	return list
}

func checkRead(t *testing.T, told map[string][]int, s string) {
	t.Helper()
	want, is := told[s]
	p, ok := impl.ReadPurse(s)
	must(t, ok == is && slices.Equal(p, want), strconv.Quote(s), p, ok)
	must(t, !ok || impl.PurseText(p) == s, strconv.Quote(s), p)
}

func TestPursesAreNotWrittenTo(t *testing.T) {
	first, second := roomy([]int{5, 4, 3, 2}), roomy([]int{1, 4, 0, 2})
	impl.PurseOk(first)
	impl.ValueOf(first)
	impl.CoinsIn(first)
	impl.PurseText(first)
	impl.WithinOf(second, first)
	both, _ := impl.PutTogether(first, second)
	rest, _ := impl.TakenOut(first, second)
	again, _ := impl.TakenOut(first, second)
	read, _ := impl.ReadPurse("1x10")
	readAgain, _ := impl.ReadPurse("1x10")
	for _, p := range [][]int{both, rest, read} {
		for i := range p[:cap(p)] {
			p[:cap(p)][i] = 77
		}
	}
	must(t, slices.Equal(first[:12], []int{5, 4, 3, 2, 0, 0, 0, 0, 0, 0, 0, 0}), first[:12])
	must(t, slices.Equal(second[:12], []int{1, 4, 0, 2, 0, 0, 0, 0, 0, 0, 0, 0}), second[:12])
	must(t, slices.Equal(again, []int{4, 0, 3, 0}), again)
	must(t, slices.Equal(readAgain, []int{0, 0, 0, 1}), readAgain)
	must(t, impl.WorthOf(0) == 1, "what coins are worth is kept")
}

// A purse may stand for both arguments: a result is a copy all the same.
func TestPurseWithItself(t *testing.T) {
	p := roomy([]int{10, 0, 1, 2})
	both, ok := impl.PutTogether(p, p)
	must(t, ok && slices.Equal(both, []int{20, 0, 2, 4}), both, ok)
	rest, ok := impl.TakenOut(p, p)
	must(t, ok && slices.Equal(rest, []int{0, 0, 0, 0}), rest, ok)
	must(t, slices.Equal(p, []int{10, 0, 1, 2}), p)
}
