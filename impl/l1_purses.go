package impl

import (
	"strconv"
	"strings"
)

// Coins is the number of kinds of coins, and MaxCoins the greatest number of coins of a kind in a purse.
const (
	Coins    = 4
	MaxCoins = 20
)

const emptyText = "0"

var worths = [Coins]int{1, 2, 5, 10}

// purse is the count of each kind. As an array it is copied wherever it is passed on,
// so no function can change the purse of another one.
type purse [Coins]int

// purseFrom returns the purse that a slice tells, and whether it is one (PurseOk).
func purseFrom(list []int) (purse, bool) {
	var p purse
	if len(list) != Coins {
		return p, false
	}
	copy(p[:], list)
	return p, p.inBounds()
}

// pursesFrom returns two purses, and whether both are one.
func pursesFrom(p []int, q []int) (purse, purse, bool) {
	first, firstOk := purseFrom(p)
	second, secondOk := purseFrom(q)
	return first, second, firstOk && secondOk
}

func (p purse) inBounds() bool {
	for _, count := range p {
		if count < 0 || count > MaxCoins {
			return false
		}
	}
	return true
}

func (p purse) value() int {
	sum := 0
	for kind, count := range p {
		sum += count * worths[kind]
	}
	return sum
}

func (p purse) coins() int {
	sum := 0
	for _, count := range p {
		sum += count
	}
	return sum
}

func (p purse) plus(q purse) purse {
	for kind, count := range q {
		p[kind] += count
	}
	return p
}

func (p purse) minus(q purse) purse {
	for kind, count := range q {
		p[kind] -= count
	}
	return p
}

// common returns the coins that both purses have.
func (p purse) common(q purse) purse {
	for kind, count := range q {
		p[kind] = min(p[kind], count)
	}
	return p
}

func (p purse) within(q purse) bool {
	return p.common(q) == p
}

func (p purse) text() string {
	if p == (purse{}) {
		return emptyText
	}
	var parts []string
	for kind := Coins - 1; kind >= 0; kind-- {
		if p[kind] > 0 {
			parts = append(parts, strconv.Itoa(p[kind])+"x"+strconv.Itoa(worths[kind]))
		}
	}
	return strings.Join(parts, "+")
}

// readPart returns the kind and the count of a part of a purse's text, and whether it tells both.
func readPart(s string) (int, int, bool) {
	number, worth, _ := strings.Cut(s, "x")
	count, err := strconv.Atoi(number)
	if err != nil {
		return 0, 0, false
	}
	for kind := range Coins {
		if strconv.Itoa(worths[kind]) == worth {
			return kind, count, true
		}
	}
	return 0, 0, false
}

// readParts returns a purse with the counts that a text tells. It is lenient about how they are told.
func readParts(s string) (purse, bool) {
	var p purse
	if s == emptyText {
		return p, true
	}
	for _, part := range strings.Split(s, "+") {
		kind, count, ok := readPart(part)
		if !ok {
			return purse{}, false
		}
		p[kind] = count
	}
	return p, p.inBounds()
}

// WorthOf returns what a coin is worth, told by the number of its kind, from 0 on: 1, 2, 5 and 10; -1 for others.
func WorthOf(kind int) int {
	if kind < 0 || kind >= Coins {
		return -1
	}
	return worths[kind]
}

// PurseOk reports whether a purse has a number of coins for each kind, in 0..MaxCoins.
func PurseOk(p []int) bool {
	_, ok := purseFrom(p)
	return ok
}

// ValueOf returns what all coins of a purse (PurseOk) are worth together; -1 for others.
func ValueOf(p []int) int {
	own, ok := purseFrom(p)
	if !ok {
		return -1
	}
	return own.value()
}

// CoinsIn returns how many coins a purse (PurseOk) has; -1 for others.
func CoinsIn(p []int) int {
	own, ok := purseFrom(p)
	if !ok {
		return -1
	}
	return own.coins()
}

// PutTogether returns two purses (PurseOk) put together, kind by kind, and true; nil and false if it is none (PurseOk), and for others.
func PutTogether(p []int, q []int) ([]int, bool) {
	first, second, ok := pursesFrom(p, q)
	if !ok {
		return nil, false
	}
	both := first.plus(second)
	if !both.inBounds() {
		return nil, false
	}
	return both[:], true
}

// WithinOf reports whether a purse is within another one (PurseOk): whether it has no more coins of any kind; false for others.
func WithinOf(p []int, q []int) bool {
	inner, outer, ok := pursesFrom(p, q)
	return ok && inner.within(outer)
}

// TakenOut returns a purse with the coins of another one that is within it (WithinOf) taken out, kind by kind, and true; nil and false for others.
func TakenOut(p []int, q []int) ([]int, bool) {
	outer, inner, ok := pursesFrom(p, q)
	if !ok || !inner.within(outer) {
		return nil, false
	}
	rest := outer.minus(inner)
	return rest[:], true
}

// PurseText returns the text of a purse (PurseOk): for each kind from the greatest worth down of which there are coins: their number, an x, and what one is worth, with a plus sign between each two; 0 for an empty purse; "" for others.
func PurseText(p []int) string {
	own, ok := purseFrom(p)
	if !ok {
		return ""
	}
	return own.text()
}

// ReadPurse returns the purse whose PurseText a text is, and true; nil and false if there is none.
func ReadPurse(s string) ([]int, bool) {
	p, ok := readParts(s)
	// A purse has only one text: another order, a kind told twice or a leading zero is none.
	if !ok || p.text() != s {
		return nil, false
	}
	return p[:], true
}
