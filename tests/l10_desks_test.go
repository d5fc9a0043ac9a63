package tests

import (
	"math"
	"math/rand/v2"
	"regexp"
	"slices"
	"strconv"
	"strings"
	"testing"
	"unsafe"

	"loop.example/coinmachine/impl"
)

func deskOf(m impl.Machine, acts ...impl.Act) impl.Desk {
	return impl.Desk{Start: m, Acts: acts}
}

func takeOf(a impl.Act) impl.Deed {
	return impl.Deed{Take: a}
}

func backDeed() impl.Deed {
	return impl.Deed{Back: true}
}

func sameDesk(d impl.Desk, other impl.Desk) bool {
	return sameMachine(d.Start, other.Start) && slices.Equal(d.Acts, other.Acts)
}

func copyOfDesk(d impl.Desk) impl.Desk {
	return deskOf(copyOf(d.Start), slices.Clone(d.Acts)...)
}

func isZeroDesk(d impl.Desk) bool {
	return isZero(d.Start) && d.Acts == nil
}

// exampleMachine is the machine of the document's examples.
func exampleMachine() impl.Machine {
	return machineOf([]int{1, 1, 0, 0}, []int{0, 0, 0, 0}, goodsOf(7, 1, 3, 2))
}

// deskMachines has machines with which many acts are done, and machines that are full, empty or without goods.
func deskMachines() []impl.Machine {
	return slices.Concat(searchMachines(), unlikeMachines(), runMachines(), randomMachines(30))
}

// doneRun returns so many acts that are done with a machine, one after the other.
func doneRun(random *rand.Rand, m impl.Machine, long int) []impl.Act {
	choice := append(trueActs(), coinOf(2), coinOf(3), coinOf(3), pickOf(0), pickOf(0), pickOf(1), pickOf(1), pickOf(2))
	var acts []impl.Act
	for len(acts) < long {
		a := choice[random.IntN(len(choice))]
		after, what := plainActed(m, a)
		if what.Done {
			m, acts = after, append(acts, a)
		}
	}
	return acts
}

// manyDesks has desks of all numbers of acts up to 20. They are the same ones in each call.
func manyDesks() []impl.Desk {
	random := rand.New(rand.NewPCG(10, 41))
	var list []impl.Desk
	for at, m := range deskMachines() {
		for _, long := range []int{0, 1 + at%5, 6 + at%13, 19, 20} {
			list = append(list, deskOf(m, doneRun(random, m, long)...))
		}
	}
	return list
}

// fewDesks has desks without acts and with 20, one that can do nothing but give back, and one of each kind in between.
func fewDesks() []impl.Desk {
	m := exampleMachine()
	desks := manyDesks()
	return []impl.Desk{
		deskOf(m), deskOf(m, coinOf(3)), deskOf(m, coinOf(3), pickOf(0)), deskOf(m, coinOf(3), pickOf(0), coinOf(1), coinOf(0), pickOf(1), coinOf(2), backAct()),
		deskOf(m, slices.Repeat([]impl.Act{backAct()}, 19)...), deskOf(m, slices.Repeat([]impl.Act{coinOf(1)}, 20)...),
		deskOf(machineOf([]int{20, 20, 20, 20}, []int{20, 20, 20, 20}, nil)), deskOf(machineOf([]int{0, 0, 0, 0}, []int{0, 1, 0, 0}, nil), backAct()),
		desks[2], desks[13], desks[21], desks[58], desks[94],
	}
}

// noDesks has desks of what is no machine, with an act too many, and with an act that is not done at first, in the middle and at last.
func noDesks() []impl.Desk {
	list := []impl.Desk{{}, {Acts: []impl.Act{}}, {Acts: []impl.Act{backAct()}}}
	for _, m := range noMachines() {
		list = append(list, deskOf(m), deskOf(m, coinOf(3)), deskOf(m, backAct(), coinOf(0)))
	}
	for _, long := range []int{21, 22, 40, 41, 1000} {
		list = append(list,
			deskOf(exampleMachine(), slices.Repeat([]impl.Act{backAct()}, long)...),
			deskOf(machineOf([]int{5, 5, 5, 5}, []int{0, 0, 0, 0}, nil), slices.Repeat([]impl.Act{coinOf(0), backAct()}, long)[:long]...))
	}
	never := append(otherActs(), pickOf(2))
	done := []impl.Act{coinOf(3), pickOf(0), coinOf(1), coinOf(0), pickOf(1), backAct()}
	for _, a := range never {
		for at := range len(done) + 1 {
			list = append(list, deskOf(exampleMachine(), slices.Insert(slices.Clone(done), at, a)...))
		}
	}
	return append(list,
		deskOf(exampleMachine(), pickOf(0)), deskOf(exampleMachine(), coinOf(3), pickOf(1)), deskOf(exampleMachine(), coinOf(3), pickOf(0), pickOf(0)),
		deskOf(exampleMachine(), pickOf(0), coinOf(3)), deskOf(exampleMachine(), pickOf(0), coinOf(3), pickOf(0)),
		deskOf(machineOf([]int{0, 0, 0, 0}, []int{20, 0, 0, 0}, nil), coinOf(0), backAct()),
		deskOf(machineOf([]int{0, 0, 0, 0}, []int{1, 0, 0, 0}, nil), slices.Repeat([]impl.Act{coinOf(0)}, 20)...))
}

// manyDeeds has each act as a deed, also those that are never done, and taking back with and without an act.
func manyDeeds() []impl.Deed {
	list := []impl.Deed{backDeed()}
	for _, a := range append(trueActs(), otherActs()...) {
		list = append(list, takeOf(a), impl.Deed{Back: true, Take: a})
	}
	return list
}

// plainDeskOk is DeskOk as the document tells it, written down anew for the tests.
func plainDeskOk(d impl.Desk) bool {
	if !impl.MachineOk(d.Start) || len(d.Acts) > 20 {
		return false
	}
	_, results := plainRun(d.Start, d.Acts)
	return !slices.ContainsFunc(results, func(r impl.Result) bool { return !r.Done })
}

// plainDo is DeskDo of a desk as the document tells it, written down anew for the tests.
func plainDo(d impl.Desk, a impl.Deed) (impl.Desk, bool) {
	if a == backDeed() {
		last := len(d.Acts) - 1
		if last < 0 {
			return copyOfDesk(d), false
		}
		return copyOfDesk(deskOf(d.Start, d.Acts[:last]...)), true
	}
	longer := copyOfDesk(d)
	longer.Acts = append(longer.Acts, a.Take)
	if a.Back || !plainDeskOk(longer) {
		return copyOfDesk(d), false
	}
	return longer, true
}

// plainDeed is ReadDeed as the document tells it, written down anew for the tests.
func plainDeed(s string) (impl.Deed, bool) {
	if s == "back" {
		return backDeed(), true
	}
	told := regexp.MustCompile(`^(coin|pick|give) ([0-9])$`).FindStringSubmatch(s)
	if told == nil {
		return impl.Deed{}, false
	}
	return takeOf(impl.Act{Do: strings.Index("coin pick give", told[1]) / 5, N: int(told[2][0] - '0')}), true
}

// plainJournal is ReadJournal as the document tells it, written down anew for the tests.
func plainJournal(s string) ([]impl.Deed, int) {
	var list []impl.Deed
	long := 0
	for _, line := range strings.SplitAfter(s, "\n") {
		a, ok := plainDeed(strings.TrimSuffix(line, "\n"))
		if !ok || line == strings.TrimSuffix(line, "\n") {
			break
		}
		list, long = append(list, a), long+len(line)
	}
	return list, long
}

func plainNumbers(list []int) string {
	text := ""
	for _, number := range list {
		text += "," + strconv.Itoa(number)
	}
	if text == "" {
		return "none"
	}
	return text[1:]
}

func plainYes(holds bool) string {
	return map[bool]string{true: "yes", false: "no"}[holds]
}

func sureActs() []impl.Act {
	return []impl.Act{{Do: 0, N: 3}, {Do: 1, N: 0}, {Do: 1, N: 1}, {Do: 2, N: 0}}
}

// plainSaid is DeskLine of a desk as the document tells it, written down anew for the tests.
func plainSaid(d impl.Desk, line string) (impl.Desk, string) {
	if a, ok := plainDeed(line); ok {
		after, done := plainDo(d, a)
		return after, map[bool]string{true: "ok", false: "not"}[done]
	}
	return copyOfDesk(d), plainAnswer(d, line)
}

// plainAnswer is what a line that is no deed is answered by.
func plainAnswer(d impl.Desk, line string) string {
	now, results := plainRun(d.Start, d.Acts)
	var stock, can []int
	for at, good := range now.Goods {
		stock = append(stock, good.Stock)
		if _, what := plainActed(now, pickOf(at)); what.Done {
			can = append(can, at)
		}
	}
	tape, _ := plainWritten(d.Acts, results)
	answers := map[string]string{
		"money": strconv.Itoa(plainWorth(now.Own) + plainWorth(now.In)),
		"in":    plainText(now.In),
		"own":   plainText(now.Own),
		"can":   plainNumbers(can),
		"stock": plainNumbers(stock),
		"done":  strconv.Itoa(len(d.Acts)),
		"tape":  plainTapeText(tape),
	}
	if len(tape) == 0 {
		answers["tape"] = "none"
	}
	if answer, ok := answers[line]; ok {
		return answer
	}
	if told := regexp.MustCompile(`^change (0|[1-9][0-9]?)$`).FindStringSubmatch(line); told != nil {
		return plainChangeAnswer(now, told[1])
	}
	claim, ok := strings.CutPrefix(line, "claim ")
	if ok && len(claim) <= 20 && plainClaim(claim) {
		return plainYes(len(d.Acts) == 0 || plainAnswers(claim, toldRun{d.Acts, results})[0])
	}
	claim, ok = strings.CutPrefix(line, "sure ")
	if ok && len(claim) <= 20 && plainClaim(claim) {
		return plainYes(plainBreaking(searchedRuns(now, sureActs())[:4+16+64], claim) == nil)
	}
	return "what"
}

func plainChangeAnswer(now impl.Machine, number string) string {
	both := plainSum(now.Own, now.In)
	amount, _ := strconv.Atoi(number)
	if slices.Max(both) > 20 {
		return "none"
	}
	given, ok := plainFewest(both, amount)
	if !ok {
		return "none"
	}
	return plainText(given)
}

// words are the questions that are one word.
func words() []string {
	return []string{"money", "in", "own", "can", "stock", "done", "tape"}
}

// deedLines has lines of deeds of each kind, also of such as are never done.
func deedLines() []string {
	return []string{"coin 0", "coin 1", "coin 2", "coin 3", "coin 4", "coin 9", "pick 0", "pick 1", "pick 2", "pick 3", "give 0", "give 1", "back"}
}

// askLines has questions of each kind.
func askLines() []string {
	return append(words(), "change 0", "change 1", "change 3", "change 9", "change 13", "change 40", "change 99",
		"claim d", "claim Gd", "claim Fg", "claim F(g&o)", "claim !F!c", "claim Xp", "claim (cUp)", "sure c", "sure G!g", "sure G(!g|o)", "sure !XXXd", "sure (d|!d)")
}

// otherLines are no deeds and no questions.
func otherLines() []string {
	return []string{
		"", " ", "  ", "\n", "\x00", "\xff", "\uFEFFmoney", "what", "ok", "not", "none", "yes", "no", "help", "0", "-",
		"Money", "MONEY", "money ", " money", "money\n", "money\x00", "moneymoney", "money money", "money 0", "mone", "moneyy", "in ", "in 0", "inn", "i", "own 1", "ow", "can 0", "cans",
		"stock 0", "sto", "done?", "done ", "don", "tape ", "tapes", "tap", "tape 0", "money\nin", "money,in", "in own",
		"coin", "coin ", "coin  3", "coin 3 ", " coin 3", "coin3", "coin 03", "coin 10", "coin -1", "coin +3", "coin x", "coin 3\n", "coin\t3", "coin 3 3", "Coin 3", "coin ３", "coin 3\xff",
		"pick", "pick ", "pick 00", "pick 12", "pick a", "give", "give ", "give 00", "give back", "give -0", "back ", " back", "back 0", "Back", "backback", "back\n", "bac",
		"change", "change ", "change  1", "change 1 ", " change 1", "change 00", "change 01", "change 07", "change 099", "change 100", "change 101", "change 1000", "change -1", "change -0", "change +1", "change 1.0",
		"change 0x1", "change 1_0", "change 1e1", "change x", "change 7x", "change ９", "change\t1", "change1", "change 1 1", "change 18446744073709551616", "change 18446744073709551617", "change 4294967297", "Change 1", "changes 1",
		"claim", "claim ", "claim  d", "claim d ", " claim d", "claimd", "claim\td", "claim (", "claim x", "claim dd", "claim (c)", "claim D", "Claim d", "claim claim d", "claim d\n", "claims d",
		"sure", "sure ", "sure  d", "sure d ", " sure d", "sured", "sure (", "sure x", "sure cc", "sure (c&d", "Sure d", "sure sure d", "unsure d", "sure G", "sure \x00",
		strings.Repeat("coin 3", 100000), "change " + strings.Repeat("9", 100000), "change " + strings.Repeat("0", 100000), "claim " + strings.Repeat("!", 100000) + "d", "sure " + strings.Repeat("(", 100000), strings.Repeat(" ", 100000),
	}
}

// mixedLines returns so many lines of all kinds, most of them deeds.
func mixedLines(random *rand.Rand, long int) []string {
	other := otherLines()
	kinds := [][]string{deedLines(), {"coin 3", "coin 2", "pick 0", "pick 1", "give 0", "back"}, deedLines(), askLines(), other[:len(other)-6]}
	var lines []string
	for range long {
		kind := kinds[random.IntN(len(kinds))]
		lines = append(lines, kind[random.IntN(len(kind))])
	}
	return lines
}

// mixedDeeds returns so many deeds of all kinds.
func mixedDeeds(random *rand.Rand, long int) []impl.Deed {
	all := manyDeeds()
	some := []impl.Deed{takeOf(coinOf(3)), takeOf(coinOf(2)), takeOf(coinOf(0)), takeOf(pickOf(0)), takeOf(pickOf(1)), takeOf(backAct()), backDeed()}
	var list []impl.Deed
	for range long {
		if random.IntN(3) == 0 {
			list = append(list, all[random.IntN(len(all))])
			continue
		}
		list = append(list, some[random.IntN(len(some))])
	}
	return list
}

// toldDeeds has all deeds of which there is a text.
func toldDeeds() []impl.Deed {
	list := []impl.Deed{backDeed()}
	for at := range 30 {
		list = append(list, takeOf(impl.Act{Do: at / 10, N: at % 10}))
	}
	return list
}

// untoldDeeds has deeds of which there is no text.
func untoldDeeds() []impl.Deed {
	var list []impl.Deed
	for _, n := range outsideOf(9) {
		for do := range 3 {
			list = append(list, takeOf(impl.Act{Do: do, N: n}), impl.Deed{Back: true, Take: impl.Act{Do: do, N: n}})
		}
	}
	for _, do := range outsideOf(2) {
		for _, n := range []int{0, 1, 9, do} {
			list = append(list, takeOf(impl.Act{Do: do, N: n}), impl.Deed{Back: true, Take: impl.Act{Do: do, N: n}})
		}
	}
	for at := 1; at < 30; at++ {
		list = append(list, impl.Deed{Back: true, Take: impl.Act{Do: at / 10, N: at % 10}})
	}
	return list
}

// someJournals has lists of deeds that have texts, of many lengths.
func someJournals() [][]impl.Deed {
	random := rand.New(rand.NewPCG(43, 66))
	all := toldDeeds()
	list := [][]impl.Deed{nil, {}, all}
	for _, long := range []int{1, 1, 1, 2, 2, 3, 5, 12, 20, 39, 40, 41, 200} {
		var deeds []impl.Deed
		for range long {
			deeds = append(deeds, all[random.IntN(len(all))])
		}
		list = append(list, deeds)
	}
	return list
}

func TestDeskConstants(t *testing.T) {
	must(t, impl.MaxLines == 40, impl.MaxLines)
}

func TestP62DesksCanForget(t *testing.T) {
	for _, d := range append(manyDesks(), fewDesks()...) {
		must(t, impl.DeskOk(d), d)
		for long := range len(d.Acts) {
			must(t, impl.DeskOk(deskOf(d.Start, d.Acts[:long]...)), d, long)
		}
		must(t, impl.DeskOk(impl.Desk{Start: d.Start}), d)
	}
}

func TestP62Desks(t *testing.T) {
	for _, d := range noDesks() {
		must(t, !impl.DeskOk(d), d)
	}
	for _, d := range manyDesks() {
		for _, a := range append(trueActs(), otherActs()...) {
			longer := deskOf(d.Start, append(slices.Clone(d.Acts), a)...)
			must(t, impl.DeskOk(longer) == plainDeskOk(longer), longer)
			other := deskOf(d.Start, append([]impl.Act{a}, d.Acts...)...)
			must(t, impl.DeskOk(other) == plainDeskOk(other), other)
		}
	}
	for _, m := range manyMachines() {
		for _, acts := range [][]impl.Act{nil, {}, {coinOf(3)}, {pickOf(0)}, {coinOf(3), pickOf(0)}, {backAct(), backAct()}} {
			d := deskOf(m, acts...)
			must(t, impl.DeskOk(d) == plainDeskOk(d), d)
		}
	}
}

func TestP62NumbersOfActs(t *testing.T) {
	for long := range 45 {
		d := deskOf(exampleMachine(), slices.Repeat([]impl.Act{backAct()}, long)...)
		must(t, impl.DeskOk(d) == (long <= 20), long)
		for at := range long {
			other := copyOfDesk(d)
			other.Acts[at] = pickOf(0)
			must(t, !impl.DeskOk(other), long, at)
		}
	}
}

func TestP63NewDesksHaveNoActs(t *testing.T) {
	for _, m := range append(manyMachines(), deskMachines()...) {
		d, ok := impl.DeskNew(m)
		must(t, ok && sameMachine(d.Start, m) && len(d.Acts) == 0, m, d, ok)
		must(t, impl.DeskOk(d) && sameMachine(impl.NowOf(d), m), m, d)
	}
	for _, m := range noMachines() {
		d, ok := impl.DeskNew(m)
		must(t, !ok && isZeroDesk(d), m, d, ok)
	}
}

func TestP40WhatIsMoreInTheMachineIsOnTheTape(t *testing.T) {
	gained, lost := 0, 0
	for _, d := range append(manyDesks(), fewDesks()...) {
		now := impl.NowOf(d)
		must(t, impl.MachineOk(now), d, now)
		_, results, _ := impl.RunOf(d.Start, d.Acts)
		tape, ok := impl.WrittenFor(d.Acts, results)
		must(t, ok, d)
		takings, ok := impl.TakingsOf(tape)
		more := impl.MoneyIn(now) - impl.MoneyIn(d.Start)
		must(t, ok && takings == more, d, now, takings, more)
		if more > 0 {
			gained++
		}
		if more < 0 {
			lost++
		}
	}
	must(t, gained > 20 && lost > 5, "hardly any takings", gained, lost)
}

func TestP40TheMachineNow(t *testing.T) {
	for _, d := range append(manyDesks(), fewDesks()...) {
		want, _ := plainRun(d.Start, d.Acts)
		must(t, sameMachine(impl.NowOf(d), want), d, impl.NowOf(d))
	}
	for _, d := range noDesks() {
		must(t, isZero(impl.NowOf(d)), d, impl.NowOf(d))
	}
	m := exampleMachine()
	for _, c := range []struct {
		d   impl.Desk
		now impl.Machine
	}{
		{deskOf(m), m},
		{deskOf(m, backAct()), m},
		{deskOf(m, coinOf(3)), machineOf([]int{1, 1, 0, 0}, []int{0, 0, 0, 1}, goodsOf(7, 1, 3, 2))},
		{deskOf(m, coinOf(3), pickOf(0)), machineOf([]int{0, 0, 0, 1}, []int{0, 0, 0, 0}, goodsOf(7, 0, 3, 2))},
		{deskOf(m, coinOf(3), pickOf(0), coinOf(1), coinOf(0), pickOf(1)), machineOf([]int{1, 1, 0, 1}, []int{0, 0, 0, 0}, goodsOf(7, 0, 3, 1))},
	} {
		must(t, sameMachine(impl.NowOf(c.d), c.now), c.d, impl.NowOf(c.d))
	}
}

func TestP41WhatWasDoneCanBeUndone(t *testing.T) {
	done, not := 0, 0
	for _, d := range append(manyDesks(), fewDesks()...) {
		for _, a := range manyDeeds() {
			after, ok := impl.DeskDo(d, a)
			must(t, impl.DeskOk(after), d, a, after)
			if !ok {
				must(t, sameDesk(after, d), "what cannot be done", d, a, after)
				not++
				continue
			}
			if a.Back {
				continue
			}
			before, ok := impl.DeskDo(after, backDeed())
			must(t, ok && sameDesk(before, d), d, a, before, ok)
			done++
		}
	}
	must(t, done > 1000 && not > 1000, "hardly anything is done", done, not)
}

func TestP41DeedsAreAsTold(t *testing.T) {
	for _, d := range append(manyDesks(), fewDesks()...) {
		for _, a := range manyDeeds() {
			want, is := plainDo(d, a)
			after, ok := impl.DeskDo(d, a)
			must(t, ok == is && sameDesk(after, want), d, a, after, ok)
		}
	}
}

// All acts are taken back, one after the other, and no more than there are.
func TestP41TakingBack(t *testing.T) {
	for _, first := range append(manyDesks(), fewDesks()...) {
		d := first
		for long := len(first.Acts) - 1; long >= 0; long-- {
			before, ok := impl.DeskDo(d, backDeed())
			must(t, ok && sameDesk(before, deskOf(first.Start, first.Acts[:long]...)), first, long, before, ok)
			d = before
		}
		before, ok := impl.DeskDo(d, backDeed())
		must(t, !ok && sameDesk(before, deskOf(first.Start)), first, before, ok)
	}
}

func TestP41Deeds(t *testing.T) {
	m := exampleMachine()
	full := slices.Repeat([]impl.Act{backAct()}, 20)
	for _, c := range []struct {
		told  string
		acts  []impl.Act
		deed  impl.Deed
		after []impl.Act
		done  bool
	}{
		{"a coin", nil, takeOf(coinOf(3)), []impl.Act{coinOf(3)}, true},
		{"the coin that is the zero value", nil, impl.Deed{}, []impl.Act{coinOf(0)}, true},
		{"nothing put in", nil, takeOf(pickOf(0)), nil, false},
		{"a good", []impl.Act{coinOf(3)}, takeOf(pickOf(0)), []impl.Act{coinOf(3), pickOf(0)}, true},
		{"no change", []impl.Act{coinOf(3)}, takeOf(pickOf(1)), []impl.Act{coinOf(3)}, false},
		{"nothing to give back", nil, takeOf(backAct()), []impl.Act{backAct()}, true},
		{"giving back is not taking back", []impl.Act{coinOf(3)}, takeOf(backAct()), []impl.Act{coinOf(3), backAct()}, true},
		{"giving back a number", []impl.Act{coinOf(3)}, takeOf(impl.Act{Do: 2, N: 1}), []impl.Act{coinOf(3)}, false},
		{"no kind", []impl.Act{coinOf(3)}, takeOf(impl.Act{Do: 3}), []impl.Act{coinOf(3)}, false},
		{"nothing to take back", nil, backDeed(), nil, false},
		{"the only act", []impl.Act{coinOf(3)}, backDeed(), nil, true},
		{"the last act", []impl.Act{coinOf(3), pickOf(0)}, backDeed(), []impl.Act{coinOf(3)}, true},
		{"taking back with an act", []impl.Act{coinOf(3)}, impl.Deed{Back: true, Take: coinOf(3)}, []impl.Act{coinOf(3)}, false},
		{"taking back with an act that gives back", []impl.Act{coinOf(3)}, impl.Deed{Back: true, Take: backAct()}, []impl.Act{coinOf(3)}, false},
		{"taking back with an act that can be done", []impl.Act{coinOf(3)}, impl.Deed{Back: true, Take: pickOf(0)}, []impl.Act{coinOf(3)}, false},
		{"the last act that may be", full[:19], takeOf(coinOf(3)), append(slices.Clone(full[:19]), coinOf(3)), true},
		{"an act too many", full, takeOf(coinOf(3)), full, false},
		{"giving back too often", full, takeOf(backAct()), full, false},
		{"the last one of 20", full, backDeed(), full[:19], true},
	} {
		after, ok := impl.DeskDo(deskOf(m, c.acts...), c.deed)
		must(t, ok == c.done && sameDesk(after, deskOf(m, c.after...)), c.told, after, ok)
	}
}

// Numbers far out of all ranges name nothing, wherever they stand.
func TestP41NumbersFarOutside(t *testing.T) {
	for _, n := range []int{math.MaxInt, math.MinInt, 1 << 32, -1 << 32, 1<<32 + 3, 256, 259, -253} {
		for do := range 3 {
			for _, a := range []impl.Act{{Do: do, N: n}, {Do: n, N: 0}, {Do: n + do, N: n}} {
				if a.Do == 2 && a.N == 0 {
					continue
				}
				d := deskOf(machineOf([]int{5, 5, 5, 5}, []int{2, 2, 2, 2}, goodsOf(7, 1, 3, 2, 1, 1)), coinOf(3))
				after, ok := impl.DeskDo(d, takeOf(a))
				must(t, !ok && sameDesk(after, d), a, after, ok)
				must(t, !impl.DeskOk(deskOf(d.Start, a)), a)
			}
		}
	}
}

func TestP41DeedsOfNoDesks(t *testing.T) {
	for _, d := range noDesks() {
		for _, a := range []impl.Deed{{}, backDeed(), takeOf(coinOf(3)), takeOf(backAct()), takeOf(pickOf(7)), {Back: true, Take: coinOf(3)}} {
			after, ok := impl.DeskDo(d, a)
			must(t, !ok && isZeroDesk(after), d, a, after, ok)
		}
	}
}

func TestP42WhateverIsDoneItIsADesk(t *testing.T) {
	random := rand.New(rand.NewPCG(42, 10))
	counted := 0
	for at, d := range append(manyDesks(), fewDesks()...) {
		for _, long := range []int{0, 1, 2, 5 + at%30, 40} {
			list := mixedDeeds(random, long)
			after, count := impl.DeskRun(d, list)
			must(t, impl.DeskOk(after), d, list, after)
			want, wantCount := copyOfDesk(d), 0
			for _, a := range list {
				next, ok := plainDo(want, a)
				want = next
				if ok {
					wantCount++
				}
			}
			must(t, sameDesk(after, want) && count == wantCount, d, list, after, count)
			counted += count
		}
	}
	must(t, counted > 3000, "hardly anything is done", counted)
}

func TestP42RunsInTwoParts(t *testing.T) {
	random := rand.New(rand.NewPCG(42, 2))
	for at, d := range append(manyDesks()[:90], fewDesks()...) {
		list := mixedDeeds(random, 40-at%7)
		after, count := impl.DeskRun(d, list)
		for cut := range len(list) + 1 {
			between, first := impl.DeskRun(d, list[:cut])
			must(t, impl.DeskOk(between), d, list, cut, between)
			end, second := impl.DeskRun(between, list[cut:])
			must(t, sameDesk(end, after) && first+second == count, d, list, cut, end, first, second)
		}
	}
}

func TestP42NumbersOfDeeds(t *testing.T) {
	for _, d := range fewDesks() {
		for _, long := range []int{0, 1, 19, 20, 39, 40, 41, 42, 80, 1000} {
			for _, a := range []impl.Deed{takeOf(backAct()), takeOf(pickOf(7)), backDeed()} {
				after, count := impl.DeskRun(d, slices.Repeat([]impl.Deed{a}, long))
				if long > 40 {
					must(t, isZeroDesk(after) && count == 0, d, long, a, after, count)
					continue
				}
				want := map[impl.Deed]int{takeOf(backAct()): min(long, 20-len(d.Acts)), backDeed(): min(long, len(d.Acts))}[a]
				must(t, impl.DeskOk(after) && count == want, d, long, a, after, count)
			}
		}
		for _, list := range [][]impl.Deed{nil, {}} {
			after, count := impl.DeskRun(d, list)
			must(t, sameDesk(after, d) && count == 0, d, after, count)
		}
	}
}

func TestP42Runs(t *testing.T) {
	m := exampleMachine()
	coin, pick, other, give, back := takeOf(coinOf(3)), takeOf(pickOf(0)), takeOf(pickOf(1)), takeOf(backAct()), backDeed()
	for _, c := range []struct {
		list  []impl.Deed
		acts  []impl.Act
		count int
	}{
		{[]impl.Deed{coin, pick}, []impl.Act{coinOf(3), pickOf(0)}, 2},
		{[]impl.Deed{pick, coin}, []impl.Act{coinOf(3)}, 1},
		{[]impl.Deed{coin, other, pick, pick}, []impl.Act{coinOf(3), pickOf(0)}, 2},
		{[]impl.Deed{coin, pick, back, give}, []impl.Act{coinOf(3), backAct()}, 4},
		{[]impl.Deed{back, coin, back, back, back}, nil, 2},
		{[]impl.Deed{coin, back, coin, back, coin}, []impl.Act{coinOf(3)}, 5},
		{[]impl.Deed{{Back: true, Take: coinOf(3)}, {}, {Back: true, Take: coinOf(1)}}, []impl.Act{coinOf(0)}, 1},
		{slices.Concat(slices.Repeat([]impl.Deed{give}, 20), slices.Repeat([]impl.Deed{coin}, 18), []impl.Deed{back, coin}), append(slices.Repeat([]impl.Act{backAct()}, 19), coinOf(3)), 22},
	} {
		after, count := impl.DeskRun(deskOf(m), c.list)
		must(t, sameDesk(after, deskOf(m, c.acts...)) && count == c.count, c.list, after, count)
	}
}

func TestP42RunsOfNoDesks(t *testing.T) {
	for _, d := range noDesks() {
		for _, long := range []int{0, 1, 40, 41} {
			for _, a := range []impl.Deed{takeOf(backAct()), backDeed()} {
				after, count := impl.DeskRun(d, slices.Repeat([]impl.Deed{a}, long))
				must(t, isZeroDesk(after) && count == 0, d, long, a, after, count)
			}
		}
	}
}

func TestP64TextsOfDeedsAreRead(t *testing.T) {
	told := map[string]bool{}
	for _, a := range toldDeeds() {
		text := impl.DeedText(a)
		must(t, text != "" && !told[text], "told of two deeds", a, text)
		told[text] = true
		read, ok := impl.ReadDeed(text)
		must(t, ok && read == a, a, text, read, ok)
	}
	for _, a := range untoldDeeds() {
		must(t, impl.DeedText(a) == "", a, impl.DeedText(a))
	}
	must(t, len(told) == 31, told)
}

func TestP64RangesOfNumbers(t *testing.T) {
	for do := -2; do <= 5; do++ {
		for n := -5; n <= 25; n++ {
			want := ""
			if do >= 0 && do <= 2 && n >= 0 && n <= 9 {
				want = []string{"coin", "pick", "give"}[do] + " " + string(rune('0'+n))
			}
			text := impl.DeedText(takeOf(impl.Act{Do: do, N: n}))
			must(t, text == want, do, n, text)
			want = ""
			if do == 0 && n == 0 {
				want = "back"
			}
			text = impl.DeedText(impl.Deed{Back: true, Take: impl.Act{Do: do, N: n}})
			must(t, text == want, "taking back", do, n, text)
		}
	}
}

func TestP64Texts(t *testing.T) {
	for _, c := range []struct {
		deed impl.Deed
		text string
	}{
		{impl.Deed{}, "coin 0"}, {takeOf(coinOf(3)), "coin 3"}, {takeOf(coinOf(9)), "coin 9"}, {takeOf(pickOf(0)), "pick 0"}, {takeOf(pickOf(2)), "pick 2"},
		{takeOf(pickOf(9)), "pick 9"}, {takeOf(backAct()), "give 0"}, {takeOf(impl.Act{Do: 2, N: 9}), "give 9"}, {backDeed(), "back"},
	} {
		must(t, impl.DeedText(c.deed) == c.text, c.deed, impl.DeedText(c.deed))
		read, ok := impl.ReadDeed(c.text)
		must(t, ok && read == c.deed, c.text, read, ok)
	}
}

// checkReadDeed checks that a text is read as the document tells.
func checkReadDeed(t *testing.T, s string) {
	t.Helper()
	want, is := plainDeed(s)
	a, ok := impl.ReadDeed(s)
	must(t, ok == is && a == want, strconv.Quote(s), a, ok)
	must(t, !ok || impl.DeedText(a) == s, strconv.Quote(s), a)
}

func TestP65ReadTextsAreCanonical(t *testing.T) {
	for _, a := range toldDeeds() {
		s := impl.DeedText(a)
		for _, other := range []string{s + " ", " " + s, s + "\n", s + s, s + "\x00", s + "0", "0" + s, strings.ToUpper(s), s[:4] + " " + s[4:], s[:4] + "\n" + s[4:]} {
			read, ok := impl.ReadDeed(other)
			must(t, !ok && read == impl.Deed{}, strconv.Quote(other), read, ok)
		}
		for i := range len(s) + 1 {
			checkReadDeed(t, s[:i])
			checkReadDeed(t, s[i:])
			for letter := range 256 {
				checkReadDeed(t, s[:i]+string([]byte{byte(letter)})+s[i:])
				if i < len(s) {
					checkReadDeed(t, s[:i]+string([]byte{byte(letter)})+s[i+1:])
				}
			}
			if i < len(s) {
				checkReadDeed(t, s[:i]+s[i+1:])
			}
		}
	}
}

func TestP65OtherTexts(t *testing.T) {
	for _, s := range otherLines() {
		read, ok := impl.ReadDeed(s)
		must(t, !ok && read == impl.Deed{}, strconv.Quote(s[:min(len(s), 200)]), read, ok)
	}
	for _, s := range append(askLines(), "coin 18446744073709551617", "coin 0x1", "coin 1_0", "coin ٣", "pick 3.0", "give ", "take 0", "coin 0\r", "coin\u00a00", "0 coin", "coin 0 back", "back back") {
		checkReadDeed(t, s)
	}
	for _, word := range []string{"coin", "pick", "give", "back", "coins", "take", "", "0"} {
		for number := range 120 {
			for _, between := range []string{" ", "", "  ", "\t", "-", " -", " +", " 0", ","} {
				checkReadDeed(t, word+between+strconv.Itoa(number))
			}
		}
	}
}

func TestP66JournalsAreRead(t *testing.T) {
	for _, list := range someJournals() {
		text := impl.JournalText(list)
		want := ""
		for _, a := range list {
			want += impl.DeedText(a) + "\n"
		}
		must(t, text == want, list, text)
		read, long := impl.ReadJournal(text)
		must(t, slices.Equal(read, list) && long == len(text), list, text, read, long)
	}
	long := slices.Repeat(toldDeeds(), 3000)
	read, bytes := impl.ReadJournal(impl.JournalText(long))
	must(t, slices.Equal(read, long) && bytes == (30*7+5)*3000, "a long journal", len(read), bytes)
}

func TestP66DeedsWithoutTexts(t *testing.T) {
	for _, a := range untoldDeeds() {
		for _, list := range someJournals()[:9] {
			for _, at := range []int{0, len(list) / 2, len(list)} {
				other := slices.Insert(slices.Clone(list), at, a)
				must(t, impl.JournalText(other) == "", other, impl.JournalText(other))
			}
		}
	}
}

func TestP43WhereverAJournalIsCut(t *testing.T) {
	for _, list := range someJournals() {
		text := impl.JournalText(list)
		for cut := range len(text) + 1 {
			lines := strings.Count(text[:cut], "\n")
			deeds, long := impl.ReadJournal(text[:cut])
			must(t, slices.Equal(deeds, list[:lines]), text, cut, deeds)
			must(t, long == strings.LastIndex(text[:cut], "\n")+1 && impl.JournalText(deeds) == text[:long], text, cut, long)
		}
	}
}

// checkJournal checks that a text is read as the document tells, and that JournalText is what was read.
func checkJournal(t *testing.T, s string) {
	t.Helper()
	want, wantLong := plainJournal(s)
	deeds, long := impl.ReadJournal(s)
	must(t, slices.Equal(deeds, want) && long == wantLong, strconv.Quote(s), deeds, long)
	must(t, impl.JournalText(deeds) == s[:long], strconv.Quote(s), deeds, long)
}

func TestP43LinesThatAreNone(t *testing.T) {
	other := append(otherLines(), askLines()...)
	for _, list := range someJournals()[:10] {
		var lines []string
		for _, a := range list {
			lines = append(lines, impl.DeedText(a)+"\n")
		}
		for _, none := range other {
			// A line that ends with a newline too many is one, with an empty line behind it.
			if strings.HasSuffix(none, "\n") {
				continue
			}
			for _, at := range []int{0, len(lines) / 2, len(lines)} {
				s := strings.Join(slices.Insert(slices.Clone(lines), at, none+"\n"), "")
				deeds, long := impl.ReadJournal(s)
				must(t, slices.Equal(deeds, list[:at]) && long == len(strings.Join(lines[:at], "")), strconv.Quote(s[:min(len(s), 300)]), deeds, long)
			}
		}
	}
	for _, s := range []string{"", "\n", "\n\n", "back", "coin 3", "back\ncoin 3", "back\n\ncoin 3\n", "back\r\n", "back\n\r", "back\x00\n", " back\n", "back \n", "\nback\n", "back\ncoin\n", "back;back\n", "coin 3\nback\npick", "\xff\n"} {
		checkJournal(t, s)
	}
}

// One byte of a journal is another one, is left out, or one is put between.
func TestP43OtherBytes(t *testing.T) {
	letters := "cbn 039\n\r\x00\xff"
	for _, list := range someJournals()[:10] {
		s := impl.JournalText(list)
		for i := range len(s) + 1 {
			for at := range len(letters) {
				checkJournal(t, s[:i]+letters[at:at+1]+s[i:])
				if i < len(s) {
					checkJournal(t, s[:i]+letters[at:at+1]+s[i+1:])
				}
			}
			if i < len(s) {
				checkJournal(t, s[:i]+s[i+1:])
			}
		}
	}
}

func TestP43JournalsLeadToDesks(t *testing.T) {
	for _, d := range append(manyDesks()[:60], fewDesks()...) {
		for _, list := range someJournals() {
			text := impl.JournalText(list)
			deeds, _ := impl.ReadJournal(text[:len(text)*2/3])
			if len(deeds) > 40 {
				continue
			}
			want, count := impl.DeskRun(d, deeds)
			var lines []string
			for _, a := range deeds {
				lines = append(lines, impl.DeedText(a))
			}
			after, answers := impl.DeskSay(d, lines)
			oks := 0
			for _, answer := range answers {
				must(t, answer == "ok" || answer == "not", d, lines, answers)
				if answer == "ok" {
					oks++
				}
			}
			must(t, sameDesk(after, want) && oks == count && len(answers) == len(lines), d, lines, after, answers)
		}
	}
}

// checkLine checks that a line is answered as the document tells, and that questions change nothing.
func checkLine(t *testing.T, d impl.Desk, line string) string {
	t.Helper()
	want, wantAnswer := plainSaid(d, line)
	after, answer := impl.DeskLine(d, line)
	must(t, answer == wantAnswer && answer != "", d, strconv.Quote(line), answer, wantAnswer)
	must(t, sameDesk(after, want) && impl.DeskOk(after), d, strconv.Quote(line), after)
	must(t, answer == "ok" || sameDesk(after, d), d, strconv.Quote(line), after)
	return answer
}

func TestP67QuestionsChangeNothing(t *testing.T) {
	for _, d := range append(manyDesks(), fewDesks()...) {
		for _, line := range append(words(), deedLines()...) {
			checkLine(t, d, line)
		}
		must(t, checkLine(t, d, " ") == "what", d)
		must(t, checkLine(t, d, "") == "what", d)
		must(t, checkLine(t, d, "done") == strconv.Itoa(len(d.Acts)), d)
		must(t, checkLine(t, d, "money") == strconv.Itoa(impl.MoneyIn(impl.NowOf(d))), d)
	}
	for _, d := range fewDesks() {
		for _, line := range askLines() {
			checkLine(t, d, line)
		}
	}
}

func TestP67OtherLines(t *testing.T) {
	for _, d := range []impl.Desk{fewDesks()[0], fewDesks()[3], fewDesks()[5], fewDesks()[6]} {
		for _, line := range otherLines() {
			after, answer := impl.DeskLine(d, line)
			must(t, answer == "what" && sameDesk(after, d), d, strconv.Quote(line[:min(len(line), 100)]), after, answer)
		}
		for _, line := range append(askLines(), deedLines()...) {
			for _, other := range []string{line + " ", " " + line, line + "\n", line + "\x00", strings.ToUpper(line), strings.Replace(line, " ", "  ", 1) + ".", line + line} {
				must(t, checkLine(t, d, other) == "what", d, strconv.Quote(other))
			}
		}
	}
}

func TestP67Words(t *testing.T) {
	m := exampleMachine()
	full := machineOf([]int{20, 20, 20, 20}, []int{20, 20, 20, 20}, nil)
	for _, c := range []struct {
		told string
		d    impl.Desk
		// what is answered by money, in, own, can, stock, done and tape
		answers []string
	}{
		{"a new desk", deskOf(m), []string{"3", "0", "1x2+1x1", "none", "1,2", "0", "none"}},
		{"a coin", deskOf(m, coinOf(3)), []string{"13", "1x10", "1x2+1x1", "0", "1,2", "1", "0,3,1,0,0,604;"}},
		{"a good", deskOf(m, coinOf(3), pickOf(0)), []string{"10", "0", "1x10", "none", "0,2", "2", "0,3,1,0,0,604;1,0,1,1,3,618;"}},
		{"two goods", deskOf(machineOf([]int{5, 5, 5, 5}, []int{0, 0, 0, 1}, goodsOf(7, 1, 3, 0, 10, 5))), []string{"100", "1x10", "5x10+5x5+5x2+5x1", "0,2", "1,0,5", "0", "none"}},
		{"nothing at all", deskOf(machineOf([]int{0, 0, 0, 0}, []int{0, 0, 0, 0}, nil)), []string{"0", "0", "0", "none", "none", "0", "none"}},
		{"all that may be", deskOf(full), []string{"720", "20x10+20x5+20x2+20x1", "20x10+20x5+20x2+20x1", "none", "none", "0", "none"}},
		{"much given back", deskOf(full, backAct()), []string{"360", "0", "20x10+20x5+20x2+20x1", "none", "none", "1", "2,0,1,0,360,922;"}},
		{"a good that is gone", deskOf(machineOf([]int{0, 0, 0, 0}, []int{0, 0, 0, 0}, goodsOf(40, 0))), []string{"0", "0", "0", "none", "0", "0", "none"}},
	} {
		for at, word := range words() {
			after, answer := impl.DeskLine(c.d, word)
			must(t, answer == c.answers[at] && sameDesk(after, c.d), c.told, word, answer)
			must(t, checkLine(t, c.d, word) == answer, c.told, word, answer)
		}
	}
}

func TestP67Change(t *testing.T) {
	desks := []impl.Desk{
		deskOf(exampleMachine(), coinOf(3)), deskOf(machineOf([]int{0, 3, 0, 0}, []int{0, 0, 1, 0}, nil)), deskOf(machineOf([]int{0, 0, 0, 0}, []int{0, 0, 0, 0}, nil)),
		deskOf(machineOf([]int{9, 5, 4, 9}, []int{3, 2, 1, 0}, nil)), deskOf(machineOf([]int{10, 20, 0, 19}, []int{10, 0, 20, 1}, goodsOf(1, 1))),
	}
	for _, d := range desks {
		for amount := -5; amount <= 130; amount++ {
			answer := checkLine(t, d, "change "+strconv.Itoa(amount))
			must(t, (answer == "what") == (amount < 0 || amount > 99), d, amount, answer)
			must(t, checkLine(t, d, "change 0"+strconv.Itoa(amount)) == "what", d, amount)
		}
	}
	for _, c := range []struct {
		told   string
		d      impl.Desk
		line   string
		answer string
	}{
		{"nothing", desks[0], "change 0", "0"},
		{"nothing out of nothing", desks[2], "change 0", "0"},
		{"something out of nothing", desks[2], "change 1", "none"},
		{"both purses", desks[0], "change 13", "1x10+1x2+1x1"},
		{"one purse", desks[0], "change 10", "1x10"},
		{"no coins for it", desks[0], "change 7", "none"},
		{"more than there is", desks[0], "change 14", "none"},
		{"where greed misses", desks[1], "change 6", "3x2"},
		{"the greatest amount", desks[3], "change 99", "9x10+1x5+2x2"},
		{"full kinds", desks[4], "change 99", "9x10+1x5+2x2"},
		{"too many of 1", deskOf(machineOf([]int{20, 0, 0, 0}, []int{1, 0, 0, 0}, nil)), "change 1", "none"},
		{"too many of 10", deskOf(machineOf([]int{5, 5, 5, 10}, []int{1, 1, 1, 11}, nil)), "change 1", "none"},
		{"nothing out of too many", deskOf(machineOf([]int{0, 20, 0, 0}, []int{0, 20, 0, 0}, nil)), "change 0", "none"},
		{"too many after an act", deskOf(machineOf([]int{0, 0, 20, 0}, []int{0, 0, 0, 0}, nil), coinOf(2)), "change 5", "none"},
		{"no more too many after it is given back", deskOf(machineOf([]int{0, 0, 20, 0}, []int{0, 0, 0, 0}, nil), coinOf(2), backAct()), "change 5", "1x5"},
	} {
		_, answer := impl.DeskLine(c.d, c.line)
		must(t, answer == c.answer, c.told, answer)
	}
}

func TestP67Claims(t *testing.T) {
	claims := slices.Concat(shortClaims(3), searchClaims(), greatestClaims(), longClaims(2))
	yes, no := 0, 0
	for at, d := range append(manyDesks(), fewDesks()...) {
		for step := range 60 {
			claim := claims[(at*60+step)%len(claims)]
			answer := checkLine(t, d, "claim "+claim)
			must(t, answer == "yes" || len(d.Acts) > 0, "a desk without acts", d, claim, answer)
			if answer == "yes" {
				yes++
			} else {
				no++
			}
		}
	}
	must(t, yes > 1000 && no > 1000, "hardly any claims hold", yes, no)
	d := deskOf(exampleMachine(), coinOf(3), pickOf(0), backAct())
	for claim, answer := range map[string]string{
		"c": "yes", "p": "no", "Xp": "yes", "XXb": "yes", "XXXd": "no", "Gd": "yes", "F(g&o)": "yes", "Fg": "yes", "Gg": "no", "(cUp)": "yes", "(pUb)": "no", "!o": "yes", "Xo": "yes", "XXo": "no", "(((((c&c)&c)&c)&c)": "what",
	} {
		_, told := impl.DeskLine(d, "claim "+claim)
		must(t, told == answer, claim, told)
	}
}

func TestP67Sure(t *testing.T) {
	claims := append(searchClaims(), "!XXXXd", "!XXXc", "!XXo", "G(c|!c)", "!(cUo)", "!F(g&o)")
	yes, no := 0, 0
	for at, d := range append(manyDesks(), fewDesks()...) {
		for step := range 4 {
			claim := claims[(at*4+step)%len(claims)]
			answer := checkLine(t, d, "sure "+claim)
			must(t, (answer == "yes") == impl.SureUpTo(impl.NowOf(d), sureActs(), claim, 3), d, claim, answer)
			if answer == "yes" {
				yes++
			} else {
				no++
			}
		}
	}
	must(t, yes > 100 && no > 100, "hardly any claims are sure", yes, no)
	for _, claim := range claims {
		checkLine(t, fewDesks()[1], "sure "+claim)
		checkLine(t, fewDesks()[5], "sure "+claim)
	}
}

// What is sure hangs on how many acts more are searched, and on which ones.
func TestP67SureActs(t *testing.T) {
	rich := []int{9, 9, 9, 0}
	none := []int{0, 0, 0, 0}
	for _, c := range []struct {
		told   string
		m      impl.Machine
		claim  string
		answer string
	}{
		{"three acts", machineOf(rich, none, nil), "!XXd", "no"},
		{"no more than three acts", machineOf(rich, none, nil), "!XXXd", "yes"},
		{"a coin of 10 is put in", machineOf(rich, none, goodsOf(10, 1)), "G!g", "no"},
		{"two coins of 10 are put in", machineOf(rich, none, goodsOf(20, 1)), "G!g", "no"},
		{"no three coins of 10 are put in before", machineOf(rich, none, goodsOf(21, 1)), "G!g", "yes"},
		{"the first good", machineOf(rich, none, goodsOf(10, 1, 40, 1)), "G!g", "no"},
		{"the second good", machineOf(rich, none, goodsOf(40, 1, 10, 1)), "G!g", "no"},
		{"not the third good", machineOf(rich, none, goodsOf(40, 1, 40, 1, 10, 1)), "G!g", "yes"},
		{"not a coin of 5", machineOf(rich, []int{0, 0, 0, 20}, nil), "(c&d)", "no"},
		{"no coin can be put in", machineOf(rich, []int{0, 0, 0, 20}, nil), "!(c&d)", "yes"},
		{"other coins could be", machineOf(rich, none, nil), "!(c&d)", "no"},
		{"it is given back", machineOf(rich, []int{1, 0, 0, 0}, nil), "!(b&o)", "no"},
		{"nothing is there to give back", machineOf(rich, none, nil), "!(b&o)", "yes"},
		{"giving back is done", machineOf(rich, none, nil), "(!b|d)", "yes"},
		{"acts that are not done count", machineOf(rich, none, nil), "d", "no"},
	} {
		_, answer := impl.DeskLine(deskOf(c.m), "sure "+c.claim)
		must(t, answer == c.answer, c.told, answer)
	}
	// It is asked for the machine now, and of acts that are still to come: also where there may be no act more.
	full := deskOf(exampleMachine(), append([]impl.Act{coinOf(3)}, slices.Repeat([]impl.Act{coinOf(1)}, 19)...)...)
	for line, want := range map[string]string{"sure !(b&o)": "no", "sure !(c&d)": "no", "sure !XXd": "no", "claim XXd": "yes", "claim (b&o)": "no"} {
		_, answer := impl.DeskLine(full, line)
		must(t, answer == want, line, answer)
	}
	_, answer := impl.DeskLine(deskOf(exampleMachine(), coinOf(3), pickOf(0)), "sure G(!g|o)")
	must(t, answer == checkLine(t, deskOf(impl.NowOf(deskOf(exampleMachine(), coinOf(3), pickOf(0)))), "sure G(!g|o)"), answer)
}

func TestP67ClaimsThatAreNone(t *testing.T) {
	for _, d := range []impl.Desk{fewDesks()[0], fewDesks()[3]} {
		for _, claim := range noClaims() {
			for _, word := range []string{"claim ", "sure "} {
				after, answer := impl.DeskLine(d, word+claim)
				must(t, answer == "what" && sameDesk(after, d), d, word, claim[:min(len(claim), 100)], answer)
			}
		}
	}
	for _, claim := range greatestClaims()[:8] {
		must(t, checkLine(t, fewDesks()[3], "claim "+claim) != "what" && checkLine(t, fewDesks()[3], "sure "+claim) != "what", claim)
	}
}

func TestP67LinesToNoDesks(t *testing.T) {
	for _, d := range noDesks() {
		for _, line := range []string{"money", "in", "own", "can", "stock", "done", "tape", "change 0", "claim d", "sure (d|!d)", "coin 3", "give 0", "back", "", " ", "what"} {
			after, answer := impl.DeskLine(d, line)
			must(t, answer == "" && isZeroDesk(after), d, line, after, answer)
		}
	}
}

// plainSay is DeskSay of a desk as the document tells it, written down anew for the tests.
func plainSay(d impl.Desk, lines []string) (impl.Desk, []string) {
	var answers []string
	for _, line := range lines {
		after, answer := plainSaid(d, line)
		d, answers = after, append(answers, answer)
	}
	return d, answers
}

func TestP44WhateverIsSaidAllActsWereDone(t *testing.T) {
	random := rand.New(rand.NewPCG(44, 10))
	oks := 0
	for at, d := range append(manyDesks(), fewDesks()...) {
		lines := mixedLines(random, []int{0, 1, 7, 20, 37}[at%5])
		after, answers := impl.DeskSay(d, append(slices.Clone(lines), "claim Gd", "give 0", "in"))
		must(t, impl.DeskOk(after) && len(answers) == len(lines)+3, d, lines, after, answers)
		must(t, !slices.Contains(answers, ""), "an empty answer", d, lines, answers)
		must(t, answers[len(lines)] == "yes", "not all acts were done", d, lines, answers)
		if answers[len(lines)+1] == "ok" {
			must(t, answers[len(lines)+2] == "0", "something is in", d, lines, answers)
			oks++
			continue
		}
		must(t, answers[len(lines)+1] == "not" && len(after.Acts) == 20, d, lines, answers)
	}
	must(t, oks > 50, "hardly anything is given back", oks)
}

func TestP44LinesAreAsTold(t *testing.T) {
	random := rand.New(rand.NewPCG(44, 1))
	said := map[string]int{}
	for at, d := range append(manyDesks(), fewDesks()...) {
		lines := mixedLines(random, []int{1, 5, 12, 23, 40}[(at/5+at)%5])
		want, wantAnswers := plainSay(d, lines)
		after, answers := impl.DeskSay(d, lines)
		must(t, sameDesk(after, want) && slices.Equal(answers, wantAnswers), d, lines, after, answers, wantAnswers)
		for _, answer := range answers {
			said[answer]++
		}
	}
	for _, answer := range []string{"ok", "not", "what", "yes", "no", "none", "0"} {
		must(t, said[answer] > 20, "hardly ever said", answer, said)
	}
}

func TestP44LinesInTwoParts(t *testing.T) {
	random := rand.New(rand.NewPCG(44, 2))
	for _, d := range append(manyDesks()[:30], fewDesks()...) {
		lines := mixedLines(random, 40)
		after, answers := impl.DeskSay(d, lines)
		for cut := 0; cut <= len(lines); cut += 4 {
			between, first := impl.DeskSay(d, lines[:cut])
			end, second := impl.DeskSay(between, lines[cut:])
			must(t, sameDesk(end, after) && slices.Equal(slices.Concat(first, second), answers), d, lines, cut, end, first, second)
		}
		one := d
		for at, line := range lines {
			next, answer := impl.DeskLine(one, line)
			must(t, answer == answers[at], d, lines, at, answer)
			one = next
		}
		must(t, sameDesk(one, after), d, lines, one)
	}
}

func TestP44NumbersOfLines(t *testing.T) {
	for _, d := range fewDesks() {
		for _, long := range []int{0, 1, 2, 39, 40, 41, 42, 100, 5000} {
			for _, line := range []string{"done", "give 0", "back", "", "what is it"} {
				after, answers := impl.DeskSay(d, slices.Repeat([]string{line}, long))
				if long > 40 {
					must(t, isZeroDesk(after) && answers == nil, d, long, line, after, answers)
					continue
				}
				must(t, impl.DeskOk(after) && len(answers) == long && !slices.Contains(answers, ""), d, long, line, after, answers)
			}
		}
		for _, lines := range [][]string{nil, {}} {
			after, answers := impl.DeskSay(d, lines)
			must(t, sameDesk(after, d) && len(answers) == 0, d, after, answers)
		}
	}
	for _, d := range noDesks() {
		for _, lines := range [][]string{nil, {}, {"money"}, {"give 0", "in"}, slices.Repeat([]string{"done"}, 41)} {
			after, answers := impl.DeskSay(d, lines)
			must(t, isZeroDesk(after) && answers == nil, d, lines, after, answers)
		}
	}
}

func TestP44Said(t *testing.T) {
	d, _ := impl.DeskNew(exampleMachine())
	for _, c := range [][][2]string{
		{{"money", "3"}, {"coin 3", "ok"}, {"can", "0"}, {"change 13", "1x10+1x2+1x1"}, {"sure G!g", "no"}, {"sure G(!g|o)", "yes"}, {"pick 1", "not"}, {"pick 0", "ok"},
			{"own", "1x10"}, {"stock", "0,2"}, {"tape", "0,3,1,0,0,604;1,0,1,1,3,618;"}, {"claim F(g&o)", "yes"}},
		{{"give 0", "ok"}, {"back", "ok"}, {"back", "not"}, {"done", "0"}, {"tape", "none"}, {"claim !d", "yes"}, {"coin 3", "ok"}, {"claim !d", "no"}, {"in", "1x10"}, {"give 0", "ok"}, {"in", "0"}, {"back", "ok"}, {"in", "1x10"}},
		{{"pick 0", "not"}, {"coin 2", "ok"}, {"coin 1", "ok"}, {"can", "0,1"}, {"pick 0", "ok"}, {"can", "none"}, {"money", "10"}, {"coin 1", "ok"}, {"coin 0", "ok"}, {"pick 1", "ok"}, {"stock", "0,1"}, {"back", "ok"}, {"stock", "0,2"}, {"done", "5"}},
		{{"what", "what"}, {"coin 9", "not"}, {"give 1", "not"}, {"pick 9", "not"}, {"coin 10", "what"}, {"done", "0"}},
	} {
		var lines, want []string
		for _, said := range c {
			lines, want = append(lines, said[0]), append(want, said[1])
		}
		_, answers := impl.DeskSay(d, lines)
		must(t, slices.Equal(answers, want), lines, answers)
	}
}

func roomyDesk(d impl.Desk) impl.Desk {
	return impl.Desk{Start: roomyMachine(d.Start), Acts: roomyActs(d.Acts)}
}

// wholeDesk returns a copy of a desk whose parts are as long as there is room for them.
func wholeDesk(d impl.Desk) impl.Desk {
	return copyOfDesk(deskOf(wholeMachine(d.Start), d.Acts[:cap(d.Acts)]...))
}

func overwriteDesk(d impl.Desk) {
	overwriteMachine(d.Start)
	overwriteActs(d.Acts)
}

// deskResults returns all desks that functions return for one.
func deskResults(d impl.Desk, deeds []impl.Deed, lines []string) []impl.Desk {
	fresh, _ := impl.DeskNew(d.Start)
	run, _ := impl.DeskRun(d, deeds)
	said, _ := impl.DeskSay(d, lines)
	nothing, _ := impl.DeskRun(d, nil)
	silent, _ := impl.DeskSay(d, nil)
	list := []impl.Desk{fresh, run, said, nothing, silent, {Start: impl.NowOf(d)}}
	for _, a := range []impl.Deed{backDeed(), takeOf(coinOf(3)), takeOf(pickOf(0)), takeOf(pickOf(9)), {Back: true, Take: coinOf(3)}} {
		after, _ := impl.DeskDo(d, a)
		list = append(list, after)
	}
	for _, line := range []string{"back", "coin 3", "pick 0", "pick 9", "money", "tape", "sure G!g", "claim Gd", "change 9", "stock", "can", "what"} {
		after, _ := impl.DeskLine(d, line)
		list = append(list, after)
	}
	return list
}

func TestDesksAreNotWrittenTo(t *testing.T) {
	random := rand.New(rand.NewPCG(10, 7))
	for _, want := range slices.Concat(fewDesks(), manyDesks()[:40], noDesks()[:40]) {
		d := roomyDesk(want)
		before := wholeDesk(d)
		deeds, lines := mixedDeeds(random, 30), mixedLines(random, 30)
		deeds, lines = append(deeds, backDeed())[:30], append(lines, "money")[:30]
		deedsBefore, linesBefore := slices.Clone(deeds[:cap(deeds)]), slices.Clone(lines[:cap(lines)])
		impl.DeskOk(d)
		for _, result := range deskResults(d, deeds, lines) {
			overwriteDesk(result)
		}
		_, answers := impl.DeskSay(d, lines)
		clear(answers[:cap(answers)])
		impl.JournalText(deeds)
		must(t, sameDesk(wholeDesk(d), before), want, wholeDesk(d))
		must(t, slices.Equal(deeds[:cap(deeds)], deedsBefore), want, deeds[:cap(deeds)])
		must(t, slices.Equal(lines[:cap(lines)], linesBefore), want, lines[:cap(lines)])
	}
}

func TestDesksShareNoMemory(t *testing.T) {
	for _, want := range append(fewDesks(), manyDesks()[:40]...) {
		d := copyOfDesk(want)
		deeds, lines := []impl.Deed{takeOf(coinOf(2)), backDeed(), takeOf(pickOf(9))}, []string{"coin 2", "money", "back"}
		desks := append(deskResults(d, deeds, lines), d)
		desks = append(desks, deskResults(d, deeds, lines)...)
		var rows [][]int
		var shelves [][]impl.Good
		var lists [][]impl.Act
		for _, other := range desks {
			rows, shelves, lists = append(rows, other.Start.Own, other.Start.In), append(shelves, other.Start.Goods), append(lists, other.Acts)
		}
		checkParts(t, want, shelves, rows...)
		checkOwnActs(t, lists...)
	}
	text := "coin 3\nback\npick 0\n"
	first, _ := impl.ReadJournal(text)
	again, _ := impl.ReadJournal(text)
	clear(again[:cap(again)])
	must(t, impl.JournalText(first) == text, "shared deeds", first)
}

// Neither an answer nor a text that is told hangs on bytes that were said.
func TestDesksKeepNoText(t *testing.T) {
	d := fewDesks()[3]
	for _, line := range slices.Concat(askLines(), deedLines(), []string{"money ", "what", "claim dd"}) {
		said := []byte(line)
		text := unsafe.String(&said[0], len(said))
		_, want := impl.DeskLine(d, line)
		_, answer := impl.DeskLine(d, text)
		_, answers := impl.DeskSay(d, []string{text})
		a, ok := impl.ReadDeed(text)
		told := impl.DeedText(a)
		for at := range said {
			said[at] = 'x'
		}
		must(t, answer == want && slices.Equal(answers, []string{want}), line, answer, answers)
		must(t, !ok || told == line, line, told)
	}
}

// No answer hangs on what was said or done before, to this desk or to another one.
func TestDesksKeepNothing(t *testing.T) {
	random := rand.New(rand.NewPCG(10, 10))
	d := fewDesks()[3]
	lines := append(askLines(), "coin 3", "pick 1", "own", "back", "tape", "give 0", "in")
	want, wantAnswers := plainSay(d, lines)
	for _, other := range manyDesks()[:60] {
		impl.DeskSay(other, mixedLines(random, 20))
		impl.DeskRun(other, mixedDeeds(random, 20))
		impl.ReadJournal("coin 3\nback\npick")
		impl.DeskSay(d, []string{"coin 0", "give 0", "back"})
		after, answers := impl.DeskSay(d, lines)
		must(t, sameDesk(after, want) && slices.Equal(answers, wantAnswers), other, after, answers)
	}
}
