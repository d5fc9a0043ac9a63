package tests

import (
	"math"
	"math/rand/v2"
	"slices"
	"strconv"
	"strings"
	"testing"

	"loop.example/coinmachine/impl"
)

// entryOf returns the entry with six numbers, in the order of its text.
func entryOf(told [6]int) impl.Entry {
	return impl.Entry{Do: told[0], N: told[1], Done: told[2], Piece: told[3], Paid: told[4], Check: told[5]}
}

func numbersOf(e impl.Entry) [6]int {
	return [6]int{e.Do, e.N, e.Done, e.Piece, e.Paid, e.Check}
}

// greatestNumbers has the greatest number that each of the six may be.
func greatestNumbers() [6]int {
	return [6]int{2, 9, 1, 3, 900, 996}
}

// with returns an entry with another number at one of the six places.
func with(e impl.Entry, place int, number int) impl.Entry {
	told := numbersOf(e)
	told[place] = number
	return entryOf(told)
}

// outsideOf returns numbers just outside and far outside of 0..greatest.
func outsideOf(greatest int) []int {
	return []int{-1, greatest + 1, -2, greatest + 2, 1 << 32, -1 << 32, math.MaxInt, math.MinInt, math.MaxInt / 31, math.MinInt/31 - 1}
}

// fewEntries has entries with each number in between and at the ends of its range, and all at the ends together.
func fewEntries() []impl.Entry {
	return []impl.Entry{
		{}, entryOf(greatestNumbers()),
		{N: 3, Done: 1, Check: 604}, {Do: 1, Done: 1, Piece: 1, Paid: 3, Check: 618},
		{Do: 2, Done: 1, Paid: 360}, {Do: 2, N: 9, Piece: 3, Paid: 899, Check: 1}, {N: 4, Paid: 1, Check: 996}, {Do: 1, N: 5, Paid: 450, Check: 500},
	}
}

// manyEntries has an entry for each Do, N, Done and Piece, with what is paid and checks at the ends and in between.
func manyEntries() []impl.Entry {
	var list []impl.Entry
	for at := range 3 * 10 * 2 * 4 {
		for _, paid := range []int{0, 1, 13, 360, 899, 900} {
			for _, check := range []int{0, 1, 604, 996} {
				list = append(list, impl.Entry{Do: at % 3, N: at / 3 % 10, Done: at / 30 % 2, Piece: at / 60, Paid: paid, Check: check})
			}
		}
	}
	return list
}

// noEntries has entries with one number that is out of its range, beside numbers that are not.
func noEntries() []impl.Entry {
	var list []impl.Entry
	for _, e := range fewEntries() {
		for place, greatest := range greatestNumbers() {
			for _, number := range outsideOf(greatest) {
				list = append(list, with(e, place, number))
			}
		}
	}
	return list
}

func plainEntryOk(e impl.Entry) bool {
	for place, number := range numbersOf(e) {
		if number < 0 || number > greatestNumbers()[place] {
			return false
		}
	}
	return true
}

// plainCheck is CheckOf an entry as the document tells it, but divided only once.
func plainCheck(before int, e impl.Entry) int {
	sum := int64(before)
	for place, number := range numbersOf(e) {
		if place < 5 {
			sum = sum*31 + int64(number)
		}
	}
	return int(sum % 997)
}

// rightTape returns a tape of entries with right checks instead of their own ones.
func rightTape(entries ...impl.Entry) []impl.Entry {
	tape := slices.Clone(entries)
	before := 0
	for at := range tape {
		before = plainCheck(before, tape[at])
		tape[at].Check = before
	}
	return tape
}

// plainWrong is WrongEntry as the document tells it, written down anew for the tests.
func plainWrong(tape []impl.Entry) int {
	if len(tape) > 20 {
		return -2
	}
	for at, e := range tape {
		before := 0
		if at > 0 {
			before = tape[at-1].Check
		}
		if !plainEntryOk(e) || e.Check != plainCheck(before, e) {
			return at
		}
	}
	return -1
}

// plainWritten is WrittenFor as the document tells it, written down anew for the tests.
func plainWritten(acts []impl.Act, results []impl.Result) ([]impl.Entry, bool) {
	if len(acts) > 20 || len(acts) != len(results) {
		return nil, false
	}
	var tape []impl.Entry
	for at, r := range results {
		e := impl.Entry{Do: acts[at].Do, N: acts[at].N, Piece: r.Piece}
		if len(r.Out) != 0 && !impl.PurseOk(r.Out) {
			return nil, false
		}
		if len(r.Out) != 0 {
			e.Paid = plainWorth(r.Out)
		}
		if r.Done {
			e.Done = 1
		}
		if !plainEntryOk(e) {
			return nil, false
		}
		tape = append(tape, e)
	}
	return rightTape(tape...), true
}

func plainTapeText(tape []impl.Entry) string {
	text := ""
	for _, e := range tape {
		var parts []string
		for _, number := range numbersOf(e) {
			parts = append(parts, strconv.Itoa(number))
		}
		text += strings.Join(parts, ",") + ";"
	}
	return text
}

func plainNumber(s string) (int, bool) {
	number, err := strconv.Atoi(s)
	return number, err == nil && number >= 0 && strconv.Itoa(number) == s
}

// plainTape is ReadTape as the document tells it, written down anew for the tests.
func plainTape(s string) ([]impl.Entry, bool) {
	var tape []impl.Entry
	for s != "" {
		part, rest, ends := strings.Cut(s, ";")
		fields := strings.Split(part, ",")
		if !ends || len(fields) != 6 {
			return nil, false
		}
		var told [6]int
		for place, field := range fields {
			number, ok := plainNumber(field)
			if !ok {
				return nil, false
			}
			told[place] = number
		}
		tape, s = append(tape, entryOf(told)), rest
	}
	if plainWrong(tape) != -1 {
		return nil, false
	}
	return tape, true
}

// randomEntries returns entries with any numbers, and checks that are mostly wrong. They are the same ones in each call.
func randomEntries(count int) []impl.Entry {
	random := rand.New(rand.NewPCG(9, 37))
	var list []impl.Entry
	for range count {
		var told [6]int
		for place, greatest := range greatestNumbers() {
			told[place] = random.IntN(greatest + 1)
		}
		list = append(list, entryOf(told))
	}
	return list
}

// rightTapes has tapes with right checks of 0 to 20 entries.
func rightTapes() [][]impl.Entry {
	entries := randomEntries(700)
	list := [][]impl.Entry{nil, {}}
	for long := 1; long <= 20; long++ {
		for range 3 {
			list = append(list, rightTape(entries[:long]...))
			entries = entries[long:]
		}
		list = append(list,
			rightTape(slices.Repeat([]impl.Entry{{}}, long)...),
			rightTape(slices.Repeat([]impl.Entry{entryOf(greatestNumbers())}, long)...))
	}
	for _, e := range fewEntries() {
		list = append(list, rightTape(e), rightTape(e, e))
	}
	return list
}

// longTapes has tapes of more than 20 entries, whose checks are right.
func longTapes() [][]impl.Entry {
	var list [][]impl.Entry
	for _, long := range []int{21, 22, 40, 997, 5000} {
		list = append(list,
			rightTape(slices.Repeat([]impl.Entry{{}}, long)...),
			rightTape(slices.Repeat([]impl.Entry{{N: 3, Done: 1}}, long)...))
	}
	return append(list, rightTape(randomEntries(21)...))
}

// wrongTapes has tapes with one entry that is none, or has a wrong check, at first, in the middle and at last,
// and tapes with two of them. The number of the first one of them is told with each.
func wrongTapes() map[int][][]impl.Entry {
	list := map[int][][]impl.Entry{}
	for _, long := range []int{1, 2, 7, 20} {
		tape := rightTape(randomEntries(long)...)
		for _, at := range []int{0, long / 2, long - 1} {
			var others []impl.Entry
			for place, greatest := range greatestNumbers() {
				for _, number := range outsideOf(greatest) {
					others = append(others, with(tape[at], place, number))
				}
			}
			for _, other := range []int{0, 1, 500, 996} {
				if other != tape[at].Check {
					others = append(others, with(tape[at], 5, other))
				}
			}
			for _, other := range others {
				wrong := slices.Clone(tape)
				wrong[at] = other
				twice := slices.Clone(wrong)
				twice[long-1].Paid = 901
				list[at] = append(list[at], wrong, twice)
			}
		}
	}
	return list
}

// madeRuns returns runs with results that no machine would give. For most of them there is a tape.
func madeRuns() []toldRun {
	random := rand.New(rand.NewPCG(36, 9))
	outs := [][]int{nil, {}, {0, 0, 0, 0}, {1, 0, 0, 0}, {0, 1, 2, 0}, {0, 0, 0, 1}, {20, 20, 20, 20}}
	var list []toldRun
	for at := range 1050 {
		var run toldRun
		for range at % 21 {
			run.acts = append(run.acts, impl.Act{Do: random.IntN(3), N: random.IntN(10)})
			run.results = append(run.results, impl.Result{Done: random.IntN(2) > 0, Piece: random.IntN(4), Out: outs[random.IntN(len(outs))]})
		}
		list = append(list, run)
	}
	return list
}

// tapeRuns has runs of machines, of no machine, and of which there is no tape.
func tapeRuns() []toldRun {
	return slices.Concat(madeRuns(), edgeRuns(), machineRuns(), wildRuns(10), []toldRun{exampleRun(), sameRun(20)})
}

// untoldRuns has runs of which there is no tape, since one act or one result is none, or one of them is missing.
func untoldRuns() []toldRun {
	list := noRuns()
	for _, long := range []int{1, 2, 7, 20} {
		for _, at := range []int{0, long / 2, long - 1} {
			for _, do := range outsideOf(2) {
				run := sameRun(long)
				run.acts[at].Do = do
				list = append(list, run)
			}
			for _, n := range outsideOf(9) {
				run := sameRun(long)
				run.acts[at].N = n
				list = append(list, run)
			}
			for _, piece := range outsideOf(3) {
				run := sameRun(long)
				run.results[at].Piece = piece
				list = append(list, run)
			}
			for _, out := range noPurses() {
				if len(out) > 0 {
					run := sameRun(long)
					run.results[at].Out = out
					list = append(list, run)
				}
			}
		}
	}
	return list
}

func TestTapeConstants(t *testing.T) {
	must(t, impl.MaxTape == 20 && impl.CheckBase == 997, impl.MaxTape, impl.CheckBase)
}

func TestP60EmptyEntriesAreEntries(t *testing.T) {
	must(t, impl.EntryOk(impl.Entry{}), "the zero value")
	for _, e := range slices.Concat(manyEntries(), fewEntries(), randomEntries(200)) {
		must(t, impl.EntryOk(e), e)
		must(t, impl.EntryOk(with(e, 5, 0)), "with the check 0", e)
	}
	for _, e := range noEntries() {
		must(t, !impl.EntryOk(e), e)
	}
}

func TestP60RangesOfNumbers(t *testing.T) {
	for _, e := range fewEntries() {
		for place, greatest := range greatestNumbers() {
			for number := -5; number <= greatest+5; number++ {
				other := with(e, place, number)
				must(t, impl.EntryOk(other) == (number >= 0 && number <= greatest), other)
			}
		}
	}
	for _, check := range []int{0, 996} {
		must(t, impl.EntryOk(impl.Entry{Check: check}), check)
	}
	for _, check := range []int{-1, 997} {
		must(t, !impl.EntryOk(impl.Entry{Check: check}), check)
	}
}

func TestP35BehindAnotherCheckItIsAnotherCheck(t *testing.T) {
	for _, e := range slices.Concat(fewEntries(), randomEntries(100)) {
		told := map[int]bool{}
		for before := range 997 {
			check := impl.CheckOf(before, e)
			must(t, check >= 0 && check <= 996 && !told[check], before, e, check)
			told[check] = true
		}
	}
}

func TestP35WithAnotherNumberItIsAnotherCheck(t *testing.T) {
	for _, e := range slices.Concat(fewEntries(), randomEntries(50)) {
		for _, before := range []int{0, 1, 604, 996} {
			for place, greatest := range greatestNumbers() {
				told := map[int]bool{}
				for number := range greatest + 1 {
					check := impl.CheckOf(before, with(e, place, number))
					must(t, check >= 0 && check <= 996, before, e, place, number, check)
					must(t, place == 5 || !told[check], before, e, place, number, check)
					told[check] = true
				}
				must(t, place != 5 || len(told) == 1, "its own check counts", before, e)
			}
		}
	}
}

func TestP35ChecksAreAsTold(t *testing.T) {
	for _, e := range slices.Concat(manyEntries(), randomEntries(300)) {
		for _, before := range []int{0, 1, 31, 500, 604, 995, 996} {
			check := impl.CheckOf(before, e)
			must(t, check == plainCheck(before, e), before, e, check)
		}
	}
}

func TestP35Checks(t *testing.T) {
	for _, c := range []struct {
		before int
		e      impl.Entry
		check  int
	}{
		{0, impl.Entry{}, 0},
		{0, impl.Entry{Paid: 900}, 900},
		{0, impl.Entry{Piece: 3, Paid: 1}, 94},
		{0, impl.Entry{Done: 1}, 961},
		{0, impl.Entry{N: 1}, 878},
		{0, impl.Entry{Do: 1}, 299},
		{1, impl.Entry{}, 296},
		{996, impl.Entry{}, 701},
		{996, entryOf(greatestNumbers()), 188},
		{0, impl.Entry{N: 3, Done: 1}, 604},
		{604, impl.Entry{Do: 1, Done: 1, Piece: 1, Paid: 3}, 618},
		{604, impl.Entry{Do: 1, N: 1}, 501},
	} {
		must(t, impl.CheckOf(c.before, c.e) == c.check, c.before, c.e, impl.CheckOf(c.before, c.e))
	}
}

// An entry has its check whether its own one is right, wrong or none.
func TestP35OwnChecksDoNotCount(t *testing.T) {
	for _, e := range slices.Concat(fewEntries(), randomEntries(50)) {
		for _, before := range []int{0, 604, 996} {
			want := plainCheck(before, e)
			for _, own := range append(outsideOf(996), 0, 1, 500, 996, want, before) {
				check := impl.CheckOf(before, with(e, 5, own))
				must(t, check == want, before, e, own, check)
			}
		}
	}
}

func TestP35OtherChecks(t *testing.T) {
	for _, e := range slices.Concat(fewEntries(), noEntries()) {
		for _, before := range outsideOf(996) {
			must(t, impl.CheckOf(before, e) == -1, before, e, impl.CheckOf(before, e))
		}
	}
	for _, e := range fewEntries() {
		for place, greatest := range greatestNumbers() {
			for _, number := range outsideOf(greatest) {
				other := with(e, place, number)
				for _, before := range []int{0, 1, 604, 996} {
					must(t, (impl.CheckOf(before, other) == -1) == (place < 5), before, other, impl.CheckOf(before, other))
				}
			}
		}
	}
}

func TestP36TapesAreRightAsWritten(t *testing.T) {
	count := 0
	for _, run := range tapeRuns() {
		tape, ok := impl.WrittenFor(run.acts, run.results)
		if !ok {
			continue
		}
		count++
		must(t, len(tape) == len(run.acts) && impl.WrongEntry(tape) == -1, run, tape)
		for at, e := range tape {
			a, r := run.acts[at], run.results[at]
			must(t, impl.EntryOk(e) && e.Do == a.Do && e.N == a.N && (e.Done == 1) == r.Done && e.Piece == r.Piece, run, at, e)
			must(t, e.Paid == impl.GivenBy([]impl.Result{r}), run, at, e)
			before := 0
			if at > 0 {
				before = tape[at-1].Check
			}
			must(t, e.Check == impl.CheckOf(before, e), run, at, e)
		}
	}
	must(t, count > 1500, "hardly any tapes", count)
}

func TestP36TapesBegin(t *testing.T) {
	for _, run := range tapeRuns() {
		tape, ok := impl.WrittenFor(run.acts, run.results)
		if !ok {
			continue
		}
		for cut := range len(tape) + 1 {
			first, ok := impl.WrittenFor(run.acts[:cut], run.results[:cut])
			must(t, ok && slices.Equal(first, tape[:cut]), run, cut, first, ok)
		}
	}
}

func TestP36TapesAreAsTold(t *testing.T) {
	for _, run := range slices.Concat(tapeRuns(), untoldRuns()) {
		tape, ok := impl.WrittenFor(run.acts, run.results)
		want, wantOk := plainWritten(run.acts, run.results)
		must(t, ok == wantOk && slices.Equal(tape, want) && (ok || tape == nil), run, tape, ok)
	}
}

func TestP36Tapes(t *testing.T) {
	coin, pick, back := coinOf(3), pickOf(0), backAct()
	in, no := doneOf(0, 0, 0, 0, 0), impl.Result{}
	for _, c := range []struct {
		told    string
		acts    []impl.Act
		results []impl.Result
		text    string
	}{
		{"no acts", nil, nil, ""},
		{"no acts in rows", []impl.Act{}, []impl.Result{}, ""},
		{"one act", []impl.Act{coin}, []impl.Result{in}, "0,3,1,0,0,604;"},
		{"the example", []impl.Act{coin, pick}, []impl.Result{in, doneOf(1, 1, 1, 0, 0)}, "0,3,1,0,0,604;1,0,1,1,3,618;"},
		{"an act that is not done", []impl.Act{coin, pickOf(1)}, []impl.Result{in, no}, "0,3,1,0,0,604;1,1,0,0,0,501;"},
		{"no coins, in two ways", []impl.Act{back, back}, []impl.Result{{Out: nil}, {Out: []int{}}}, "2,0,0,0,0,598;2,0,0,0,0,140;"},
		{"not done, with all coins", []impl.Act{back}, []impl.Result{{Out: []int{20, 20, 20, 20}}}, "2,0,0,0,360,958;"},
		{"not done, with a piece", []impl.Act{coinOf(0)}, []impl.Result{{Piece: 3}}, "0,0,0,3,0,93;"},
		{"a coin that is none", []impl.Act{coinOf(9)}, []impl.Result{{Done: true}}, "0,9,1,0,0,887;"},
		{"the greatest numbers", []impl.Act{{Do: 2, N: 9}}, []impl.Result{doneOf(3, 20, 20, 20, 20)}, "2,9,1,3,360,941;"},
	} {
		tape, ok := impl.WrittenFor(c.acts, c.results)
		must(t, ok && plainTapeText(tape) == c.text, c.told, tape, ok)
	}
}

func TestP36LengthsOfTapes(t *testing.T) {
	for acts := range 45 {
		for _, results := range []int{0, acts - 1, acts, acts + 1, 20, 21} {
			if results < 0 {
				continue
			}
			tape, ok := impl.WrittenFor(sameRun(acts).acts, sameRun(results).results)
			told := acts == results && acts <= 20
			must(t, ok == told && (ok || tape == nil), acts, results, tape, ok)
			must(t, !ok || len(tape) == acts, acts, results, tape)
		}
	}
}

func TestP36OtherRuns(t *testing.T) {
	for _, run := range untoldRuns() {
		tape, ok := impl.WrittenFor(run.acts, run.results)
		must(t, !ok && tape == nil, run, tape, ok)
	}
}

func TestP37WhoeverChangesOneNumberIsFound(t *testing.T) {
	for _, tape := range rightTapes() {
		must(t, impl.WrongEntry(tape) == -1, tape, impl.WrongEntry(tape))
		for at, e := range tape {
			for place, greatest := range greatestNumbers() {
				for _, number := range append(outsideOf(greatest), 0, 1, greatest/2, greatest, numbersOf(e)[place]-1, numbersOf(e)[place]+1) {
					checkFound(t, tape, at, with(e, place, number))
				}
			}
		}
	}
}

// checkFound checks that another entry in a tape that is right is found there.
func checkFound(t *testing.T, tape []impl.Entry, at int, other impl.Entry) {
	t.Helper()
	want := at
	if tape[at] == other {
		want = -1
	}
	changed := slices.Clone(tape)
	changed[at] = other
	must(t, impl.WrongEntry(changed) == want, tape, at, other, impl.WrongEntry(changed))
}

// Of some tapes all other numbers of what was paid, and all other checks, are tried.
func TestP37AllOtherNumbersAreFound(t *testing.T) {
	for _, tape := range [][]impl.Entry{
		rightTape(randomEntries(1)...), rightTape(randomEntries(20)...), rightTape(fewEntries()...),
		rightTape(slices.Repeat([]impl.Entry{{}}, 20)...),
	} {
		for at, e := range tape {
			for place := 4; place <= 5; place++ {
				for number := -2; number <= 1000; number++ {
					checkFound(t, tape, at, with(e, place, number))
				}
			}
		}
	}
}

func TestP37WrongEntries(t *testing.T) {
	for at, tapes := range wrongTapes() {
		for _, tape := range tapes {
			must(t, impl.WrongEntry(tape) == at, tape, at, impl.WrongEntry(tape))
		}
	}
	must(t, impl.WrongEntry(nil) == -1 && impl.WrongEntry([]impl.Entry{}) == -1, "tapes without entries")
	coin, pick := impl.Entry{N: 3, Done: 1, Check: 604}, impl.Entry{Do: 1, Done: 1, Piece: 1, Paid: 3, Check: 618}
	for _, c := range []struct {
		told  string
		tape  []impl.Entry
		wrong int
	}{
		{"right", []impl.Entry{coin, pick}, -1},
		{"right alone", []impl.Entry{coin}, -1},
		{"the first one missing", []impl.Entry{pick}, 0},
		{"in the other order", []impl.Entry{pick, coin}, 0},
		{"the first one twice", []impl.Entry{coin, coin, pick}, 1},
		{"the second one twice", []impl.Entry{coin, pick, pick}, 2},
		{"the check 0", []impl.Entry{coin, with(pick, 5, 0)}, 1},
		{"both wrong", []impl.Entry{with(coin, 5, 603), with(pick, 5, 617)}, 0},
		{"the check of the first one wrong, and the second one behind it", []impl.Entry{with(coin, 5, 0), with(pick, 5, plainCheck(0, pick))}, 0},
		{"a greater check that is the same but for CheckBase", []impl.Entry{with(coin, 5, 604+997)}, 0},
		{"a lesser check that is the same but for CheckBase", []impl.Entry{with(coin, 5, 604-997)}, 0},
		{"a number that is none, with the check it would have", rightTape(impl.Entry{Paid: 901}), 0},
		{"the same at last", rightTape(coin, pick, impl.Entry{N: 10}), 2},
	} {
		must(t, impl.WrongEntry(c.tape) == c.wrong, c.told, impl.WrongEntry(c.tape))
	}
}

// Entries that are none are found, whatever check stands with them.
func TestP37EntriesThatAreNone(t *testing.T) {
	for _, e := range noEntries() {
		for at := range 4 {
			tape := append(rightTape(randomEntries(at)...), e)
			must(t, impl.WrongEntry(tape) == at, tape, impl.WrongEntry(tape))
			tape = append(tape, impl.Entry{Do: 3}, impl.Entry{Check: -1})
			must(t, impl.WrongEntry(tape) == at, tape, impl.WrongEntry(tape))
		}
		must(t, impl.WrongEntry(rightTape(e)) == plainWrong(rightTape(e)), e, impl.WrongEntry(rightTape(e)))
	}
}

// Entries with any checks, taken from tapes and put together anew, are as the document tells.
func TestP37TapesPutTogether(t *testing.T) {
	tapes, entries := rightTapes(), randomEntries(400)
	for at, tape := range tapes {
		other := tapes[(at*7+3)%len(tapes)]
		for cut := range len(tape) + 1 {
			for _, mixed := range [][]impl.Entry{
				slices.Concat(tape[:cut], other), slices.Concat(tape[:cut], tape[min(cut+1, len(tape)):]), tape[cut:],
				slices.Concat(tape[:cut], entries[at:at+1], tape[cut:]), slices.Concat(tape, tape[:cut]),
			} {
				must(t, impl.WrongEntry(mixed) == plainWrong(mixed), mixed, impl.WrongEntry(mixed))
			}
		}
	}
}

func TestP37LongTapes(t *testing.T) {
	for long := range 45 {
		want := -1
		if long > 20 {
			want = -2
		}
		tape := rightTape(randomEntries(long)...)
		must(t, impl.WrongEntry(tape) == want, long, impl.WrongEntry(tape))
	}
	for _, tape := range longTapes() {
		must(t, impl.WrongEntry(tape) == -2, len(tape), impl.WrongEntry(tape))
		tape[0].Do = -1
		must(t, impl.WrongEntry(tape) == -2, "a longer tape that is wrong", len(tape), impl.WrongEntry(tape))
	}
}

func TestP38TheTapeTellsWhatTheMachineHasMore(t *testing.T) {
	told, gained, lost := 0, 0, 0
	forRuns(t, func(m impl.Machine, acts []impl.Act, last impl.Machine, results []impl.Result) {
		tape, ok := impl.WrittenFor(acts, results)
		if !ok {
			return
		}
		takings, ok := impl.TakingsOf(tape)
		more := impl.MoneyIn(last) - impl.MoneyIn(m)
		must(t, ok && takings == more, m, acts, takings, ok, more)
		told++
		if more > 0 {
			gained++
		}
		if more < 0 {
			lost++
		}
	})
	must(t, told > 5000 && gained > 1000 && lost > 100, "hardly any takings", told, gained, lost)
}

// plainTakings is TakingsOf a tape that is right, written down anew for the tests.
func plainTakings(tape []impl.Entry) int {
	sum := 0
	for _, e := range tape {
		worth := []int{1, 2, 5, 10, 0, 0, 0, 0, 0, 0}[e.N]
		switch [2]int{e.Do, e.Done} {
		case [2]int{0, 1}:
			sum += worth - e.Paid
		default:
			sum -= e.Paid
		}
	}
	return sum
}

func TestP38TakingsAreAsTold(t *testing.T) {
	tapes := rightTapes()
	for _, e := range manyEntries() {
		tapes = append(tapes, rightTape(e), rightTape(impl.Entry{N: 3, Done: 1}, e))
	}
	for _, run := range tapeRuns() {
		if tape, ok := impl.WrittenFor(run.acts, run.results); ok {
			tapes = append(tapes, tape)
		}
	}
	for _, tape := range tapes {
		takings, ok := impl.TakingsOf(tape)
		must(t, ok && takings == plainTakings(tape), tape, takings, ok)
	}
}

func TestP38Takings(t *testing.T) {
	for _, c := range []struct {
		told    string
		entries []impl.Entry
		takings int
	}{
		{"no entries", nil, 0},
		{"a coin of 1", []impl.Entry{{N: 0, Done: 1}}, 1},
		{"a coin of 2", []impl.Entry{{N: 1, Done: 1}}, 2},
		{"a coin of 5", []impl.Entry{{N: 2, Done: 1}}, 5},
		{"a coin of 10", []impl.Entry{{N: 3, Done: 1}}, 10},
		{"a coin that is none", []impl.Entry{{N: 4, Done: 1}}, 0},
		{"another coin that is none", []impl.Entry{{N: 9, Done: 1}}, 0},
		{"a coin that is none, with coins that come out", []impl.Entry{{N: 9, Done: 1, Paid: 4}}, -4},
		{"a coin that is not put in", []impl.Entry{{N: 3}}, 0},
		{"a coin that is not put in, with coins that come out", []impl.Entry{{N: 3, Paid: 7}}, -7},
		{"a coin, and coins that come out", []impl.Entry{{N: 3, Done: 1, Paid: 7}}, 3},
		{"a good", []impl.Entry{{Do: 1, N: 2, Done: 1, Piece: 3}}, 0},
		{"a good with change", []impl.Entry{{Do: 1, N: 2, Done: 1, Piece: 3, Paid: 12}}, -12},
		{"coins given back", []impl.Entry{{Do: 2, Done: 1, Paid: 360}}, -360},
		{"coins given back, with N", []impl.Entry{{Do: 2, N: 3, Done: 1, Paid: 1}}, -1},
		{"the example", []impl.Entry{{N: 3, Done: 1}, {Do: 1, Done: 1, Piece: 1, Paid: 3}}, 7},
		{"all coins, twice", []impl.Entry{{N: 0, Done: 1}, {N: 1, Done: 1}, {N: 2, Done: 1}, {N: 3, Done: 1}, {N: 3, Done: 1}, {N: 2, Done: 1}, {N: 1, Done: 1}, {N: 0, Done: 1}}, 36},
		{"as much as may be", slices.Repeat([]impl.Entry{{N: 3, Done: 1}}, 20), 200},
		{"as little as may be", slices.Repeat([]impl.Entry{{Do: 2, Paid: 900}}, 20), -18000},
	} {
		takings, ok := impl.TakingsOf(rightTape(c.entries...))
		must(t, ok && takings == c.takings, c.told, takings, ok)
	}
}

func TestP38TakingsOfOtherTapes(t *testing.T) {
	check := func(tape []impl.Entry) {
		takings, ok := impl.TakingsOf(tape)
		must(t, !ok && takings == 0, tape, takings, ok)
	}
	for _, tapes := range wrongTapes() {
		for _, tape := range tapes {
			check(tape)
		}
	}
	for _, tape := range longTapes() {
		check(tape)
	}
	for _, e := range noEntries() {
		check([]impl.Entry{e})
		check(append(rightTape(impl.Entry{N: 3, Done: 1}), e))
	}
}

func TestP61TextsOfTapesAreRead(t *testing.T) {
	tapes := rightTapes()
	for _, e := range manyEntries() {
		tapes = append(tapes, rightTape(e), rightTape(fewEntries()[3], e))
	}
	told := map[string][]impl.Entry{}
	for _, tape := range tapes {
		text := impl.TapeText(tape)
		must(t, text == plainTapeText(tape), tape, text)
		other, is := told[text]
		must(t, !is || slices.Equal(tape, other), "told of two tapes", text)
		told[text] = tape
		read, ok := impl.ReadTape(text)
		must(t, ok && slices.Equal(read, tape), tape, text, read, ok)
	}
}

func TestP61TextsOfRuns(t *testing.T) {
	for _, run := range tapeRuns() {
		tape, ok := impl.WrittenFor(run.acts, run.results)
		if !ok {
			continue
		}
		read, ok := impl.ReadTape(impl.TapeText(tape))
		must(t, ok && slices.Equal(read, tape), run, tape, read, ok)
	}
}

func TestP61TapeTexts(t *testing.T) {
	for _, c := range []struct {
		tape []impl.Entry
		text string
	}{
		{nil, ""},
		{[]impl.Entry{}, ""},
		{[]impl.Entry{{}}, "0,0,0,0,0,0;"},
		{[]impl.Entry{{}, {}, {}}, "0,0,0,0,0,0;0,0,0,0,0,0;0,0,0,0,0,0;"},
		{rightTape(entryOf(greatestNumbers())), "2,9,1,3,900,484;"},
		{rightTape(impl.Entry{N: 3, Done: 1}, impl.Entry{Do: 1, N: 1}), "0,3,1,0,0,604;1,1,0,0,0,501;"},
		{rightTape(impl.Entry{N: 3, Done: 1}, impl.Entry{Do: 1, Done: 1, Piece: 1, Paid: 3}), "0,3,1,0,0,604;1,0,1,1,3,618;"},
	} {
		must(t, impl.TapeText(c.tape) == c.text, c.text, impl.TapeText(c.tape))
		read, ok := impl.ReadTape(c.text)
		must(t, ok && slices.Equal(read, c.tape), c.text, read, ok)
	}
}

func TestP61TextsOfOtherTapes(t *testing.T) {
	for _, tapes := range wrongTapes() {
		for _, tape := range tapes {
			must(t, impl.TapeText(tape) == "", tape, impl.TapeText(tape))
		}
	}
	for _, tape := range longTapes() {
		must(t, impl.TapeText(tape) == "", tape, impl.TapeText(tape))
	}
	for _, e := range noEntries() {
		must(t, impl.TapeText([]impl.Entry{e}) == "", e, impl.TapeText([]impl.Entry{e}))
	}
}

func TestP39ReadTapesAreHonest(t *testing.T) {
	count := 0
	for _, tape := range rightTapes() {
		for _, s := range append(nearTapes(plainTapeText(tape)), plainTapeText(tape)) {
			if checkReadTape(t, s) {
				count++
			}
		}
	}
	must(t, count > 100, "hardly any tapes are read", count)
}

// nearTapes returns the texts with one byte less, and those with one byte other or one byte more, one at each place.
func nearTapes(s string) []string {
	letters := "0129,;+- \x00\xff"
	var list []string
	for i := range len(s) + 1 {
		for at := range 3 {
			letter := letters[(i*3+at)%len(letters)]
			list = append(list, s[:i]+string([]byte{letter})+s[i:])
			if i < len(s) {
				list = append(list, s[:i]+string([]byte{letter})+s[i+1:])
			}
		}
		list = append(list, s[:i])
		if i < len(s) {
			list = append(list, s[:i]+s[i+1:], s[i:])
		}
	}
	return list
}

// checkReadTape checks that a text is read as the document tells, and returns whether it is one of a tape.
func checkReadTape(t *testing.T, s string) bool {
	t.Helper()
	want, is := plainTape(s)
	tape, ok := impl.ReadTape(s)
	must(t, ok == is && slices.Equal(tape, want) && (ok || tape == nil), strconv.Quote(s), tape, ok)
	must(t, !ok || impl.WrongEntry(tape) == -1 && impl.TapeText(tape) == s, strconv.Quote(s), tape)
	return ok
}

func TestP39AllShortChanges(t *testing.T) {
	letters := "012345679,;+-. x\n\x00\x80\xff"
	for _, s := range []string{"", "0,0,0,0,0,0;", "0,3,1,0,0,604;", "0,3,1,0,0,604;1,0,1,1,3,618;", "2,9,1,3,900,484;"} {
		for i := range len(s) + 1 {
			for at := range len(letters) {
				checkReadTape(t, s[:i]+letters[at:at+1]+s[i:])
				if i < len(s) {
					checkReadTape(t, s[:i]+letters[at:at+1]+s[i+1:])
				}
			}
			checkReadTape(t, s[:i])
			checkReadTape(t, s[i:])
		}
	}
}

// Instead of one or two numbers of an entry there are texts that are none, too.
func TestP39NumbersOfTexts(t *testing.T) {
	fields := []string{
		"", "0", "1", "2", "9", "10", "996", "997", "00", "01", "000", "0900", "-0", "-1", "+0", "+1", " 0", "0 ", "\t1", "1\n",
		"0x1", "1_0", "1e0", "0.", ".0", "a", "x", "\xff", "\x00", "１", "١", "\uFFFD", "1000", "18446744073709551616", "18446744073709551617",
		"-18446744073709551615", "9223372036854775808", "4294967296", "4294967297", strings.Repeat("0", 3000), strings.Repeat("9", 3000),
	}
	for _, right := range []string{"0,0,0,0,0,0", "0,3,1,0,0,604", "2,9,1,3,900,484"} {
		parts := strings.Split(right, ",")
		for first := range parts {
			for _, field := range fields {
				other := slices.Clone(parts)
				other[first] = field
				checkReadTape(t, strings.Join(other, ",")+";")
				for _, field := range fields[:24] {
					again := slices.Clone(other)
					again[(first+1)%6] = field
					checkReadTape(t, strings.Join(again, ",")+";")
				}
			}
		}
	}
}

func TestP39OtherTexts(t *testing.T) {
	one, two := "0,3,1,0,0,604;", "1,0,1,1,3,618;"
	zeros := "0,0,0,0,0,0;"
	for _, s := range []string{
		";", ",", ";;", ",,,,,;", " ", "0", "0;", "none", "\n", "\x00", "\xff", "\uFEFF", "\uFEFF" + zeros,
		"0,3,1,0,0,604", one + ";", ";" + one, "0,3,1,0,0,604;;", "0,3,1,0,0;", "0,3,1,0,0,;", "0,3,1,0,604;", ",0,3,1,0,0,604;", "0,3,1,0,0,604,;",
		"0,3,1,0,0,604,0;", "0,3,1,0,0,0,604;", "0,,3,1,0,0,604;", "0,3,1,0,0;604;", "0;3;1;0;0;604;", "0 3 1 0 0 604;", "031000604;",
		"0,3,1,0,0,604,1,0,1,1,3,618;", "0,3,1,0,0,604;1,0,1,1,3,618", "0,3,1,0,0,604;1,0,1,1,3;", one + one, two, two + one, one + two + two,
		one + " ", " " + one, one + "\n", one + "\x00", one + "0", one + "x", one + "0,", one + "0,0,0,0,0,0", one + " " + two, one + "\n" + two, one + "\xff" + two,
		"0, 3, 1, 0, 0, 604;", "00,3,1,0,0,604;", "0,03,1,0,0,604;", "0,3,1,00,0,604;", "0,3,1,0,0,0604;", "-0,3,1,0,0,604;", "0,+3,1,0,0,604;",
		"0,3,1,0,0,603;", "0,3,1,0,0,605;", "0,3,1,0,0,0;", "0,3,1,0,0,1601;", "0,3,1,0,0,-393;", "0,3,1,0,1,604;", "0,2,1,0,0,604;", "1,3,1,0,0,604;", "0,3,0,0,0,604;", "0,3,1,1,0,604;",
		"0,0,0,0,901,901;", "0,10,0,0,0,804;", "0,0,0,4,0,124;", "0,0,2,0,0,925;", "3,0,0,0,0,897;", "0,0,0,0,997,0;", "0,0,0,0,0,997;",
		strings.Repeat(zeros, 21), strings.Repeat(zeros, 22), strings.Repeat(zeros, 20000), strings.Repeat(zeros, 20) + "0", strings.Repeat(zeros, 20) + ";",
		strings.Repeat("0", 100000), strings.Repeat("9", 100000), strings.Repeat(",", 100000), strings.Repeat(";", 100000),
		plainTapeText(rightTape(randomEntries(21)...)), strings.Repeat("0", 100000) + zeros[1:], "0,0,0,0,0," + strings.Repeat("0", 100000) + ";",
	} {
		tape, ok := impl.ReadTape(s)
		must(t, !ok && tape == nil, strconv.Quote(s[:min(len(s), 200)]), tape, ok)
	}
	for _, s := range []string{"", one, one + two, zeros, strings.Repeat(zeros, 20), plainTapeText(rightTape(randomEntries(20)...))} {
		must(t, checkReadTape(t, s), strconv.Quote(s))
	}
}

func TestP39TextsOfWrongTapes(t *testing.T) {
	for _, tapes := range wrongTapes() {
		for _, tape := range tapes {
			read, ok := impl.ReadTape(plainTapeText(tape))
			must(t, !ok && read == nil, tape, read, ok)
		}
	}
	for _, tape := range longTapes() {
		read, ok := impl.ReadTape(plainTapeText(tape))
		must(t, !ok && read == nil, tape, read, ok)
	}
}

// roomyTape returns a tape with spare capacity behind it.
func roomyTape(tape []impl.Entry) []impl.Entry {
	room := slices.Repeat([]impl.Entry{{Do: 66, N: 66}}, len(tape)+8)
	copy(room, tape)
	return room[:len(tape)]
}

func overwriteTape(tape []impl.Entry) {
	for i := range tape[:cap(tape)] {
		tape[:cap(tape)][i] = impl.Entry{Do: 77, Check: 77}
	}
}

func TestTapesAreNotWrittenTo(t *testing.T) {
	for at, run := range append(tapeRuns(), untoldRuns()...) {
		if at%5 != 0 {
			continue
		}
		acts, results := roomyActs(run.acts), roomyResults(run.results)
		actsBefore, resultsBefore := slices.Clone(acts[:cap(acts)]), wholeResults(results)
		tape, _ := impl.WrittenFor(acts, results)
		overwriteTape(tape)
		must(t, slices.Equal(acts[:cap(acts)], actsBefore), run, acts[:cap(acts)])
		must(t, sameResults(wholeResults(results), resultsBefore), run, results)
	}
	tapes := slices.Concat(rightTapes(), longTapes(), wrongTapes()[0], wrongTapes()[3])
	for _, want := range tapes {
		tape := roomyTape(want)
		before := slices.Clone(tape[:cap(tape)])
		impl.WrongEntry(tape)
		impl.TakingsOf(tape)
		text := impl.TapeText(tape)
		read, _ := impl.ReadTape(text)
		overwriteTape(read)
		must(t, slices.Equal(tape[:cap(tape)], before), want, tape[:cap(tape)])
	}
}

func TestTapesShareNoMemory(t *testing.T) {
	for _, run := range append(edgeRuns(), madeRuns()[:42]...) {
		first, ok := impl.WrittenFor(run.acts, run.results)
		if !ok {
			continue
		}
		want := slices.Clone(first)
		text := impl.TapeText(first)
		lists := [][]impl.Entry{first}
		for range 2 {
			again, _ := impl.WrittenFor(run.acts, run.results)
			read, _ := impl.ReadTape(text)
			lists = append(lists, again, read)
		}
		for at, list := range lists {
			must(t, slices.Equal(list, want), run, at, list)
			overwriteTape(list)
		}
		must(t, text == plainTapeText(want), run, text)
	}
}

// No check hangs on what was asked before, of this tape or of another one.
func TestTapesKeepNothing(t *testing.T) {
	run := exampleRun()
	want, _ := plainWritten(run.acts, run.results)
	for _, other := range tapeRuns()[:200] {
		impl.WrittenFor(other.acts, other.results)
		impl.CheckOf(500, impl.Entry{Paid: 9})
		impl.WrongEntry(want[1:])
		impl.ReadTape("0,3,1,0,0,604;1,0,")
		tape, ok := impl.WrittenFor(run.acts, run.results)
		must(t, ok && slices.Equal(tape, want) && impl.WrongEntry(tape) == -1, other, tape, ok)
		must(t, impl.CheckOf(0, want[0]) == want[0].Check, other)
		read, ok := impl.ReadTape(plainTapeText(want))
		must(t, ok && slices.Equal(read, want), other, read, ok)
	}
}
