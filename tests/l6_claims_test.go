package tests

import (
	"math"
	"math/rand/v2"
	"slices"
	"strings"
	"testing"
	"unsafe"

	"loop.example/coinmachine/impl"
)

// claimBytes are all bytes of claims.
const claimBytes = "cpbdgo!XFG()&|U"

// toldRun is a run as claims are asked of it.
type toldRun struct {
	acts    []impl.Act
	results []impl.Result
}

// factClaims are the claims of one byte.
func factClaims() []string {
	return []string{"c", "p", "b", "d", "g", "o"}
}

// claimsBySize returns all claims of each number of bytes up to a greatest one.
func claimsBySize(most int) [][]string {
	sizes := make([][]string, most+1)
	sizes[1] = factClaims()
	for size := 2; size <= most; size++ {
		for _, sign := range []string{"!", "X", "F", "G"} {
			for _, part := range sizes[size-1] {
				sizes[size] = append(sizes[size], sign+part)
			}
		}
		for left := 1; left < size-3; left++ {
			for _, first := range sizes[left] {
				for _, second := range sizes[size-3-left] {
					for _, sign := range []string{"&", "|", "U"} {
						sizes[size] = append(sizes[size], "("+first+sign+second+")")
					}
				}
			}
		}
	}
	return sizes
}

// pairClaims returns all claims of two facts.
func pairClaims() []string {
	var list []string
	for _, first := range factClaims() {
		for _, second := range factClaims() {
			list = append(list, "("+first+"&"+second+")", "("+first+"|"+second+")", "("+first+"U"+second+")")
		}
	}
	return list
}

// shortClaims returns all claims of at most so many bytes.
func shortClaims(most int) []string {
	return slices.Concat(claimsBySize(most)...)
}

// randomClaim returns a claim of just so many bytes.
func randomClaim(random *rand.Rand, size int) string {
	if size == 1 {
		return factClaims()[random.IntN(6)]
	}
	if size < 5 || random.IntN(3) == 0 {
		return []string{"!", "X", "F", "G"}[random.IntN(4)] + randomClaim(random, size-1)
	}
	left := 1 + random.IntN(size-4)
	sign := []string{"&", "|", "U"}[random.IntN(3)]
	return "(" + randomClaim(random, left) + sign + randomClaim(random, size-3-left) + ")"
}

// longClaims returns claims of all sizes up to 20, which are the same ones in each call.
func longClaims(each int) []string {
	random := rand.New(rand.NewPCG(6, 20))
	var list []string
	for range each {
		for size := 1; size <= 20; size++ {
			list = append(list, randomClaim(random, size))
		}
	}
	return list
}

// greatestClaims returns claims of just 20 bytes, of each form.
func greatestClaims() []string {
	var list []string
	for _, fact := range factClaims() {
		for _, sign := range []string{"!", "X", "F", "G"} {
			list = append(list, strings.Repeat(sign, 19)+fact)
		}
	}
	for _, sign := range []string{"&", "|", "U"} {
		list = append(list,
			"("+strings.Repeat("X", 15)+"c"+sign+"d)",
			"(d"+sign+strings.Repeat("!", 15)+"g)",
			"(c"+sign+"(p"+sign+"(b"+sign+"(d"+sign+"FFFo))))",
			"((((FFFc"+sign+"p)"+sign+"b)"+sign+"d)"+sign+"g)",
			"GF("+"(c"+sign+"!d)"+sign+"(Xg"+sign+"FFFo))")
	}
	return list
}

func noClaims() []string {
	list := []string{
		"", " ", "!", "X", "F", "G", "U", "&", "|", "(", ")", "()", "XX", "!!", "GF", "FX!",
		"cc", "gg", "c!", "cX", "dF", "oG", "!cd", "Xcc", "c)", "c&d", "c|d", "cUd", "Fc&d", "&cd", "Ucd",
		"(c)", "(Xc)", "((c&d))", "(c&)", "(&c)", "(c&d", "c&d)", "(c&d))", "((c&d)", "(c", "(c&", "(c&d&g)", "(c&d|g)",
		"(cd)", "(c!d)", "(cXd)", "(c&&d)", "(c||d)", "(cUUd)", "(c^d)", "(c,d)", "(c)d)", "(c(d)", "(c&d)g", "(c&d)(c&d)", "(c)&(d)",
		"[c&d]", "{c&d}", "<c&d>", "(c&d]", "(c&d}", "(c&d(",
		" c", "c ", "! c", "X c", "( c&d)", "(c &d)", "(c& d)", "(c&d )", "(c&d) ", "\tc", "c\n", "c\x00", "\x00c", "\x00",
		"C", "P", "B", "D", "O", "x", "f", "u", "xc", "fc", "gc", "a", "e", "0", "1", "~c", "-c", "¬c", "(c∧d)", "é", "\xff", "c\xff", "true", "false",
	}
	for _, claim := range greatestClaims() {
		list = append(list, "!"+claim, "X"+claim, "F"+claim, "G"+claim, claim+"c", claim[:19], claim[:19]+"(", claim[:19]+" ")
	}
	return append(list,
		strings.Repeat("!", 20), strings.Repeat("(", 20), strings.Repeat("X", 20)+"c", "(c&"+strings.Repeat("X", 16)+"d)",
		strings.Repeat("(", 1<<20), strings.Repeat("!", 1<<20)+"c", strings.Repeat("F", 1<<20))
}

// mainSign returns the place of the sign between the two claims in the brackets that are around a text.
func mainSign(s string) int {
	deep := 0
	for at, sign := range s {
		switch sign {
		case '(':
			deep++
		case ')':
			deep--
		case '&', '|', 'U':
			if deep == 1 {
				return at
			}
		}
	}
	return -1
}

// plainAnswers tells at which places of a run a claim holds, as the document tells it, written down anew for the tests.
func plainAnswers(claim string, run toldRun) []bool {
	answers := make([]bool, len(run.acts))
	var first, second []bool
	switch claim[0] {
	case '(':
		middle := mainSign(claim)
		first = plainAnswers(claim[1:middle], run)
		second = plainAnswers(claim[middle+1:len(claim)-1], run)
		for at := range answers {
			answers[at] = plainPair(claim[middle], first[at:], second[at:])
		}
	case '!', 'X', 'F', 'G':
		first = plainAnswers(claim[1:], run)
		for at := range answers {
			answers[at] = plainSingle(claim[0], first[at:])
		}
	default:
		for at := range answers {
			answers[at] = plainFact(claim[0], run.acts[at], run.results[at])
		}
	}
	return answers
}

func plainFact(sign byte, a impl.Act, what impl.Result) bool {
	switch sign {
	case 'c':
		return a.Do == 0
	case 'p':
		return a.Do == 1
	case 'b':
		return a.Do == 2
	case 'd':
		return what.Done
	case 'g':
		return what.Piece >= 1
	}
	return len(what.Out) > 0 && plainWorth(what.Out) > 0
}

// plainSingle asks a sign about where the claim behind it holds, from a place on.
func plainSingle(sign byte, part []bool) bool {
	switch sign {
	case '!':
		return !part[0]
	case 'X':
		return len(part) > 1 && part[1]
	case 'F':
		return slices.Contains(part, true)
	}
	return !slices.Contains(part, false)
}

// plainPair asks a sign about where the claims around it hold, from a place on.
func plainPair(sign byte, first []bool, second []bool) bool {
	switch sign {
	case '&':
		return first[0] && second[0]
	case '|':
		return first[0] || second[0]
	}
	for at := range second {
		if second[at] && !slices.Contains(first[:at], false) {
			return true
		}
	}
	return false
}

// wildRuns returns runs of all lengths up to 20 with any results, which no machine need have given.
func wildRuns(each int) []toldRun {
	random := rand.New(rand.NewPCG(22, 6))
	acts := append(runActs(), coinOf(0), pickOf(0), backAct(), impl.Act{Do: -1}, impl.Act{Do: math.MinInt}, impl.Act{Do: math.MaxInt, N: 3})
	outs := [][]int{nil, {}, {0, 0, 0, 0}, {0, 0, 0, 0}, {1, 0, 0, 0}, {0, 1, 0, 0}, {0, 0, 20, 0}, {0, 0, 0, 1}, {20, 20, 20, 20}}
	var list []toldRun
	for range each {
		for long := range 21 {
			var run toldRun
			for range long {
				run.acts = append(run.acts, acts[random.IntN(len(acts))])
				run.results = append(run.results, impl.Result{
					Done:  random.IntN(3) > 0,
					Piece: max(0, random.IntN(7)-3),
					Out:   outs[random.IntN(len(outs))],
				})
			}
			list = append(list, run)
		}
	}
	return list
}

// machineRuns returns some runs of machines, with what came of them.
func machineRuns() []toldRun {
	var list []toldRun
	for _, m := range runMachines() {
		for at, acts := range slices.Concat(shortRuns(), longRuns()) {
			if at%17 != 0 {
				continue
			}
			_, results := plainRun(m, acts)
			list = append(list, toldRun{acts, results})
		}
	}
	return list
}

// edgeRuns has a run without acts, runs of one act and of two, and runs of 20 acts.
func edgeRuns() []toldRun {
	list := []toldRun{{}, {acts: []impl.Act{}, results: []impl.Result{}}}
	for _, a := range []impl.Act{coinOf(3), pickOf(0), backAct(), {Do: 3}} {
		for _, what := range []impl.Result{{}, doneOf(0, 0, 0, 0, 0), doneOf(1, 0, 0, 0, 0), doneOf(1, 1, 0, 0, 0), {Piece: 1}, {Out: []int{0, 1, 0, 0}}} {
			list = append(list,
				toldRun{[]impl.Act{a}, []impl.Result{what}},
				toldRun{[]impl.Act{a, coinOf(0)}, []impl.Result{what, doneOf(0, 0, 0, 0, 0)}},
				toldRun{slices.Repeat([]impl.Act{a}, 20), slices.Repeat([]impl.Result{what}, 20)})
		}
	}
	last := sameRun(20)
	last.acts[19], last.results[19] = backAct(), doneOf(2, 0, 0, 0, 2)
	return append(list, last)
}

// sameRun returns a run of so many coins put in.
func sameRun(long int) toldRun {
	return toldRun{slices.Repeat([]impl.Act{coinOf(1)}, long), slices.Repeat([]impl.Result{doneOf(0, 0, 0, 0, 0)}, long)}
}

// exampleRun is a run with acts of each kind, of which one is not done, a good and coins that come out.
func exampleRun() toldRun {
	m := machineOf([]int{1, 1, 0, 0}, []int{0, 0, 0, 0}, goodsOf(7, 1, 3, 2))
	acts := []impl.Act{coinOf(3), pickOf(1), pickOf(0), coinOf(2), backAct()}
	_, results := plainRun(m, acts)
	return toldRun{acts, results}
}

// forClaims calls a function with claims and runs: short claims of each form with all runs at the edges,
// all short claims with few runs, and longer claims with many.
func forClaims(check func(claim string, run toldRun)) {
	for _, run := range edgeRuns() {
		for _, claim := range slices.Concat(shortClaims(2), pairClaims(), greatestClaims()) {
			check(claim, run)
		}
	}
	for _, run := range append(wildRuns(1)[2:5], exampleRun()) {
		for _, claim := range shortClaims(5) {
			check(claim, run)
		}
	}
	long := slices.Concat(longClaims(40), greatestClaims())
	for at, run := range slices.Concat(machineRuns(), wildRuns(20)) {
		for step := range 12 {
			check(long[(at*12+step)%len(long)], run)
		}
	}
}

func holdsAt(claim string, run toldRun, at int) bool {
	return impl.HoldsAt(claim, run.acts, run.results, at)
}

func holdsOf(claim string, run toldRun) bool {
	return impl.HoldsOf(claim, run.acts, run.results)
}

func placesOf(claim string, run toldRun) []int {
	return impl.PlacesOf(claim, run.acts, run.results)
}

// noRuns has acts and results that are no run: too many, of unlike numbers, or with coins that are no purse.
func noRuns() []toldRun {
	list := []toldRun{
		sameRun(21), sameRun(22), sameRun(100),
		{acts: []impl.Act{coinOf(0)}}, {results: []impl.Result{doneOf(0, 0, 0, 0, 0)}},
	}
	for _, long := range []int{1, 2, 19, 20, 21} {
		less, more := sameRun(long), sameRun(long)
		less.results = less.results[1:]
		more.acts = more.acts[1:]
		list = append(list, less, more)
	}
	for _, out := range noPurses() {
		// No coins at all are none that come out.
		if len(out) == 0 {
			continue
		}
		for at := range 3 {
			run := sameRun(3)
			run.results[at].Out = out
			list = append(list, run)
		}
		list = append(list, toldRun{[]impl.Act{coinOf(0)}, []impl.Result{{Out: out}}})
	}
	return list
}

// someClaims has a claim of each form, and some that hold everywhere.
func someClaims() []string {
	return slices.Concat(factClaims(), []string{"!c", "Xd", "Fg", "Go", "(c&d)", "(c|!c)", "(dUc)", "F(p|!p)", "!(c&!c)", "!Xd", "!F!d"})
}

func TestClaimConstants(t *testing.T) {
	must(t, impl.MaxClaim == 20, impl.MaxClaim)
}

func TestP58SomeTimeIsAClaim(t *testing.T) {
	for _, s := range slices.Concat(shortClaims(6), longClaims(100), greatestClaims(), noClaims(), someClaims()) {
		ahead := impl.ClaimOk("F" + s)
		if len(s) >= 20 {
			must(t, !ahead, "too long", s)
			continue
		}
		must(t, ahead == impl.ClaimOk(s), s, ahead)
	}
}

func TestP58ClaimsOfEachSize(t *testing.T) {
	for _, s := range slices.Concat(shortClaims(7), longClaims(500), greatestClaims(), someClaims()) {
		must(t, impl.ClaimOk(s), s)
	}
	for _, s := range greatestClaims() {
		must(t, len(s) == 20, s, len(s))
		for _, sign := range []string{"!", "X", "F", "G"} {
			must(t, !impl.ClaimOk(sign+s), "one byte more", sign+s)
			must(t, !impl.ClaimOk("("+s+"&c)"), "more bytes", s)
		}
	}
}

func TestP58NoClaims(t *testing.T) {
	for _, s := range noClaims() {
		must(t, !impl.ClaimOk(s), s)
	}
}

// All texts of a few bytes of claims are asked: only those that are made as told are claims.
func TestP58AllShortTexts(t *testing.T) {
	for size, claims := range claimsBySize(5) {
		told := map[string]bool{}
		for _, claim := range claims {
			told[claim] = true
		}
		texts := []string{""}
		for range size {
			var longer []string
			for _, text := range texts {
				for _, sign := range claimBytes {
					longer = append(longer, text+string(sign))
				}
			}
			texts = longer
		}
		for _, text := range texts {
			must(t, impl.ClaimOk(text) == told[text], text)
		}
	}
}

// Each byte is asked at each place of a claim, and with each place left out.
func TestP58OtherBytes(t *testing.T) {
	for _, claim := range []string{"c", "!d", "XFGo", "(c&d)", "(g|!o)", "((pUb)U(c&Xd))"} {
		known := map[string]bool{}
		for at := range claim {
			for sign := range 256 {
				s := claim[:at] + string([]byte{byte(sign)}) + claim[at+1:]
				known[s] = plainClaim(s)
				s = claim[:at] + string([]byte{byte(sign)}) + claim[at:]
				known[s] = plainClaim(s)
			}
			s := claim[:at] + claim[at+1:]
			known[s] = plainClaim(s)
		}
		for s, want := range known {
			must(t, impl.ClaimOk(s) == want, s, want)
		}
	}
}

// plainClaim is ClaimOk for texts of at most MaxClaim bytes: parts that are claims are made shorter until one is left.
func plainClaim(s string) bool {
	if strings.Contains(s, "#") {
		return false
	}
	for _, fact := range factClaims() {
		s = strings.ReplaceAll(s, fact, "#")
	}
	for before := ""; before != s; {
		before = s
		for _, part := range []string{"!#", "X#", "F#", "G#", "(#&#)", "(#|#)", "(#U#)"} {
			s = strings.ReplaceAll(s, part, "#")
		}
	}
	return s == "#"
}

// answersOf tells of each place of a run whether a claim holds there.
func answersOf(claim string, run toldRun) []bool {
	answers := make([]bool, len(run.acts))
	for at := range answers {
		answers[at] = impl.HoldsAt(claim, run.acts, run.results, at)
	}
	return answers
}

func TestP22AlwaysIsNowAndAlwaysNext(t *testing.T) {
	forClaims(func(claim string, run toldRun) {
		if len(claim) > 19 {
			return
		}
		now, always := answersOf(claim, run), answersOf("G"+claim, run)
		for at := range run.acts {
			next := at+1 == len(run.acts) || always[at+1]
			must(t, always[at] == (now[at] && next), claim, run, at)
		}
	})
}

func TestP22SomeTimeIsNotNever(t *testing.T) {
	forClaims(func(claim string, run toldRun) {
		opposite, ok := impl.OppositeOf(claim)
		if !ok || len(claim) > 19 || len(opposite) > 19 {
			return
		}
		some, never := answersOf("F"+claim, run), answersOf("G"+opposite, run)
		for at := range run.acts {
			must(t, some[at] == !never[at], claim, opposite, run, at)
		}
	})
}

func TestP22NextIsThereButAtTheEnd(t *testing.T) {
	forClaims(func(claim string, run toldRun) {
		if len(claim) > 17 {
			return
		}
		next, notNot := answersOf("X"+claim, run), answersOf("!X!"+claim, run)
		for at := range run.acts {
			last := at+1 == len(run.acts)
			must(t, notNot[at] == (last || next[at]), claim, run, at)
			must(t, !last || !next[at], claim, run, at)
		}
	})
}

func TestP22ClaimsHoldAsTold(t *testing.T) {
	held, count := 0, 0
	forClaims(func(claim string, run toldRun) {
		want := plainAnswers(claim, run)
		for at := range run.acts {
			must(t, holdsAt(claim, run, at) == want[at], claim, run, at, want[at])
			if want[at] {
				held++
			}
			count++
		}
	})
	must(t, held > count/5 && held < count-count/5, "hardly anything is told", held, count)
}

func TestP22Claims(t *testing.T) {
	run := exampleRun()
	for _, c := range []struct {
		claim  string
		places []int
	}{
		{"c", []int{0, 3}}, {"p", []int{1, 2}}, {"b", []int{4}}, {"d", []int{0, 2, 3, 4}}, {"g", []int{2}}, {"o", []int{2, 4}},
		{"!c", []int{1, 2, 4}}, {"!!c", []int{0, 3}}, {"Xc", []int{2}}, {"XXc", []int{1}}, {"!Xc", []int{0, 1, 3, 4}}, {"X!c", []int{0, 1, 3}},
		{"Xp", []int{0, 1}}, {"XXXXb", []int{0}}, {"XXXXXb", nil}, {"FXXXXc", nil}, {"Fc", []int{0, 1, 2, 3}}, {"Fb", []int{0, 1, 2, 3, 4}}, {"F(p&!d)", []int{0, 1}},
		{"Gd", []int{2, 3, 4}}, {"Gb", []int{4}}, {"Go", []int{4}}, {"Gc", nil}, {"G!g", []int{3, 4}}, {"GFo", []int{0, 1, 2, 3, 4}}, {"FGc", nil}, {"FGo", []int{0, 1, 2, 3, 4}},
		{"(c&d)", []int{0, 3}}, {"(p&d)", []int{2}}, {"(c|p)", []int{0, 1, 2, 3}}, {"(c&p)", nil}, {"(g|o)", []int{2, 4}}, {"(d|d)", []int{0, 2, 3, 4}},
		{"(cUp)", []int{0, 1, 2}}, {"(dUg)", []int{2}}, {"(pUc)", []int{0, 1, 2, 3}}, {"(dUb)", []int{2, 3, 4}}, {"(gUb)", []int{4}}, {"(cUc)", []int{0, 3}}, {"(!oUb)", []int{3, 4}}, {"((p|c)Uo)", []int{0, 1, 2, 3, 4}}, {"(dU(p&!d))", []int{0, 1}},
		{"(!dUd)", []int{0, 1, 2, 3, 4}}, {"(Xd&!d)", []int{1}}, {"((c&d)UXb)", []int{3}}, {"(Xc|Xb)", []int{2, 3}}, {"G(!g|o)", []int{0, 1, 2, 3, 4}}, {"G(!b|o)", []int{0, 1, 2, 3, 4}}, {"F(g&o)", []int{0, 1, 2}},
	} {
		places := placesOf(c.claim, run)
		must(t, slices.Equal(places, c.places), c.claim, places)
		for at := -1; at < 7; at++ {
			must(t, holdsAt(c.claim, run, at) == slices.Contains(c.places, at), c.claim, at)
		}
		must(t, holdsOf(c.claim, run) == slices.Contains(c.places, 0), c.claim)
	}
}

// At the last place nothing is next, and what holds now holds some time, always, and until anything.
func TestP22TheEnd(t *testing.T) {
	for _, run := range append(edgeRuns(), exampleRun(), sameRun(2), sameRun(19)) {
		last := len(run.acts) - 1
		if last < 0 {
			continue
		}
		for _, claim := range someClaims() {
			now := holdsAt(claim, run, last)
			must(t, !holdsAt("X"+claim, run, last) && holdsAt("!X"+claim, run, last) && !holdsAt("X!"+claim, run, last), claim, run)
			must(t, !holdsAt("XX"+claim, run, last) && !holdsAt("GX"+claim, run, last) && !holdsAt("FX"+claim, run, last), claim, run)
			must(t, holdsAt("F"+claim, run, last) == now && holdsAt("G"+claim, run, last) == now, claim, run)
			must(t, holdsAt("(cU"+claim+")", run, last) == now && holdsAt("(!cU"+claim+")", run, last) == now, claim, run)
			for at := range last {
				must(t, !holdsAt("GX"+claim, run, at), "no next place behind the last one", claim, run, at)
			}
			if last > 0 {
				must(t, holdsAt("X"+claim, run, last-1) == now, claim, run)
			}
		}
	}
}

func TestP22TheEndOfTwentyActs(t *testing.T) {
	run := sameRun(20)
	run.acts[19], run.results[19] = backAct(), doneOf(0, 0, 20, 0, 0)
	all := []int{0, 1, 2, 3, 4, 5, 6, 7, 8, 9, 10, 11, 12, 13, 14, 15, 16, 17, 18, 19}
	for _, c := range []struct {
		claim  string
		places []int
	}{
		{"b", all[19:]}, {"Xb", all[18:19]}, {"XXb", all[17:18]}, {strings.Repeat("X", 19) + "b", all[:1]},
		{"Fb", all}, {"Gb", all[19:]}, {"Gd", all}, {"Gc", nil}, {"Fc", all[:19]}, {"GFb", all}, {"FGb", all}, {"GFc", nil},
		{"(cUb)", all}, {"(bUc)", all[:19]}, {"(dUXb)", all[:19]}, {"(cUXXb)", all[:18]}, {"(dUg)", nil}, {"(bUb)", all[19:]},
		{"!Xd", all[19:]}, {"F!Xd", all}, {"G!Xd", all[19:]}, {"(XdU!Xd)", all}, {"(cU!Xd)", all}, {"(oU!Xd)", all[19:]}, {"(c|o)", all}, {"(c&o)", nil},
	} {
		places := placesOf(c.claim, run)
		must(t, slices.Equal(places, c.places), c.claim, places)
	}
}

// U needs the second claim some time, and the first one at all places before that, but not at that one.
func TestP22Until(t *testing.T) {
	for _, c := range []struct {
		told  string
		acts  string
		holds bool
	}{
		{"now", "p", true}, {"now, and the first one, too, later", "pc", true}, {"never", "c", false}, {"never", "ccc", false},
		{"next", "cp", true}, {"later", "cccp", true}, {"not before", "b", false}, {"a gap", "cbp", false}, {"a gap at first", "bcp", false},
		{"once is enough", "cpbbb", true}, {"once is enough", "ccpcb", true}, {"a gap at last", "ccbp", false},
	} {
		var run toldRun
		for _, sign := range c.acts {
			run.acts = append(run.acts, impl.Act{Do: strings.IndexRune("cpb", sign)})
			run.results = append(run.results, impl.Result{})
		}
		must(t, holdsOf("(cUp)", run) == c.holds, c.told, c.acts)
		must(t, holdsOf("!(cUp)", run) != c.holds, c.told, c.acts)
	}
}

// What comes out is asked of the results alone: done or not, with other acts, and with acts that are none.
func TestP22Facts(t *testing.T) {
	results := []struct {
		told   string
		what   impl.Result
		claims string
	}{
		{"nothing", impl.Result{}, ""},
		{"no coins", impl.Result{Out: []int{}}, ""},
		{"an empty purse", impl.Result{Out: []int{0, 0, 0, 0}}, ""},
		{"done, and nothing comes out", impl.Result{Done: true}, "d"},
		{"done, and an empty purse comes out", doneOf(0, 0, 0, 0, 0), "d"},
		{"a coin of 1", doneOf(0, 1, 0, 0, 0), "do"},
		{"a coin of 2", doneOf(0, 0, 1, 0, 0), "do"},
		{"a coin of 5", doneOf(0, 0, 0, 1, 0), "do"},
		{"a coin of 10", doneOf(0, 0, 0, 0, 1), "do"},
		{"all coins", doneOf(0, 20, 20, 20, 20), "do"},
		{"the first good", doneOf(1, 0, 0, 0, 0), "dg"},
		{"the last good", doneOf(3, 0, 0, 0, 0), "dg"},
		{"a good without coins", impl.Result{Done: true, Piece: 2}, "dg"},
		{"a good and change", doneOf(2, 0, 1, 0, 0), "dgo"},
		{"a good, not done", impl.Result{Piece: 1}, "g"},
		{"coins, not done", impl.Result{Out: []int{0, 0, 3, 0}}, "o"},
		{"no number of a good", impl.Result{Done: true, Piece: -1}, "d"},
	}
	for _, a := range append(runActs(), otherActs()...) {
		for _, r := range results {
			run := toldRun{[]impl.Act{a}, []impl.Result{r.what}}
			for _, fact := range []string{"d", "g", "o"} {
				must(t, holdsOf(fact, run) == strings.Contains(r.claims, fact), a, r.told, fact)
			}
			must(t, holdsOf("c", run) == (a.Do == 0), a, r.told)
			must(t, holdsOf("p", run) == (a.Do == 1), a, r.told)
			must(t, holdsOf("b", run) == (a.Do == 2), a, r.told)
		}
	}
}

func TestP22PlacesThatAreNotThere(t *testing.T) {
	for _, run := range slices.Concat(edgeRuns(), wildRuns(1), []toldRun{exampleRun()}) {
		long := len(run.acts)
		for _, claim := range someClaims() {
			for _, at := range []int{-1, -2, -20, math.MinInt, long, long + 1, 20, 21, 22, 100, math.MaxInt} {
				must(t, !holdsAt(claim, run, at), claim, run, at)
			}
		}
	}
}

func TestP22OtherRuns(t *testing.T) {
	for _, run := range noRuns() {
		for _, claim := range someClaims() {
			for at := -1; at <= len(run.acts); at++ {
				must(t, !holdsAt(claim, run, at), claim, run, at)
			}
			must(t, !holdsOf(claim, run), claim, run)
			must(t, placesOf(claim, run) == nil, claim, run)
		}
	}
}

func TestP22OtherClaims(t *testing.T) {
	for _, run := range []toldRun{{}, sameRun(1), sameRun(20), exampleRun(), sameRun(21)} {
		for _, s := range noClaims() {
			must(t, !holdsAt(s, run, 0) && !holdsAt(s, run, len(run.acts)-1) && !holdsOf(s, run), s, run)
			must(t, placesOf(s, run) == nil, s, run)
		}
	}
}

// The greatest claims are answered in a moment, however deep their signs are in each other.
func TestP22DeepClaims(t *testing.T) {
	run := sameRun(20)
	for _, c := range []struct {
		claim string
		many  int
	}{
		{strings.Repeat("F", 19) + "g", 0}, {strings.Repeat("G", 19) + "d", 20}, {strings.Repeat("FG", 9) + "Fg", 0}, {strings.Repeat("!F", 8) + "!g", 20}, {strings.Repeat("!F", 9) + "!g", 0},
		{"(d|(d|(d|(d|FFFd))))", 20}, {"(dU(dU(dU(dUFFFg))))", 0}, {"((((FFFdUd)Ud)Ud)Ug)", 0},
	} {
		must(t, impl.ClaimOk(c.claim), c.claim)
		must(t, len(placesOf(c.claim, run)) == c.many, c.claim, placesOf(c.claim, run))
	}
}

func TestP23NothingBreaksAClaimIfNothingIsDone(t *testing.T) {
	forClaims(func(claim string, run toldRun) {
		want := len(run.acts) == 0 || holdsAt(claim, run, 0)
		must(t, holdsOf(claim, run) == want, claim, run, want)
	})
}

func TestP23RunsWithoutActs(t *testing.T) {
	for _, run := range []toldRun{{}, {acts: []impl.Act{}}, {results: []impl.Result{}}, {[]impl.Act{}, []impl.Result{}}} {
		for _, claim := range slices.Concat(shortClaims(5), longClaims(50), greatestClaims()) {
			must(t, holdsOf(claim, run), claim)
			must(t, !holdsAt(claim, run, 0) && !holdsAt(claim, run, -1) && placesOf(claim, run) == nil, claim)
			if opposite, ok := impl.OppositeOf(claim); ok {
				must(t, holdsOf(opposite, run), "both hold", claim)
			}
		}
		for _, s := range noClaims() {
			must(t, !holdsOf(s, run), s)
		}
	}
	must(t, !impl.HoldsOf("c", nil, []impl.Result{{}}) && !impl.HoldsOf("!c", []impl.Act{coinOf(0)}, nil), "unlike numbers")
}

func TestP23LengthsOfRuns(t *testing.T) {
	for long := range 45 {
		run := sameRun(long)
		for _, claim := range []string{"c", "Gc", "Fd", "!g", "(c|g)", "(gUc)"} {
			must(t, holdsOf(claim, run) == (long <= 20), claim, long)
			must(t, holdsAt(claim, run, 0) == (long >= 1 && long <= 20), claim, long)
			must(t, holdsAt(claim, run, long-1) == (long >= 1 && long <= 20), claim, long)
			want := long
			if long > 20 {
				want = 0
			}
			must(t, len(placesOf(claim, run)) == want, claim, long, placesOf(claim, run))
		}
	}
}

func TestP24SomeTimeIsAtSomePlace(t *testing.T) {
	forClaims(func(claim string, run toldRun) {
		places := placesOf(claim, run)
		var want, upTo, from []int
		behind := 0
		for at := range run.acts {
			if holdsAt(claim, run, at) {
				want = append(want, at)
			} else {
				behind = at + 1
			}
		}
		must(t, slices.Equal(places, want), claim, run, places)
		if len(claim) > 19 {
			return
		}
		for at := range run.acts {
			if len(places) > 0 && at <= places[len(places)-1] {
				upTo = append(upTo, at)
			}
			if at >= behind {
				from = append(from, at)
			}
		}
		must(t, slices.Equal(placesOf("F"+claim, run), upTo), claim, run, places)
		must(t, slices.Equal(placesOf("G"+claim, run), from), claim, run, places)
	})
}

func TestP25TheOppositeOfTheOppositeIsTheClaim(t *testing.T) {
	forClaims(func(claim string, run toldRun) {
		opposite, ok := impl.OppositeOf(claim)
		must(t, ok == (len(claim) < 20 || claim[0] == '!'), claim, opposite, ok)
		if !ok {
			return
		}
		for at := range run.acts {
			must(t, holdsAt(opposite, run, at) != holdsAt(claim, run, at), claim, opposite, run, at)
		}
		back, ok := impl.OppositeOf(opposite)
		must(t, ok, claim, opposite)
		// Of two exclamation marks each opposite takes one away.
		if !strings.HasPrefix(claim, "!!") {
			must(t, back == claim, claim, opposite, back)
		}
	})
}

func TestP25Opposites(t *testing.T) {
	for _, claim := range slices.Concat(shortClaims(6), longClaims(200), greatestClaims(), someClaims()) {
		opposite, ok := impl.OppositeOf(claim)
		switch {
		case claim[0] == '!':
			must(t, ok && opposite == claim[1:], claim, opposite, ok)
		case len(claim) == 20:
			must(t, !ok && opposite == "", claim, opposite, ok)
		default:
			must(t, ok && opposite == "!"+claim, claim, opposite, ok)
		}
		must(t, !ok || impl.ClaimOk(opposite), claim, opposite)
	}
	for _, c := range [][2]string{
		{"c", "!c"}, {"p", "!p"}, {"b", "!b"}, {"d", "!d"}, {"g", "!g"}, {"o", "!o"}, {"Xc", "!Xc"}, {"Fg", "!Fg"}, {"Gd", "!Gd"},
		{"(c&d)", "!(c&d)"}, {"(g|o)", "!(g|o)"}, {"(cUp)", "!(cUp)"}, {"!c", "c"}, {"!!c", "!c"}, {"!!!c", "!!c"}, {"!Fg", "Fg"}, {"!(c&!d)", "(c&!d)"}, {"X!c", "!X!c"}, {"(!c|d)", "!(!c|d)"},
		{strings.Repeat("X", 18) + "c", "!" + strings.Repeat("X", 18) + "c"}, {"!" + strings.Repeat("X", 18) + "c", strings.Repeat("X", 18) + "c"}, {strings.Repeat("!", 19) + "c", strings.Repeat("!", 18) + "c"},
		{strings.Repeat("X", 19) + "c", ""}, {"G(" + strings.Repeat("X", 14) + "c&d)", ""},
	} {
		opposite, ok := impl.OppositeOf(c[0])
		must(t, opposite == c[1] && ok == (c[1] != ""), c[0], opposite, ok)
	}
}

func TestP25OppositesOfOthers(t *testing.T) {
	for _, s := range noClaims() {
		opposite, ok := impl.OppositeOf(s)
		must(t, !ok && opposite == "", s, opposite, ok)
	}
}

func TestClaimsAreNotWrittenTo(t *testing.T) {
	for _, want := range slices.Concat(edgeRuns(), wildRuns(1), []toldRun{exampleRun(), sameRun(21)}) {
		acts, results := roomyActs(want.acts), roomyResults(want.results)
		actsBefore, resultsBefore := slices.Clone(acts[:cap(acts)]), wholeResults(results)
		for _, claim := range slices.Concat(someClaims(), greatestClaims()[:4], noClaims()[:8]) {
			impl.HoldsOf(claim, acts, results)
			for at := -1; at <= len(acts); at++ {
				impl.HoldsAt(claim, acts, results, at)
			}
			overwriteRow(impl.PlacesOf(claim, acts, results))
		}
		must(t, slices.Equal(acts[:cap(acts)], actsBefore), want, acts)
		must(t, sameResults(wholeResults(results), resultsBefore), want, results)
	}
}

func TestPlacesShareNoMemory(t *testing.T) {
	for _, run := range slices.Concat(edgeRuns(), []toldRun{exampleRun(), sameRun(4)}) {
		rows := outsOf(wholeResults(run.results))
		results := roomyResults(run.results)
		for at := range results {
			results[at].Out = rows[at]
		}
		for _, claim := range someClaims() {
			rows = append(rows, impl.PlacesOf(claim, run.acts, results), impl.PlacesOf(claim, run.acts, results))
		}
		checkOwnMemory(t, rows)
	}
}

// A part of a text would share the memory of the text.
func TestOppositesShareNoMemory(t *testing.T) {
	for _, claim := range []string{"!c", "!!c", "!(c&d)", "c", "(c&d)", strings.Repeat("!", 19) + "c"} {
		given := []byte(claim)
		opposite, _ := impl.OppositeOf(unsafe.String(&given[0], len(given)))
		want := strings.Clone(opposite)
		for at := range given {
			given[at] = '?'
		}
		must(t, opposite == want, claim, opposite)
	}
}

// No answer hangs on what was asked before.
func TestClaimsKeepNothing(t *testing.T) {
	run := exampleRun()
	want := map[string][]int{}
	for _, claim := range slices.Concat(someClaims(), longClaims(5)) {
		want[claim] = placesOf(claim, run)
	}
	for range 3 {
		for claim, places := range want {
			placesOf(claim, sameRun(20))
			placesOf("G"+claim, run)
			must(t, slices.Equal(placesOf(claim, run), places), claim, places)
		}
	}
}
