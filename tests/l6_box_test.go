package tests

import (
	"math"
	"math/big"
	"slices"
	"strconv"
	"strings"
	"testing"

	"loop.example/g01377/impl"
)

func TestPralineConstants(t *testing.T) {
	if impl.MaxPralines != 1000000 || impl.MaxTasters != 20 || impl.MaxTasteRounds != 20 || impl.MaxWeighed != 1000 {
		t.Error("a limit of chapter 6 is not that of the document")
	}
}

// TestTasterExamples has the numbers of the document's example of tasters.
func TestTasterExamples(t *testing.T) {
	if n, ok := impl.TastersFor(1000, 1); !ok || n != 10 {
		t.Error("TastersFor", n, ok)
	}
	if n, ok := impl.MostPralines(2, 2); !ok || n != 9 {
		t.Error("MostPralines", n, ok)
	}
	if code, ok := impl.CodeOfPraline(9, 2, 2, 5); !ok || !slices.Equal(code, []int{1, 2}) {
		t.Error("CodeOfPraline", code, ok)
	}
	if which, ok := impl.PralineOfCode(9, 2, 2, []int{1, 2}); !ok || which != 5 {
		t.Error("PralineOfCode", which, ok)
	}
	if tasted, ok := impl.TastedBy(9, 2, 2, 0, 1); !ok || !slices.Equal(tasted, []int{3, 4, 5}) {
		t.Error("TastedBy", tasted, ok)
	}
	if n, ok := impl.BitterRounds(9, 2, 2); !ok || n != 2 {
		t.Error("BitterRounds", n, ok)
	}
}

// TestWeighingExamples has the numbers of the document's example of weighings.
func TestWeighingExamples(t *testing.T) {
	if n, ok := impl.WeighingsFor(8); !ok || n != 2 {
		t.Error("WeighingsFor", n, ok)
	}
	if pan, out, ok := impl.WeighGroups(8); !ok || pan != 3 || out != 2 {
		t.Error("WeighGroups", pan, out, ok)
	}
	if left, ok := impl.SuspectsAfter(8, "r"); !ok || !slices.Equal(left, []int{3, 4, 5}) {
		t.Error("SuspectsAfter", left, ok)
	}
	if results, ok := impl.ResultsFor(8, 7); !ok || results != "=r" {
		t.Error("ResultsFor", results, ok)
	}
	if n, ok := impl.LongestResults(8); !ok || n != 2 {
		t.Error("LongestResults", n, ok)
	}
}

// TestGroupExamples has the numbers of the document's example of groups.
func TestGroupExamples(t *testing.T) {
	if n, ok := impl.TestsByGroups(16, 4); !ok || n != 8 {
		t.Error("TestsByGroups", n, ok)
	}
	if size, n, ok := impl.BestGroup(16); !ok || size != 4 || n != 8 {
		t.Error("BestGroup", size, n, ok)
	}
	if n, ok := impl.TestsOfBox("ooxoooo", 3); !ok || n != 6 {
		t.Error("TestsOfBox", n, ok)
	}
	if size, n, ok := impl.BestGroupOf("ooxoooo"); !ok || size != 2 || n != 6 {
		t.Error("BestGroupOf", size, n, ok)
	}
	rows, columns, n, ok := impl.RowsAndColumns([]string{"oxo", "ooo", "oxx"})
	if !ok || !slices.Equal(rows, []int{0, 2}) || !slices.Equal(columns, []int{1, 2}) || n != 4 {
		t.Error("RowsAndColumns", rows, columns, n, ok)
	}
	if rows, columns, ok := impl.GridFor(7); !ok || rows != 2 || columns != 4 {
		t.Error("GridFor", rows, columns, ok)
	}
}

// TestSinglePraline has the single praline, which is the bitter or the heavier one without being tested.
func TestSinglePraline(t *testing.T) {
	for _, n := range []int{1, 2, 19, 20} {
		if tasters, ok := impl.TastersFor(1, n); !ok || tasters != 0 {
			t.Error("TastersFor", n, tasters, ok)
		}
		if rounds, ok := impl.RoundsFor(1, n); !ok || rounds != 0 {
			t.Error("RoundsFor", n, rounds, ok)
		}
		if rounds, ok := impl.BitterRounds(1, n, 20); !ok || rounds != 0 {
			t.Error("BitterRounds", n, rounds, ok)
		}
		zeros := make([]int, n)
		if code, ok := impl.CodeOfPraline(1, n, 3, 0); !ok || !slices.Equal(code, zeros) {
			t.Error("CodeOfPraline", n, code, ok)
		}
		if which, ok := impl.PralineOfCode(1, n, 3, zeros); !ok || which != 0 {
			t.Error("PralineOfCode", n, which, ok)
		}
		if tasted, ok := impl.TastedBy(1, n, 3, n-1, 1); !ok || len(tasted) != 0 {
			t.Error("TastedBy", n, tasted, ok)
		}
	}
	if n, ok := impl.WeighingsFor(1); !ok || n != 0 {
		t.Error("WeighingsFor", n, ok)
	}
	if left, ok := impl.SuspectsAfter(1, ""); !ok || !slices.Equal(left, []int{0}) {
		t.Error("SuspectsAfter", left, ok)
	}
	if results, ok := impl.ResultsFor(1, 0); !ok || results != "" {
		t.Error("ResultsFor", results, ok)
	}
	if n, ok := impl.LongestResults(1); !ok || n != 0 {
		t.Error("LongestResults", n, ok)
	}
	if rows, columns, ok := impl.GridFor(1); !ok || rows != 1 || columns != 1 {
		t.Error("GridFor", rows, columns, ok)
	}
}

// TestBoxOfOnePraline has boxes of one praline: it is a group of 1, whatever the groups are.
func TestBoxOfOnePraline(t *testing.T) {
	for _, group := range []int{1, 2, 59, 60} {
		for _, praline := range []string{"o", "x"} {
			if n, ok := impl.TestsOfBox(praline, group); !ok || n != 1 {
				t.Error("TestsOfBox", praline, group, n, ok)
			}
		}
		if n, ok := impl.TestsByGroups(1, group); !ok || n != 1 {
			t.Error("TestsByGroups", group, n, ok)
		}
	}
	if n, ok := impl.TestsByGroups(1, 1000); !ok || n != 1 {
		t.Error("TestsByGroups", n, ok)
	}
	if size, n, ok := impl.BestGroup(1); !ok || size != 1 || n != 1 {
		t.Error("BestGroup", size, n, ok)
	}
	for _, praline := range []string{"o", "x"} {
		if size, n, ok := impl.BestGroupOf(praline); !ok || size != 1 || n != 1 {
			t.Error("BestGroupOf", praline, size, n, ok)
		}
	}
	if rows, columns, n, ok := impl.RowsAndColumns([]string{"o"}); !ok || len(rows) != 0 || len(columns) != 0 || n != 0 {
		t.Error("RowsAndColumns", rows, columns, n, ok)
	}
	if rows, columns, n, ok := impl.RowsAndColumns([]string{"x"}); !ok || !slices.Equal(rows, []int{0}) || !slices.Equal(columns, []int{0}) || n != 1 {
		t.Error("RowsAndColumns", rows, columns, n, ok)
	}
}

// foundBy has for each number of tasters, up to 20, and of rounds, up to 20,
// how many pralines they can tell at best, if in each round the tasters taste
// whatever the rounds before ask for: those who taste the bitter one are out,
// so each number of them leads on to a round with fewer tasters.
func foundBy() [21][21]*big.Int {
	var found [21][21]*big.Int
	for rounds := range 21 {
		for tasters := range 21 {
			found[tasters][rounds] = big.NewInt(0)
			if rounds == 0 {
				found[tasters][rounds] = big.NewInt(1)
				continue
			}
			for out := 0; out <= tasters; out++ {
				ways := new(big.Int).Binomial(int64(tasters), int64(out))
				found[tasters][rounds].Add(found[tasters][rounds], ways.Mul(ways, found[tasters-out][rounds-1]))
			}
		}
	}
	return found
}

func enough(found *big.Int, pralines int) bool {
	return found.Cmp(big.NewInt(int64(pralines))) >= 0
}

// someMany has numbers of pralines in 1..1000000: lesser ones, all powers and their neighbours, and the greatest ones.
func someMany() []int {
	list := []int{999998, 999999, 1000000}
	for n := 1; n <= 450; n++ {
		list = append(list, n)
	}
	for base := 2; base <= 1000; base++ {
		for power := base * base; power <= 1000000; power *= base {
			list = append(list, power-1, power, min(power+1, 1000000))
		}
	}
	slices.Sort(list)
	return slices.Compact(list)
}

func TestMostPralines(t *testing.T) {
	found := foundBy()
	full := 0
	for tasters := 1; tasters <= 20; tasters++ {
		for rounds := 1; rounds <= 20; rounds++ {
			want := 1000000
			if enough(found[tasters][rounds], 1000000) {
				full++
			} else {
				want = int(found[tasters][rounds].Int64())
			}
			if n, ok := impl.MostPralines(tasters, rounds); !ok || n != want {
				t.Error(tasters, rounds, n, ok, "not", want)
			}
		}
	}
	if full == 0 || full == 400 {
		t.Error(full, "are enough for all pralines")
	}
	for of, want := range map[[2]int]int{
		{1, 1}: 2, {1, 20}: 21, {4, 20}: 194481, {5, 14}: 759375, {5, 15}: 1000000, {6, 9}: 1000000, {6, 8}: 531441,
		{19, 1}: 524288, {20, 1}: 1000000, {20, 20}: 1000000, {12, 2}: 531441, {13, 2}: 1000000,
	} {
		if n, ok := impl.MostPralines(of[0], of[1]); !ok || n != want {
			t.Error(of, n, ok, "not", want)
		}
	}
}

func TestTastersFor(t *testing.T) {
	found := foundBy()
	for _, pralines := range someMany() {
		for rounds := 1; rounds <= 20; rounds++ {
			want := 0
			for !enough(found[want][rounds], pralines) {
				want++
			}
			if n, ok := impl.TastersFor(pralines, rounds); !ok || n != want {
				t.Error(pralines, rounds, n, ok, "not", want)
			}
		}
	}
	for of, want := range map[[2]int]int{{2, 1}: 1, {3, 1}: 2, {3, 2}: 1, {1000000, 1}: 20, {1000000, 9}: 6, {1000000, 8}: 7, {1000000, 20}: 5, {21, 20}: 1, {22, 20}: 2} {
		if n, ok := impl.TastersFor(of[0], of[1]); !ok || n != want {
			t.Error(of, n, ok, "not", want)
		}
	}
}

// TestRoundsFor goes up with the rounds as more pralines need them.
func TestRoundsFor(t *testing.T) {
	for tasters := 1; tasters <= 20; tasters++ {
		rounds, told := 0, big.NewInt(1)
		for _, pralines := range someMany() {
			for !enough(told, pralines) {
				rounds++
				told.Exp(big.NewInt(int64(rounds+1)), big.NewInt(int64(tasters)), nil)
			}
			if n, ok := impl.RoundsFor(pralines, tasters); !ok || n != rounds {
				t.Error(pralines, tasters, n, ok, "not", rounds)
			}
		}
	}
	// With few tasters there are more rounds than other functions allow.
	for of, want := range map[[2]int]int{{2, 1}: 1, {2, 20}: 1, {22, 1}: 21, {1000000, 1}: 999999, {999999, 1}: 999998, {1000000, 2}: 999, {1000000, 3}: 99, {1000000, 6}: 9, {1000000, 19}: 2, {1000000, 20}: 1, {524289, 19}: 2, {524288, 19}: 1} {
		if n, ok := impl.RoundsFor(of[0], of[1]); !ok || n != want {
			t.Error(of, n, ok, "not", want)
		}
	}
}

// tastersAndRounds has pairs of them that are enough for few pralines, and for many.
func tastersAndRounds() [][2]int {
	return [][2]int{{1, 1}, {1, 2}, {1, 20}, {2, 1}, {2, 2}, {2, 20}, {3, 1}, {3, 2}, {3, 4}, {4, 3}, {5, 2}, {9, 1}, {10, 1}, {7, 2}, {20, 1}, {20, 20}, {4, 20}, {6, 9}, {19, 1}}
}

// writtenCode writes a number with as many digits as there are tasters: no base is greater than 21.
func writtenCode(which, tasters, rounds int) []int {
	digits := strconv.FormatInt(int64(which), rounds+1)
	code := make([]int, tasters-len(digits))
	for _, digit := range digits {
		code = append(code, strings.IndexRune("0123456789abcdefghijk", digit))
	}
	return code
}

// allPralines has the numbers of so many pralines.
func allPralines(pralines int) []int {
	all := make([]int, pralines)
	for i := range all {
		all[i] = i
	}
	return all
}

// somePralines has all numbers of few pralines, and some of many.
func somePralines(pralines int) []int {
	if pralines <= 300 {
		return allPralines(pralines)
	}
	list := []int{0, 1, 2, 20, 21, 22, 255, pralines / 2, pralines/2 + 1, pralines - 2, pralines - 1}
	z := drawn(pralines % 9999)
	for range 40 {
		list = append(list, z.below(10007)*99%pralines)
	}
	return list
}

func TestCodes(t *testing.T) {
	for _, pair := range tastersAndRounds() {
		tasters, rounds := pair[0], pair[1]
		most, _ := impl.MostPralines(tasters, rounds)
		for _, pralines := range []int{1, 2, (most + 1) / 2, most - 1, most} {
			for _, which := range somePralines(pralines) {
				want := writtenCode(which, tasters, rounds)
				if code, ok := impl.CodeOfPraline(pralines, tasters, rounds, which); !ok || !slices.Equal(code, want) {
					t.Error(pralines, pair, which, code, ok, "not", want)
				}
				if back, ok := impl.PralineOfCode(pralines, tasters, rounds, want); !ok || back != which {
					t.Error(pralines, pair, want, back, ok, "not", which)
				}
			}
		}
	}
}

// allCodes has all codes in order.
func allCodes(tasters, rounds int) [][]int {
	if tasters == 0 {
		return [][]int{{}}
	}
	var codes [][]int
	for _, code := range allCodes(tasters-1, rounds) {
		for round := 0; round <= rounds; round++ {
			codes = append(codes, append(slices.Clone(code), round))
		}
	}
	return codes
}

// TestCodesTellPralines has all codes: each tells its place among them if there are so many pralines, otherwise none.
func TestCodesTellPralines(t *testing.T) {
	for _, pair := range [][2]int{{1, 1}, {1, 20}, {2, 1}, {2, 2}, {2, 9}, {3, 2}, {3, 3}, {4, 2}, {6, 1}} {
		codes := allCodes(pair[0], pair[1])
		for pralines := 1; pralines <= len(codes); pralines++ {
			for i, code := range codes {
				want, may := i, i < pralines
				if !may {
					want = 0
				}
				if which, ok := impl.PralineOfCode(pralines, pair[0], pair[1], code); ok != may || which != want {
					t.Error(pralines, pair, code, which, ok)
				}
				told, ok := impl.CodeOfPraline(pralines, pair[0], pair[1], i)
				if ok != may || may && !slices.Equal(told, code) || !may && len(told) != 0 {
					t.Error(pralines, pair, i, told, ok)
				}
			}
		}
	}
}

// notesOfTasters lets all tasters taste in all rounds, and has what they note.
func notesOfTasters(t *testing.T, pralines, tasters, rounds, bitter int) []int {
	notes := make([]int, tasters)
	for round := 1; round <= rounds; round++ {
		for taster := range tasters {
			tasted, ok := impl.TastedBy(pralines, tasters, rounds, taster, round)
			if !ok || !slices.IsSorted(tasted) {
				t.Error(pralines, tasters, rounds, taster, round, tasted, ok)
			}
			if notes[taster] == 0 && slices.Contains(tasted, bitter) {
				notes[taster] = round
			}
		}
	}
	return notes
}

// TestTastesTellTheBitterOne lets each praline be the bitter one: what the tasters note is its code, behind no more rounds than told.
func TestTastesTellTheBitterOne(t *testing.T) {
	for _, pair := range [][2]int{{1, 1}, {1, 20}, {2, 1}, {2, 2}, {2, 5}, {3, 2}, {3, 4}, {4, 1}, {4, 2}, {6, 1}, {20, 1}, {20, 20}} {
		tasters, rounds := pair[0], pair[1]
		most, _ := impl.MostPralines(tasters, rounds)
		for _, pralines := range []int{1, 2, min(most, 9), min(most, 30), min(most, 81)} {
			last := 0
			for bitter := range pralines {
				notes := notesOfTasters(t, pralines, tasters, rounds, bitter)
				if which, ok := impl.PralineOfCode(pralines, tasters, rounds, notes); !ok || which != bitter {
					t.Error(pralines, pair, bitter, notes, which, ok)
				}
				last = max(last, slices.Max(notes))
			}
			if n, ok := impl.BitterRounds(pralines, tasters, rounds); !ok || n != last {
				t.Error("BitterRounds", pralines, pair, n, ok, "not", last)
			}
		}
	}
}

func TestTastedBy(t *testing.T) {
	for _, pair := range tastersAndRounds() {
		tasters, rounds := pair[0], pair[1]
		most, _ := impl.MostPralines(tasters, rounds)
		for _, pralines := range []int{1, min(most, 17), min(most, 999), min(most, 1000)} {
			for taster := range tasters {
				for round := 1; round <= rounds; round++ {
					var want []int
					for which := range pralines {
						if writtenCode(which, tasters, rounds)[taster] == round {
							want = append(want, which)
						}
					}
					if tasted, ok := impl.TastedBy(pralines, tasters, rounds, taster, round); !ok || !slices.Equal(tasted, want) {
						t.Error(pralines, pair, taster, round, tasted, ok, "not", want)
					}
				}
			}
		}
	}
}

func TestBitterRounds(t *testing.T) {
	for tasters := 1; tasters <= 20; tasters++ {
		for rounds := 1; rounds <= 20; rounds++ {
			most, _ := impl.MostPralines(tasters, rounds)
			greatest := 0
			for pralines := 1; pralines <= min(most, 500); pralines++ {
				greatest = max(greatest, slices.Max(writtenCode(pralines-1, tasters, rounds)))
				if n, ok := impl.BitterRounds(pralines, tasters, rounds); !ok || n != greatest {
					t.Error(pralines, tasters, rounds, n, ok, "not", greatest)
				}
			}
			if n, ok := impl.BitterRounds(most, tasters, rounds); !ok || n != rounds {
				t.Error("of most", tasters, rounds, n, ok)
			}
		}
	}
}

// tasteFails checks that all functions of pralines, tasters and rounds fail.
func tasteFails(t *testing.T, pralines, tasters, rounds int) {
	t.Helper()
	if code, ok := impl.CodeOfPraline(pralines, tasters, rounds, 0); ok || len(code) != 0 {
		t.Error("CodeOfPraline", pralines, tasters, rounds, code, ok)
	}
	for _, many := range []int{0, 1, 2, 20} {
		if which, ok := impl.PralineOfCode(pralines, tasters, rounds, make([]int, many)); ok || which != 0 {
			t.Error("PralineOfCode", pralines, tasters, rounds, which, ok)
		}
	}
	if tasted, ok := impl.TastedBy(pralines, tasters, rounds, 0, 1); ok || len(tasted) != 0 {
		t.Error("TastedBy", pralines, tasters, rounds, tasted, ok)
	}
	if n, ok := impl.BitterRounds(pralines, tasters, rounds); ok || n != 0 {
		t.Error("BitterRounds", pralines, tasters, rounds, n, ok)
	}
}

// TestTooManyPralinesForTasters has as many pralines as tasters and rounds are enough for, and one more.
func TestTooManyPralinesForTasters(t *testing.T) {
	for tasters := 1; tasters <= 20; tasters++ {
		for rounds := 1; rounds <= 20; rounds++ {
			most, _ := impl.MostPralines(tasters, rounds)
			tasteFails(t, most+1, tasters, rounds)
			last := writtenCode(most-1, tasters, rounds)
			if code, ok := impl.CodeOfPraline(most, tasters, rounds, most-1); !ok || !slices.Equal(code, last) {
				t.Error(most, tasters, rounds, code, ok)
			}
			if which, ok := impl.PralineOfCode(most, tasters, rounds, last); !ok || which != most-1 {
				t.Error(most, tasters, rounds, which, ok)
			}
		}
	}
	tasteFails(t, 10, 2, 2)
	tasteFails(t, 1000000, 19, 1)
}

// noUpTo has numbers that are not in 1..most.
func noUpTo(most int) []int {
	return []int{math.MinInt, math.MinInt + 1, -most, -1, 0, most + 1, most + 2, 2 * most, 1<<32 + 1, 1<<32 + most, math.MaxInt - 1, math.MaxInt}
}

func TestNoTastersFail(t *testing.T) {
	for _, no := range noUpTo(1000000) {
		for _, n := range []int{1, 20} {
			if tasters, ok := impl.TastersFor(no, n); ok || tasters != 0 {
				t.Error("TastersFor", no, n, tasters, ok)
			}
			if rounds, ok := impl.RoundsFor(no, n); ok || rounds != 0 {
				t.Error("RoundsFor", no, n, rounds, ok)
			}
		}
		tasteFails(t, no, 20, 20)
		tasteFails(t, no, 1, 1)
	}
	for _, no := range noUpTo(20) {
		for _, n := range []int{1, 9, 1000000} {
			if tasters, ok := impl.TastersFor(n, no); ok || tasters != 0 {
				t.Error("TastersFor", n, no, tasters, ok)
			}
			if rounds, ok := impl.RoundsFor(n, no); ok || rounds != 0 {
				t.Error("RoundsFor", n, no, rounds, ok)
			}
		}
		for _, n := range []int{1, 20, no} {
			for _, pair := range [][2]int{{n, no}, {no, n}} {
				if most, ok := impl.MostPralines(pair[0], pair[1]); ok || most != 0 {
					t.Error("MostPralines", pair, most, ok)
				}
				tasteFails(t, 1, pair[0], pair[1])
				tasteFails(t, 9, pair[0], pair[1])
			}
		}
	}
}

func TestPralinesThatAreNot(t *testing.T) {
	for _, which := range []int{math.MinInt, -9, -1, 9, 10, 1 << 32, 1<<32 + 5, math.MaxInt} {
		if code, ok := impl.CodeOfPraline(9, 2, 2, which); ok || len(code) != 0 {
			t.Error(which, code, ok)
		}
	}
	for _, which := range []int{7, 8, 9} {
		if code, ok := impl.CodeOfPraline(7, 2, 2, which); ok || len(code) != 0 {
			t.Error(which, code, ok)
		}
	}
}

func TestCodesThatAreNone(t *testing.T) {
	fails := func(pralines, tasters, rounds int, code ...int) {
		t.Helper()
		if which, ok := impl.PralineOfCode(pralines, tasters, rounds, code); ok || which != 0 {
			t.Error(pralines, tasters, rounds, code, which, ok)
		}
	}
	fails(9, 2, 2)
	fails(9, 2, 2, 1)
	fails(9, 2, 2, 0, 1, 2)
	fails(9, 2, 2, 1, 2, 0)
	fails(9, 2, 2, 0, 0, 0)
	fails(9, 1, 10)
	fails(1, 1, 1)
	for _, no := range []int{math.MinInt, -3, -1, 3, 4, 1 << 32, 1 << 62, math.MaxInt} {
		fails(9, 2, 2, no, 1)
		fails(9, 2, 2, 1, no)
		fails(9, 2, 2, 0, no)
		fails(9, 2, 2, no, no)
	}
	// These would tell a praline, but have a number that is none of a round.
	fails(9, 2, 2, 2, -1)
	fails(9, 2, 2, -1, 5)
	fails(9, 2, 2, 1, 3)
	fails(9, 2, 2, 0, 8)
	// There are codes for these pralines, but not so many pralines.
	fails(8, 2, 2, 2, 2)
	fails(5, 2, 2, 1, 2)
	fails(1, 2, 2, 0, 1)
	fails(1000000, 20, 1, 1, 1, 1, 1, 0, 1, 0, 0, 0, 0, 1, 0, 0, 1, 0, 0, 0, 0, 0, 0)
	fails(1000000, 20, 20, slices.Repeat([]int{20}, 20)...)
	fails(1000000, 20, 20, append([]int{1}, make([]int, 19)...)...)
	// As an int of 64 bits, but not as a number, each of these codes tells the praline 1.
	for at := range 4 {
		code := make([]int, 20)
		code[at], code[19] = 7, 1
		fails(1000000, 20, 15, code...)
	}
	fails(1000000, 20, 9, slices.Repeat([]int{1}, 20)...)
	fails(1000000, 20, 1, make([]int, 1000000)...)
}

func TestTastersThatAreNot(t *testing.T) {
	fails := func(pralines, tasters, rounds, taster, round int) {
		t.Helper()
		if tasted, ok := impl.TastedBy(pralines, tasters, rounds, taster, round); ok || len(tasted) != 0 {
			t.Error(pralines, tasters, rounds, taster, round, tasted, ok)
		}
	}
	for _, taster := range []int{math.MinInt, -2, -1, 2, 3, 20, 1 << 32, math.MaxInt} {
		fails(9, 2, 3, taster, 1)
	}
	for _, round := range []int{math.MinInt, -1, 0, 4, 5, 20, 1<<32 + 1, math.MaxInt} {
		fails(9, 2, 3, 1, round)
	}
	// There are codes of these pralines, but they are too many to be listed.
	for _, pralines := range []int{1001, 1002, 1024, 2000, 1000000} {
		fails(pralines, 20, 1, 19, 1)
		if n, ok := impl.BitterRounds(pralines, 20, 1); !ok || n != 1 {
			t.Error("BitterRounds", pralines, n, ok)
		}
	}
	if tasted, ok := impl.TastedBy(1000, 20, 1, 19, 1); !ok || len(tasted) != 500 {
		t.Error("TastedBy of 1000", tasted, ok)
	}
	if tasted, ok := impl.TastedBy(1000, 10, 1, 0, 1); !ok || len(tasted) != 488 || tasted[0] != 512 {
		t.Error("TastedBy of 1000", tasted, ok)
	}
}

// fewestWeighings has for each number of suspects how many weighings are needed if always the best number is laid on the pans.
func fewestWeighings() []int {
	fewest := make([]int, 1001)
	for suspects := 2; suspects <= 1000; suspects++ {
		fewest[suspects] = math.MaxInt
		for pan := 1; 2*pan <= suspects; pan++ {
			fewest[suspects] = min(fewest[suspects], 1+max(fewest[pan], fewest[suspects-2*pan]))
		}
	}
	return fewest
}

func TestWeighings(t *testing.T) {
	fewest := fewestWeighings()
	for pralines := 1; pralines <= 1000; pralines++ {
		if n, ok := impl.WeighingsFor(pralines); !ok || n != fewest[pralines] {
			t.Error("WeighingsFor", pralines, n, ok, "not", fewest[pralines])
		}
		if n, ok := impl.LongestResults(pralines); !ok || n != fewest[pralines] {
			t.Error("LongestResults", pralines, n, ok, "not", fewest[pralines])
		}
	}
	for pralines, want := range map[int]int{1: 0, 2: 1, 3: 1, 4: 2, 9: 2, 10: 3, 27: 3, 28: 4, 81: 4, 82: 5, 243: 5, 244: 6, 729: 6, 730: 7, 1000: 7} {
		if n, ok := impl.WeighingsFor(pralines); !ok || n != want {
			t.Error(pralines, n, ok, "not", want)
		}
	}
}

// panOf returns how many of suspects are laid on each pan: a third, as far as whole ones go, of one more than they are.
func panOf(suspects int) int {
	pan := 0
	for 3*(pan+1) <= suspects+1 {
		pan++
	}
	return pan
}

func TestWeighGroups(t *testing.T) {
	fewest := fewestWeighings()
	for suspects := 2; suspects <= 1000; suspects++ {
		want := panOf(suspects)
		pan, out, ok := impl.WeighGroups(suspects)
		if !ok || pan != want || out != suspects-want-want {
			t.Error(suspects, pan, out, ok, "not", want)
		}
		if pan < 1 || out < 0 || 1+max(fewest[pan], fewest[out]) != fewest[suspects] {
			t.Error(suspects, "are not weighed as well as can be", pan, out)
		}
	}
	for suspects, want := range map[int][2]int{2: {1, 0}, 3: {1, 1}, 4: {1, 2}, 5: {2, 1}, 6: {2, 2}, 7: {2, 3}, 999: {333, 333}, 1000: {333, 334}} {
		if pan, out, ok := impl.WeighGroups(suspects); !ok || [2]int{pan, out} != want {
			t.Error(suspects, pan, out, ok, "not", want)
		}
	}
}

// weighed lays suspects on the pans: those on the left one, those on the right one, and those left out.
func weighed(suspects []int) [3][]int {
	pan := panOf(len(suspects))
	return [3][]int{suspects[:pan], suspects[pan : 2*pan], suspects[2*pan:]}
}

// weigh returns the results with real weights, until one suspect is left, and that one.
func weigh(suspects []int, weights []int) (string, int) {
	results := ""
	for len(suspects) > 1 {
		groups := weighed(suspects)
		left, right := 0, 0
		for i := range groups[0] {
			left += weights[groups[0][i]]
			right += weights[groups[1][i]]
		}
		switch {
		case left > right:
			results, suspects = results+"l", groups[0]
		case left < right:
			results, suspects = results+"r", groups[1]
		default:
			results, suspects = results+"=", groups[2]
		}
	}
	return results, suspects[0]
}

// TestResultsLeadToTheHeavierOne lets each praline be the heavier one.
func TestResultsLeadToTheHeavierOne(t *testing.T) {
	all := allPralines(1000)
	for _, pralines := range append(all[1:130:130], 242, 243, 244, 500, 728, 729, 730, 998, 999, 1000) {
		weights := slices.Repeat([]int{10}, pralines)
		longest := 0
		for heavy := range pralines {
			weights[heavy] = 11
			want, found := weigh(all[:pralines], weights)
			weights[heavy] = 10
			results, ok := impl.ResultsFor(pralines, heavy)
			if !ok || results != want || found != heavy {
				t.Error("ResultsFor", pralines, heavy, results, ok, "not", want)
			}
			if left, ok := impl.SuspectsAfter(pralines, results); !ok || !slices.Equal(left, []int{heavy}) {
				t.Error("SuspectsAfter", pralines, results, left, ok)
			}
			longest = max(longest, len(results))
		}
		needed, _ := impl.WeighingsFor(pralines)
		if n, ok := impl.LongestResults(pralines); !ok || n != longest || longest != needed {
			t.Error("LongestResults", pralines, n, ok, "not", longest, needed)
		}
	}
}

// checkSuspects checks all results that begin with these, behind which suspects are left.
func checkSuspects(t *testing.T, pralines int, results string, suspects []int) {
	left, ok := impl.SuspectsAfter(pralines, results)
	if ok != (len(suspects) > 0) || !slices.Equal(left, suspects) {
		t.Errorf("%d %q %v %v not %v", pralines, results, left, ok, suspects)
	}
	groups := [3][]int{}
	if len(suspects) > 1 {
		groups = weighed(suspects)
	}
	for i, result := range []string{"l", "r", "="} {
		if len(suspects) > 0 {
			checkSuspects(t, pralines, results+result, groups[i])
		}
	}
}

func TestSuspectsAfter(t *testing.T) {
	all := allPralines(1000)
	for _, pralines := range append(all[1:100:100], 243, 244, 728, 999, 1000) {
		checkSuspects(t, pralines, "", all[:pralines])
	}
}

func TestResultsThatAreNone(t *testing.T) {
	bad := []string{
		// A result with one suspect, or none left.
		"lll", "ll=", "rrr", "===", "=l=", "=ll", "==", "=rr",
		// Signs that are no results.
		"x", "L", "R", "l ", " l", "l\n", "\x00", "l\x00", "\xff", "l\xff", "-", "l,r", "=x", "xl", "\u03bb", "lo", "1", "\u2550", "==x",
		strings.Repeat("l", 1000000), strings.Repeat("=", 1000000), strings.Repeat("?", 1000000),
	}
	for _, results := range bad {
		if left, ok := impl.SuspectsAfter(8, results); ok || len(left) != 0 {
			t.Errorf("%.20q %v %v", results, left, ok)
		}
	}
	for pralines, results := range map[int][]string{1: {"l", "r", "=", "x"}, 2: {"=", "ll", "l=", "rl", "==", "=l"}, 3: {"ll", "==", "=r"}, 5: {"l=", "r=", "=="}} {
		for _, s := range results {
			if left, ok := impl.SuspectsAfter(pralines, s); ok || len(left) != 0 {
				t.Error(pralines, s, left, ok)
			}
		}
	}
}

func TestNoPralinesAreWeighed(t *testing.T) {
	for _, no := range noUpTo(1000) {
		if n, ok := impl.WeighingsFor(no); ok || n != 0 {
			t.Error("WeighingsFor", no, n, ok)
		}
		if n, ok := impl.LongestResults(no); ok || n != 0 {
			t.Error("LongestResults", no, n, ok)
		}
		for _, results := range []string{"", "l", "=", "x"} {
			if left, ok := impl.SuspectsAfter(no, results); ok || len(left) != 0 {
				t.Errorf("SuspectsAfter %d %q %v %v", no, results, left, ok)
			}
		}
		for _, heavy := range []int{0, 1, no - 1, no} {
			if results, ok := impl.ResultsFor(no, heavy); ok || results != "" {
				t.Error("ResultsFor", no, heavy, results, ok)
			}
		}
	}
	for _, no := range append(noUpTo(1000), 1) {
		if pan, out, ok := impl.WeighGroups(no); ok || pan != 0 || out != 0 {
			t.Error("WeighGroups", no, pan, out, ok)
		}
	}
	for _, pralines := range []int{1, 2, 8, 999, 1000} {
		for _, heavy := range []int{math.MinInt, -1000, -1, pralines, pralines + 1, 1000, 1 << 32, math.MaxInt} {
			if results, ok := impl.ResultsFor(pralines, heavy); ok || results != "" {
				t.Error("ResultsFor", pralines, heavy, results, ok)
			}
		}
	}
}

// testedBox tests a box group by group, and counts.
func testedBox(box string, group int) int {
	tests := 0
	for from := 0; from < len(box); from += group {
		to := min(from+group, len(box))
		tests++
		if to-from == 1 {
			continue
		}
		bitter := false
		for at := from; at < to; at++ {
			bitter = bitter || box[at] == 'x'
		}
		if bitter {
			for range to - from {
				tests++
			}
		}
	}
	return tests
}

// boxesOfPralines has all boxes of up to 9 pralines, and drawn ones of up to 60.
func boxesOfPralines() []string {
	boxes := []string{}
	for many := 1; many <= 9; many++ {
		for bits := range 1 << many {
			box := ""
			for at := range many {
				box += string("ox"[bits>>at&1])
			}
			boxes = append(boxes, box)
		}
	}
	z := drawn(41)
	for many := 10; many <= 60; many++ {
		boxes = append(boxes, strings.Repeat("o", many), strings.Repeat("x", many), strings.Repeat("o", many-1)+"x", "x"+strings.Repeat("o", many-1))
		for _, rare := range []int{2, 5, 11, 29, 60} {
			box := ""
			for range many {
				box += string("xo"[min(z.below(rare), 1)])
			}
			boxes = append(boxes, box)
		}
	}
	return boxes
}

func TestTestsOfBox(t *testing.T) {
	for _, box := range boxesOfPralines() {
		size, fewest := 0, 0
		for group := 1; group <= 60; group++ {
			want := testedBox(box, group)
			if n, ok := impl.TestsOfBox(box, group); !ok || n != want {
				t.Error("TestsOfBox", box, group, n, ok, "not", want)
			}
			if group <= len(box) && (group == 1 || want < fewest) {
				size, fewest = group, want
			}
		}
		if best, n, ok := impl.BestGroupOf(box); !ok || best != size || n != fewest {
			t.Error("BestGroupOf", box, best, n, ok, "not", size, fewest)
		}
	}
}

func TestBoxesByHand(t *testing.T) {
	for box, want := range map[string][5]int{
		// Tests in groups of 1, of 3 and of 60, the best size, and the tests with it.
		"oo": {2, 1, 1, 2, 1}, "ox": {2, 3, 3, 1, 2}, "xx": {2, 3, 3, 1, 2},
		"oooo": {4, 2, 1, 4, 1}, "ooox": {4, 2, 5, 3, 2}, "xooo": {4, 5, 5, 1, 4}, "oooxxx": {6, 5, 7, 3, 5},
		"ooooooo": {7, 3, 1, 7, 1}, "oooooox": {7, 3, 8, 6, 2}, "xxxxxxx": {7, 9, 8, 1, 7},
		strings.Repeat("o", 60):       {60, 20, 1, 60, 1},
		strings.Repeat("o", 59) + "x": {60, 23, 61, 59, 2},
		strings.Repeat("x", 60):       {60, 80, 61, 1, 60},
	} {
		for i, group := range []int{1, 3, 60} {
			if n, ok := impl.TestsOfBox(box, group); !ok || n != want[i] {
				t.Error(box, group, n, ok, "not", want[i])
			}
		}
		if size, n, ok := impl.BestGroupOf(box); !ok || size != want[3] || n != want[4] {
			t.Error(box, size, n, ok, "not", want[3:])
		}
	}
}

// noPralines has texts that are no boxes.
func noPralines() []string {
	return []string{
		"", strings.Repeat("o", 61), strings.Repeat("x", 61), strings.Repeat("ox", 31), strings.Repeat("o", 1000000),
		"X", "O", "0", "oXo", "oOo", "o0x", " ", "o ", " o", "ox\n", "\x00", "ox\x00", "\x00ox", "oaxo", "ooaoo", "xox/ooo", "o,x", "-", "\xff", "o\xffx", "\u03bf", "\u0445", "x\u0301", "\u00d7o", "oo.x",
		strings.Repeat("o", 59) + "a", "a" + strings.Repeat("o", 59), strings.Repeat("o", 30) + "*" + strings.Repeat("o", 29),
	}
}

func TestBoxesThatAreNone(t *testing.T) {
	for _, box := range noPralines() {
		for _, group := range []int{1, 2, 60} {
			if n, ok := impl.TestsOfBox(box, group); ok || n != 0 {
				t.Errorf("TestsOfBox %.70q %d %d %v", box, group, n, ok)
			}
		}
		if size, n, ok := impl.BestGroupOf(box); ok || size != 0 || n != 0 {
			t.Errorf("BestGroupOf %.70q %d %d %v", box, size, n, ok)
		}
	}
	for _, no := range noUpTo(60) {
		for _, box := range []string{"o", "x", "ooxoooo", strings.Repeat("o", 60), ""} {
			if n, ok := impl.TestsOfBox(box, no); ok || n != 0 {
				t.Error("TestsOfBox", box, no, n, ok)
			}
		}
	}
}

// mostTests tests boxes with one bitter praline, each one in turn, and has the greatest number of tests.
func mostTests(pralines, group int) int {
	most := 0
	for bitter := range pralines {
		box := []byte(strings.Repeat("o", pralines))
		box[bitter] = 'x'
		most = max(most, testedBox(string(box), group))
	}
	return most
}

func TestTestsByGroups(t *testing.T) {
	for pralines := 1; pralines <= 40; pralines++ {
		for group := 1; group <= 45; group++ {
			want := mostTests(pralines, group)
			if n, ok := impl.TestsByGroups(pralines, group); !ok || n != want {
				t.Error(pralines, group, n, ok, "not", want)
			}
		}
	}
	for of, want := range map[[2]int]int{
		{1, 1}: 1, {2, 1}: 2, {2, 2}: 3, {2, 3}: 3, {3, 2}: 4, {5, 4}: 6, {5, 1000}: 6, {16, 3}: 9, {16, 5}: 9, {16, 16}: 17, {16, 17}: 17,
		{1000, 1}: 1000, {1000, 2}: 502, {1000, 31}: 64, {1000, 32}: 64, {1000, 999}: 1001, {1000, 1000}: 1001, {999, 1000}: 1000,
	} {
		if n, ok := impl.TestsByGroups(of[0], of[1]); !ok || n != want {
			t.Error(of, n, ok, "not", want)
		}
	}
}

// TestBestGroup has as many tests as there are groups and pralines in the first one, of which a single one is not tested again.
func TestBestGroup(t *testing.T) {
	for pralines := 1; pralines <= 1000; pralines++ {
		size, fewest := 1, pralines
		for group := 2; group <= 1000; group++ {
			tests := int(math.Ceil(float64(pralines) / float64(group)))
			if first := min(group, pralines); first > 1 {
				tests += first
			}
			if tests < fewest {
				size, fewest = group, tests
			}
		}
		best, n, ok := impl.BestGroup(pralines)
		if !ok || best != size || n != fewest {
			t.Error(pralines, best, n, ok, "not", size, fewest)
		}
		if told, ok := impl.TestsByGroups(pralines, best); !ok || told != n {
			t.Error("not as told by TestsByGroups", pralines, best, n, told, ok)
		}
	}
	for pralines, want := range map[int][2]int{1: {1, 1}, 2: {1, 2}, 3: {1, 3}, 4: {1, 4}, 5: {1, 5}, 6: {2, 5}, 9: {3, 6}, 12: {3, 7}, 16: {4, 8}, 100: {10, 20}, 1000: {28, 64}} {
		if size, n, ok := impl.BestGroup(pralines); !ok || [2]int{size, n} != want {
			t.Error(pralines, size, n, ok, "not", want)
		}
	}
}

func TestNoGroups(t *testing.T) {
	for _, no := range noUpTo(1000) {
		for _, n := range []int{1, 16, 1000, no} {
			for _, pair := range [][2]int{{n, no}, {no, n}} {
				if tests, ok := impl.TestsByGroups(pair[0], pair[1]); ok || tests != 0 {
					t.Error("TestsByGroups", pair, tests, ok)
				}
			}
		}
		if size, n, ok := impl.BestGroup(no); ok || size != 0 || n != 0 {
			t.Error("BestGroup", no, size, n, ok)
		}
		if rows, columns, ok := impl.GridFor(no); ok || rows != 0 || columns != 0 {
			t.Error("GridFor", no, rows, columns, ok)
		}
	}
}

// checkRows looks at each praline of boxes, and at its row and column.
func checkRows(t *testing.T, boxes []string) {
	t.Helper()
	var rows, columns []int
	for y, box := range boxes {
		for x := range box {
			if box[x] == 'x' {
				rows, columns = append(rows, y), append(columns, x)
			}
		}
	}
	both := 0
	for y, box := range boxes {
		for x := range box {
			if slices.Contains(rows, y) && slices.Contains(columns, x) {
				both++
			}
		}
	}
	slices.Sort(columns)
	rows, columns = slices.Compact(rows), slices.Compact(columns)
	r, c, n, ok := impl.RowsAndColumns(boxes)
	if !ok || !slices.Equal(r, rows) || !slices.Equal(c, columns) || n != both {
		t.Error(boxes, r, c, n, ok, "not", rows, columns, both)
	}
}

// drawnBoxes has boxes of one size above each other, in which about one praline of rare ones is bitter.
func drawnBoxes(z *drawn, wide, high, rare int) []string {
	var boxes []string
	for range high {
		box := ""
		for range wide {
			box += string("xo"[min(z.below(rare), 1)])
		}
		boxes = append(boxes, box)
	}
	return boxes
}

func TestRowsAndColumns(t *testing.T) {
	z := drawn(5)
	for high := 1; high <= 20; high++ {
		for _, wide := range []int{1, 2, 3, 7, 19, 20, 21, 59, 60} {
			for _, sign := range []string{"o", "x"} {
				checkRows(t, uniform(wide, high, sign))
			}
			for _, rare := range []int{2, 4, 13, 60} {
				checkRows(t, drawnBoxes(&z, wide, high, rare))
			}
		}
	}
	check := func(text string, rows, columns []int, both int) {
		t.Helper()
		r, c, n, ok := impl.RowsAndColumns(strings.Split(text, "/"))
		if !ok || !slices.Equal(r, rows) || !slices.Equal(c, columns) || n != both {
			t.Error(text, r, c, n, ok)
		}
	}
	check("oo/oo", nil, nil, 0)
	check("xo/ox", []int{0, 1}, []int{0, 1}, 4)
	check("ooox", []int{0}, []int{3}, 1)
	check("o/o/x", []int{2}, []int{0}, 1)
	check("oox/xoo", []int{0, 1}, []int{0, 2}, 4)
	check("xxx/xxx", []int{0, 1}, []int{0, 1, 2}, 6)
}

func TestRowsThatAreNone(t *testing.T) {
	fails := func(boxes []string) {
		t.Helper()
		if r, c, n, ok := impl.RowsAndColumns(boxes); ok || len(r) != 0 || len(c) != 0 || n != 0 {
			t.Errorf("%.80q %v %v %d %v", boxes, r, c, n, ok)
		}
	}
	fails(nil)
	fails([]string{})
	fails(uniform(3, 21, "x"))
	fails(uniform(1, 22, "o"))
	fails(uniform(61, 1, "x"))
	fails(uniform(61, 20, "o"))
	fails(uniform(0, 1, "x"))
	fails(uniform(0, 20, "x"))
	fails(make([]string, 1000000))
	fails(uniform(1, 1000000, "x"))
	for _, boxes := range [][]string{{"ox", "o"}, {"o", "ox"}, {"ox", "oxo"}, {"ox", ""}, {"", "ox"}, {"ox", "ox", "oxo"}, {"oxo", "ox", "ox"}, {"oxo", "ox", "oxo"}} {
		fails(boxes)
	}
	for _, no := range noPralines() {
		fails([]string{no})
		fails([]string{no, no})
		fails([]string{"ox", no})
		fails([]string{no, "ox"})
		if len(no) <= 60 {
			good := strings.Repeat("o", len(no))
			fails([]string{good, good, no})
			fails([]string{good, no, good})
		}
	}
}

func TestGridFor(t *testing.T) {
	for pralines := 1; pralines <= 1000; pralines++ {
		best := [2]int{pralines, pralines}
		for rows := 1; rows <= 35; rows++ {
			for columns := rows; columns <= 1000; columns++ {
				if rows*columns >= pralines && rows+columns < best[0]+best[1] {
					best = [2]int{rows, columns}
				}
			}
		}
		rows, columns, ok := impl.GridFor(pralines)
		if !ok || [2]int{rows, columns} != best {
			t.Error(pralines, rows, columns, ok, "not", best)
		}
		// No column can be spared.
		if rows*(columns-1) >= pralines {
			t.Error("too many columns", pralines, rows, columns)
		}
	}
	for pralines, want := range map[int][2]int{1: {1, 1}, 2: {1, 2}, 3: {1, 3}, 4: {2, 2}, 5: {2, 3}, 8: {2, 4}, 9: {3, 3}, 10: {2, 5}, 11: {3, 4}, 13: {3, 5}, 16: {4, 4}, 17: {3, 6}, 961: {31, 31}, 1000: {28, 36}} {
		if rows, columns, ok := impl.GridFor(pralines); !ok || [2]int{rows, columns} != want {
			t.Error(pralines, rows, columns, ok, "not", want)
		}
	}
}
