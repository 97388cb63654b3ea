package tests

import (
	"math"
	"runtime"
	"slices"
	"strings"
	"sync"
	"testing"
	"time"

	"loop.example/g01377/impl"
)

// tasterCalls calls every function of chapter 6 with pralines, tasters and rounds, and tells all results; spoil gets each list returned.
func tasterCalls(pralines, tasters, rounds, which, round int, code []int, spoil func(lists ...[]int)) []string {
	fewest, ok := impl.TastersFor(pralines, rounds)
	told := []string{show(fewest, ok)}
	needed, ok := impl.RoundsFor(pralines, tasters)
	told = append(told, show(needed, ok))
	most, ok := impl.MostPralines(tasters, rounds)
	told = append(told, show(most, ok))
	its, ok := impl.CodeOfPraline(pralines, tasters, rounds, which)
	told = append(told, show(its, ok))
	spoil(its)
	of, ok := impl.PralineOfCode(pralines, tasters, rounds, code)
	told = append(told, show(of, ok))
	tasted, ok := impl.TastedBy(pralines, tasters, rounds, which, round)
	told = append(told, show(tasted, ok))
	spoil(tasted)
	last, ok := impl.BitterRounds(pralines, tasters, rounds)
	return append(told, show(last, ok))
}

// weighCalls calls every function of chapter 6 with pralines alone, with results, or with groups, and tells all results; spoil gets each list returned.
func weighCalls(pralines, other int, results string, spoil func(lists ...[]int)) []string {
	weighings, ok := impl.WeighingsFor(pralines)
	told := []string{show(weighings, ok)}
	pan, out, ok := impl.WeighGroups(pralines)
	told = append(told, show(pan, out, ok))
	left, ok := impl.SuspectsAfter(pralines, results)
	told = append(told, show(left, ok))
	spoil(left)
	its, ok := impl.ResultsFor(pralines, other)
	told = append(told, show(its, ok))
	longest, ok := impl.LongestResults(pralines)
	told = append(told, show(longest, ok))
	tests, ok := impl.TestsByGroups(pralines, other)
	told = append(told, show(tests, ok))
	size, fewest, ok := impl.BestGroup(pralines)
	told = append(told, show(size, fewest, ok))
	rows, columns, ok := impl.GridFor(pralines)
	return append(told, show(rows, columns, ok))
}

// pralineCalls calls every function of chapter 6 with boxes, and tells all results; spoil gets each list returned.
func pralineCalls(boxes []string, group int, spoil func(lists ...[]int)) []string {
	var told []string
	for _, box := range boxes[:min(len(boxes), 3)] {
		tests, ok := impl.TestsOfBox(box, group)
		told = append(told, show(tests, ok))
		size, fewest, ok := impl.BestGroupOf(box)
		told = append(told, show(size, fewest, ok))
	}
	rows, columns, both, ok := impl.RowsAndColumns(boxes)
	told = append(told, show(rows, columns, both, ok))
	spoil(rows, columns)
	return told
}

// TestPralinesThatAreNoneFail has the zero value of every result, and false.
func TestPralinesThatAreNoneFail(t *testing.T) {
	number, list := show(0, false), show([]int(nil), false)
	for _, no := range noUpTo(1000000) {
		told := tasterCalls(no, 2, 2, 0, 1, []int{0, 0}, leaveNumbers)
		if want := []string{number, number, show(9, true), list, number, list, number}; !slices.Equal(told, want) {
			t.Errorf("%d %q", no, told)
		}
	}
	for _, no := range noUpTo(1000) {
		told := weighCalls(no, 1, "l", leaveNumbers)
		if want := []string{number, show(0, 0, false), list, show("", false), number, number, show(0, 0, false), show(0, 0, false)}; !slices.Equal(told, want) {
			t.Errorf("%d %q", no, told)
		}
	}
	for _, no := range noPralines() {
		told := pralineCalls([]string{no}, 1, leaveNumbers)
		if want := []string{number, show(0, 0, false), show([]int(nil), []int(nil), 0, false)}; !slices.Equal(told, want) {
			t.Errorf("%.70q %q", no, told)
		}
	}
}

// pralineInts has numbers at and beyond all limits of chapter 6.
func pralineInts() []int {
	return []int{math.MinInt, math.MinInt + 1, -1000000, -1, 0, 1, 2, 9, 19, 20, 21, 59, 60, 61, 999, 1000, 1001, 999999, 1000000, 1000001, 1 << 32, 1<<32 + 1, math.MaxInt - 1, math.MaxInt}
}

func TestNoNumberMakesPralinesPanic(t *testing.T) {
	codes := [][]int{nil, {0}, {1, 2}, make([]int, 20), slices.Repeat([]int{math.MaxInt}, 20), slices.Repeat([]int{math.MinInt}, 20), slices.Repeat([]int{20}, 20)}
	few := []int{math.MinInt, -1, 0, 1, 2, 19, 20, 21, 1 << 32, math.MaxInt}
	for _, a := range pralineInts() {
		for _, b := range pralineInts() {
			catch(t, func() {
				weighCalls(a, b, "l=r", leaveNumbers)
				tasterCalls(9, 2, 2, a, b, []int{a, b}, leaveNumbers)
				tasterCalls(1000, 20, 20, a, b, nil, leaveNumbers)
				pralineCalls([]string{"ooxoooo"}, a, leaveNumbers)
			}, a, b)
			for _, c := range few {
				for _, code := range codes {
					catch(t, func() { tasterCalls(a, b, c, 1, 1, code, leaveNumbers) }, a, b, c, code)
				}
			}
		}
	}
}

func TestNoTextMakesPralinesPanic(t *testing.T) {
	signs := []string{"", "o", "x", "l", "r", "=", "oxo", "lr=", "X", " ", "\n", "\x00", "\xff", "\u03bf", strings.Repeat("o", 58), strings.Repeat("l", 1000000)}
	for _, a := range signs {
		for _, b := range signs {
			for _, c := range signs {
				s := a + b + c
				catch(t, func() {
					for _, pralines := range []int{-1, 0, 1, 2, 9, 1000} {
						if left, ok := impl.SuspectsAfter(pralines, s); ok != (len(left) > 0) || ok && strings.Trim(s, "lr=") != "" {
							t.Errorf("%d %.60q %v %v", pralines, s, left, ok)
						}
					}
					is := len(s) >= 1 && len(s) <= 60 && strings.Count(s, "o")+strings.Count(s, "x") == len(s)
					told := pralineCalls([]string{s}, 2, leaveNumbers)
					for _, result := range told {
						if strings.HasSuffix(result, "true ") != is {
							t.Errorf("%.60q %q", s, told)
						}
					}
					pralineCalls([]string{a, b, c}, 1, leaveNumbers)
				}, len(s))
			}
		}
	}
}

func TestCodesAreNotModified(t *testing.T) {
	codes := [][]int{nil, {}, {1}, {1, 2}, {0, 0}, {2, 2}, {3, 1}, {1, -1}, {1, 2, 0}, {0, 1, 2, 0}}
	for _, code := range codes {
		for _, pralines := range []int{0, 1, 5, 6, 9, 10} {
			var told []string
			for _, spare := range []int{-7, 0, 1, 2} {
				given, whole := withRoom(code, spare)
				before := slices.Clone(whole)
				which, ok := impl.PralineOfCode(pralines, 2, 2, given)
				told = append(told, show(which, ok))
				if !slices.Equal(whole, before) {
					t.Error("modified", before, whole)
				}
			}
			if slices.Max(told) != slices.Min(told) {
				t.Error("what is behind the code was read", pralines, code, told)
			}
		}
	}
}

func TestBoxRowsAreNotModified(t *testing.T) {
	z := drawn(11)
	lists := [][]string{nil, {}, {"o"}, {"x"}, {"oxo", "ooo", "oxx"}, {"ox", "o"}, {"o", "ox"}, {"ooo", "a"}, {""}, drawnBoxes(&z, 60, 20, 5), drawnBoxes(&z, 60, 19, 5), drawnBoxes(&z, 3, 18, 5), drawnBoxes(&z, 3, 21, 2)}
	for _, boxes := range lists {
		var told []string
		for _, spare := range []string{"", "x", "ooo", "xxx", "spare"} {
			given, whole := withRoom(boxes, spare)
			before := slices.Clone(whole)
			rows, columns, both, ok := impl.RowsAndColumns(given)
			told = append(told, show(rows, columns, both, ok))
			spoilNumbers(rows, columns)
			if !slices.Equal(whole, before) {
				t.Error("modified", before, whole)
			}
		}
		if slices.Max(told) != slices.Min(told) {
			t.Error("what is behind the boxes was read", boxes, told)
		}
	}
}

// TestRowsAndColumnsShareNothing overwrites one of both lists: the other one stays.
func TestRowsAndColumnsShareNothing(t *testing.T) {
	boxes := []string{"oxo", "ooo", "oxx"}
	rows, columns, _, _ := impl.RowsAndColumns(boxes)
	overwrite([][]int{rows})
	if !slices.Equal(columns, []int{1, 2}) {
		t.Error("columns", columns)
	}
	rows, columns, _, _ = impl.RowsAndColumns(boxes)
	overwrite([][]int{columns})
	if !slices.Equal(rows, []int{0, 2}) {
		t.Error("rows", rows)
	}
}

// pralineResults tells results of all functions of chapter 6.
func pralineResults(spoil func(lists ...[]int)) string {
	told := ""
	for _, pralines := range []int{1, 2, 9, 100, 1000} {
		told += strings.Join(tasterCalls(pralines, 10, 2, min(pralines-1, 9), 1, make([]int, 10), spoil), "")
		told += strings.Join(weighCalls(pralines, pralines-1, strings.Repeat("l", min(pralines-1, 1)), spoil), "")
	}
	for _, boxes := range [][]string{{"x"}, {"ooxoooo"}, {"oxo", "ooo", "oxx"}, {strings.Repeat("o", 60), strings.Repeat("ooox", 15)}} {
		told += strings.Join(pralineCalls(boxes, 3, spoil), "")
	}
	return told
}

// TestPralineResultsAreNew spoils each result and calls again: nothing is kept from call to call.
func TestPralineResultsAreNew(t *testing.T) {
	first := pralineResults(spoilNumbers)
	if again := pralineResults(leaveNumbers); again != first {
		t.Error(first, "but then", again)
	}
	if strings.Count(first, "true") < 80 {
		t.Error("too many calls fail", first)
	}
}

// TestPralinesAtTheSameTime calls from several goroutines: the numbers of tests don't depend on which of them goes on.
func TestPralinesAtTheSameTime(t *testing.T) {
	want := pralineResults(leaveNumbers)
	told := make([]string, 16)
	var calls sync.WaitGroup
	for i := range told {
		calls.Go(func() { told[i] = pralineResults(leaveNumbers) })
	}
	calls.Wait()
	for i, got := range told {
		if got != want {
			t.Error(i, got, "not", want)
		}
	}
}

// TestTestsLeaveNothingBehind looks whether goroutines wait still when calls have returned.
func TestTestsLeaveNothingBehind(t *testing.T) {
	before := runtime.NumGoroutine()
	for range 20 {
		pralineResults(leaveNumbers)
		pralineCalls([]string{"", "oxa", strings.Repeat("o", 61)}, 0, leaveNumbers)
		weighCalls(0, 0, "", leaveNumbers)
		weighCalls(1001, 0, "", leaveNumbers)
	}
	// One that is about to end is counted for a while.
	for tries := 0; runtime.NumGoroutine() > before && tries < 500; tries++ {
		time.Sleep(10 * time.Millisecond)
	}
	if after := runtime.NumGoroutine(); after > before {
		t.Error(before, "goroutines before,", after, "after")
	}
}
