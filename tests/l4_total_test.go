package tests

import (
	"fmt"
	"math"
	"slices"
	"testing"

	"loop.example/g01377/impl"
)

// keptCalls calls every function of chapter 4 with one bar, and tells all results; spoil gets each list returned.
func keptCalls(b impl.Bar, spoil func([]impl.Bar)) []string {
	var told []string
	plain, ok := impl.WinsPlain(b)
	told = append(told, show(plain, ok))
	won, ok := impl.WinsKept(b)
	told = append(told, show(won, ok))
	moves, ok := impl.KeptMoves(b)
	told = append(told, show(moves, ok))
	spoil(moves)
	good, ok := impl.GoodKept(b)
	told = append(told, show(good, ok))
	spoil(good)
	heap, ok := impl.KeptHeap(b)
	told = append(told, show(heap, ok))
	plays, ok := impl.CountKeptPlays(b)
	return append(told, show(plays, ok))
}

func leaveBars([]impl.Bar) {}

// spoilBars fills all that a result gives access to.
func spoilBars(bars []impl.Bar) { spoilt(bars, bar(-5, -5), true) }

// severalCalls calls every function of chapter 4 with bars, and tells all results.
func severalCalls(bars []impl.Bar) []string {
	won, ok := impl.WinsSeveral(bars)
	index, kept, fine := impl.FirstGoodSeveral(bars)
	return []string{show(won, ok), show(index, kept, fine)}
}

// stripNumberCalls calls every function of chapter 4 with a length, and rules, and tells all results; spoil gets each list returned.
func stripNumberCalls(long, least int, unlike bool, spoil func(lists ...[]int)) []string {
	value, ok := impl.StripValue(long, least, unlike)
	told := []string{show(value, ok)}
	moves, ok := impl.StripMoves(long, least, unlike)
	told = append(told, show(moves, ok))
	spoil(moves)
	lost, ok := impl.LostStrips(long, least, unlike)
	told = append(told, show(lost, ok))
	spoil(lost)
	longest, ok := impl.LongestStripPlay(long, least, unlike)
	told = append(told, show(longest, ok))
	shortest, ok := impl.ShortestStripPlay(long, least, unlike)
	return append(told, show(shortest, ok))
}

// stripCalls calls every function of chapter 4 with strips, a move, and rules, and tells all results; spoil gets each list returned.
func stripCalls(strips []int, index, at, least int, unlike bool, spoil func(lists ...[]int)) []string {
	won, ok := impl.WinsStrips(strips, least, unlike)
	told := []string{show(won, ok)}
	good, ok := impl.GoodStrips(strips, least, unlike)
	told = append(told, show(good, ok))
	spoil(good...)
	behind, ok := impl.BreakStrip(strips, index, at, least, unlike)
	told = append(told, show(behind, ok))
	spoil(behind)
	return told
}

// noLengths has numbers that are neither lengths of strips nor of their parts.
func noLengths() []int {
	return []int{math.MinInt, math.MinInt + 1, -61, -60, -1, 0, 61, 62, 120, 1<<32 + 5, math.MaxInt - 1, math.MaxInt}
}

// noStrips has lists that are no strips.
func noStrips() [][]int {
	lists := [][]int{nil, {}, slices.Repeat([]int{5}, 9), slices.Repeat([]int{60}, 16), make([]int, 1000000), slices.Repeat([]int{1}, 1000000)}
	for _, no := range noLengths() {
		lists = append(lists, []int{no}, []int{no, 5}, []int{5, no}, []int{5, 6, 7, 8, 9, 10, 11, no}, []int{no, 6, 7, 8, 9, 10, 11, 12})
	}
	return lists
}

func TestNoBarsFailInGames(t *testing.T) {
	truth, number, list := show(false, false), show(0, false), show([]impl.Bar(nil), false)
	zero := []string{truth, truth, list, list, number, number}
	several := []string{truth, show(0, bar(0, 0), false)}
	for _, b := range noBars() {
		if told := keptCalls(b, leaveBars); !slices.Equal(told, zero) {
			t.Error(b, told)
		}
		if lost, ok := impl.LostKept(b.Wide, b.High); ok || len(lost) != 0 {
			t.Error("LostKept", b, lost, ok)
		}
		for _, bars := range [][]impl.Bar{{b}, {b, bar(3, 2)}, {bar(3, 2), b}} {
			if told := severalCalls(bars); !slices.Equal(told, several) {
				t.Error(bars, told)
			}
		}
	}
	for _, bars := range [][]impl.Bar{nil, {}, slices.Repeat([]impl.Bar{bar(3, 2)}, 9), make([]impl.Bar, 1000000), slices.Repeat([]impl.Bar{bar(2, 1)}, 999999)} {
		if told := severalCalls(bars); !slices.Equal(told, several) {
			t.Error(len(bars), "bars", told)
		}
	}
}

func TestNoStripsFail(t *testing.T) {
	number, list := show(0, false), show([]int(nil), false)
	zero := []string{number, list, list, number, number}
	ofStrips := []string{show(false, false), show([][]int(nil), false), list}
	for _, unlike := range []bool{false, true} {
		for _, no := range noLengths() {
			for _, n := range append(noLengths(), 1, 2, 5, 59, 60) {
				for _, pair := range [][2]int{{no, n}, {n, no}} {
					if told := stripNumberCalls(pair[0], pair[1], unlike, leaveNumbers); !slices.Equal(told, zero) {
						t.Error(pair, unlike, told)
					}
				}
			}
			if told := stripCalls([]int{5, 6}, 0, 2, no, unlike, leaveNumbers); !slices.Equal(told, ofStrips) {
				t.Error("parts of at least", no, unlike, told)
			}
		}
		for _, strips := range noStrips() {
			for _, least := range []int{0, 1, 2, 60} {
				if told := stripCalls(strips, 0, 2, least, unlike, leaveNumbers); !slices.Equal(told, ofStrips) {
					t.Errorf("%.60v %v %v %q", strips, least, unlike, told)
				}
			}
		}
	}
}

// TestLimitsOfStripsAreMet has the greatest numbers that may be.
func TestLimitsOfStripsAreMet(t *testing.T) {
	for _, unlike := range []bool{false, true} {
		want := []string{show(0, true), show([]int(nil), true), "", show(0, true), show(0, true)}
		told := stripNumberCalls(60, 60, unlike, leaveNumbers)
		told[2] = ""
		if !slices.Equal(told, want) {
			t.Error(unlike, told)
		}
		if lost, ok := impl.LostStrips(60, 60, unlike); !ok || len(lost) != 60 || lost[0] != 1 || lost[59] != 60 {
			t.Error("LostStrips", unlike, lost, ok)
		}
		wantOf := []string{show(false, true), show([][]int(nil), true), show([]int(nil), false)}
		if told := stripCalls(slices.Repeat([]int{60}, 8), 0, 30, 60, unlike, leaveNumbers); !slices.Equal(told, wantOf) {
			t.Error(unlike, told)
		}
	}
}

func TestNoNumberMakesGamesPanic(t *testing.T) {
	numbers := append(anyInts(), 5, 30, 59, 60, 61)
	for _, a := range numbers {
		for _, b := range numbers {
			catch(t, func() {
				keptCalls(bar(a, b), leaveBars)
				impl.LostKept(a, b)
				severalCalls([]impl.Bar{bar(a, b)})
				severalCalls([]impl.Bar{bar(b, a), bar(3, 2), bar(a, b)})
				stripNumberCalls(a, b, true, leaveNumbers)
				stripNumberCalls(a, b, false, leaveNumbers)
			}, a, b)
			for _, least := range []int{math.MinInt, 0, 1, 2, 60, math.MaxInt} {
				for _, strips := range [][]int{nil, {5}, {60, 1}, {a}, {5, b}, {a, b, a}, {1, 2, 3, 4, 5, 6, 7, 8}} {
					catch(t, func() {
						stripCalls(strips, a, b, least, true, leaveNumbers)
						stripCalls(strips, 0, b, least, false, leaveNumbers)
						stripCalls(strips, a, 1, b, false, leaveNumbers)
					}, strips, a, b, least)
				}
			}
		}
	}
}

func TestBarsOfGamesAreNotModified(t *testing.T) {
	lists := [][]impl.Bar{nil, {}, {bar(3, 2)}, {bar(2, 2), bar(3, 3)}, {bar(1, 1)}, {bar(0, 1)}, {bar(5, 4), bar(13, 1)}, slices.Repeat([]impl.Bar{bar(4, 7)}, 7), slices.Repeat([]impl.Bar{bar(4, 7)}, 8)}
	for _, bars := range lists {
		var told []string
		for _, spare := range []impl.Bar{bar(-7, -7), bar(2, 1), bar(0, 0)} {
			given, whole := withRoom(bars, spare)
			before := slices.Clone(whole)
			results := severalCalls(given)
			if !slices.Equal(whole, before) {
				t.Error("modified", before, whole)
			}
			told = append(told, fmt.Sprint(results))
		}
		if slices.Max(told) != slices.Min(told) {
			t.Error("what is behind the list was read", bars, told)
		}
	}
}

func TestStripsAreNotModified(t *testing.T) {
	lists := [][]int{nil, {}, {1}, {5}, {5, 6}, {60, 7, 3}, {0}, {5, 61}, slices.Repeat([]int{9}, 7), slices.Repeat([]int{9}, 8), slices.Repeat([]int{9}, 9)}
	for _, strips := range lists {
		for _, unlike := range []bool{false, true} {
			var told []string
			for _, spare := range []int{-7, 0, 1, 5} {
				given, whole := withRoom(strips, spare)
				before := slices.Clone(whole)
				results := stripCalls(given, 0, 2, 1, unlike, spoilNumbers)
				if !slices.Equal(whole, before) {
					t.Error("modified", before, whole)
				}
				told = append(told, fmt.Sprint(results))
			}
			if slices.Max(told) != slices.Min(told) {
				t.Error("what is behind the list was read", strips, told)
			}
		}
	}
}

// TestGameResultsAreNew spoils each result and calls again: nothing is kept from call to call.
func TestGameResultsAreNew(t *testing.T) {
	for _, b := range []impl.Bar{bar(1, 1), bar(3, 2), bar(12, 5), bar(12, 12)} {
		first := keptCalls(b, spoilBars)
		if again := keptCalls(b, leaveBars); !slices.Equal(first, again) {
			t.Error(b, first, again)
		}
		lost, ok := impl.LostKept(b.Wide, b.High)
		want := spoilt(lost, bar(-5, -5), ok)
		if again, ok := impl.LostKept(b.Wide, b.High); fmt.Sprint(again, ok) != want {
			t.Error("LostKept", b, want, again, ok)
		}
	}
	for _, unlike := range []bool{false, true} {
		for _, long := range []int{1, 2, 8, 60} {
			first := stripNumberCalls(long, 1, unlike, spoilNumbers)
			if again := stripNumberCalls(long, 1, unlike, leaveNumbers); !slices.Equal(first, again) {
				t.Error(long, unlike, first, again)
			}
		}
		for _, strips := range [][]int{{5}, {8, 3}, {2, 4, 6}, {60, 59, 58, 57, 56, 55, 54}} {
			first := stripCalls(strips, 0, 2, 1, unlike, spoilNumbers)
			if again := stripCalls(strips, 0, 2, 1, unlike, leaveNumbers); !slices.Equal(first, again) {
				t.Error(strips, unlike, first, again)
			}
		}
	}
}

func TestGoodStripsShareNothing(t *testing.T) {
	good, ok := impl.GoodStrips([]int{2, 4, 6}, 1, false)
	if !ok || len(good) < 3 {
		t.Fatal(good, ok)
	}
	overwrite(good)
	for i, move := range good {
		for _, n := range move {
			if n != -1000-i {
				t.Error("shared with another one", i, move)
			}
		}
	}
}

// TestFailedMovesLeaveNothing makes moves that can be made between others that cannot.
func TestFailedMovesLeaveNothing(t *testing.T) {
	strips := []int{5, 6}
	first := stripCalls(strips, 0, 2, 1, true, leaveNumbers)
	for range 3 {
		impl.BreakStrip(strips, 0, 5, 1, true)
		impl.BreakStrip(strips, 1, 3, 1, true)
		impl.BreakStrip(strips, 2, 1, 1, true)
		if again := stripCalls(strips, 0, 2, 1, true, leaveNumbers); !slices.Equal(first, again) {
			t.Error(first, again)
		}
	}
}
