package tests

import (
	"fmt"
	"math"
	"slices"
	"strings"
	"sync"
	"testing"

	"loop.example/g01377/impl"
)

// weightCalls calls every function of chapter 8 that takes weights, and tells all results; spoil gets each list returned.
func weightCalls(weights []int, sharers int, spoil func(lists ...[]int)) []string {
	told := []string{show(impl.AreWeights(weights))}
	differ, ok := impl.LeastDifference(weights)
	told = append(told, show(differ, ok))
	half, ok := impl.FirstHalf(weights)
	told = append(told, show(half, ok))
	spoil(half)
	many, ok := impl.CountHalves(weights)
	told = append(told, show(many, ok))
	sums, ok := impl.SumsReached(weights)
	told = append(told, show(sums, ok))
	spoil(sums)
	poorest, ok := impl.PoorestShare(weights, sharers)
	told = append(told, show(poorest, ok))
	first, other, ok := impl.BestTake(weights)
	told = append(told, show(first, other, ok))
	takes, ok := impl.FirstTakes(weights)
	told = append(told, show(takes, ok))
	first, other, ok = impl.GreedyTake(weights)
	return append(told, show(first, other, ok))
}

// slabCalls calls every function of chapter 8 that takes slabs, and tells all results; spoil gets each list returned.
func slabCalls(slabs []impl.Slab, order []int, spoil func(lists ...[]int)) []string {
	told := []string{show(impl.AreSlabs(slabs))}
	is, ok := impl.IsStack(slabs, order)
	told = append(told, show(is, ok))
	most, ok := impl.MostStacked(slabs)
	told = append(told, show(most, ok))
	first, ok := impl.FirstStack(slabs)
	told = append(told, show(first, ok))
	spoil(first)
	heaviest, ok := impl.HeaviestStack(slabs)
	told = append(told, show(heaviest, ok))
	count, ok := impl.CountStacks(slabs)
	told = append(told, show(count, ok))
	text, ok := impl.SlabsText(slabs)
	return append(told, show(text, ok))
}

func TestNoWeightsFail(t *testing.T) {
	number, list, pair := show(0, false), show([]int(nil), false), show(0, 0, false)
	zero := []string{show(false), number, list, number, list, number, pair, show("", false), pair}
	for _, weights := range noWeights() {
		for sharers := 1; sharers <= 4; sharers++ {
			if told := weightCalls(weights, sharers, leaveNumbers); !slices.Equal(told, zero) {
				t.Errorf("%.60v %q", weights, told)
			}
		}
	}
}

func TestNoSlabsFail(t *testing.T) {
	number := show(0, false)
	zero := []string{show(false), show(false, false), number, show([]int(nil), false), number, number, show("", false)}
	for _, slabs := range noSlabs() {
		for _, order := range [][]int{nil, {0}, {1, 0}, {-1}} {
			if told := slabCalls(slabs, order, leaveNumbers); !slices.Equal(told, zero) {
				t.Errorf("%.60v %v %q", slabs, order, told)
			}
		}
	}
}

// stackInts has numbers at and beyond all limits of chapter 8.
func stackInts() []int {
	return []int{math.MinInt, math.MinInt + 1, -1001, -1, 0, 1, 2, 3, 4, 5, 6, 7, 8, 12, 13, 99, 100, 101, 999, 1000, 1001, 999999, 1000000, 1000001, 1 << 32, 1<<32 + 2, math.MaxInt - 1, math.MaxInt}
}

func TestNoNumberMakesStacksPanic(t *testing.T) {
	three := slabsOf(2, 5, 3, 2, 1, 9)
	for _, a := range stackInts() {
		for _, b := range stackInts() {
			catch(t, func() {
				for _, weights := range [][]int{nil, {a}, {a, b}, {b, 1, a}, {3, 1, 4, 2}} {
					weightCalls(weights, 2, leaveNumbers)
					impl.PoorestShare(weights, b)
				}
				for _, slabs := range [][]impl.Slab{nil, slabsOf(a, b), slabsOf(b, a, a, b), slabsOf(2, 5, a, b, 1, 9), three} {
					slabCalls(slabs, []int{a, b}, leaveNumbers)
					impl.IsStack(slabs, []int{0, a, b, 1})
				}
				impl.BitesToEat(a, b)
				for _, n := range stackInts() {
					impl.LeftAfterBites(a, b, n)
					impl.IsStack(three, []int{n, a, b})
				}
			}, a, b)
		}
	}
}

func TestNoTextMakesParseSlabsPanic(t *testing.T) {
	signs := []string{"", ",", "^", "2", "5", "0", "1000", "1001", "2^5", "2^5,", ",2^5", "3^2,1^9", "-1", "+1", " ", "\n", "\x00", "\xff", "\uff12", "99999999999999999999"}
	good := 0
	for _, a := range signs {
		for _, b := range signs {
			for _, c := range signs {
				s := a + b + c
				catch(t, func() {
					slabs, ok := impl.ParseSlabs(s)
					if text, fine := impl.SlabsText(slabs); ok != fine || text != s && ok || !ok && len(slabs) != 0 {
						t.Errorf("%q %v %v", s, slabs, ok)
					}
					if ok {
						good++
					}
				}, s)
			}
		}
	}
	if good < 50 {
		t.Error("too few are slabs", good)
	}
	for _, sign := range []string{",", "^", "2^5,", "2", "0", "2,", "^5,", "-"} {
		for _, s := range []string{strings.Repeat(sign, 1000000), "2^5" + strings.Repeat(sign, 1000000), strings.Repeat(sign, 1000000) + "2^5"} {
			if slabs, ok := impl.ParseSlabs(s); ok || len(slabs) != 0 {
				t.Error("long text of", sign, len(slabs), ok)
			}
		}
	}
}

func TestWeightsAreNotModified(t *testing.T) {
	lists := slices.Concat(greatWeights(), noWeights())
	for _, weights := range lists {
		if len(weights) > 100 {
			continue
		}
		for sharers := 1; sharers <= 3; sharers++ {
			var told []string
			for _, spare := range []int{-7, 0, 1, 1000} {
				given, whole := withRoom(weights, spare)
				before := slices.Clone(whole)
				results := weightCalls(given, sharers, spoilNumbers)
				if !slices.Equal(whole, before) {
					t.Error("modified", before, whole)
				}
				told = append(told, fmt.Sprint(results))
			}
			if slices.Max(told) != slices.Min(told) {
				t.Error("what is behind the weights was read", weights, told)
			}
		}
	}
}

func TestSlabsAreNotModified(t *testing.T) {
	for _, slabs := range slices.Concat(greatSlabs(), noSlabs()) {
		if len(slabs) > 100 {
			continue
		}
		for _, order := range [][]int{nil, {0}, {0, 1, 2}, {2, 1, 0}, {0, 0}, {-1, 7}} {
			var told []string
			for i, spare := range []int{-7, 0, 1, 2} {
				given, whole := withRoom(slabs, slab(i, 1000))
				givenOrder, wholeOrder := withRoom(order, spare)
				before, orderBefore := slices.Clone(whole), slices.Clone(wholeOrder)
				results := slabCalls(given, givenOrder, spoilNumbers)
				if !slices.Equal(whole, before) || !slices.Equal(wholeOrder, orderBefore) {
					t.Error("modified", before, whole, orderBefore, wholeOrder)
				}
				told = append(told, fmt.Sprint(results))
			}
			if slices.Max(told) != slices.Min(told) {
				t.Error("what is behind the lists was read", slabs, order, told)
			}
		}
	}
}

// TestStackResultsAreNew spoils each result and calls again: nothing is kept from call to call.
func TestStackResultsAreNew(t *testing.T) {
	for _, weights := range greatWeights() {
		given := slices.Clone(weights)
		first := weightCalls(given, 2, spoilNumbers)
		if again := weightCalls(given, 2, leaveNumbers); !slices.Equal(first, again) || !slices.Equal(given, weights) {
			t.Error(weights, first, again)
		}
	}
	for _, slabs := range greatSlabs() {
		given, order := slices.Clone(slabs), []int{0, 1}
		first := slabCalls(given, order, spoilNumbers)
		if again := slabCalls(given, order, leaveNumbers); !slices.Equal(first, again) || !slices.Equal(given, slabs) || !slices.Equal(order, []int{0, 1}) {
			t.Error(slabs, first, again)
		}
	}
	text := "2^5,3^2,1^9"
	slabs, ok := impl.ParseSlabs(text)
	want := spoilt(slabs, slab(-5, -5), ok)
	if again, ok := impl.ParseSlabs(text); fmt.Sprint(again, ok) != want {
		t.Error(want, again, ok)
	}
}

// stackResults tells results of all functions of chapter 8.
func stackResults() string {
	told := ""
	for _, weights := range [][]int{{3, 1, 4, 2}, {5, 5, 5, 5}, {3, 9, 1, 2}, {7, 7, 7, 3, 3, 1}, {1000}} {
		told += strings.Join(weightCalls(weights, 3, spoilNumbers), "")
	}
	for _, slabs := range [][]impl.Slab{slabsOf(2, 5, 3, 2, 1, 9), slabsOf(1000, 1, 1, 1, 1, 2, 1, 3), slabsOf(5, 5, 5, 5), slabsOf(1, 1)} {
		told += strings.Join(slabCalls(slabs, []int{0}, spoilNumbers), "")
	}
	bites, ok := impl.BitesToEat(1000000, 3)
	left, fine := impl.LeftAfterBites(1000000, 3, 7)
	slabs, parsed := impl.ParseSlabs("2^5,3^2")
	return told + show(bites, ok, left, fine, slabs, parsed)
}

// TestStacksAtTheSameTime calls from several goroutines: no call leaves anything to another one.
func TestStacksAtTheSameTime(t *testing.T) {
	want := stackResults()
	told := make([]string, 16)
	var calls sync.WaitGroup
	for i := range told {
		calls.Go(func() { told[i] = stackResults() })
	}
	calls.Wait()
	for i, got := range told {
		if got != want {
			t.Error(i, got, "not", want)
		}
	}
	if strings.Contains(want, "false") {
		t.Error("a call fails", want)
	}
}
