package tests

import (
	"fmt"
	"slices"
	"strings"
	"testing"

	"loop.example/g01377/impl"
)

// chompCalls calls every function of chapter 3 that takes a chomp, with a list, and a place, and tells all results; spoil gets each list returned.
func chompCalls(c []int, x, y int, spoil func(lists ...[]int)) []string {
	var told []string
	tell := func(results ...any) {
		told = append(told, show(results...))
		for _, r := range results {
			switch list := r.(type) {
			case []int:
				spoil(list)
			case [][]int:
				spoil(list...)
			}
		}
	}
	tell(impl.IsChomp(c))
	n, ok := impl.LeftSquares(c)
	tell(n, ok)
	behind, ok := impl.ChompAt(c, x, y)
	tell(behind, ok)
	bites, ok := impl.ChompMoves(c)
	tell(bites, ok)
	behind, ok = impl.PlayChomp(c, nil)
	tell(behind, ok)
	behind, ok = impl.PlayChomp(c, [][]int{{x, y}, {y, x}})
	tell(behind, ok)
	won, ok := impl.WinsChomp(c)
	tell(won, ok)
	good, ok := impl.GoodChomps(c)
	tell(good, ok)
	firstX, firstY, ok := impl.FirstGoodChomp(c)
	tell(firstX, firstY, ok)
	n, ok = impl.MostChompMoves(c)
	tell(n, ok)
	n, ok = impl.QuickestWin(c)
	tell(n, ok)
	n, ok = impl.HeapOfChomp(c)
	tell(n, ok)
	n, ok = impl.RankOfChomp(c)
	tell(n, ok)
	turned, ok := impl.TurnChomp(c)
	tell(turned, ok)
	text, ok := impl.ChompText(c)
	tell(text, ok)
	return told
}

func leaveNumbers(...[]int) {}

// spoilNumbers fills all that a result gives access to.
func spoilNumbers(lists ...[]int) { overwrite(lists) }

// chompNumberCalls calls every function of chapter 3 that takes numbers alone, and tells all results.
func chompNumberCalls(a, b int, spoil func(lists ...[]int)) string {
	whole, wholeOk := impl.WholeChomp(a, b)
	all, allOk := impl.CountChomps(a, b)
	lost, lostOk := impl.CountLostChomps(a, b)
	list, listOk := impl.LostChomps(a, b)
	of, ofOk := impl.ChompOfRank(a)
	told := show(whole, wholeOk, all, allOk, lost, lostOk, list, listOk, of, ofOk)
	spoil(whole)
	spoil(list...)
	spoil(of)
	return told
}

func TestNoChompsFail(t *testing.T) {
	number, list := show(0, false), show([]int(nil), false)
	zero := []string{
		show(false), number, list, list, list, list, show(false, false), list, show(0, 0, false), number, number, number,
		number, list, show("", false),
	}
	for _, c := range append(noChomps(), make([]int, 1000000), slices.Repeat([]int{1}, 1000000)) {
		for _, at := range []place{{0, 0}, {1, 0}, {0, 1}} {
			if told := chompCalls(c, at.x, at.y, leaveNumbers); !slices.Equal(told, zero) {
				t.Errorf("%.60v %q", c, told)
			}
		}
	}
}

func TestNoNumberMakesChompsPanic(t *testing.T) {
	lists := [][]int{nil, {}, {1}, {6}, {3, 2}, {3, 3}, {2, 1, 1, 1, 1, 1}, {0}, {7}, {1, 2}, {1, 1, 1, 1, 1, 1, 1}}
	for _, x := range anyInts() {
		for _, y := range anyInts() {
			catch(t, func() { chompNumberCalls(x, y, leaveNumbers) }, x, y)
			for _, c := range append(lists, []int{x}, []int{x, y}, []int{6, x, y}) {
				catch(t, func() { chompCalls(c, x, y, leaveNumbers) }, c, x, y)
				for _, move := range [][]int{nil, {x}, {x, y}, {x, y, x}} {
					catch(t, func() { impl.PlayChomp(c, [][]int{{1, 1}, move}) }, c, move)
					catch(t, func() { impl.PlayChomp(c, [][]int{move}) }, c, move)
				}
			}
		}
	}
}

func TestNoTextMakesParseChompPanic(t *testing.T) {
	signs := []string{"", "0", "1", "2", "6", "7", "33", "66666", "-", "+", " ", "\n", "\x00", "\xff", "\u0663", "12"}
	for _, a := range signs {
		for _, b := range signs {
			for _, c := range signs {
				s := a + b + c
				catch(t, func() {
					parsed, ok := impl.ParseChomp(s)
					if text, fine := impl.ChompText(parsed); ok != fine || text != s && ok || !ok && len(parsed) != 0 {
						t.Errorf("%q %v %v", s, parsed, ok)
					}
				}, s)
			}
		}
	}
	for _, sign := range []string{"1", "6", "0"} {
		if parsed, ok := impl.ParseChomp(strings.Repeat(sign, 1000000)); ok || len(parsed) != 0 {
			t.Error("long text of", sign, len(parsed), ok)
		}
	}
	if behind, ok := impl.PlayChomp([]int{6, 6}, make([][]int, 1000000)); ok || len(behind) != 0 {
		t.Error("many moves", behind, ok)
	}
}

func TestChompsAreNotModified(t *testing.T) {
	for _, c := range append(noChomps(), digits("1"), digits("3"), digits("32"), digits("33"), digits("66"), digits("666666"), digits("54321")) {
		var told []string
		for _, spare := range []int{-7, 1, 0, 9} {
			given, whole := withRoom(c, spare)
			before := slices.Clone(whole)
			results := chompCalls(given, 1, 0, spoilNumbers)
			if !slices.Equal(whole, before) {
				t.Error("modified", before, whole)
			}
			told = append(told, fmt.Sprint(results))
		}
		if slices.Max(told) != slices.Min(told) {
			t.Error("what is behind the list was read", c, told)
		}
	}
}

func TestMovesAreNotModified(t *testing.T) {
	plays := [][][]int{nil, {{1, 1}}, {{2, 0}, {1, 0}}, {{2, 1}, {1, 1}, {0, 1}, {2, 0}, {1, 0}}, {{0, 0}}, {{1}, {1, 1}}, {{5, 5}}, {{2, 1}, nil}}
	for _, moves := range plays {
		var told []string
		for _, spare := range []int{-7, 0, 1} {
			var given, wholes, before [][]int
			for _, move := range moves {
				g, whole := withRoom(move, spare)
				given, wholes, before = append(given, g), append(wholes, whole), append(before, slices.Clone(whole))
			}
			given, outer := withRoom(given, []int{spare, 0})
			first := slices.Clone(outer)
			behind, ok := impl.PlayChomp([]int{3, 3}, given)
			told = append(told, fmt.Sprint(behind, ok))
			spoilNumbers(behind)
			if !samePlaces(wholes, before) || !samePlaces(outer, first) {
				t.Error("modified", moves, wholes, outer)
			}
		}
		if slices.Max(told) != slices.Min(told) {
			t.Error("what is behind the lists was read", moves, told)
		}
	}
}

// TestChompResultsAreNew spoils each result and calls again: nothing is kept from call to call.
func TestChompResultsAreNew(t *testing.T) {
	for _, text := range []string{"1", "3", "32", "33", "4441", "654321", "666666"} {
		c := digits(text)
		first := chompCalls(c, 1, 0, spoilNumbers)
		if again := chompCalls(c, 1, 0, leaveNumbers); !slices.Equal(first, again) {
			t.Error(c, first, again)
		}
		parsed, _ := impl.ParseChomp(text)
		spoilNumbers(parsed)
		if again, ok := impl.ParseChomp(text); !ok || !slices.Equal(again, c) {
			t.Error(text, again, ok)
		}
	}
	for a := 0; a <= 7; a++ {
		for b := 0; b <= 7; b++ {
			first := chompNumberCalls(a, b, spoilNumbers)
			if again := chompNumberCalls(a, b, leaveNumbers); first != again {
				t.Error(a, b, first, again)
			}
		}
	}
}

func TestListsOfChompsShareNothing(t *testing.T) {
	check := func(name string, lists [][]int, ok bool) {
		if !ok || len(lists) < 2 {
			t.Fatal(name, lists, ok)
		}
		overwrite(lists)
		for i, list := range lists {
			for _, n := range list {
				if n != -1000-i {
					t.Error(name, "shared with another one", i, list)
				}
			}
		}
	}
	bites, ok := impl.ChompMoves([]int{6, 5, 3})
	check("ChompMoves", bites, ok)
	for _, c := range everyChomp {
		if good, ok := impl.GoodChomps(c); len(good) > 1 {
			check("GoodChomps", good, ok)
		}
	}
	lost, ok := impl.LostChomps(3, 5)
	check("LostChomps", lost, ok)
}
