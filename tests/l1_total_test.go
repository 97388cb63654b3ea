package tests

import (
	"fmt"
	"math"
	"slices"
	"strings"
	"testing"

	"loop.example/g01377/impl"
)

// anyInts has numbers at and beyond the limits of the chapter.
func anyInts() []int {
	return []int{math.MinInt, math.MinInt + 1, -145, -1, 0, 1, 2, 6, 11, 12, 13, 100, 143, 144, 145, 1 << 32, math.MaxInt - 1, math.MaxInt}
}

func anyBars() []impl.Bar {
	var bars []impl.Bar
	for _, wide := range anyInts() {
		for _, high := range anyInts() {
			bars = append(bars, bar(wide, high))
		}
	}
	return bars
}

// withRoom returns a list with spare capacity filled by spare, and the whole of it.
func withRoom[T any](list []T, spare T) ([]T, []T) {
	whole := append(slices.Clone(list), spare, spare, spare, spare)
	return whole[:len(list)], whole
}

// catch reports a panic of a call with what it was called with.
func catch(t *testing.T, call func(), args ...any) {
	t.Helper()
	defer func() {
		if r := recover(); r != nil {
			t.Error("panic", r, args)
		}
	}()
	call()
}

func TestNoNumberMakesBreaksPanic(t *testing.T) {
	for _, b := range anyBars() {
		catch(t, func() {
			impl.IsBar(b)
			impl.SquaresOf(b)
			impl.FewestBreaks(b)
			impl.PlainBreaks(b)
			impl.CountTrees(b)
			impl.CountOrders(b)
			impl.CheapestToEat(b)
			impl.TurnBar(b)
			impl.BarText(b)
			impl.PiecesAfter(b, nil)
			impl.LengthOfBreaks(b, nil)
		}, b)
		for _, n := range anyInts() {
			catch(t, func() {
				impl.BreakBar(b, true, n)
				impl.BreakBar(b, false, n)
				impl.EqualParts(b, n)
				impl.LeastToEat(b, n)
				impl.FirstToEat(b, n)
				impl.LeastByLines([]int{n}, []int{b.Wide, b.High})
				impl.OrderByLines([]int{b.Wide, b.High}, []int{n})
			}, b, n)
			for _, down := range []bool{true, false} {
				list := []impl.Break{brk(b.Wide, down, b.High), brk(n, down, n)}
				catch(t, func() {
					impl.IsBreak(bar(12, 11), nil, brk(b.Wide, down, n))
					impl.IsBreak(b, list, brk(n, down, n))
					impl.PiecesAfter(bar(12, 12), list)
					impl.LengthOfBreaks(bar(12, 12), list)
				}, b, n, down)
			}
		}
	}
}

func TestNoTextMakesParseBarPanic(t *testing.T) {
	signs := []string{"", "x", "X", "0", "1", "3", "12", "13", "-", "+", " ", "\n", "\x00", "\xff", "\u00d7", "99999999999999999999"}
	for _, a := range signs {
		for _, b := range signs {
			for _, c := range signs {
				s := a + b + c
				catch(t, func() {
					parsed, ok := impl.ParseBar(s)
					if text, fine := impl.BarText(parsed); ok != fine || ok && text != s {
						t.Errorf("%q %v %v", s, parsed, ok)
					}
				}, s)
			}
		}
	}
	for _, sign := range []string{"x", "1", "0"} {
		long := strings.Repeat(sign, 1000000)
		for _, s := range []string{long, long + "x1", "1x" + long} {
			if b, ok := impl.ParseBar(s); ok || b != bar(0, 0) {
				t.Error("long text of", sign, b, ok)
			}
		}
	}
}

func TestLongListsFail(t *testing.T) {
	list := make([]impl.Break, 1000000)
	costs := make([]int, 1000000)
	catch(t, func() {
		if p, ok := impl.PiecesAfter(bar(12, 12), list); ok || len(p) != 0 {
			t.Error("PiecesAfter", ok)
		}
		if n, ok := impl.LengthOfBreaks(bar(12, 12), list); ok || n != 0 {
			t.Error("LengthOfBreaks", ok)
		}
		if is, ok := impl.IsBreak(bar(12, 12), list, brk(0, true, 1)); ok || is {
			t.Error("IsBreak", ok)
		}
		if n, ok := impl.LeastByLines(costs, costs); ok || n != 0 {
			t.Error("LeastByLines", ok)
		}
		if order, ok := impl.OrderByLines(costs, costs); ok || len(order) != 0 {
			t.Error("OrderByLines", ok)
		}
	})
}

// breakLists has lists of breaks of 12x12 that can be made, and some that can't.
func breakLists() [][]impl.Break {
	plain, _ := impl.PlainBreaks(bar(12, 12))
	lists := [][]impl.Break{nil, plain[:1], plain[:20], plain, {brk(0, true, 5), brk(1, false, 2), brk(0, false, 1)}}
	return append(lists, badLists()...)
}

func TestBreaksAreNotModified(t *testing.T) {
	for _, list := range breakLists() {
		var told []string
		for _, spare := range []impl.Break{brk(-7, true, -7), brk(0, true, 1)} {
			given, whole := withRoom(list, spare)
			before := slices.Clone(whole)
			pieces, ok := impl.PiecesAfter(bar(12, 12), given)
			long, fine := impl.LengthOfBreaks(bar(12, 12), given)
			is, known := impl.IsBreak(bar(12, 12), given, brk(0, true, 1))
			if !slices.Equal(whole, before) {
				t.Error("modified", list, whole)
			}
			told = append(told, fmt.Sprint(pieces, ok, long, fine, is, known))
		}
		if told[0] != told[1] {
			t.Error("what is behind the list was read", list, told)
		}
	}
}

func TestLinesAreNotModified(t *testing.T) {
	lists := append(lineLists(), []int{-1, 5}, []int{101, 3, 7}, make([]int, 12), []int{1, 9, 2, 8, 3, 7, 4, 6, 5, 10, 0})
	for _, downs := range lists {
		for _, acrosses := range lists {
			var told []string
			for _, spare := range []int{-7, 50} {
				d, wholeDowns := withRoom(downs, spare)
				a, wholeAcrosses := withRoom(acrosses, spare)
				before := [][]int{slices.Clone(wholeDowns), slices.Clone(wholeAcrosses)}
				n, ok := impl.LeastByLines(d, a)
				order, fine := impl.OrderByLines(d, a)
				told = append(told, fmt.Sprint(n, ok, order, fine))
				overwrite(order)
				if !slices.Equal(wholeDowns, before[0]) || !slices.Equal(wholeAcrosses, before[1]) {
					t.Error("modified", downs, acrosses)
				}
			}
			if told[0] != told[1] {
				t.Error("what is behind the lists was read", downs, acrosses, told)
			}
		}
	}
}

// overwrite fills all that a result gives access to.
func overwrite(lists [][]int) {
	for i, list := range lists {
		list = list[:cap(list)]
		for k := range list {
			list[k] = -1000 - i
		}
	}
}

func TestSlicesOfAnOrderShareNothing(t *testing.T) {
	order, ok := impl.OrderByLines([]int{4, 9, 4}, []int{9, 4, 9, 0})
	if !ok {
		t.Fatal("no order")
	}
	overwrite(order)
	for i, l := range order {
		for _, n := range l {
			if n != -1000-i {
				t.Error("shared with another one", i, l)
			}
		}
	}
}

// TestResultsAreNew spoils each result and calls again: nothing is kept from call to call.
func TestResultsAreNew(t *testing.T) {
	given := []impl.Break{brk(0, true, 1), brk(1, false, 1)}
	twice := func(name string, call func() string) {
		if first, second := call(), call(); first != second {
			t.Error(name, first, second)
		}
	}
	twice("PiecesAfter", func() string {
		p, ok := impl.PiecesAfter(bar(3, 2), given)
		return spoilt(p, bar(-5, -5), ok)
	})
	twice("PlainBreaks", func() string {
		list, ok := impl.PlainBreaks(bar(3, 2))
		return spoilt(list, brk(-5, true, -5), ok)
	})
	twice("EqualParts", func() string {
		p, ok := impl.EqualParts(bar(12, 12), 12)
		return spoilt(p, bar(-5, -5), ok)
	})
	twice("OrderByLines", func() string {
		order, ok := impl.OrderByLines([]int{3, 1}, []int{2})
		told := fmt.Sprint(order)
		overwrite(order)
		return told + spoilt(order, nil, ok)
	})
	twice("numbers", func() string {
		trees, _ := impl.CountTrees(bar(4, 3))
		orders, _ := impl.CountOrders(bar(4, 3))
		least, _ := impl.LeastToEat(bar(4, 3), 5)
		down, at, _ := impl.FirstToEat(bar(4, 3), 5)
		many, cost, _ := impl.CheapestToEat(bar(4, 3))
		return fmt.Sprint(trees, orders, least, down, at, many, cost)
	})
}

func spoilt[T any](list []T, spoil T, ok bool) string {
	told := fmt.Sprint(list, ok)
	list = list[:cap(list)]
	for i := range list {
		list[i] = spoil
	}
	return told
}
