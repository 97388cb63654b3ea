package tests

import (
	"fmt"
	"math"
	"runtime"
	"slices"
	"strings"
	"sync"
	"testing"
	"time"

	"loop.example/g01377/impl"
)

// boxCalls calls every function of chapter 5 with one box, and numbers, and tells all results.
func boxCalls(b impl.Box, added, wide, high int) []string {
	told := []string{show(impl.IsBox(b))}
	volume, ok := impl.VolumeOf(b)
	told = append(told, show(volume, ok))
	paper, ok := impl.PaperOf(b)
	told = append(told, show(paper, ok))
	ribbon, ok := impl.RibbonOf(b, added)
	told = append(told, show(ribbon, ok))
	sheetWide, sheetHigh, ok := impl.SheetFor(b, added)
	told = append(told, show(sheetWide, sheetHigh, ok))
	is, ok := impl.FitsSheet(b, added, wide, high)
	told = append(told, show(is, ok))
	text, ok := impl.BoxText(b)
	return append(told, show(text, ok))
}

// stackCalls calls every function of chapter 5 with a number of small bars, and tells all results; spoil gets each list returned.
func stackCalls(bars int, spoil func([]impl.Box)) []string {
	boxes, ok := impl.BoxesOf(bars)
	told := []string{show(boxes, ok)}
	spoil(boxes)
	many, ok := impl.CountBoxes(bars)
	told = append(told, show(many, ok))
	best, paper, ok := impl.BestBox(bars)
	told = append(told, show(best, paper, ok))
	saved, ok := impl.PaperSaved(bars)
	told = append(told, show(saved, ok))
	flat, ok := impl.FlatBox(bars)
	return append(told, show(flat, ok))
}

// bundleCalls calls both functions of chapter 5 that look for bundles, and tells all results; spoil gets each list returned.
func bundleCalls(bars, most, seal int, spoil func(lists ...[]int)) []string {
	least, ok := impl.LeastPaper(bars, most, seal)
	told := []string{show(least, ok)}
	bundles, ok := impl.FirstBundles(bars, most, seal)
	told = append(told, show(bundles, ok))
	spoil(bundles)
	return told
}

func leaveBoxes([]impl.Box) {}

// spoilBoxes fills all that a result gives access to.
func spoilBoxes(boxes []impl.Box) { spoilt(boxes, box(-5, -5, -5), true) }

func TestNoBoxesFail(t *testing.T) {
	number := show(0, false)
	zero := []string{show(false), number, number, number, show(0, 0, false), show(false, false), show("", false)}
	for _, b := range noBoxes() {
		if told := boxCalls(b, 1, 500, 500); !slices.Equal(told, zero) {
			t.Errorf("%v %q", b, told)
		}
	}
	// Of a box, what is added, or a side of the sheet, may be wrong alone.
	for _, no := range noEdges() {
		if no == 0 {
			continue
		}
		told := boxCalls(box(3, 2, 2), no, 500, 500)
		if want := []string{show(true), show(12, true), show(32, true), number, show(0, 0, false), show(false, false), show("3*2*2", true)}; !slices.Equal(told, want) {
			t.Errorf("%v %q", no, told)
		}
	}
}

// edgesAndBeyond has numbers at and beyond all limits of chapter 5.
func edgesAndBeyond() []int {
	return append(anyInts(), -60, 3, 5, 10, 59, 60, 61, 499, 500, 501)
}

func TestNoNumberMakesWrapsPanic(t *testing.T) {
	for _, a := range edgesAndBeyond() {
		catch(t, func() {
			stackCalls(a, leaveBoxes)
			impl.BoxesByPaper(a)
		}, a)
		for _, b := range edgesAndBeyond() {
			for _, c := range edgesAndBeyond() {
				catch(t, func() {
					boxCalls(box(a, b, c), c, a, b)
					boxCalls(box(3, 2, 2), a, b, c)
					impl.FitsInto(box(a, b, c), box(c, b, a))
					impl.LongestNest([]impl.Box{box(a, b, c), box(3, 2, 2)})
				}, a, b, c)
			}
			catch(t, func() {
				for _, c := range []int{math.MinInt, 0, 1, 60, math.MaxInt} {
					bundleCalls(a, b, c, leaveNumbers)
				}
				impl.PaperOfBundles(nil, a)
				impl.PaperOfBundles([]int{a}, b)
				impl.PaperOfBundles([]int{a, 7, b}, a)
			}, a, b)
		}
	}
}

func TestNoTextMakesParseBoxPanic(t *testing.T) {
	signs := []string{"", "*", "x", "0", "1", "3", "60", "61", "-", "+", " ", "\n", "\x00", "\xff", "\u00d7", "99999999999999999999"}
	for _, a := range signs {
		for _, b := range signs {
			for _, c := range signs {
				for _, s := range []string{a + b + c, a + "*" + b + "*" + c, a + b + "*" + c + "*1"} {
					catch(t, func() {
						parsed, ok := impl.ParseBox(s)
						if text, fine := impl.BoxText(parsed); ok != fine || ok && text != s || !ok && parsed != box(0, 0, 0) {
							t.Errorf("%q %v %v", s, parsed, ok)
						}
					}, s)
				}
			}
		}
	}
	for _, sign := range []string{"*", "1", "0", "1*"} {
		long := strings.Repeat(sign, 1000000)
		for _, s := range []string{long, long + "*1*1", "1*" + long + "*1", "1*1*" + long} {
			if b, ok := impl.ParseBox(s); ok || b != box(0, 0, 0) {
				t.Error("long text of", sign, b, ok)
			}
		}
	}
}

func TestLongListsOfBundlesFail(t *testing.T) {
	for _, bundle := range []int{0, 1, 60} {
		if n, ok := impl.PaperOfBundles(slices.Repeat([]int{bundle}, 1000000), 1); ok || n != 0 {
			t.Error(bundle, n, ok)
		}
	}
}

func TestNestsAreNotModified(t *testing.T) {
	small := []impl.Box{box(9, 9, 9), box(1, 1, 1), box(5, 2, 2), box(4, 3, 2)}
	lists := [][]impl.Box{nil, {}, {box(3, 2, 2)}, small, {box(3, 2, 2), box(1, 2, 3)}, {box(0, 0, 0)}, slices.Repeat(small, 2), slices.Repeat([]impl.Box{box(2, 1, 1)}, 10), slices.Repeat([]impl.Box{box(2, 1, 1)}, 11)}
	for _, list := range lists {
		var told []string
		for _, spare := range []impl.Box{box(-7, -7, -7), box(1, 1, 1), box(60, 60, 60)} {
			given, whole := withRoom(list, spare)
			before := slices.Clone(whole)
			row, ok := impl.LongestNest(given)
			told = append(told, show(row, ok))
			spoilNumbers(row)
			if !slices.Equal(whole, before) {
				t.Error("modified", before, whole)
			}
		}
		if slices.Max(told) != slices.Min(told) {
			t.Error("what is behind the list was read", list, told)
		}
	}
}

func TestBundlesAreNotModified(t *testing.T) {
	lists := [][]int{nil, {}, {1}, {60, 3, 7}, {7, 3, 60}, {0}, {5, 61}, {61, 5}, slices.Repeat([]int{9}, 59), slices.Repeat([]int{9}, 60), slices.Repeat([]int{9}, 61)}
	for _, bundles := range lists {
		for _, seal := range []int{-1, 0, 1, 60, 61} {
			var told []string
			for _, spare := range []int{-7, 0, 1, 60} {
				given, whole := withRoom(bundles, spare)
				before := slices.Clone(whole)
				n, ok := impl.PaperOfBundles(given, seal)
				told = append(told, show(n, ok))
				if !slices.Equal(whole, before) {
					t.Error("modified", before, whole)
				}
			}
			if slices.Max(told) != slices.Min(told) {
				t.Error("what is behind the list was read", bundles, told)
			}
		}
	}
}

// TestWrapResultsAreNew spoils each result and calls again: nothing is kept from call to call.
func TestWrapResultsAreNew(t *testing.T) {
	for _, bars := range []int{1, 12, 60, 61, 480, 500} {
		first := stackCalls(bars, spoilBoxes)
		if again := stackCalls(bars, leaveBoxes); !slices.Equal(first, again) {
			t.Error(bars, first, again)
		}
	}
	for _, paper := range []int{6, 7, 22, 246, 500} {
		boxes, ok := impl.BoxesByPaper(paper)
		first := spoilt(boxes, box(-5, -5, -5), ok)
		if again, ok := impl.BoxesByPaper(paper); fmt.Sprint(again, ok) != first {
			t.Error(paper, first, again, ok)
		}
	}
	for _, bars := range []int{1, 7, 59, 60} {
		first := bundleCalls(bars, 60, 0, spoilNumbers)
		if again := bundleCalls(bars, 60, 0, leaveNumbers); !slices.Equal(first, again) {
			t.Error(bars, first, again)
		}
	}
}

// wrapCalls tells results of all functions of chapter 5 that look for boxes.
func wrapCalls() string {
	told := ""
	for _, bars := range []int{12, 60, 61, 480} {
		told += strings.Join(stackCalls(bars, leaveBoxes), "")
	}
	boxes, ok := impl.BoxesByPaper(246)
	paper, fine := impl.PaperOfBundles([]int{7, 60, 1}, 3)
	return told + strings.Join(bundleCalls(59, 30, 1, leaveNumbers), "") + show(boxes, ok, paper, fine)
}

// TestWrapsAtTheSameTime calls from several goroutines: the order of boxes doesn't depend on which of them goes on.
func TestWrapsAtTheSameTime(t *testing.T) {
	want := wrapCalls()
	told := make([]string, 16)
	var calls sync.WaitGroup
	for i := range told {
		calls.Go(func() { told[i] = wrapCalls() })
	}
	calls.Wait()
	for i, got := range told {
		if got != want {
			t.Error(i, got, "not", want)
		}
	}
}

// TestWrapsLeaveNothingBehind looks whether goroutines wait still when calls have returned.
func TestWrapsLeaveNothingBehind(t *testing.T) {
	before := runtime.NumGoroutine()
	for range 20 {
		wrapCalls()
	}
	// One that is about to end is counted for a while.
	for tries := 0; runtime.NumGoroutine() > before && tries < 500; tries++ {
		time.Sleep(10 * time.Millisecond)
	}
	if after := runtime.NumGoroutine(); after > before {
		t.Error(before, "goroutines before,", after, "after")
	}
}
