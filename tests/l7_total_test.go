package tests

import (
	"fmt"
	"math"
	"runtime"
	"slices"
	"strings"
	"sync"
	"testing"
	"time"

	"loop.example/g01377/impl"
)

// tellInto returns a function that tells results behind a list, and gives each list among them to spoil.
func tellInto(told *[]string, spoil func(texts []string, numbers []int)) func(results ...any) {
	return func(results ...any) {
		*told = append(*told, show(results...))
		for _, r := range results {
			switch list := r.(type) {
			case []string:
				spoil(list, nil)
			case []int:
				spoil(nil, list)
			case [][]int:
				for _, l := range list {
					spoil(nil, l)
				}
			}
		}
	}
}

// openCalls calls every function of chapter 7 that takes a number of open sides, with a list, a place, and hours, and tells all results; spoil gets each list returned.
func openCalls(tablet []string, x, y, open, hours int, spoil func(texts []string, numbers []int)) []string {
	var told []string
	tell := tellInto(&told, spoil)
	behind, ok := impl.MeltHour(tablet, open)
	tell(behind, ok)
	after, ok := impl.TabletAfter(tablet, open, hours)
	tell(after, ok)
	n, ok := impl.HoursToMelt(tablet, open)
	tell(n, ok)
	left, ok := impl.EverLeft(tablet, open)
	tell(left, ok)
	n, ok = impl.MeltsAt(tablet, open, x, y)
	tell(n, ok)
	each, ok := impl.MeltedEach(tablet, open)
	tell(each, ok)
	last, ok := impl.LastSquares(tablet, open)
	tell(last, ok)
	most, first, ok := impl.MostPiecesWhile(tablet, open)
	tell(most, first, ok)
	coolX, coolY, n, ok := impl.CoolestBite(tablet, open)
	tell(coolX, coolY, n, ok)
	return told
}

// meltCalls calls every function of chapter 7 that takes a tablet, with a list, and tells all results; spoil gets each list returned.
func meltCalls(tablet []string, x, y, open, hours int, side string, spoil func(texts []string, numbers []int)) []string {
	var told []string
	tell := tellInto(&told, spoil)
	tell(impl.IsTablet(tablet))
	n, ok := impl.LeftOnTablet(tablet)
	tell(n, ok)
	n, ok = impl.OpenSides(tablet, x, y)
	tell(n, ok)
	told = append(told, openCalls(tablet, x, y, open, hours, spoil)...)
	pieces, ok := impl.PiecesOfTablet(tablet)
	tell(pieces, ok)
	lit, ok := impl.SunHour(tablet, side)
	tell(lit, ok)
	n, ok = impl.HoursBySun(tablet, side)
	tell(n, ok)
	bitten, ok := impl.BiteSquare(tablet, x, y)
	tell(bitten, ok)
	turned, ok := impl.TurnTablet(tablet)
	tell(turned, ok)
	text, ok := impl.TabletText(tablet)
	tell(text, ok)
	return told
}

// zeroMeltResults has what meltCalls tells if every call fails.
func zeroMeltResults() []string {
	number, list, texts, places := show(0, false), show([]int(nil), false), show([]string(nil), false), show([][]int(nil), false)
	return []string{
		show(false), number, number, texts, texts, number, texts, number, list, places, show(0, 0, false), show(0, 0, 0, false),
		list, texts, number, texts, texts, show("", false),
	}
}

func TestNoTabletsFail(t *testing.T) {
	zero := zeroMeltResults()
	for _, tablet := range noTablets() {
		for open := 1; open <= 4; open++ {
			for _, side := range rows("u/d/l/r") {
				if told := meltCalls(tablet, 0, 0, open, 1, side, leaveLists); !slices.Equal(told, zero) {
					t.Errorf("%.60q %q", tablet, told)
				}
			}
		}
	}
}

// meltInts has numbers at and beyond all limits of chapter 7.
func meltInts() []int {
	return []int{math.MinInt, math.MinInt + 1, -201, -1, 0, 1, 2, 3, 4, 5, 9, 10, 11, 100, 199, 200, 201, 1 << 32, 1<<32 + 1, math.MaxInt - 1, math.MaxInt}
}

func TestNoNumberMakesTabletsPanic(t *testing.T) {
	tablets := [][]string{nil, {""}, {"#", ""}, {"##", "#"}, {"", "##"}, {"a"}, rows("#"), rows("."), rows("##/#."), uniform(10, 1, "#"), uniform(1, 10, "."), uniform(11, 11, "#")}
	for _, tablet := range tablets {
		for _, a := range meltInts() {
			for _, b := range meltInts() {
				catch(t, func() {
					meltCalls(tablet, a, b, 2, b, "u", leaveLists)
					meltCalls(tablet, 0, b, a, 1, "r", leaveLists)
					meltCalls(tablet, a, 0, b, a, "d", leaveLists)
					impl.SolidTablet(a, b)
				}, tablet, a, b)
			}
		}
	}
}

func TestNoTextMakesTabletsPanic(t *testing.T) {
	signs := []string{"", "/", "#", ".", "#.#", "##########", "###########", "-", " ", "\n", "\x00", "\xff", "\uff03", "#/#", "##/##/##/##"}
	for _, a := range signs {
		for _, b := range signs {
			for _, c := range signs {
				s := a + b + c
				catch(t, func() {
					tablet, ok := impl.ParseTablet(s)
					if text, fine := impl.TabletText(tablet); ok != fine || text != s && ok || ok != impl.IsTablet(strings.Split(s, "/")) {
						t.Errorf("%q %q %v", s, tablet, ok)
					}
					meltCalls([]string{a, b, c}, 0, 0, 2, 3, a, leaveLists)
					impl.SunHour(rows("#.#/###"), s)
					impl.HoursBySun(rows("#.#/###"), s)
				}, s)
			}
		}
	}
	for _, sign := range []string{"/", "#", "#/", "."} {
		if tablet, ok := impl.ParseTablet(strings.Repeat(sign, 1000000)); ok || len(tablet) != 0 {
			t.Error("long text of", sign, len(tablet), ok)
		}
	}
}

// meltingTablets has tablets, and lists that are none, that all functions are called with.
func meltingTablets() [][]string {
	list := append(noTablets(), slowTablets()...)
	return append(list, rows("#"), rows("."), rows("##/#."), rows("#.#/###"), uniform(10, 10, "#"), uniform(3, 3, "#"), uniform(10, 1, "#"), uniform(1, 10, "#"))
}

func TestTabletsAreNotModified(t *testing.T) {
	for _, tablet := range meltingTablets() {
		if len(tablet) > 100 {
			continue
		}
		for open := 1; open <= 4; open++ {
			var told []string
			for _, spare := range []string{"#", "##", strings.Repeat("#", 10), strings.Repeat(".", 10), "\xff", ""} {
				given, whole := withRoom(tablet, spare)
				before := slices.Clone(whole)
				results := meltCalls(given, 0, 0, open, open-1, string("udlr"[open-1]), spoilLists)
				if !slices.Equal(whole, before) {
					t.Errorf("modified: %.60q %.60q", before, whole)
				}
				told = append(told, fmt.Sprint(results))
			}
			if slices.Max(told) != slices.Min(told) {
				t.Errorf("what is behind the tablet was read: %.60q %.200q", tablet, told)
			}
		}
	}
}

// TestRoomBehindTabletsIsNotHandedOut looks at what is behind the results.
func TestRoomBehindTabletsIsNotHandedOut(t *testing.T) {
	for _, tablet := range [][]string{rows("#"), rows("."), rows("##/#."), rows("#.#/###"), uniform(10, 10, "#"), uniform(3, 3, "#")} {
		for open := 1; open <= 4; open++ {
			given, _ := withRoom(tablet, "spare")
			meltCalls(given, 0, 0, open, 0, string("udlr"[open-1]), func(texts []string, _ []int) {
				if slices.Contains(texts[:cap(texts)], "spare") {
					t.Errorf("%q %d %q", tablet, open, texts[:cap(texts)])
				}
			})
		}
	}
}

// TestMeltResultsAreNew spoils each result and calls again: nothing is kept from call to call.
func TestMeltResultsAreNew(t *testing.T) {
	for _, tablet := range [][]string{rows("#"), rows("."), rows("##/#."), rows("#.#/###"), uniform(10, 10, "#"), uniform(3, 3, "#")} {
		for open := 1; open <= 4; open++ {
			given := slices.Clone(tablet)
			first := meltCalls(given, 0, 0, open, 0, "l", spoilLists)
			if again := meltCalls(given, 0, 0, open, 0, "l", leaveLists); !slices.Equal(first, again) || !slices.Equal(given, tablet) {
				t.Error(tablet, first, again)
			}
		}
	}
	solid, _ := impl.SolidTablet(3, 2)
	spoilLists(solid, nil)
	if again, ok := impl.SolidTablet(3, 2); !ok || !slices.Equal(again, rows("###/###")) {
		t.Error("SolidTablet", again, ok)
	}
	text := "#.#/###"
	tablet, _ := impl.ParseTablet(text)
	spoilLists(tablet, nil)
	if again, ok := impl.ParseTablet(text); !ok || !slices.Equal(again, rows(text)) {
		t.Error("ParseTablet", again, ok)
	}
}

// TestLastSquaresShareNothing overwrites each place: the other ones stay.
func TestLastSquaresShareNothing(t *testing.T) {
	last, ok := impl.LastSquares(uniform(3, 3, "#"), 1)
	if !ok || !samePlaces(last, [][]int{{1, 1}}) {
		t.Fatal(last, ok)
	}
	last, ok = impl.LastSquares(uniform(10, 1, "#"), 2)
	if !ok || len(last) != 10 {
		t.Fatal(last, ok)
	}
	overwrite(last)
	for i, at := range last {
		for _, n := range at {
			if n != -1000-i {
				t.Error("shared with another one", i, at)
			}
		}
	}
}

// meltResults tells results of all functions of chapter 7.
func meltResults() string {
	told := ""
	for i, tablet := range slowTablets() {
		at := gridOf(tablet).squares()[0]
		told += strings.Join(meltCalls(tablet, at.x, at.y, i%3+1, i, string("udlr"[i%4]), spoilLists), "")
	}
	return told
}

// TestTabletsAtTheSameTime calls often, and from several goroutines: results don't depend on which row is looked at first.
func TestTabletsAtTheSameTime(t *testing.T) {
	want := meltResults()
	if strings.Count(want, "true") < 200 {
		t.Error("too many calls fail", want)
	}
	told := make([]string, 16)
	var calls sync.WaitGroup
	for i := range told {
		calls.Go(func() { told[i] = meltResults() })
	}
	calls.Wait()
	for i, got := range told {
		if got != want {
			t.Error(i, got, "not", want)
		}
	}
	// One tablet that several look at is not written to.
	tablet := uniform(10, 10, "#")
	first := meltCalls(tablet, 5, 5, 2, 3, "u", leaveLists)
	for i := range told {
		calls.Go(func() {
			if got := meltCalls(tablet, 5, 5, 2, 3, "u", leaveLists); !slices.Equal(got, first) {
				t.Error(i, got, "not", first)
			}
		})
	}
	calls.Wait()
}

// TestHoursLeaveNothingBehind looks whether goroutines go on still when calls have returned.
func TestHoursLeaveNothingBehind(t *testing.T) {
	before := runtime.NumGoroutine()
	for range 20 {
		meltResults()
		meltCalls(uniform(11, 11, "#"), 0, 0, 2, 1, "u", leaveLists)
		meltCalls(uniform(10, 10, "#"), 0, 0, 5, 201, "x", leaveLists)
	}
	// One that is about to end is counted for a while.
	for tries := 0; runtime.NumGoroutine() > before && tries < 500; tries++ {
		time.Sleep(10 * time.Millisecond)
	}
	if after := runtime.NumGoroutine(); after > before {
		t.Error(before, "goroutines before,", after, "after")
	}
}
