package tests

import (
	"fmt"
	"slices"
	"strings"
	"testing"

	"loop.example/g01377/impl"
)

// nutCalls calls every function of chapter 2 with a list, and numbers, and tells all results; spoil gets each list returned.
func nutCalls(nuts []string, x, y int, b impl.Bar, spoil func(texts []string, numbers []int)) []string {
	var told []string
	tell := func(results ...any) {
		told = append(told, show(results...))
		for _, r := range results {
			switch list := r.(type) {
			case []string:
				spoil(list, nil)
			case []int:
				spoil(nil, list)
			}
		}
	}
	tell(impl.AreNuts(nuts))
	n, ok := impl.NutsIn(nuts)
	tell(n, ok)
	inRows, ok := impl.RowNuts(nuts)
	tell(inRows, ok)
	inColumns, ok := impl.ColumnNuts(nuts)
	tell(inColumns, ok)
	n, ok = impl.NutsInPart(nuts, x, y, b)
	tell(n, ok)
	richX, richY, n, ok := impl.RichestPart(nuts, b)
	tell(richX, richY, n, ok)
	n, ok = impl.CountParts(nuts, x)
	tell(n, ok)
	size, ok := impl.GreatestPart(nuts, x)
	tell(size.Wide, size.High, ok)
	down, at, n, ok := impl.EvenBreak(nuts)
	tell(down, at, n, ok)
	downs, acrosses, ok := impl.EqualBreaks(nuts)
	tell(downs, acrosses, ok)
	n, ok = impl.PoorestStrip(nuts, x)
	tell(n, ok)
	widths, ok := impl.FirstStrips(nuts, x)
	tell(widths, ok)
	n, ok = impl.PoorestPiece(nuts, x)
	tell(n, ok)
	n, ok = impl.FewestPieces(nuts, x)
	tell(n, ok)
	more, ok := impl.PutNut(nuts, x, y)
	tell(more, ok)
	turned, ok := impl.TurnNuts(nuts)
	tell(turned, ok)
	same, ok := impl.SameNuts(nuts, nuts)
	tell(same, ok)
	text, ok := impl.NutsText(nuts)
	tell(text, ok)
	return told
}

// show tells results so that an empty text is seen, too.
func show(results ...any) string {
	told := ""
	for _, r := range results {
		switch r.(type) {
		case string, []string:
			told += fmt.Sprintf("%q ", r)
		default:
			told += fmt.Sprint(r) + " "
		}
	}
	return told
}

func leaveLists([]string, []int) {}

// spoilLists fills all that a result gives access to.
func spoilLists(texts []string, numbers []int) {
	for i := range texts[:cap(texts)] {
		texts[:cap(texts)][i] = "spoilt"
	}
	for i := range numbers[:cap(numbers)] {
		numbers[:cap(numbers)][i] = -1000
	}
}

func TestNoNutsFail(t *testing.T) {
	zero := zeroResults()
	for _, nuts := range append(noNuts(), uniform(1000000, 1, "1"), uniform(1, 1000000, "1"), uniform(1, 1000000, "")) {
		if told := nutCalls(nuts, 1, 0, bar(1, 1), leaveLists); !slices.Equal(told, zero) {
			t.Errorf("%.60q %q", nuts, told)
		}
		good := rows("201/130")
		for _, pair := range [][2][]string{{nuts, good}, {good, nuts}, {nuts, nuts}} {
			if same, ok := impl.SameNuts(pair[0], pair[1]); ok || same {
				t.Errorf("SameNuts %.60q %v %v", pair, same, ok)
			}
		}
	}
}

// zeroResults has what nutCalls tells if every call fails.
func zeroResults() []string {
	number, list, texts := show(0, false), show([]int(nil), false), show([]string(nil), false)
	return []string{
		show(false), number, list, list, number, show(0, 0, 0, false), number, show(0, 0, false), show(false, 0, 0, false),
		show([]int(nil), []int(nil), false), number, list, number, number, texts, texts, show(false, false), show("", false),
	}
}

func TestNoNumberMakesNutsPanic(t *testing.T) {
	lists := [][]string{nil, {""}, {"1", ""}, {"12", "1"}, {"a"}, {"1"}, rows("201/130"), uniform(8, 1, "0"), uniform(1, 8, "9"), uniform(9, 9, "1")}
	for _, nuts := range lists {
		for _, x := range anyInts() {
			for _, y := range anyInts() {
				for _, b := range []impl.Bar{bar(1, 1), bar(x, y), bar(y, 1), bar(3, x), {}} {
					catch(t, func() { nutCalls(nuts, x, y, b, leaveLists) }, nuts, x, y, b)
				}
			}
		}
	}
}

func TestNoTextMakesParseNutsPanic(t *testing.T) {
	signs := []string{"", "/", "0", "9", "12", "123", "12345678", "123456789", "-", " ", "\n", "\x00", "\xff", "\u0663", "1/1", "12/12/12/12"}
	for _, a := range signs {
		for _, b := range signs {
			for _, c := range signs {
				s := a + b + c
				catch(t, func() {
					nuts, ok := impl.ParseNuts(s)
					if text, fine := impl.NutsText(nuts); ok != fine || text != s && ok || ok != impl.AreNuts(strings.Split(s, "/")) {
						t.Errorf("%q %q %v", s, nuts, ok)
					}
				}, s)
			}
		}
	}
	for _, sign := range []string{"/", "1", "1/"} {
		if nuts, ok := impl.ParseNuts(strings.Repeat(sign, 1000000)); ok || len(nuts) != 0 {
			t.Error("long text of", sign, len(nuts), ok)
		}
	}
}

func TestNutsAreNotModified(t *testing.T) {
	for _, nuts := range append(noNuts(), rows("201/130"), rows("5"), uniform(8, 8, "3"), rows("12/34")) {
		var told []string
		for _, spare := range []string{"9", "12", "\xff", ""} {
			given, whole := withRoom(nuts, spare)
			before := slices.Clone(whole)
			results := nutCalls(given, 1, 0, bar(1, 1), spoilLists)
			if !slices.Equal(whole, before) {
				t.Errorf("modified: %q %q", before, whole)
			}
			told = append(told, fmt.Sprint(results))
		}
		if slices.Max(told) != slices.Min(told) {
			t.Errorf("what is behind the list was read: %q %q", nuts, told)
		}
	}
}

// TestNutResultsAreNew spoils each result and calls again: nothing is kept from call to call.
func TestNutResultsAreNew(t *testing.T) {
	for _, nuts := range [][]string{rows("201/130"), rows("10/01"), rows("5"), uniform(8, 8, "3")} {
		first := nutCalls(nuts, 1, 0, bar(1, 1), spoilLists)
		if again := nutCalls(nuts, 1, 0, bar(1, 1), leaveLists); !slices.Equal(first, again) {
			t.Error(nuts, first, again)
		}
	}
	text := "201/130"
	nuts, _ := impl.ParseNuts(text)
	spoilLists(nuts, nil)
	if again, ok := impl.ParseNuts(text); !ok || !slices.Equal(again, rows(text)) {
		t.Error(again, ok)
	}
	downs, acrosses, ok := impl.EqualBreaks(rows("1001/0000/1001"))
	spoilLists(nil, downs)
	if !ok || slices.Contains(acrosses, -1000) {
		t.Error("both lists share memory", downs, acrosses)
	}
	downs, acrosses, ok = impl.EqualBreaks(rows("000/000"))
	spoilLists(nil, downs)
	if !ok || !slices.Equal(acrosses, []int{1}) {
		t.Error("both lists share memory", downs, acrosses)
	}
}

// TestNutsInAnyOrder calls often: the order in which a map is ranged over must not be seen.
func TestNutsInAnyOrder(t *testing.T) {
	z := drawn(11)
	nuts := drawnNuts(&z, 6, 5, 9)
	first := nutCalls(nuts, 3, 1, bar(2, 2), leaveLists)
	for range 200 {
		if again := nutCalls(nuts, 3, 1, bar(2, 2), leaveLists); !slices.Equal(first, again) {
			t.Fatal(first, again)
		}
	}
}
