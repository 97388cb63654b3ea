package tests

import (
	"fmt"
	"math"
	"slices"
	"strings"
	"testing"

	"loop.example/g01377/impl"
)

func rows(text string) []string { return strings.Split(text, "/") }

// drawn has numbers that look like drawn ones, the same each time.
type drawn int

func (z *drawn) below(many int) int {
	*z = (*z*283 + 1021) % 10007
	return int(*z) % many
}

// drawnNuts has no more than most nuts in a square.
func drawnNuts(z *drawn, wide, high, most int) []string {
	var nuts []string
	for range high {
		row := ""
		for range wide {
			row += fmt.Sprint(z.below(most + 1))
		}
		nuts = append(nuts, row)
	}
	return nuts
}

func uniform(wide, high int, digit string) []string {
	return slices.Repeat([]string{strings.Repeat(digit, wide)}, high)
}

// goodNuts has bars with nuts of all sizes: with none, with one in each square, with as many as can be, and drawn ones.
func goodNuts() [][]string {
	z := drawn(7)
	list := [][]string{rows("201/130"), rows("201/131"), rows("0010/2100")}
	for wide := 1; wide <= impl.MaxNutSide; wide++ {
		for high := 1; high <= impl.MaxNutSide; high++ {
			list = append(list, uniform(wide, high, "0"), uniform(wide, high, "1"), uniform(wide, high, "9"))
			list = append(list, drawnNuts(&z, wide, high, 9), drawnNuts(&z, wide, high, 2), drawnNuts(&z, wide, high, 1))
		}
	}
	return list
}

// noNuts has lists that are no bars with nuts.
func noNuts() [][]string {
	list := [][]string{
		nil, {}, {""}, {"", ""}, {"1", ""}, {"", "1"}, {"12", "1"}, {"1", "12"}, {"11", "11", "111"},
		uniform(9, 1, "1"), uniform(1, 9, "1"), uniform(9, 9, "1"), uniform(8, 9, "1"), uniform(9, 8, "1"), uniform(0, 8, "1"),
		{"201/130"}, {"2 1"}, {" 21"}, {"21 "}, {"2x1"}, {"-1"}, {"+1"}, {"1\n"}, {"\x00"}, {"\xff"}, {"1\xb2"},
		{"\u0663"}, {"\u00b2"}, {"\uff11"}, {"201", "13a"}, {"a"}, {"A"}, {"/"}, {":"}, {"1:"}, {"/1"}, {"."},
	}
	for side := 1; side <= impl.MaxNutSide; side++ {
		for _, sign := range []string{"/", ":"} {
			bad := uniform(side, side, "5")
			bad[side-1] = strings.Repeat("5", side-1) + sign
			list = append(list, bad)
		}
	}
	return list
}

// within counts the nuts of a rectangle square by square.
func within(nuts []string, x, y int, b impl.Bar) int {
	sum := 0
	for _, row := range nuts[y : y+b.High] {
		for _, digit := range row[x : x+b.Wide] {
			sum += int(digit - '0')
		}
	}
	return sum
}

func sizeOf(nuts []string) impl.Bar { return bar(len(nuts[0]), len(nuts)) }

// nutRect is a rectangle of squares.
type nutRect struct {
	x, y int
	b    impl.Bar
}

// rects has all parts of a bar, by y, then by x, then by their sizes.
func rects(b impl.Bar) []nutRect {
	var list []nutRect
	for y := range b.High {
		for x := range b.Wide {
			for wide := 1; x+wide <= b.Wide; wide++ {
				for high := 1; y+high <= b.High; high++ {
					list = append(list, nutRect{x, y, bar(wide, high)})
				}
			}
		}
	}
	return list
}

func TestNutConstants(t *testing.T) {
	if impl.MaxNutSide != 8 || impl.MaxSharers != 5 {
		t.Error("a limit of chapter 2 is not that of the document")
	}
}

func TestAreNuts(t *testing.T) {
	for _, nuts := range goodNuts() {
		if !impl.AreNuts(nuts) {
			t.Errorf("%q are nuts", nuts)
		}
	}
	for digit := range 256 {
		nuts := []string{string([]byte{byte(digit)})}
		if is := digit >= '0' && digit <= '9'; impl.AreNuts(nuts) != is {
			t.Errorf("%q", nuts)
		}
	}
	for _, nuts := range noNuts() {
		if impl.AreNuts(nuts) {
			t.Errorf("%q are no nuts", nuts)
		}
	}
}

func TestRowsAndColumnsHaveAllNuts(t *testing.T) {
	for _, nuts := range goodNuts() {
		b := sizeOf(nuts)
		var inRows, inColumns []int
		for y := range nuts {
			inRows = append(inRows, within(nuts, 0, y, bar(b.Wide, 1)))
		}
		for x := range b.Wide {
			inColumns = append(inColumns, within(nuts, x, 0, bar(1, b.High)))
		}
		if list, ok := impl.RowNuts(nuts); !ok || !slices.Equal(list, inRows) {
			t.Error("RowNuts", nuts, list, ok)
		}
		if list, ok := impl.ColumnNuts(nuts); !ok || !slices.Equal(list, inColumns) {
			t.Error("ColumnNuts", nuts, list, ok)
		}
		if n, ok := impl.NutsIn(nuts); !ok || n != within(nuts, 0, 0, b) {
			t.Error("NutsIn", nuts, n, ok)
		}
	}
}

func TestNutExamples(t *testing.T) {
	nuts := rows("201/130")
	if n, ok := impl.NutsIn(nuts); !ok || n != 7 {
		t.Error("NutsIn", n, ok)
	}
	if list, ok := impl.RowNuts(nuts); !ok || !slices.Equal(list, []int{3, 4}) {
		t.Error("RowNuts", list, ok)
	}
	if list, ok := impl.ColumnNuts(nuts); !ok || !slices.Equal(list, []int{3, 3, 1}) {
		t.Error("ColumnNuts", list, ok)
	}
	if x, y, n, ok := impl.RichestPart(nuts, bar(2, 1)); !ok || x != 0 || y != 1 || n != 4 {
		t.Error("RichestPart", x, y, n, ok)
	}
	if n, ok := impl.CountParts(nuts, 3); !ok || n != 5 {
		t.Error("CountParts", n, ok)
	}
	if b, ok := impl.GreatestPart(nuts, 3); !ok || b != bar(3, 1) {
		t.Error("GreatestPart", b, ok)
	}
	if down, at, n, ok := impl.EvenBreak(nuts); !ok || !down || at != 1 || n != 1 {
		t.Error("EvenBreak", down, at, n, ok)
	}
	if downs, acrosses, ok := impl.EqualBreaks(nuts); !ok || len(downs) != 0 || len(acrosses) != 0 {
		t.Error("EqualBreaks", downs, acrosses, ok)
	}
	if n, ok := impl.PoorestStrip(nuts, 2); !ok || n != 3 {
		t.Error("PoorestStrip", n, ok)
	}
	if list, ok := impl.FirstStrips(nuts, 2); !ok || !slices.Equal(list, []int{1, 2}) {
		t.Error("FirstStrips", list, ok)
	}
	if n, ok := impl.PoorestPiece(nuts, 2); !ok || n != 3 {
		t.Error("PoorestPiece of 2", n, ok)
	}
	if n, ok := impl.PoorestPiece(nuts, 3); !ok || n != 1 {
		t.Error("PoorestPiece of 3", n, ok)
	}
	if n, ok := impl.FewestPieces(nuts, 3); !ok || n != 3 {
		t.Error("FewestPieces", n, ok)
	}
	if turned, ok := impl.TurnNuts(nuts); !ok || !slices.Equal(turned, rows("12/30/01")) {
		t.Error("TurnNuts", turned, ok)
	}
}

func TestOneSquare(t *testing.T) {
	for many := range 10 {
		nuts := []string{fmt.Sprint(many)}
		n, ok := impl.NutsIn(nuts)
		inRows, okRows := impl.RowNuts(nuts)
		inColumns, okColumns := impl.ColumnNuts(nuts)
		if !ok || !okRows || !okColumns || n != many || !slices.Equal(inRows, []int{many}) || !slices.Equal(inColumns, []int{many}) {
			t.Error("sums", nuts, n, inRows, inColumns)
		}
		if x, y, n, ok := impl.RichestPart(nuts, bar(1, 1)); !ok || x != 0 || y != 0 || n != many {
			t.Error("RichestPart", nuts, x, y, n, ok)
		}
		if down, at, n, ok := impl.EvenBreak(nuts); ok || down || at != 0 || n != 0 {
			t.Error("EvenBreak", nuts, down, at, n, ok)
		}
		if downs, acrosses, ok := impl.EqualBreaks(nuts); !ok || len(downs) != 0 || len(acrosses) != 0 {
			t.Error("EqualBreaks", nuts, downs, acrosses, ok)
		}
		if n, ok := impl.PoorestStrip(nuts, 1); !ok || n != many {
			t.Error("PoorestStrip", nuts, n, ok)
		}
		if list, ok := impl.FirstStrips(nuts, 1); !ok || !slices.Equal(list, []int{1}) {
			t.Error("FirstStrips", nuts, list, ok)
		}
		if n, ok := impl.PoorestPiece(nuts, 1); !ok || n != many {
			t.Error("PoorestPiece", nuts, n, ok)
		}
		// A single square may have more than most.
		for _, most := range []int{0, many, math.MaxInt} {
			if n, ok := impl.FewestPieces(nuts, most); !ok || n != 1 {
				t.Error("FewestPieces", nuts, most, n, ok)
			}
		}
		if turned, ok := impl.TurnNuts(nuts); !ok || !slices.Equal(turned, nuts) {
			t.Error("TurnNuts", nuts, turned, ok)
		}
	}
}

func TestNutsInPart(t *testing.T) {
	for _, nuts := range goodNuts() {
		for _, r := range rects(sizeOf(nuts)) {
			if n, ok := impl.NutsInPart(nuts, r.x, r.y, r.b); !ok || n != within(nuts, r.x, r.y, r.b) {
				t.Fatal(nuts, r, n, ok)
			}
		}
	}
}

func TestPartsThatAreNotInside(t *testing.T) {
	nuts := rows("201/130")
	check := func(x, y int, b impl.Bar) {
		if n, ok := impl.NutsInPart(nuts, x, y, b); ok || n != 0 {
			t.Error(x, y, b, n, ok)
		}
	}
	for x := -2; x <= 5; x++ {
		for y := -2; y <= 4; y++ {
			for wide := -1; wide <= 5; wide++ {
				for high := -1; high <= 4; high++ {
					if !slices.Contains(rects(bar(3, 2)), nutRect{x, y, bar(wide, high)}) {
						check(x, y, bar(wide, high))
					}
				}
			}
		}
	}
	for _, far := range []int{math.MinInt, math.MinInt + 1, -1, 4, 1 << 32, math.MaxInt - 1, math.MaxInt} {
		check(far, 0, bar(1, 1))
		check(0, far, bar(1, 1))
		check(0, 0, bar(far, 1))
		check(0, 0, bar(1, far))
		check(far, far, bar(far, far))
		check(1, 1, bar(math.MaxInt, far))
		check(far, 1, bar(math.MaxInt, 1))
	}
}

func TestRichestPart(t *testing.T) {
	for _, nuts := range goodNuts() {
		whole := sizeOf(nuts)
		for _, b := range allBars() {
			best, richest := nutRect{}, -1
			for _, r := range rects(whole) {
				if n := within(nuts, r.x, r.y, r.b); r.b == b && n > richest {
					best, richest = r, n
				}
			}
			may := richest >= 0
			if x, y, n, ok := impl.RichestPart(nuts, b); ok != may || x != best.x || y != best.y || n != max(richest, 0) {
				t.Fatal(nuts, b, x, y, n, ok)
			}
		}
		for _, b := range noBars() {
			if x, y, n, ok := impl.RichestPart(nuts, b); ok || x != 0 || y != 0 || n != 0 {
				t.Fatal(nuts, b, x, y, n, ok)
			}
		}
	}
	// Of parts that are as rich, the upper one comes before the left one.
	if x, y, n, ok := impl.RichestPart(rows("001/100"), bar(1, 1)); !ok || x != 2 || y != 0 || n != 1 {
		t.Error("by y, then by x", x, y, n, ok)
	}
	if x, y, n, ok := impl.RichestPart(rows("00/00"), bar(1, 2)); !ok || x != 0 || y != 0 || n != 0 {
		t.Error("no nuts", x, y, n, ok)
	}
}

func TestNoPartIsRicherThanTheRichest(t *testing.T) {
	for _, nuts := range goodNuts() {
		for _, r := range rects(sizeOf(nuts)) {
			n, ok := impl.NutsInPart(nuts, r.x, r.y, r.b)
			x, y, most, fine := impl.RichestPart(nuts, r.b)
			if !ok || !fine || n > most {
				t.Fatal(nuts, r, n, most)
			}
			if there, ok := impl.NutsInPart(nuts, x, y, r.b); !ok || there != most {
				t.Fatal(nuts, r, x, y, there, most)
			}
		}
	}
}

func TestPartsWithSoMany(t *testing.T) {
	for _, nuts := range goodNuts() {
		whole := sizeOf(nuts)
		counts := map[int]int{}
		greatest := map[int]impl.Bar{}
		for _, r := range rects(whole) {
			n := within(nuts, r.x, r.y, r.b)
			counts[n]++
			squares, most := r.b.Wide*r.b.High, greatest[n].Wide*greatest[n].High
			if squares > most || squares == most && r.b.Wide < greatest[n].Wide {
				greatest[n] = r.b
			}
		}
		checked := 0
		for many := 0; many <= within(nuts, 0, 0, whole)+1; many++ {
			n, ok := impl.CountParts(nuts, many)
			if !ok || n != counts[many] {
				t.Fatal("CountParts", nuts, many, n, ok)
			}
			checked += n
			if b, ok := impl.GreatestPart(nuts, many); ok != (counts[many] > 0) || b != greatest[many] {
				t.Fatal("GreatestPart", nuts, many, b, ok)
			}
		}
		if checked != len(rects(whole)) {
			t.Fatal("not all parts are counted", nuts, checked)
		}
	}
	// Of 1x4 and 2x2 and 4x1 the first one has less Wide.
	if b, ok := impl.GreatestPart(rows("1111/1111/1111/1111"), 4); !ok || b != bar(1, 4) {
		t.Error("less Wide", b, ok)
	}
	if b, ok := impl.GreatestPart(rows("00/00"), 0); !ok || b != bar(2, 2) {
		t.Error("no nuts", b, ok)
	}
}

func TestPartsWithBadNumbers(t *testing.T) {
	for _, nuts := range goodNuts() {
		for _, many := range []int{-1, -2, math.MinInt} {
			if n, ok := impl.CountParts(nuts, many); ok || n != 0 {
				t.Error("CountParts", nuts, many, n, ok)
			}
			if b, ok := impl.GreatestPart(nuts, many); ok || b != bar(0, 0) {
				t.Error("GreatestPart", nuts, many, b, ok)
			}
			if n, ok := impl.FewestPieces(nuts, many); ok || n != 0 {
				t.Error("FewestPieces", nuts, many, n, ok)
			}
		}
		if n, ok := impl.CountParts(nuts, math.MaxInt); !ok || n != 0 {
			t.Error("no part has so many", nuts, n, ok)
		}
		if b, ok := impl.GreatestPart(nuts, math.MaxInt); ok || b != bar(0, 0) {
			t.Error("no part has so many", nuts, b, ok)
		}
	}
}

// differenceBehind is by how many nuts both parts of a break differ.
func differenceBehind(nuts []string, down bool, at int) int {
	b := sizeOf(nuts)
	part := bar(b.Wide, at)
	if down {
		part = bar(at, b.High)
	}
	first := within(nuts, 0, 0, part)
	other := within(nuts, 0, 0, b) - first
	return max(first-other, other-first)
}

func TestEvenAndEqualBreaks(t *testing.T) {
	for _, nuts := range goodNuts() {
		best, least := impl.Break{}, math.MaxInt
		var downs, acrosses []int
		for _, next := range breaksOf([]impl.Bar{sizeOf(nuts)}) {
			n := differenceBehind(nuts, next.Down, next.At)
			if n < least {
				best, least = next, n
			}
			if n == 0 && next.Down {
				downs = append(downs, next.At)
			} else if n == 0 {
				acrosses = append(acrosses, next.At)
			}
		}
		may := best.At > 0
		if !may {
			least = 0
		}
		if down, at, n, ok := impl.EvenBreak(nuts); ok != may || brk(0, down, at) != best || n != least {
			t.Error("EvenBreak", nuts, down, at, n, ok, "not", best, least)
		}
		if d, a, ok := impl.EqualBreaks(nuts); !ok || !slices.Equal(d, downs) || !slices.Equal(a, acrosses) {
			t.Error("EqualBreaks", nuts, d, a, ok, "not", downs, acrosses)
		}
	}
}

func TestEvenBreakInOrder(t *testing.T) {
	cases := []struct {
		text          string
		down          bool
		at, n         int
		downs, across []int
	}{
		{"000/000", true, 1, 0, []int{1, 2}, []int{1}},
		{"0/0/0", false, 1, 0, nil, []int{1, 2}},
		{"10/01", true, 1, 0, []int{1}, []int{1}},
		{"11/00/11", true, 1, 0, []int{1}, []int{1, 2}},
		{"80/81/80", false, 1, 9, nil, nil},
		{"80/10/90", false, 2, 0, nil, []int{2}},
		{"10/10", false, 1, 0, nil, []int{1}},
		{"20/00", true, 1, 2, nil, nil},
		{"5005", true, 1, 0, []int{1, 2, 3}, nil},
		{"12", true, 1, 1, nil, nil},
		{"1/2", false, 1, 1, nil, nil},
		{"99999999", true, 4, 0, []int{4}, nil},
	}
	for _, c := range cases {
		if down, at, n, ok := impl.EvenBreak(rows(c.text)); !ok || down != c.down || at != c.at || n != c.n {
			t.Error("EvenBreak", c.text, down, at, n, ok)
		}
		if d, a, ok := impl.EqualBreaks(rows(c.text)); !ok || !slices.Equal(d, c.downs) || !slices.Equal(a, c.across) {
			t.Error("EqualBreaks", c.text, d, a, ok)
		}
	}
}

// allWidths has the widths of all strips of so many columns, lexicographically ordered.
func allWidths(columns, sharers int) [][]int {
	if sharers == 1 {
		return [][]int{{columns}}
	}
	var list [][]int
	for wide := 1; columns-wide >= sharers-1; wide++ {
		for _, others := range allWidths(columns-wide, sharers-1) {
			list = append(list, append([]int{wide}, others...))
		}
	}
	return list
}

func poorestOfWidths(nuts []string, widths []int) int {
	poorest, x := math.MaxInt, 0
	for _, wide := range widths {
		poorest = min(poorest, within(nuts, x, 0, bar(wide, len(nuts))))
		x += wide
	}
	return poorest
}

func TestStrips(t *testing.T) {
	for _, nuts := range goodNuts() {
		columns := len(nuts[0])
		for sharers := -1; sharers <= 10; sharers++ {
			var first []int
			best := -1
			may := sharers >= 1 && sharers <= min(5, columns)
			if may {
				for _, widths := range allWidths(columns, sharers) {
					if poorest := poorestOfWidths(nuts, widths); poorest > best {
						first, best = widths, poorest
					}
				}
			}
			if n, ok := impl.PoorestStrip(nuts, sharers); ok != may || n != max(best, 0) {
				t.Error("PoorestStrip", nuts, sharers, n, ok, "not", best)
			}
			if list, ok := impl.FirstStrips(nuts, sharers); ok != may || !slices.Equal(list, first) {
				t.Error("FirstStrips", nuts, sharers, list, ok, "not", first)
			}
		}
	}
}

func TestFirstStrips(t *testing.T) {
	cases := []struct {
		text    string
		sharers int
		want    []int
		poorest int
	}{
		{"00000000", 5, []int{1, 1, 1, 1, 4}, 0},
		{"0000", 1, []int{4}, 0},
		{"11111111", 5, []int{1, 1, 1, 1, 4}, 1},
		{"11111111", 4, []int{2, 2, 2, 2}, 2},
		{"00100000/00000001", 2, []int{3, 5}, 1},
		{"10000001", 3, []int{1, 1, 6}, 0},
		{"9012", 2, []int{1, 3}, 3},
		{"2109", 2, []int{2, 2}, 3},
		{"12345", 5, []int{1, 1, 1, 1, 1}, 1},
		{"99999999/99999999/99999999/99999999/99999999/99999999/99999999/99999999", 2, []int{4, 4}, 288},
	}
	for _, c := range cases {
		if list, ok := impl.FirstStrips(rows(c.text), c.sharers); !ok || !slices.Equal(list, c.want) {
			t.Error("FirstStrips", c.text, c.sharers, list, ok)
		}
		if n, ok := impl.PoorestStrip(rows(c.text), c.sharers); !ok || n != c.poorest {
			t.Error("PoorestStrip", c.text, c.sharers, n, ok)
		}
	}
}

// outcome tells of pieces to which breaks lead: how many they are, how many nuts the poorest has, and how many the richest that is no single square.
type outcome struct {
	pieces, poorest, richest int
}

// outcomes has all that breaks of a part can lead to.
func outcomes(nuts []string, r nutRect, known map[nutRect]map[outcome]bool) map[outcome]bool {
	if all := known[r]; all != nil {
		return all
	}
	n := within(nuts, r.x, r.y, r.b)
	all := map[outcome]bool{{1, n, n}: true}
	if r.b == bar(1, 1) {
		all = map[outcome]bool{{1, n, 0}: true}
	}
	for _, next := range breaksOf([]impl.Bar{r.b}) {
		p := nutRect{r.x, r.y, bar(next.At, r.b.High)}
		q := nutRect{r.x + next.At, r.y, bar(r.b.Wide-next.At, r.b.High)}
		if !next.Down {
			p = nutRect{r.x, r.y, bar(r.b.Wide, next.At)}
			q = nutRect{r.x, r.y + next.At, bar(r.b.Wide, r.b.High-next.At)}
		}
		for a := range outcomes(nuts, p, known) {
			for b := range outcomes(nuts, q, known) {
				all[outcome{a.pieces + b.pieces, min(a.poorest, b.poorest), max(a.richest, b.richest)}] = true
			}
		}
	}
	known[r] = all
	return all
}

// smallNuts has bars of few squares, of which all outcomes can be looked at.
func smallNuts() [][]string {
	// In the first one only pieces that lie around the middle could all have 9: no breaks lead to them.
	list := [][]string{rows("455/492/225"), rows("458/491/548"), rows("201/130"), rows("000/000/000"), rows("999/999/999")}
	z := drawn(3)
	for _, b := range allBars() {
		if b.Wide*b.High <= 9 && max(b.Wide, b.High) <= 8 {
			list = append(list, drawnNuts(&z, b.Wide, b.High, 9), drawnNuts(&z, b.Wide, b.High, 1), drawnNuts(&z, b.Wide, b.High, 3))
		}
	}
	return append(list, drawnNuts(&z, 4, 3, 2), drawnNuts(&z, 3, 4, 4))
}

func TestPieces(t *testing.T) {
	for _, nuts := range smallNuts() {
		b := sizeOf(nuts)
		all := outcomes(nuts, nutRect{0, 0, b}, map[nutRect]map[outcome]bool{})
		for sharers := -1; sharers <= 10; sharers++ {
			best := 0
			for o := range all {
				if o.pieces == sharers {
					best = max(best, o.poorest)
				}
			}
			may := sharers >= 1 && sharers <= min(5, b.Wide*b.High)
			if !may {
				best = 0
			}
			if n, ok := impl.PoorestPiece(nuts, sharers); ok != may || n != best {
				t.Error("PoorestPiece", nuts, sharers, n, ok, "not", best)
			}
		}
		for most := 0; most <= within(nuts, 0, 0, b)+1; most++ {
			fewest := math.MaxInt
			for o := range all {
				if o.richest <= most {
					fewest = min(fewest, o.pieces)
				}
			}
			if n, ok := impl.FewestPieces(nuts, most); !ok || n != fewest {
				t.Error("FewestPieces", nuts, most, n, ok, "not", fewest)
			}
		}
	}
}

// TestPiecesOfGreatBars has bars of which one can tell without a search how they are shared best.
func TestPiecesOfGreatBars(t *testing.T) {
	even := uniform(8, 8, "1")
	for i, want := range []int{64, 32, 20, 16, 12} {
		if n, ok := impl.PoorestPiece(even, i+1); !ok || n != want {
			t.Error("PoorestPiece", i+1, n, ok)
		}
	}
	full := uniform(8, 8, "9")
	for most, want := range map[int]int{0: 64, 8: 64, 9: 64, 18: 32, 72: 8, 287: 3, 288: 2, 575: 2, 576: 1, math.MaxInt: 1} {
		if n, ok := impl.FewestPieces(full, most); !ok || n != want {
			t.Error("FewestPieces", most, n, ok)
		}
	}
	none := uniform(8, 8, "0")
	for sharers := 1; sharers <= 5; sharers++ {
		if n, ok := impl.PoorestPiece(none, sharers); !ok || n != 0 {
			t.Error("no nuts", sharers, n, ok)
		}
	}
	if n, ok := impl.FewestPieces(none, 0); !ok || n != 1 {
		t.Error("no nuts", n, ok)
	}
	if n, ok := impl.PoorestPiece(rows("90000000/00000000/00000000/00000000/00000000/00000000/00000000/00000009"), 2); !ok || n != 9 {
		t.Error("two corners", n, ok)
	}
	for _, sharers := range []int{0, -1, 6, 64, math.MinInt, math.MaxInt} {
		if n, ok := impl.PoorestPiece(even, sharers); ok || n != 0 {
			t.Error("no sharers", sharers, n, ok)
		}
		if n, ok := impl.PoorestStrip(even, sharers); ok || n != 0 {
			t.Error("no sharers", sharers, n, ok)
		}
		if list, ok := impl.FirstStrips(even, sharers); ok || len(list) != 0 {
			t.Error("no sharers", sharers, list, ok)
		}
	}
}

// TestPiecesAreAtLeastStrips holds for all bars: strips are pieces.
func TestPiecesAreAtLeastStrips(t *testing.T) {
	for _, nuts := range goodNuts() {
		all := within(nuts, 0, 0, sizeOf(nuts))
		before := all
		for sharers := 1; sharers <= min(5, len(nuts[0])); sharers++ {
			strip, ok := impl.PoorestStrip(nuts, sharers)
			piece, fine := impl.PoorestPiece(nuts, sharers)
			turned, _ := impl.TurnNuts(nuts)
			same, alike := impl.PoorestPiece(turned, sharers)
			if !ok || !fine || !alike || strip > piece || piece > all/sharers || piece > before || same != piece {
				t.Error(nuts, sharers, strip, piece, same)
			}
			before = piece
		}
	}
}

func TestPutNut(t *testing.T) {
	for _, nuts := range goodNuts() {
		b := sizeOf(nuts)
		for y := range b.High {
			for x := range b.Wide {
				var want []string
				may := nuts[y][x] != '9'
				if may {
					want = slices.Clone(nuts)
					want[y] = nuts[y][:x] + string([]byte{nuts[y][x] + 1}) + nuts[y][x+1:]
				}
				if more, ok := impl.PutNut(nuts, x, y); ok != may || !slices.Equal(more, want) {
					t.Error(nuts, x, y, more, ok)
				}
			}
		}
		far := []int{-1, math.MinInt, math.MaxInt}
		for _, x := range append(far, b.Wide, b.Wide+1) {
			if more, ok := impl.PutNut(nuts, x, 0); ok || len(more) != 0 {
				t.Error(nuts, x, 0, more, ok)
			}
		}
		for _, y := range append(far, b.High, b.High+1) {
			if more, ok := impl.PutNut(nuts, 0, y); ok || len(more) != 0 {
				t.Error(nuts, 0, y, more, ok)
			}
		}
	}
	if more, ok := impl.PutNut(rows("201/130"), 2, 1); !ok || !slices.Equal(more, rows("201/131")) {
		t.Error(more, ok)
	}
}

func TestTurnNuts(t *testing.T) {
	for text, want := range map[string]string{"12": "1/2", "1/2": "21", "12/34": "31/42", "123/456": "41/52/63", "201/130": "12/30/01"} {
		if turned, ok := impl.TurnNuts(rows(text)); !ok || !slices.Equal(turned, rows(want)) {
			t.Error(text, turned, ok)
		}
	}
	for _, nuts := range goodNuts() {
		turned, ok := impl.TurnNuts(nuts)
		if !ok || sizeOf(turned) != bar(len(nuts), len(nuts[0])) {
			t.Fatal(nuts, turned, ok)
		}
		for y := range nuts {
			for x := range nuts[y] {
				if turned[x][len(nuts)-1-y] != nuts[y][x] {
					t.Fatal(nuts, turned, x, y)
				}
			}
		}
	}
}

func TestSameNuts(t *testing.T) {
	cases := []struct {
		a, b string
		same bool
	}{
		{"201/130", "201/130", true}, {"201/130", "12/30/01", true}, {"201/130", "031/102", true}, {"201/130", "10/03/21", true},
		{"201/130", "102/031", false}, {"201/130", "130/201", false}, {"201/130", "21/03/10", false},
		{"201/130", "201/131", false}, {"12", "21", true}, {"12", "1/2", true}, {"12", "2/1", true}, {"12", "12/00", false},
		{"1", "1", true}, {"1", "2", false}, {"00", "0/0", true}, {"00", "00/00", false}, {"00", "000", false},
		{"12/34", "24/13", true}, {"12/34", "43/21", true}, {"12/34", "31/42", true}, {"12/34", "21/43", false}, {"12/34", "13/24", false},
	}
	for _, c := range cases {
		if same, ok := impl.SameNuts(rows(c.a), rows(c.b)); !ok || same != c.same {
			t.Error(c.a, c.b, same, ok)
		}
		if same, ok := impl.SameNuts(rows(c.b), rows(c.a)); !ok || same != c.same {
			t.Error(c.b, c.a, same, ok)
		}
	}
	for _, nuts := range goodNuts() {
		turned := nuts
		for range 5 {
			if same, ok := impl.SameNuts(nuts, turned); !ok || !same {
				t.Error(nuts, turned, same, ok)
			}
			turned, _ = impl.TurnNuts(turned)
		}
	}
}

func TestNutsTexts(t *testing.T) {
	for _, nuts := range goodNuts() {
		want := strings.Join(nuts, "/")
		if s, ok := impl.NutsText(nuts); !ok || s != want {
			t.Error(nuts, s, ok)
		}
		if parsed, ok := impl.ParseNuts(want); !ok || !slices.Equal(parsed, nuts) {
			t.Error(want, parsed, ok)
		}
	}
	bad := []string{
		"", "/", "1/", "/1", "1//1", "//", "12/3", "1/23", "123456789", "1/2/3/4/5/6/7/8/9", "1/2/3/4/5/6/7/8/", "/1/2/3/4/5/6/7/8",
		"12345678/12345678/12345678/12345678/12345678/12345678/12345678/12345678/12345678", "201/130/", "201/130\n", "\n201/130",
		" 201/130", "201/130 ", "201 /130", "201/ 130", "201-130", "201,130", "201\\130", "201:130", "201/13a", "2.1", "-1", "+1", "0x1", "1_1",
		"1\x00", "\x00", "\xff", "\u0663", "1\u22152", "201/130/201/1300",
	}
	for _, s := range bad {
		if nuts, ok := impl.ParseNuts(s); ok || len(nuts) != 0 {
			t.Errorf("%q %q %v", s, nuts, ok)
		}
	}
}
