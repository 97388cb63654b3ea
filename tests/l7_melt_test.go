package tests

import (
	"math"
	"slices"
	"strings"
	"testing"

	"loop.example/g01377/impl"
)

// meltGrid has the squares of a tablet, and a rim without squares around it: the place x, y is at y + 1 and x + 1.
type meltGrid [12][12]bool

func gridOf(tablet []string) meltGrid {
	var g meltGrid
	for y, row := range tablet {
		for x := range len(row) {
			g[y+1][x+1] = row[x] == '#'
		}
	}
	return g
}

// texts has the rows of a tablet with a size.
func (g meltGrid) texts(size impl.Bar) []string {
	var list []string
	for y := 1; y <= size.High; y++ {
		row := ""
		for x := 1; x <= size.Wide; x++ {
			if g[y][x] {
				row += "#"
			} else {
				row += "."
			}
		}
		list = append(list, row)
	}
	return list
}

// squares has the places of all squares, by y, then by x.
func (g meltGrid) squares() []place {
	var list []place
	for y := range 10 {
		for x := range 10 {
			if g[y+1][x+1] {
				list = append(list, place{x, y})
			}
		}
	}
	return list
}

func (g meltGrid) without(at place) meltGrid {
	g[at.y+1][at.x+1] = false
	return g
}

// beside tells of each side of a place whether there is a square.
func (g meltGrid) beside(at place) []bool {
	x, y := at.x+1, at.y+1
	return []bool{g[y][x-1], g[y][x+1], g[y-1][x], g[y+1][x]}
}

func (g meltGrid) openAt(at place) int {
	open := 0
	for _, taken := range g.beside(at) {
		if !taken {
			open++
		}
	}
	return open
}

// behindHours has the grid at first, and behind each hour in which squares melt.
func (g meltGrid) behindHours(open int) []meltGrid {
	list := []meltGrid{g}
	for {
		behind := g
		for _, at := range g.squares() {
			if g.openAt(at) >= open {
				behind = behind.without(at)
			}
		}
		if behind == g {
			return list
		}
		g = behind
		list = append(list, g)
	}
}

// hoursToNone is behind how many hours nothing is left, or -1.
func (g meltGrid) hoursToNone(open int) int {
	hours := g.behindHours(open)
	if hours[len(hours)-1] != (meltGrid{}) {
		return -1
	}
	return len(hours) - 1
}

// pieces has the numbers of squares of all pieces, greater ones first: squares side by side take over the lesser one of their marks until none does.
func (g meltGrid) pieces() []int {
	marks := map[place]int{}
	for i, at := range g.squares() {
		marks[at] = i
	}
	for changed := true; changed; {
		changed = false
		for at, mark := range marks {
			for _, other := range []place{{at.x + 1, at.y}, {at.x, at.y + 1}} {
				theirs, ok := marks[other]
				if ok && theirs != mark {
					mark = min(mark, theirs)
					marks[at], marks[other] = mark, mark
					changed = true
				}
			}
		}
	}
	many := map[int]int{}
	for _, mark := range marks {
		many[mark]++
	}
	var list []int
	for _, n := range many {
		list = append(list, n)
	}
	slices.SortFunc(list, func(a, b int) int { return b - a })
	return list
}

// everyTablet is made once, as many tests look at it.
var everyTablet = slices.Concat(smallTablets(), slowTablets(), greatTablets())

// smallTablets has all tablets of at most 9 places, and of 10 places in one row or column.
func smallTablets() [][]string {
	var list [][]string
	for wide := 1; wide <= 10; wide++ {
		for high := 1; high <= 10; high++ {
			places := wide * high
			if places > 10 || places == 10 && wide > 1 && high > 1 {
				continue
			}
			for signs := range 1 << places {
				var g meltGrid
				for i := range places {
					g[i/wide+1][i%wide+1] = signs>>i&1 == 1
				}
				list = append(list, g.texts(bar(wide, high)))
			}
		}
	}
	return list
}

// slowTablets has tablets that melt slowly, in parts, or never.
func slowTablets() [][]string {
	var list [][]string
	for _, text := range []string{
		"##########/#........./#.########/#.#......#/#.#.####.#/#.#.#..#.#/#.#.##.#.#/#.#....#.#/#.######.#/#........#",
		"##########/.........#/##########/#........./##########/.........#/##########/#........./##########/.........#",
		"#.#.#.#.#./.#.#.#.#.#/#.#.#.#.#./.#.#.#.#.#/#.#.#.#.#./.#.#.#.#.#/#.#.#.#.#./.#.#.#.#.#/#.#.#.#.#./.#.#.#.#.#",
		"##########/#.#.#.#.#./##########/.#.#.#.#.#/##########/#.#.#.#.#./##########/.#.#.#.#.#/##########/#.#.#.#.#.",
		"##########/#........#/#.######.#/#.#....#.#/#.#.##.#.#/#.#.##.#.#/#.#....#.#/#.######.#/#........#/##########",
		"####....../####....../####....../..########/..........", "###.###/#######/###.###", "####/#..#/#..#/####",
		"....#...../....#...../....#...../....#...../##########/....#...../....#...../....#...../....#...../....#.....",
		"###....###/###....###/##########/###....###/###....###/...####.../...####.../#.#.##.#.#/#########./..........",
		"#.........", "#/././././././././.", ".........#", "....../..##../..##../......", "##.#/.###/#.##/##..",
	} {
		list = append(list, rows(text))
	}
	return list
}

// greatTablets has tablets of all sizes with squares everywhere, with none, and drawn ones.
func greatTablets() [][]string {
	z := drawn(17)
	var list [][]string
	for wide := 1; wide <= 10; wide++ {
		for high := 1; high <= 10; high++ {
			list = append(list, uniform(wide, high, "#"), uniform(wide, high, "."))
			for _, rare := range []int{2, 3, 9} {
				list = append(list, drawnTablet(&z, wide, high, rare))
			}
		}
	}
	return list
}

// drawnTablet has no square at about one place of rare ones.
func drawnTablet(z *drawn, wide, high, rare int) []string {
	var list []string
	for range high {
		row := ""
		for range wide {
			row += string(".#"[min(z.below(rare), 1)])
		}
		list = append(list, row)
	}
	return list
}

// noTablets has lists that are no tablets.
func noTablets() [][]string {
	list := [][]string{
		nil, {}, {""}, {"", ""}, {"#", ""}, {"", "#"}, {"##", "#"}, {"#", "##"}, {"##", "##", "###"}, {"###", "##", "##"}, {".", ".."},
		uniform(11, 1, "#"), uniform(1, 11, "#"), uniform(11, 11, "#"), uniform(10, 11, "#"), uniform(11, 10, "#"), uniform(0, 10, "#"),
		uniform(11, 1, "."), uniform(1, 11, "."), uniform(1000000, 1, "#"), uniform(1, 1000000, "#"), uniform(1, 1000000, ""),
		append(uniform(10, 9, "#"), strings.Repeat("#", 11)), append(uniform(10, 9, "#"), strings.Repeat("#", 9)), append(uniform(10, 9, "#"), ""),
		{"##/#."}, {"# "}, {" #"}, {"#\n"}, {"\n#"}, {"o"}, {"x"}, {"0"}, {"1"}, {"#,"}, {"#-#"}, {"#\x00"}, {"\x00"}, {"\xff"}, {"#\xff#"},
		{"\uff03"}, {"\u2026"}, {"#\u0301"}, {"#.#", "#a#"}, {"#a#", "#.#"}, {"#.#", "#.#", "#.\""}, {"#/"}, {"/#"}, {"$"}, {"\""}, {"-"},
	}
	for side := 1; side <= impl.MaxTablet; side++ {
		for _, sign := range []string{"/", "*"} {
			bad := uniform(side, side, "#")
			bad[side-1] = strings.Repeat("#", side-1) + sign
			list = append(list, bad)
		}
	}
	return list
}

// outside has places that are not on a tablet with a size.
func outside(size impl.Bar) []place {
	list := []place{{-1, -1}, {size.Wide, size.High}, {size.High, size.Wide + size.High}}
	for _, far := range []int{math.MinInt, math.MinInt + 1, -10, -1, 10, 11, 1 << 32, math.MaxInt - 1, math.MaxInt} {
		list = append(list, place{far, 0}, place{0, far}, place{far, far})
	}
	for n := range 10 {
		list = append(list, place{size.Wide, n}, place{n, size.High}, place{-1, n}, place{n, -1})
	}
	return list
}

func TestMeltConstants(t *testing.T) {
	if impl.MaxTablet != 10 || impl.MaxHours != 200 {
		t.Error("a limit of chapter 7 is not that of the document")
	}
}

// TestMeltExamples has the numbers of the document's example of melting.
func TestMeltExamples(t *testing.T) {
	solid, ok := impl.SolidTablet(3, 3)
	if !ok || !slices.Equal(solid, rows("###/###/###")) {
		t.Error("SolidTablet", solid, ok)
	}
	if behind, ok := impl.MeltHour(solid, 2); !ok || !slices.Equal(behind, rows(".#./###/.#.")) {
		t.Error("MeltHour", behind, ok)
	}
	if behind, ok := impl.TabletAfter(solid, 2, 2); !ok || !slices.Equal(behind, rows(".../.#./...")) {
		t.Error("TabletAfter", behind, ok)
	}
	if each, ok := impl.MeltedEach(solid, 2); !ok || !slices.Equal(each, []int{4, 4, 1}) {
		t.Error("MeltedEach", each, ok)
	}
	if hours, ok := impl.HoursToMelt(solid, 2); !ok || hours != 3 {
		t.Error("HoursToMelt", hours, ok)
	}
	if last, ok := impl.LastSquares(solid, 2); !ok || !samePlaces(last, [][]int{{1, 1}}) {
		t.Error("LastSquares", last, ok)
	}
	if left, ok := impl.EverLeft(solid, 3); !ok || !slices.Equal(left, solid) {
		t.Error("EverLeft", left, ok)
	}
	if most, first, ok := impl.MostPiecesWhile(solid, 2); !ok || most != 1 || first != 0 {
		t.Error("MostPiecesWhile", most, first, ok)
	}
	if open, ok := impl.OpenSides(solid, 1, 0); !ok || open != 1 {
		t.Error("OpenSides", open, ok)
	}
	if turned, ok := impl.TurnTablet(rows("##/#.")); !ok || !slices.Equal(turned, rows("##/.#")) {
		t.Error("TurnTablet", turned, ok)
	}
}

// TestSunExamples has the numbers of the document's example of suns and pieces.
func TestSunExamples(t *testing.T) {
	if hours, ok := impl.HoursBySun(rows("###/###/###"), "u"); !ok || hours != 3 {
		t.Error("HoursBySun", hours, ok)
	}
	if hours, ok := impl.HoursBySun(rows("#.#/###"), "u"); !ok || hours != 2 {
		t.Error("HoursBySun", hours, ok)
	}
	if pieces, ok := impl.PiecesOfTablet(rows("#.#")); !ok || !slices.Equal(pieces, []int{1, 1}) {
		t.Error("PiecesOfTablet", pieces, ok)
	}
}

func TestIsTablet(t *testing.T) {
	for _, tablet := range everyTablet {
		if !impl.IsTablet(tablet) {
			t.Errorf("%q is a tablet", tablet)
		}
	}
	for sign := range 256 {
		s := string([]byte{byte(sign)})
		is := s == "#" || s == "."
		for _, tablet := range [][]string{{s}, {"#" + s}, {s + "."}, {"##", s + "#"}, {"..", "." + s}} {
			if impl.IsTablet(tablet) != is {
				t.Errorf("%q", tablet)
			}
		}
	}
	for _, tablet := range noTablets() {
		if impl.IsTablet(tablet) {
			t.Errorf("%.60q is no tablet", tablet)
		}
	}
}

func TestSolidTablet(t *testing.T) {
	for wide := 1; wide <= 10; wide++ {
		for high := 1; high <= 10; high++ {
			solid, ok := impl.SolidTablet(wide, high)
			if !ok || !slices.Equal(solid, uniform(wide, high, "#")) {
				t.Error(wide, high, solid, ok)
			}
			if many, ok := impl.LeftOnTablet(solid); !ok || many != wide*high {
				t.Error("LeftOnTablet", wide, high, many, ok)
			}
		}
	}
	for _, no := range noUpTo(10) {
		for _, side := range []int{1, 2, 10, no} {
			if solid, ok := impl.SolidTablet(no, side); ok || len(solid) != 0 {
				t.Error(no, side, solid, ok)
			}
			if solid, ok := impl.SolidTablet(side, no); ok || len(solid) != 0 {
				t.Error(side, no, solid, ok)
			}
		}
	}
}

// TestTabletWithoutSquares has tablets on which there is nothing from the first.
func TestTabletWithoutSquares(t *testing.T) {
	for _, size := range []impl.Bar{bar(1, 1), bar(10, 10), bar(1, 10), bar(10, 1), bar(3, 2)} {
		none := uniform(size.Wide, size.High, ".")
		same := func(name string, tablet []string, ok bool) {
			if !ok || !slices.Equal(tablet, none) {
				t.Error(name, none, tablet, ok)
			}
		}
		if many, ok := impl.LeftOnTablet(none); !ok || many != 0 {
			t.Error("LeftOnTablet", none, many, ok)
		}
		if pieces, ok := impl.PiecesOfTablet(none); !ok || len(pieces) != 0 {
			t.Error("PiecesOfTablet", none, pieces, ok)
		}
		for open := 1; open <= 4; open++ {
			behind, ok := impl.MeltHour(none, open)
			same("MeltHour", behind, ok)
			after, ok := impl.TabletAfter(none, open, 200)
			same("TabletAfter", after, ok)
			left, ok := impl.EverLeft(none, open)
			same("EverLeft", left, ok)
			if hours, ok := impl.HoursToMelt(none, open); !ok || hours != 0 {
				t.Error("HoursToMelt", none, open, hours, ok)
			}
			if each, ok := impl.MeltedEach(none, open); !ok || len(each) != 0 {
				t.Error("MeltedEach", none, open, each, ok)
			}
			if last, ok := impl.LastSquares(none, open); !ok || len(last) != 0 {
				t.Error("LastSquares", none, open, last, ok)
			}
			if most, first, ok := impl.MostPiecesWhile(none, open); !ok || most != 0 || first != 0 {
				t.Error("MostPiecesWhile", none, open, most, first, ok)
			}
			if x, y, hours, ok := impl.CoolestBite(none, open); ok || x != 0 || y != 0 || hours != 0 {
				t.Error("CoolestBite", none, open, x, y, hours, ok)
			}
		}
		for _, side := range rows("u/d/l/r") {
			behind, ok := impl.SunHour(none, side)
			same("SunHour", behind, ok)
			if hours, ok := impl.HoursBySun(none, side); !ok || hours != 0 {
				t.Error("HoursBySun", none, side, hours, ok)
			}
		}
	}
}

// TestSquareAlone has a square that is alone on its tablet: all of its sides are open.
func TestSquareAlone(t *testing.T) {
	for text, at := range map[string]place{"#": {0, 0}, "...#": {3, 0}, ".../.#./...": {1, 1}, "./././#": {0, 3}, "#./..": {0, 0}} {
		tablet := rows(text)
		if open, ok := impl.OpenSides(tablet, at.x, at.y); !ok || open != 4 {
			t.Error("OpenSides", text, open, ok)
		}
		if pieces, ok := impl.PiecesOfTablet(tablet); !ok || !slices.Equal(pieces, []int{1}) {
			t.Error("PiecesOfTablet", text, pieces, ok)
		}
		for open := 1; open <= 4; open++ {
			hour, ok := impl.MeltsAt(tablet, open, at.x, at.y)
			hours, fine := impl.HoursToMelt(tablet, open)
			if !ok || !fine || hour != 1 || hours != 1 {
				t.Error("MeltsAt, HoursToMelt", text, open, hour, ok, hours, fine)
			}
			each, ok := impl.MeltedEach(tablet, open)
			last, fine := impl.LastSquares(tablet, open)
			if !ok || !fine || !slices.Equal(each, []int{1}) || !samePlaces(last, [][]int{{at.x, at.y}}) {
				t.Error("MeltedEach, LastSquares", text, open, each, ok, last, fine)
			}
			if most, first, ok := impl.MostPiecesWhile(tablet, open); !ok || most != 1 || first != 0 {
				t.Error("MostPiecesWhile", text, open, most, first, ok)
			}
			// Without the square nothing is left to melt.
			if x, y, hours, ok := impl.CoolestBite(tablet, open); !ok || x != at.x || y != at.y || hours != 0 {
				t.Error("CoolestBite", text, open, x, y, hours, ok)
			}
		}
		for _, side := range rows("u/d/l/r") {
			behind, ok := impl.SunHour(tablet, side)
			hours, fine := impl.HoursBySun(tablet, side)
			if !ok || !fine || hours != 1 || !slices.Equal(behind, uniform(len(tablet[0]), len(tablet), ".")) {
				t.Error("suns", text, side, behind, ok, hours, fine)
			}
		}
	}
}

func TestOpenSides(t *testing.T) {
	for _, tablet := range everyTablet {
		size, g := sizeOf(tablet), gridOf(tablet)
		if many, ok := impl.LeftOnTablet(tablet); !ok || many != len(g.squares()) {
			t.Error("LeftOnTablet", tablet, many, ok)
		}
		for y := range size.High {
			for x := range size.Wide {
				at, want := place{x, y}, 0
				is := g[y+1][x+1]
				if is {
					want = g.openAt(at)
				}
				if open, ok := impl.OpenSides(tablet, x, y); ok != is || open != want {
					t.Error(tablet, at, open, ok, "not", want, is)
				}
			}
		}
	}
	for text, want := range map[string]int{".#./.#./...": 3, ".#./##./...": 2, ".#./###/...": 1, ".#./###/.#.": 0, ".../###/...": 2, "###/###/###": 0, "#.#/.#./#.#": 4} {
		if open, ok := impl.OpenSides(rows(text), 1, 1); !ok || open != want {
			t.Error(text, open, ok, "not", want)
		}
	}
}

// TestPlacesOutside has places at which nothing can be.
func TestPlacesOutside(t *testing.T) {
	for _, tablet := range [][]string{rows("#"), rows("##/#."), rows("###/###"), uniform(10, 10, "#"), uniform(1, 10, "#"), uniform(10, 1, "#"), rows("#...")} {
		for _, at := range outside(sizeOf(tablet)) {
			if at.x >= 0 && at.x < len(tablet[0]) && at.y >= 0 && at.y < len(tablet) {
				continue
			}
			checkNoSquare(t, tablet, at)
		}
	}
}

// TestPlacesWithoutASquare has places on the tablet at which there is none.
func TestPlacesWithoutASquare(t *testing.T) {
	for _, tablet := range everyTablet {
		for y, row := range tablet {
			for x := range len(row) {
				if row[x] == '.' && len(tablet)*len(row) <= 8 {
					checkNoSquare(t, tablet, place{x, y})
				}
			}
		}
	}
	checkNoSquare(t, rows("###/#.#/###"), place{1, 1})
	checkNoSquare(t, rows("##########/#########."), place{9, 1})
}

func checkNoSquare(t *testing.T, tablet []string, at place) {
	t.Helper()
	if open, ok := impl.OpenSides(tablet, at.x, at.y); ok || open != 0 {
		t.Error("OpenSides", tablet, at, open, ok)
	}
	for open := 1; open <= 4; open++ {
		if hour, ok := impl.MeltsAt(tablet, open, at.x, at.y); ok || hour != 0 {
			t.Error("MeltsAt", tablet, open, at, hour, ok)
		}
	}
	if left, ok := impl.BiteSquare(tablet, at.x, at.y); ok || len(left) != 0 {
		t.Error("BiteSquare", tablet, at, left, ok)
	}
}

// TestSquaresMeltWhenEnoughSidesAreOpen holds each hour against those of the
// squares beside: with a side open from the first that is hour 0, and a square
// melts in the hour after so many sides, the earliest ones, are open.
func TestSquaresMeltWhenEnoughSidesAreOpen(t *testing.T) {
	for _, tablet := range everyTablet {
		for open := 1; open <= 4; open++ {
			hours := map[place]int{}
			for _, at := range gridOf(tablet).squares() {
				hour, ok := impl.MeltsAt(tablet, open, at.x, at.y)
				if ok != (hour > 0) || hour < 0 {
					t.Fatal("MeltsAt", tablet, open, at, hour, ok)
				}
				if !ok {
					hour = math.MaxInt
				}
				hours[at] = hour
			}
			for at, hour := range hours {
				sides := []int{hours[place{at.x - 1, at.y}], hours[place{at.x + 1, at.y}], hours[place{at.x, at.y - 1}], hours[place{at.x, at.y + 1}]}
				slices.Sort(sides)
				want := sides[open-1]
				if want < math.MaxInt {
					want++
				}
				if hour != want {
					t.Fatal("MeltsAt", tablet, open, at, hour, "not", want)
				}
			}
		}
	}
}

// TestSolidTabletsMelt has hours that can be told without melting: for 1 open
// side the way to the edge counts, for 2 the way to the nearest corner.
func TestSolidTabletsMelt(t *testing.T) {
	for wide := 1; wide <= 10; wide++ {
		for high := 1; high <= 10; high++ {
			tablet := uniform(wide, high, "#")
			for y := range high {
				for x := range wide {
					across, down := min(x, wide-1-x), min(y, high-1-y)
					line := wide == 1 || high == 1
					want := [5]int{0, min(across, down) + 1, across + down + 1, 0, 0}
					if line {
						want = [5]int{0, 1, 1, across + down + 1, 0}
					}
					if wide*high == 1 {
						want[4] = 1
					}
					for open := 1; open <= 4; open++ {
						if hour, ok := impl.MeltsAt(tablet, open, x, y); ok != (want[open] > 0) || hour != want[open] {
							t.Error(wide, high, open, x, y, hour, ok, "not", want[open])
						}
					}
				}
			}
		}
	}
}

// TestTabletsHourByHour looks at tablets behind each hour, and at what is told of these.
func TestTabletsHourByHour(t *testing.T) {
	for _, tablet := range everyTablet {
		size := sizeOf(tablet)
		for open := 1; open <= 4; open++ {
			hours := gridOf(tablet).behindHours(open)
			last := len(hours) - 1
			behind, ok := impl.MeltHour(tablet, open)
			if !ok || !slices.Equal(behind, hours[min(1, last)].texts(size)) {
				t.Fatal("MeltHour", tablet, open, behind, ok)
			}
			left, ok := impl.EverLeft(tablet, open)
			if !ok || !slices.Equal(left, hours[last].texts(size)) {
				t.Fatal("EverLeft", tablet, open, left, ok)
			}
			for _, hour := range []int{0, 1, last / 2, last - 1, last, last + 1, 199, 200} {
				after, ok := impl.TabletAfter(tablet, open, hour)
				may := hour >= 0
				if ok != may || may && !slices.Equal(after, hours[min(hour, last)].texts(size)) || !may && len(after) != 0 {
					t.Fatal("TabletAfter", tablet, open, hour, after, ok)
				}
			}
			checkMelted(t, tablet, open, hours)
		}
	}
}

// checkMelted looks at what is told of the tablets behind hours.
func checkMelted(t *testing.T, tablet []string, open int, hours []meltGrid) {
	t.Helper()
	var each []int
	var places [][]int
	most, first := 0, 0
	for hour, g := range hours {
		if hour > 0 {
			each = append(each, len(hours[hour-1].squares())-len(g.squares()))
		}
		if many := len(g.pieces()); many > most {
			most, first = many, hour
		}
	}
	if last := len(hours) - 1; last > 0 {
		for _, at := range hours[last-1].squares() {
			if !hours[last][at.y+1][at.x+1] {
				places = append(places, []int{at.x, at.y})
			}
		}
	}
	if list, ok := impl.MeltedEach(tablet, open); !ok || !slices.Equal(list, each) || slices.Contains(list, 0) {
		t.Fatal("MeltedEach", tablet, open, list, ok, "not", each)
	}
	if list, ok := impl.LastSquares(tablet, open); !ok || !samePlaces(list, places) {
		t.Fatal("LastSquares", tablet, open, list, ok, "not", places)
	}
	if many, hour, ok := impl.MostPiecesWhile(tablet, open); !ok || many != most || hour != first {
		t.Fatal("MostPiecesWhile", tablet, open, many, hour, ok, "not", most, first)
	}
	all := hours[0].hoursToNone(open)
	if many, ok := impl.HoursToMelt(tablet, open); ok != (all >= 0) || many != max(all, 0) {
		t.Fatal("HoursToMelt", tablet, open, many, ok, "not", all)
	}
}

// TestMeltingByHand has tablets of which one can tell by looking at them how they melt.
func TestMeltingByHand(t *testing.T) {
	cases := []struct {
		text   string
		open   int
		hour   string
		left   string
		each   []int
		last   [][]int
		pieces [2]int
	}{
		{"#####", 1, ".....", ".....", []int{5}, [][]int{{0, 0}, {1, 0}, {2, 0}, {3, 0}, {4, 0}}, [2]int{1, 0}},
		{"#####", 2, ".....", ".....", []int{5}, [][]int{{0, 0}, {1, 0}, {2, 0}, {3, 0}, {4, 0}}, [2]int{1, 0}},
		{"#####", 3, ".###.", ".....", []int{2, 2, 1}, [][]int{{2, 0}}, [2]int{1, 0}},
		{"#####", 4, "#####", "#####", nil, nil, [2]int{1, 0}},
		{"##/##", 2, "../..", "../..", []int{4}, [][]int{{0, 0}, {1, 0}, {0, 1}, {1, 1}}, [2]int{1, 0}},
		{"##/##", 3, "##/##", "##/##", nil, nil, [2]int{1, 0}},
		{"###.###/#######/###.###", 2, ".#...#./###.###/.#...#.", "......./......./.......", []int{9, 8, 2}, [][]int{{1, 1}, {5, 1}}, [2]int{2, 1}},
		{"..#/#..", 4, ".../...", ".../...", []int{2}, [][]int{{2, 0}, {0, 1}}, [2]int{2, 0}},
		{"#.##/..##", 3, "..##/..##", "..##/..##", []int{1}, [][]int{{0, 0}}, [2]int{2, 0}},
		{"#.##/..##", 4, "..##/..##", "..##/..##", []int{1}, [][]int{{0, 0}}, [2]int{2, 0}},
		{"#.##/..##", 2, "..../....", "..../....", []int{5}, [][]int{{0, 0}, {2, 0}, {3, 0}, {2, 1}, {3, 1}}, [2]int{2, 0}},
		{"####/#..#/####", 3, "####/#..#/####", "####/#..#/####", nil, nil, [2]int{1, 0}},
		{"####/#..#/####", 2, "..../..../....", "..../..../....", []int{10}, [][]int{{0, 0}, {1, 0}, {2, 0}, {3, 0}, {0, 1}, {3, 1}, {0, 2}, {1, 2}, {2, 2}, {3, 2}}, [2]int{1, 0}},
		{"##../####/##..", 3, "##../###./##..", "##../##../##..", []int{1, 1}, [][]int{{2, 1}}, [2]int{1, 0}},
		{".#./###/.#.", 3, ".../.#./...", ".../.../...", []int{4, 1}, [][]int{{1, 1}}, [2]int{1, 0}},
	}
	for _, c := range cases {
		tablet := rows(c.text)
		if behind, ok := impl.MeltHour(tablet, c.open); !ok || !slices.Equal(behind, rows(c.hour)) {
			t.Error("MeltHour", c.text, c.open, behind, ok)
		}
		if left, ok := impl.EverLeft(tablet, c.open); !ok || !slices.Equal(left, rows(c.left)) {
			t.Error("EverLeft", c.text, c.open, left, ok)
		}
		if each, ok := impl.MeltedEach(tablet, c.open); !ok || !slices.Equal(each, c.each) {
			t.Error("MeltedEach", c.text, c.open, each, ok)
		}
		if last, ok := impl.LastSquares(tablet, c.open); !ok || !samePlaces(last, c.last) {
			t.Error("LastSquares", c.text, c.open, last, ok)
		}
		if most, first, ok := impl.MostPiecesWhile(tablet, c.open); !ok || [2]int{most, first} != c.pieces {
			t.Error("MostPiecesWhile", c.text, c.open, most, first, ok)
		}
		melts := !strings.Contains(c.left, "#")
		want := 0
		if melts {
			want = len(c.each)
		}
		if hours, ok := impl.HoursToMelt(tablet, c.open); ok != melts || hours != want {
			t.Error("HoursToMelt", c.text, c.open, hours, ok)
		}
	}
}

// TestSquaresThatNeverMelt has squares that stay beside others that melt.
func TestSquaresThatNeverMelt(t *testing.T) {
	tablet := rows("#.##/####")
	for at, want := range map[place]int{{0, 0}: 1, {0, 1}: 2, {1, 1}: 3, {2, 0}: 0, {3, 0}: 0, {2, 1}: 0, {3, 1}: 0} {
		if hour, ok := impl.MeltsAt(tablet, 3, at.x, at.y); ok != (want > 0) || hour != want {
			t.Error(at, hour, ok, "not", want)
		}
	}
	for y := range 2 {
		for x := range 4 {
			if hour, ok := impl.MeltsAt(tablet, 4, x, y); ok || hour != 0 {
				t.Error("nothing melts", x, y, hour, ok)
			}
		}
	}
	if hours, ok := impl.HoursToMelt(tablet, 3); ok || hours != 0 {
		t.Error("HoursToMelt", hours, ok)
	}
	if left, ok := impl.EverLeft(tablet, 3); !ok || !slices.Equal(left, rows("..##/..##")) {
		t.Error("EverLeft", left, ok)
	}
	if x, y, hours, ok := impl.CoolestBite(tablet, 3); ok || x != 0 || y != 0 || hours != 0 {
		t.Error("CoolestBite", x, y, hours, ok)
	}
}

func TestHoursThatAreNone(t *testing.T) {
	for _, tablet := range [][]string{rows("#"), rows("."), uniform(10, 10, "#"), rows("##/#.")} {
		for open := 1; open <= 4; open++ {
			for _, hours := range []int{math.MinInt, -200, -1, 201, 202, 1 << 32, 1<<32 + 1, math.MaxInt} {
				if after, ok := impl.TabletAfter(tablet, open, hours); ok || len(after) != 0 {
					t.Error(tablet, open, hours, after, ok)
				}
			}
			if after, ok := impl.TabletAfter(tablet, open, 0); !ok || !slices.Equal(after, tablet) {
				t.Error("hour 0", tablet, open, after, ok)
			}
			left, fine := impl.EverLeft(tablet, open)
			if after, ok := impl.TabletAfter(tablet, open, 200); !ok || !fine || !slices.Equal(after, left) {
				t.Error("hour 200", tablet, open, after, ok, left, fine)
			}
		}
	}
}

func TestOpenSidesThatAreNone(t *testing.T) {
	tablets := [][]string{rows("#"), rows("."), rows("##/#."), uniform(10, 10, "#")}
	zero := slices.Delete(zeroMeltResults(), 0, 3)
	for _, open := range noUpTo(4) {
		for _, tablet := range tablets {
			told := openCalls(tablet, 0, 0, open, 1, leaveLists)
			if !slices.Equal(told, zero[:len(told)]) {
				t.Errorf("%q %d %q", tablet, open, told)
			}
		}
	}
}

func TestPiecesOfTablet(t *testing.T) {
	for _, tablet := range everyTablet {
		if pieces, ok := impl.PiecesOfTablet(tablet); !ok || !slices.Equal(pieces, gridOf(tablet).pieces()) {
			t.Error(tablet, pieces, ok)
		}
	}
	for text, want := range map[string][]int{
		"#": {1}, "#.##": {2, 1}, "##.#": {2, 1}, "#./.#": {1, 1}, ".#/#.": {1, 1}, "##/#.": {3}, "#.#/###": {5}, "###/#.#/###": {8},
		"#..##/#..##/.##..": {4, 2, 2}, "#.###.##.#": {3, 2, 1, 1}, "#.#.#/.#.#./#.#.#": {1, 1, 1, 1, 1, 1, 1, 1},
		"###/..#/#.#/#.#/###": {11}, "#####/#...#/#.#.#/#...#/#####": {16, 1},
	} {
		if pieces, ok := impl.PiecesOfTablet(rows(text)); !ok || !slices.Equal(pieces, want) {
			t.Error(text, pieces, ok, "not", want)
		}
	}
	if pieces, ok := impl.PiecesOfTablet(uniform(10, 10, "#")); !ok || !slices.Equal(pieces, []int{100}) {
		t.Error("all", pieces, ok)
	}
}

// sunLines has for each side all lines of places of a tablet with a size, from the sun on.
func sunLines(size impl.Bar, side string) [][]place {
	var lines [][]place
	for y := range size.High {
		for x := range size.Wide {
			line, along := x, y
			if side == "l" || side == "r" {
				line, along = y, x
			}
			if along == 0 {
				lines = append(lines, nil)
			}
			for len(lines) <= line {
				lines = append(lines, nil)
			}
			lines[line] = append(lines[line], place{x, y})
		}
	}
	lines = slices.DeleteFunc(lines, func(line []place) bool { return line == nil })
	if side == "d" || side == "r" {
		for _, line := range lines {
			slices.Reverse(line)
		}
	}
	return lines
}

// sunlit returns the grid behind an hour of a sun.
func sunlit(g meltGrid, size impl.Bar, side string) meltGrid {
	for _, line := range sunLines(size, side) {
		for _, at := range line {
			if g[at.y+1][at.x+1] {
				g = g.without(at)
				break
			}
		}
	}
	return g
}

// TestSunsTakeOneSquareOfEachLine holds hours of suns against lines that are looked along.
func TestSunsTakeOneSquareOfEachLine(t *testing.T) {
	for _, tablet := range everyTablet {
		size := sizeOf(tablet)
		for _, side := range rows("u/d/l/r") {
			g := gridOf(tablet)
			behind, ok := impl.SunHour(tablet, side)
			if !ok || !slices.Equal(behind, sunlit(g, size, side).texts(size)) {
				t.Fatal("SunHour", tablet, side, behind, ok)
			}
			hours := 0
			for ; g != (meltGrid{}); hours++ {
				g = sunlit(g, size, side)
			}
			if n, ok := impl.HoursBySun(tablet, side); !ok || n != hours {
				t.Fatal("HoursBySun", tablet, side, n, ok, "not", hours)
			}
		}
	}
}

func TestSunsByHand(t *testing.T) {
	for _, c := range []struct {
		text, side, behind string
		hours              int
	}{
		{"#.#/###", "u", ".../#.#", 2}, {"#.#/###", "d", "#.#/...", 2}, {"#.#/###", "l", "..#/.##", 3}, {"#.#/###", "r", "#../##.", 3},
		{"##/#.", "u", "../#.", 2}, {"##/#.", "d", "#./..", 2}, {"##/#.", "l", ".#/..", 2}, {"##/#.", "r", "#./..", 2},
		{"####", "u", "....", 1}, {"####", "d", "....", 1}, {"####", "l", ".###", 4}, {"####", "r", "###.", 4},
		{"#/#/#", "u", "./#/#", 3}, {"#/#/#", "d", "#/#/.", 3}, {"#/#/#", "l", "././.", 1}, {"#/#/#", "r", "././.", 1},
		{".#.#./..#../#...#", "l", "...#./...../....#", 2}, {".#.#./..#../#...#", "u", "...../...../.....", 1},
	} {
		if behind, ok := impl.SunHour(rows(c.text), c.side); !ok || !slices.Equal(behind, rows(c.behind)) {
			t.Error("SunHour", c.text, c.side, behind, ok)
		}
		if hours, ok := impl.HoursBySun(rows(c.text), c.side); !ok || hours != c.hours {
			t.Error("HoursBySun", c.text, c.side, hours, ok)
		}
	}
	for _, side := range rows("u/d/l/r") {
		if hours, ok := impl.HoursBySun(uniform(10, 10, "#"), side); !ok || hours != 10 {
			t.Error("HoursBySun", side, hours, ok)
		}
	}
}

// noSides has texts that tell no side of a sun.
func noSides() []string {
	list := []string{"", "ud", "uu", "ld", "dr", "ru", "ldru", "udlr", "u ", " u", "l\n", "up", "left", "\x00", "\xff", "u\x00", "\u00fc", "\u0131", strings.Repeat("u", 1000000)}
	for sign := range 256 {
		if s := string([]byte{byte(sign)}); !strings.Contains("udlr", s) {
			list = append(list, s)
		}
	}
	return list
}

func TestSidesThatAreNone(t *testing.T) {
	for _, side := range noSides() {
		for _, tablet := range [][]string{rows("#"), rows("."), rows("#.#/###"), uniform(10, 10, "#")} {
			if behind, ok := impl.SunHour(tablet, side); ok || len(behind) != 0 {
				t.Errorf("SunHour %q %.20q %q %v", tablet, side, behind, ok)
			}
			if hours, ok := impl.HoursBySun(tablet, side); ok || hours != 0 {
				t.Errorf("HoursBySun %q %.20q %d %v", tablet, side, hours, ok)
			}
		}
	}
}

func TestBiteSquare(t *testing.T) {
	for _, tablet := range everyTablet {
		g := gridOf(tablet)
		for _, at := range g.squares() {
			if left, ok := impl.BiteSquare(tablet, at.x, at.y); !ok || !slices.Equal(left, g.without(at).texts(sizeOf(tablet))) {
				t.Fatal(tablet, at, left, ok)
			}
		}
	}
	for at, want := range map[place]string{{0, 0}: ".##/#.#", {2, 0}: "##./#.#", {0, 1}: "###/..#", {2, 1}: "###/#.."} {
		if left, ok := impl.BiteSquare(rows("###/#.#"), at.x, at.y); !ok || !slices.Equal(left, rows(want)) {
			t.Error(at, left, ok)
		}
	}
}

func TestCoolestBite(t *testing.T) {
	fails, cools := 0, 0
	for _, tablet := range everyTablet {
		g := gridOf(tablet)
		for open := 1; open <= 4; open++ {
			best, most := place{}, -1
			for _, at := range g.squares() {
				if hours := g.without(at).hoursToNone(open); hours > most {
					best, most = at, hours
				}
			}
			may := most >= 0 && g.hoursToNone(open) >= 0
			if !may {
				best, most = place{}, 0
				fails++
			} else if best != g.squares()[0] {
				cools++
			}
			if x, y, hours, ok := impl.CoolestBite(tablet, open); ok != may || (place{x, y}) != best || hours != most {
				t.Fatal(tablet, open, x, y, hours, ok, "not", best, most, may)
			}
		}
	}
	if fails < 1000 || cools < 500 {
		t.Error("too few are looked at", fails, cools)
	}
}

func TestCoolestBiteByHand(t *testing.T) {
	for _, c := range []struct {
		text        string
		open        int
		x, y, hours int
		ok          bool
	}{
		{"#", 4, 0, 0, 0, true}, {"##", 3, 0, 0, 1, true}, {"##", 4, 0, 0, 0, false}, {"#.#", 4, 0, 0, 1, true}, {".#.#", 1, 1, 0, 1, true},
		{"#####", 3, 0, 0, 2, true}, {"#.#####", 3, 0, 0, 3, true}, {"#####.#", 3, 6, 0, 3, true},
		{"..#../...../#..../...../#####", 3, 2, 0, 3, true}, {"#..../...../..#../...../#####", 3, 0, 0, 3, true},
		{"###/###/###", 2, 1, 0, 3, true}, {"###/###/###", 1, 0, 0, 2, true}, {"###/###/###", 3, 0, 0, 0, false},
		// It does not melt, though without any of its squares it would.
		{"##/##", 3, 0, 0, 0, false},
		{"##/##", 2, 0, 0, 1, true}, {".", 1, 0, 0, 0, false}, {"../..", 4, 0, 0, 0, false},
	} {
		if x, y, hours, ok := impl.CoolestBite(rows(c.text), c.open); ok != c.ok || x != c.x || y != c.y || hours != c.hours {
			t.Error(c.text, c.open, x, y, hours, ok)
		}
	}
}

func TestTurnTablet(t *testing.T) {
	for text, want := range map[string]string{"#": "#", "#.": "#/.", "#/.": ".#", "##/#.": "##/.#", "#../##.": "##/#./..", "###/#..": "##/.#/.#"} {
		if turned, ok := impl.TurnTablet(rows(text)); !ok || !slices.Equal(turned, rows(want)) {
			t.Error(text, turned, ok)
		}
	}
	for _, tablet := range everyTablet {
		turned, ok := impl.TurnTablet(tablet)
		if !ok || sizeOf(turned) != bar(len(tablet), len(tablet[0])) {
			t.Fatal(tablet, turned, ok)
		}
		for y := range tablet {
			for x := range tablet[y] {
				if turned[x][len(tablet)-1-y] != tablet[y][x] {
					t.Fatal(tablet, turned, x, y)
				}
			}
		}
	}
}

func TestTabletTexts(t *testing.T) {
	for _, tablet := range everyTablet {
		want := strings.Join(tablet, "/")
		if s, ok := impl.TabletText(tablet); !ok || s != want {
			t.Error(tablet, s, ok)
		}
		if parsed, ok := impl.ParseTablet(want); !ok || !slices.Equal(parsed, tablet) {
			t.Error(want, parsed, ok)
		}
	}
	ten := strings.Join(uniform(10, 10, "#"), "/")
	bad := []string{
		"", "/", "#/", "/#", "#//#", "//", "##/#", "#/##", strings.Repeat("#", 11), strings.Repeat("#/", 10) + "#", strings.Repeat("#/", 10), strings.Repeat("/#", 10),
		ten + "/", "/" + ten, ten + "/##########", ten + "#", ten[1:], ten[:len(ten)-1], "#.#/###/", "#.#/###\n", "\n#.#/###", " #.#/###", "#.#/### ", "#.# /###", "#.#/ ###",
		"#.#\\###", "#.#,###", "#.#|###", "#.#:###", "#o#/###", "#.#/#x#", "0", "1", "x", "#\x00", "\x00", "\xff", "#\xff", "\uff03", "#\u2215#", "#.#/###/#.#/##", "-",
	}
	for _, s := range bad {
		if tablet, ok := impl.ParseTablet(s); ok || len(tablet) != 0 {
			t.Errorf("%q %q %v", s, tablet, ok)
		}
	}
}
