package tests

import (
	"fmt"
	"math"
	"slices"
	"strings"
	"testing"

	"loop.example/g01377/impl"
)

// digits returns the rows that a text of digits tells.
func digits(text string) []int {
	var list []int
	for _, digit := range text {
		list = append(list, int(digit-'0'))
	}
	return list
}

// everyChomp and knownTable are made once, as many tests look at them.
var (
	everyChomp = allChomps()
	knownTable = knownChomps()
)

// allChomps has every chomp, in order, found among all lists of few numbers.
func allChomps() [][]int {
	var chomps [][]int
	lists := [][]int{{}}
	for range 6 {
		var longer [][]int
		for _, list := range lists {
			for many := 1; many <= 6; many++ {
				longer = append(longer, append(slices.Clone(list), many))
			}
		}
		for _, list := range longer {
			falling := slices.Clone(list)
			slices.Sort(falling)
			slices.Reverse(falling)
			if slices.Equal(list, falling) {
				chomps = append(chomps, list)
			}
		}
		lists = longer
	}
	slices.SortFunc(chomps, slices.Compare[[]int])
	return chomps
}

// noChomps has lists that are no chomps.
func noChomps() [][]int {
	list := [][]int{
		nil, {}, {0}, {7}, {-1}, {math.MinInt}, {math.MaxInt}, {1 << 32}, {1<<32 + 1}, {257},
		{0, 0}, {1, 2}, {3, 0}, {0, 3}, {3, -1}, {3, 7}, {7, 3}, {3, math.MinInt}, {3, math.MaxInt}, {math.MaxInt, 3},
		{3, 3, 4}, {3, 2, 3}, {5, 1, 2, 1}, {3, 2, 0}, {3, 0, 2}, {2, 1, 0, 0, 0, 0}, {6, 6, 6, 6, 6, 0}, {5, 6, 6, 6, 6, 6},
		{7, 7, 7, 7, 7, 7}, {6, 6, 6, 6, 6, 7}, {2, 2, 2, 2, 2, 3}, digits("123456"),
	}
	for side := 1; side <= 7; side++ {
		list = append(list, slices.Repeat([]int{side}, 7), append(slices.Repeat([]int{side}, 6), 0))
	}
	return list
}

// place is a square, x from the left and y from below.
type place struct{ x, y int }

// squaresOf has all squares of a chomp.
func squaresOf(c []int) map[place]bool {
	left := map[place]bool{}
	for y, many := range c {
		for x := range many {
			left[place{x, y}] = true
		}
	}
	return left
}

// bitten returns the chomp behind a bite, found square by square, if it may be bitten there.
func bitten(c []int, at place) ([]int, bool) {
	left := squaresOf(c)
	if !left[at] || at == (place{0, 0}) {
		return nil, false
	}
	behind := make([]int, len(c))
	for s := range left {
		if s.x < at.x || s.y < at.y {
			behind[s.y]++
		}
	}
	for behind[len(behind)-1] == 0 {
		behind = behind[:len(behind)-1]
	}
	return behind, true
}

// known tells of a chomp all that can be known of plays with it.
type known struct {
	bites, good [][]int
	won         bool
	heap        int
	most        int
	length      int
}

// knownChomps has what is known of all chomps, by their texts.
func knownChomps() map[string]known {
	all := map[string]known{}
	// Each bite leaves a chomp that comes before.
	for _, c := range everyChomp {
		var k known
		left := map[int]bool{}
		longest, quickest := 0, math.MaxInt
		for y := range 6 {
			for x := range 6 {
				behind, ok := bitten(c, place{x, y})
				if !ok {
					continue
				}
				b := all[fmt.Sprint(behind)]
				k.bites = append(k.bites, []int{x, y})
				left[b.heap] = true
				k.most = max(k.most, b.most+1)
				longest = max(longest, b.length+1)
				if !b.won {
					k.good = append(k.good, []int{x, y})
					quickest = min(quickest, b.length+1)
				}
			}
		}
		k.won = len(k.good) > 0
		for left[k.heap] {
			k.heap++
		}
		k.length = longest
		if k.won {
			k.length = quickest
		}
		all[fmt.Sprint(c)] = k
	}
	return all
}

func samePlaces(a, b [][]int) bool { return slices.EqualFunc(a, b, slices.Equal[[]int]) }

func TestChompConstants(t *testing.T) {
	if impl.MaxChompSide != 6 || impl.MaxChompMoves != 36 {
		t.Error("a limit of chapter 3 is not that of the document")
	}
}

func TestIsChomp(t *testing.T) {
	good := map[string]bool{}
	for _, c := range everyChomp {
		good[fmt.Sprint(c)] = true
		if !impl.IsChomp(c) {
			t.Error(c, "is a chomp")
		}
	}
	if len(good) != 923 {
		t.Error("the tests find", len(good), "chomps")
	}
	lists := [][]int{{}}
	for range 4 {
		var longer [][]int
		for _, list := range lists {
			for many := -1; many <= 7; many++ {
				longer = append(longer, append(slices.Clone(list), many))
			}
		}
		for _, list := range longer {
			if is := impl.IsChomp(list); is != good[fmt.Sprint(list)] {
				t.Error(list, is)
			}
		}
		lists = longer
	}
	for _, c := range noChomps() {
		if impl.IsChomp(c) {
			t.Error(c, "is no chomp")
		}
	}
}

// TestChompExamples has the numbers of the document's example.
func TestChompExamples(t *testing.T) {
	c := []int{3, 3}
	if won, ok := impl.WinsChomp(c); !ok || !won {
		t.Error("WinsChomp of 33", won, ok)
	}
	if good, ok := impl.GoodChomps(c); !ok || !samePlaces(good, [][]int{{2, 1}}) {
		t.Error("GoodChomps of 33", good, ok)
	}
	if x, y, ok := impl.FirstGoodChomp(c); !ok || x != 2 || y != 1 {
		t.Error("FirstGoodChomp of 33", x, y, ok)
	}
	if behind, ok := impl.ChompAt(c, 2, 1); !ok || !slices.Equal(behind, []int{3, 2}) {
		t.Error("ChompAt of 33", behind, ok)
	}
	if n, ok := impl.MostChompMoves(c); !ok || n != 5 {
		t.Error("MostChompMoves of 33", n, ok)
	}
	if n, ok := impl.QuickestWin(c); !ok || n != 5 {
		t.Error("QuickestWin of 33", n, ok)
	}
	lost := []int{3, 2}
	if bites, ok := impl.ChompMoves(lost); !ok || !samePlaces(bites, [][]int{{1, 0}, {2, 0}, {0, 1}, {1, 1}}) {
		t.Error("ChompMoves of 32", bites, ok)
	}
	if good, ok := impl.GoodChomps(lost); !ok || len(good) != 0 {
		t.Error("GoodChomps of 32", good, ok)
	}
	for text, want := range map[string]int{"32": 0, "33": 4} {
		if n, ok := impl.HeapOfChomp(digits(text)); !ok || n != want {
			t.Error("HeapOfChomp of", text, n, ok)
		}
	}
	if n, ok := impl.CountChomps(2, 2); !ok || n != 5 {
		t.Error("CountChomps of 2 and 2", n, ok)
	}
	if n, ok := impl.CountLostChomps(2, 2); !ok || n != 2 {
		t.Error("CountLostChomps of 2 and 2", n, ok)
	}
	for text, squares := range map[string]int{"1": 1, "21": 3} {
		if list, ok := impl.LostChomps(len(text), squares); !ok || !samePlaces(list, [][]int{digits(text)}) {
			t.Error("LostChomps", text, list, ok)
		}
	}
	if n, ok := impl.RankOfChomp([]int{2, 1}); !ok || n != 7 {
		t.Error("RankOfChomp of 21", n, ok)
	}
	if turned, ok := impl.TurnChomp([]int{3, 1}); !ok || !slices.Equal(turned, []int{2, 1, 1}) {
		t.Error("TurnChomp of 31", turned, ok)
	}
}

// TestPoisonedSquareAlone has the chomp of which no square is bitten.
func TestPoisonedSquareAlone(t *testing.T) {
	c := []int{1}
	want := []string{
		show(true), show(1, true), show([]int(nil), false), show([]int(nil), true), show([]int{1}, true), show([]int(nil), false),
		show(false, true), show([]int(nil), true), show(0, 0, false), show(0, true), show(0, false), show(0, true),
		show(0, true), show([]int{1}, true), show("1", true),
	}
	if told := chompCalls(c, 0, 0, leaveNumbers); !slices.Equal(told, want) {
		t.Errorf("%q not %q", told, want)
	}
	for y := -1; y <= 1; y++ {
		for x := -1; x <= 1; x++ {
			if behind, ok := impl.ChompAt(c, x, y); ok || len(behind) != 0 {
				t.Error("ChompAt", x, y, behind, ok)
			}
		}
	}
	if whole, ok := impl.WholeChomp(1, 1); !ok || !slices.Equal(whole, c) {
		t.Error("WholeChomp", whole, ok)
	}
	if n, ok := impl.CountChomps(1, 1); !ok || n != 1 {
		t.Error("CountChomps", n, ok)
	}
	if n, ok := impl.CountLostChomps(1, 1); !ok || n != 1 {
		t.Error("CountLostChomps", n, ok)
	}
	if lost, ok := impl.LostChomps(1, 1); !ok || !samePlaces(lost, [][]int{c}) {
		t.Error("LostChomps", lost, ok)
	}
	if first, ok := impl.ChompOfRank(0); !ok || !slices.Equal(first, c) {
		t.Error("ChompOfRank", first, ok)
	}
	if parsed, ok := impl.ParseChomp("1"); !ok || !slices.Equal(parsed, c) {
		t.Error("ParseChomp", parsed, ok)
	}
}

// chompSides has numbers that may be sides, and others.
func chompSides() []int {
	return []int{math.MinInt, -6, -1, 0, 1, 2, 3, 4, 5, 6, 7, 8, 1<<32 + 1, math.MaxInt}
}

func isSide(n int) bool { return n >= 1 && n <= 6 }

func TestWholeChomp(t *testing.T) {
	for _, wide := range chompSides() {
		for _, high := range chompSides() {
			var want []int
			may := isSide(wide) && isSide(high)
			if may {
				want = slices.Repeat([]int{wide}, high)
			}
			if c, ok := impl.WholeChomp(wide, high); ok != may || !slices.Equal(c, want) {
				t.Error(wide, high, c, ok)
			}
		}
	}
}

func TestLeftSquares(t *testing.T) {
	for _, c := range everyChomp {
		if n, ok := impl.LeftSquares(c); !ok || n != len(squaresOf(c)) {
			t.Error(c, n, ok)
		}
	}
}

func TestChompAt(t *testing.T) {
	for _, c := range everyChomp {
		for y := -1; y <= 7; y++ {
			for x := -1; x <= 7; x++ {
				want, may := bitten(c, place{x, y})
				if behind, ok := impl.ChompAt(c, x, y); ok != may || !slices.Equal(behind, want) {
					t.Error(c, x, y, behind, ok)
				}
			}
		}
		for _, far := range []int{math.MinInt, math.MaxInt, 1 << 32, -1 << 32} {
			for _, at := range []place{{far, 0}, {0, far}, {far, 1}, {1, far}, {far, far}} {
				if behind, ok := impl.ChompAt(c, at.x, at.y); ok || len(behind) != 0 {
					t.Error(c, at, behind, ok)
				}
			}
		}
	}
}

func TestChompMoves(t *testing.T) {
	for _, c := range everyChomp {
		want := knownTable[fmt.Sprint(c)].bites
		bites, ok := impl.ChompMoves(c)
		if !ok || !samePlaces(bites, want) || len(bites) != len(squaresOf(c))-1 {
			t.Error(c, bites, ok)
		}
	}
}

func TestPlayChomp(t *testing.T) {
	z := drawn(17)
	for _, c := range everyChomp {
		var moves [][]int
		now := c
		for {
			if behind, ok := impl.PlayChomp(c, moves); !ok || !slices.Equal(behind, now) {
				t.Fatal(c, moves, behind, ok)
			}
			bites := knownTable[fmt.Sprint(now)].bites
			if len(bites) == 0 {
				break
			}
			next := bites[z.below(len(bites))]
			moves = append(moves, next)
			now, _ = bitten(now, place{next[0], next[1]})
		}
		if most, ok := impl.MostChompMoves(c); !ok || len(moves) > most || !slices.Equal(now, []int{1}) {
			t.Error(c, moves, most, ok)
		}
		if len(moves) > 0 {
			again := append(slices.Clone(moves), moves[len(moves)-1])
			if behind, ok := impl.PlayChomp(c, again); ok || len(behind) != 0 {
				t.Error("a square that is eaten", c, again, behind, ok)
			}
		}
	}
}

// singleBites has bites of one square each, of a whole chomp, down to the poisoned one.
func singleBites(wide, high int) [][]int {
	var moves [][]int
	for y := high - 1; y >= 0; y-- {
		for x := wide - 1; x >= 0; x-- {
			if x > 0 || y > 0 {
				moves = append(moves, []int{x, y})
			}
		}
	}
	return moves
}

func TestLongestPlays(t *testing.T) {
	for wide := 1; wide <= 6; wide++ {
		for high := 1; high <= 6; high++ {
			whole := slices.Repeat([]int{wide}, high)
			moves := singleBites(wide, high)
			if n, ok := impl.MostChompMoves(whole); !ok || n != len(moves) {
				t.Error("MostChompMoves", whole, n, ok)
			}
			if behind, ok := impl.PlayChomp(whole, moves); !ok || !slices.Equal(behind, []int{1}) {
				t.Error("PlayChomp", whole, behind, ok)
			}
			for _, last := range [][]int{{0, 0}, {1, 0}, {0, 1}, {wide - 1, high - 1}} {
				if behind, ok := impl.PlayChomp(whole, append(slices.Clone(moves), last)); ok || len(behind) != 0 {
					t.Error("PlayChomp", whole, "one more", last, behind, ok)
				}
			}
		}
	}
	for _, c := range everyChomp {
		if n, ok := impl.MostChompMoves(c); !ok || n != knownTable[fmt.Sprint(c)].most {
			t.Error("MostChompMoves", c, n, ok)
		}
	}
}

func TestPlaysThatAreNone(t *testing.T) {
	good := []int{1, 1}
	plays := [][][]int{
		{nil}, {{}}, {{1}}, {{1, 1, 0}}, {{1, 1, 1, 1}}, {{0, 0}}, {{3, 0}}, {{0, 2}}, {{2, 1}}, {{-1, 0}}, {{0, -1}},
		{{math.MinInt, 0}}, {{0, math.MinInt}}, {{math.MaxInt, 0}}, {{0, math.MaxInt}},
		{good, good}, {good, nil}, {nil, good}, {good, {1, 1}, {0, 1}}, {good, {0, 1}, {0, 1}}, {good, {1, 0}, {2, 0}}, {good, {0, 1}, {0, 0}},
		{good, {1, 0}, {0, 1}, {0, 0}}, {good, {1, 0}, {0, 1}, {1}}, {{1, 0}, good}, {{0, 1}, good},
		slices.Repeat([][]int{good}, 36), slices.Repeat([][]int{good}, 37), slices.Repeat([][]int{{0, 0}}, 36),
	}
	for _, moves := range plays {
		if behind, ok := impl.PlayChomp([]int{3, 2}, moves); ok || len(behind) != 0 {
			t.Error(moves, behind, ok)
		}
	}
	for _, c := range noChomps() {
		for _, moves := range [][][]int{nil, {}, {{1, 0}}, {{0, 1}}} {
			if behind, ok := impl.PlayChomp(c, moves); ok || len(behind) != 0 {
				t.Error(c, moves, behind, ok)
			}
		}
	}
}

// TestWonAndHeaps holds what the program tells of a chomp against what it tells of those behind its bites.
func TestWonAndHeaps(t *testing.T) {
	won, heaps := map[string]bool{}, map[string]int{}
	for _, c := range everyChomp {
		text := fmt.Sprint(c)
		leavesLost := false
		left := map[int]bool{}
		for _, at := range knownTable[text].bites {
			behind, _ := bitten(c, place{at[0], at[1]})
			leavesLost = leavesLost || !won[fmt.Sprint(behind)]
			left[heaps[fmt.Sprint(behind)]] = true
		}
		is, ok := impl.WinsChomp(c)
		if !ok || is != leavesLost || is != knownTable[text].won {
			t.Error("WinsChomp", c, is, ok)
		}
		heap, ok := impl.HeapOfChomp(c)
		if !ok || heap < 0 || left[heap] || is != (heap != 0) || heap != knownTable[text].heap {
			t.Error("HeapOfChomp", c, heap, ok)
		}
		for less := range heap {
			if !left[less] {
				t.Error("HeapOfChomp", c, heap, "not", less)
			}
		}
		won[text], heaps[text] = is, heap
	}
}

// TestWonByAThought has chomps of which one can tell without a search whether they are won.
func TestWonByAThought(t *testing.T) {
	check := func(c []int, want bool) {
		if won, ok := impl.WinsChomp(c); !ok || won != want {
			t.Error(c, won, ok)
		}
	}
	for wide := 1; wide <= 6; wide++ {
		for high := 1; high <= 6; high++ {
			// If the bite at the far corner is not good, the answer to it is.
			check(slices.Repeat([]int{wide}, high), wide*high > 1)
			// Of two arms, the longer one is made as long as the other.
			arms := append([]int{wide}, slices.Repeat([]int{1}, high-1)...)
			check(arms, wide != high)
			if n, ok := impl.HeapOfChomp(arms); !ok || n != (wide-1)^(high-1) {
				t.Error("two arms", arms, n, ok)
			}
		}
		for upper := 1; upper <= wide; upper++ {
			check([]int{wide, upper}, upper != wide-1)
		}
	}
	for side := 2; side <= 6; side++ {
		if good, ok := impl.GoodChomps(slices.Repeat([]int{side}, side)); !ok || !samePlaces(good, [][]int{{1, 1}}) {
			t.Error("a whole bar", side, good, ok)
		}
	}
}

func TestGoodChomps(t *testing.T) {
	for _, c := range everyChomp {
		want := knownTable[fmt.Sprint(c)].good
		if good, ok := impl.GoodChomps(c); !ok || !samePlaces(good, want) {
			t.Error(c, good, ok, "not", want)
		}
		var first place
		if len(want) > 0 {
			first = place{want[0][0], want[0][1]}
		}
		if x, y, ok := impl.FirstGoodChomp(c); ok != (len(want) > 0) || (place{x, y}) != first {
			t.Error("the first one", c, x, y, ok)
		}
	}
	for text, want := range map[string][][]int{"6": {{1, 0}}, "222": {{1, 2}}, "31": {{2, 0}}, "3221": {{2, 0}, {0, 2}}, "321": {{2, 0}, {1, 1}, {0, 2}}} {
		if good, ok := impl.GoodChomps(digits(text)); !ok || !samePlaces(good, want) {
			t.Error(text, good, ok)
		}
	}
}

func TestQuickestWin(t *testing.T) {
	for _, c := range everyChomp {
		k := knownTable[fmt.Sprint(c)]
		want := 0
		if k.won {
			want = k.length
		}
		n, ok := impl.QuickestWin(c)
		if ok != k.won || n != want {
			t.Error(c, n, ok, "not", want)
		}
		// Who wins makes the last bite, too.
		if ok && n%2 != 1 {
			t.Error("the wrong one bites last", c, n)
		}
	}
	for text, want := range map[string]int{"2": 1, "6": 1, "111111": 1, "22": 3, "31": 3, "33": 5, "66": 11, "666666": 11, "6111": 7, "61": 3} {
		if n, ok := impl.QuickestWin(digits(text)); !ok || n != want {
			t.Error(text, n, ok, "not", want)
		}
	}
}

func TestCountChomps(t *testing.T) {
	for _, wide := range chompSides() {
		for _, high := range chompSides() {
			may := isSide(wide) && isSide(high)
			all, lost := 0, 0
			for _, c := range everyChomp {
				if !may || c[0] > wide || len(c) > high {
					continue
				}
				all++
				if !knownTable[fmt.Sprint(c)].won {
					lost++
				}
			}
			if n, ok := impl.CountChomps(wide, high); ok != may || n != all {
				t.Error("CountChomps", wide, high, n, ok, "not", all)
			}
			if n, ok := impl.CountLostChomps(wide, high); ok != may || n != lost {
				t.Error("CountLostChomps", wide, high, n, ok, "not", lost)
			}
		}
	}
	if n, ok := impl.CountChomps(6, 6); !ok || n != 923 {
		t.Error("all chomps", n, ok)
	}
}

func TestLostChomps(t *testing.T) {
	lostBySize := map[[2]int][][]int{}
	for _, c := range everyChomp {
		size := [2]int{c[0], len(squaresOf(c))}
		if !knownTable[fmt.Sprint(c)].won {
			lostBySize[size] = append(lostBySize[size], c)
		}
	}
	for _, wide := range chompSides() {
		for squares := -1; squares <= 38; squares++ {
			may := isSide(wide) && squares >= 1 && squares <= 36
			var want [][]int
			if may {
				want = lostBySize[[2]int{wide, squares}]
			}
			if lost, ok := impl.LostChomps(wide, squares); ok != may || !samePlaces(lost, want) {
				t.Error(wide, squares, lost, ok, "not", want)
			}
		}
		for _, far := range []int{math.MinInt, math.MaxInt, 1<<32 + 5} {
			if lost, ok := impl.LostChomps(wide, far); ok || len(lost) != 0 {
				t.Error(wide, far, lost, ok)
			}
		}
	}
	if lost, ok := impl.LostChomps(3, 5); !ok || !samePlaces(lost, [][]int{{3, 1, 1}, {3, 2}}) {
		t.Error("3 and 5", lost, ok)
	}
}

func TestRanks(t *testing.T) {
	for rank, c := range everyChomp {
		if n, ok := impl.RankOfChomp(c); !ok || n != rank {
			t.Error("RankOfChomp", c, n, ok, "not", rank)
		}
		if of, ok := impl.ChompOfRank(rank); !ok || !slices.Equal(of, c) {
			t.Error("ChompOfRank", rank, of, ok, "not", c)
		}
	}
	for text, want := range map[string]int{"1": 0, "11": 1, "111111": 5, "2": 6, "21": 7, "666666": 922} {
		if n, ok := impl.RankOfChomp(digits(text)); !ok || n != want {
			t.Error("RankOfChomp", text, n, ok)
		}
	}
	for _, rank := range []int{-1, -923, 923, 924, 46656, 1 << 32, math.MinInt, math.MaxInt} {
		if c, ok := impl.ChompOfRank(rank); ok || len(c) != 0 {
			t.Error("ChompOfRank", rank, c, ok)
		}
	}
}

func TestTurnChomp(t *testing.T) {
	for _, c := range everyChomp {
		turned, ok := impl.TurnChomp(c)
		squares := squaresOf(turned)
		if !ok || !impl.IsChomp(turned) || len(squares) != len(squaresOf(c)) {
			t.Fatal(c, turned, ok)
		}
		for s := range squaresOf(c) {
			if !squares[place{s.y, s.x}] {
				t.Error(c, turned, s)
			}
		}
		if knownTable[fmt.Sprint(turned)].heap != knownTable[fmt.Sprint(c)].heap {
			t.Error("another heap", c, turned)
		}
	}
	for text, want := range map[string]string{"1": "1", "6": "111111", "111111": "6", "31": "211", "32": "221", "666666": "666666", "65": "222221"} {
		if turned, ok := impl.TurnChomp(digits(text)); !ok || !slices.Equal(turned, digits(want)) {
			t.Error(text, turned, ok)
		}
	}
}

func TestChompTexts(t *testing.T) {
	for _, c := range everyChomp {
		want := strings.Trim(strings.ReplaceAll(fmt.Sprint(c), " ", ""), "[]")
		if s, ok := impl.ChompText(c); !ok || s != want {
			t.Error(c, s, ok)
		}
		if parsed, ok := impl.ParseChomp(want); !ok || !slices.Equal(parsed, c) {
			t.Error(want, parsed, ok)
		}
	}
	for sign := range 256 {
		digit := sign - '0'
		for _, s := range []string{string([]byte{byte(sign)}), "6" + string([]byte{byte(sign)})} {
			var want []int
			if isSide(digit) {
				want = digits(s)
			}
			if parsed, ok := impl.ParseChomp(s); ok != isSide(digit) || !slices.Equal(parsed, want) {
				t.Errorf("%q %v %v", s, parsed, ok)
			}
		}
	}
	bad := []string{
		"", "0", "7", "12", "334", "30", "03", "210", "1111111", "6666666", "6666660", "123456", "-1", "+1", " 1", "1 ", "1\n", "\n1",
		"3 2", "3,2", "3/2", "3-2", "3.2", "3\x00", "\x00", "\xff", "3\xb2", "\u0663", "\uff13", "3\u00b2", "x", "a", "[3 2]",
	}
	for _, s := range bad {
		if parsed, ok := impl.ParseChomp(s); ok || len(parsed) != 0 {
			t.Errorf("%q %v %v", s, parsed, ok)
		}
	}
}
