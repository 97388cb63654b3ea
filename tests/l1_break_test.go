package tests

import (
	"math"
	"math/big"
	"slices"
	"strconv"
	"testing"

	"loop.example/g01377/impl"
)

func bar(wide, high int) impl.Bar { return impl.Bar{Wide: wide, High: high} }

func brk(piece int, down bool, at int) impl.Break {
	return impl.Break{Piece: piece, Down: down, At: at}
}

// allBars has every bar, by Wide, then by High.
func allBars() []impl.Bar {
	var bars []impl.Bar
	for wide := 1; wide <= impl.MaxSide; wide++ {
		for high := 1; high <= impl.MaxSide; high++ {
			bars = append(bars, bar(wide, high))
		}
	}
	return bars
}

// noBars has values that are just outside of the limits, or far outside.
func noBars() []impl.Bar {
	var bars []impl.Bar
	for _, bad := range []int{0, -1, 13, 144, math.MinInt, math.MaxInt} {
		bars = append(bars, bar(bad, 1), bar(1, bad), bar(bad, 12), bar(12, bad), bar(bad, bad))
	}
	return bars
}

func TestConstants(t *testing.T) {
	if impl.MaxSide != 12 || impl.MaxBroken != 144 || impl.MaxTrees != 1000000000000000 || impl.MaxLineCost != 100 {
		t.Error("a limit of chapter 1 is not that of the document")
	}
}

func TestIsBar(t *testing.T) {
	for _, b := range allBars() {
		if !impl.IsBar(b) {
			t.Error(b, "is a bar")
		}
	}
	for _, b := range noBars() {
		if impl.IsBar(b) {
			t.Error(b, "is no bar")
		}
	}
}

func TestSquaresAndFewestBreaks(t *testing.T) {
	for _, b := range allBars() {
		if n, ok := impl.SquaresOf(b); !ok || n != b.Wide*b.High {
			t.Error("SquaresOf", b, n, ok)
		}
		if n, ok := impl.FewestBreaks(b); !ok || n != b.Wide*b.High-1 {
			t.Error("FewestBreaks", b, n, ok)
		}
	}
	for _, b := range noBars() {
		if n, ok := impl.SquaresOf(b); ok || n != 0 {
			t.Error("SquaresOf", b, n, ok)
		}
		if n, ok := impl.FewestBreaks(b); ok || n != 0 {
			t.Error("FewestBreaks", b, n, ok)
		}
	}
}

func TestBreakBar(t *testing.T) {
	for _, b := range allBars() {
		for _, at := range []int{math.MinInt, -1, 0, 1, 2, 3, 4, 5, 6, 7, 8, 9, 10, 11, 12, 13, math.MaxInt} {
			var first, other impl.Bar
			may := at >= 1 && at < b.Wide
			if may {
				first, other = bar(at, b.High), bar(b.Wide-at, b.High)
			}
			if p, q, ok := impl.BreakBar(b, true, at); p != first || q != other || ok != may {
				t.Error("down", b, at, p, q, ok)
			}
			first, other = impl.Bar{}, impl.Bar{}
			may = at >= 1 && at < b.High
			if may {
				first, other = bar(b.Wide, at), bar(b.Wide, b.High-at)
			}
			if p, q, ok := impl.BreakBar(b, false, at); p != first || q != other || ok != may {
				t.Error("across", b, at, p, q, ok)
			}
		}
	}
	for _, b := range noBars() {
		for _, down := range []bool{true, false} {
			if p, q, ok := impl.BreakBar(b, down, 1); ok || p != bar(0, 0) || q != bar(0, 0) {
				t.Error("no bar", b, p, q, ok)
			}
		}
	}
}

func TestPiecesAfter(t *testing.T) {
	list := []impl.Break{brk(0, true, 1), brk(1, false, 1), brk(2, true, 1), brk(0, false, 1)}
	want := [][]impl.Bar{
		{bar(3, 2)},
		{bar(1, 2), bar(2, 2)},
		{bar(1, 2), bar(2, 1), bar(2, 1)},
		{bar(1, 2), bar(2, 1), bar(1, 1), bar(1, 1)},
		{bar(1, 1), bar(2, 1), bar(1, 1), bar(1, 1), bar(1, 1)},
	}
	lengths := []int{0, 2, 4, 5, 6}
	for n := range want {
		if p, ok := impl.PiecesAfter(bar(3, 2), list[:n]); !ok || !slices.Equal(p, want[n]) {
			t.Error("PiecesAfter", n, p, ok)
		}
		if long, ok := impl.LengthOfBreaks(bar(3, 2), list[:n]); !ok || long != lengths[n] {
			t.Error("LengthOfBreaks", n, long, ok)
		}
	}
	// The parts are told apart only if they differ.
	list = []impl.Break{brk(0, true, 5), brk(1, false, 2), brk(0, false, 1), brk(2, true, 6)}
	pieces := []impl.Bar{bar(5, 1), bar(7, 2), bar(6, 10), bar(5, 11), bar(1, 10)}
	if p, ok := impl.PiecesAfter(bar(12, 12), list); !ok || !slices.Equal(p, pieces) {
		t.Error("PiecesAfter of 12x12", p, ok)
	}
	if long, ok := impl.LengthOfBreaks(bar(12, 12), list); !ok || long != 12+7+5+10 {
		t.Error("LengthOfBreaks of 12x12", long, ok)
	}
	for _, b := range allBars() {
		if p, ok := impl.PiecesAfter(b, nil); !ok || !slices.Equal(p, []impl.Bar{b}) {
			t.Error("PiecesAfter none", b, p, ok)
		}
		if long, ok := impl.LengthOfBreaks(b, []impl.Break{}); !ok || long != 0 {
			t.Error("LengthOfBreaks of none", b, long, ok)
		}
	}
}

// badLists has lists of which some break of the bar 3x2 can't be made.
func badLists() [][]impl.Break {
	down := brk(0, true, 1)
	return [][]impl.Break{
		{brk(0, true, 0)}, {brk(0, true, 3)}, {brk(0, false, 0)}, {brk(0, false, 2)},
		{brk(0, true, -1)}, {brk(0, false, math.MinInt)}, {brk(0, true, math.MaxInt)},
		{brk(1, true, 1)}, {brk(-1, true, 1)}, {brk(math.MaxInt, true, 1)}, {brk(math.MinInt, false, 1)},
		{down, brk(0, true, 1)}, {down, brk(1, true, 2)}, {down, brk(2, true, 1)}, {down, brk(2, false, 1)},
		{brk(5, true, 1), down}, {down, brk(0, true, 1), brk(1, true, 1)},
		{brk(0, false, 1), brk(1, false, 1)},
		slices.Repeat([]impl.Break{down}, 144), slices.Repeat([]impl.Break{down}, 145),
	}
}

func TestBreaksThatCanNotBeMade(t *testing.T) {
	check := func(b impl.Bar, list []impl.Break) {
		if p, ok := impl.PiecesAfter(b, list); ok || len(p) != 0 {
			t.Error("PiecesAfter", b, list, p, ok)
		}
		if long, ok := impl.LengthOfBreaks(b, list); ok || long != 0 {
			t.Error("LengthOfBreaks", b, list, long, ok)
		}
		if is, ok := impl.IsBreak(b, list, brk(0, false, 1)); ok || is {
			t.Error("IsBreak", b, list, is, ok)
		}
	}
	for _, list := range badLists() {
		check(bar(3, 2), list)
	}
	for _, b := range noBars() {
		check(b, nil)
		check(b, []impl.Break{brk(0, true, 1)})
	}
	check(bar(1, 1), []impl.Break{brk(0, true, 1)})
	check(bar(1, 1), []impl.Break{brk(0, false, 1)})
}

func TestIsBreak(t *testing.T) {
	list := []impl.Break{brk(0, true, 5), brk(1, false, 2), brk(0, false, 1), brk(2, true, 6)}
	pieces := []impl.Bar{bar(5, 1), bar(7, 2), bar(6, 10), bar(5, 11), bar(1, 10)}
	for piece := -2; piece <= len(pieces)+2; piece++ {
		for at := -2; at <= 14; at++ {
			down, across := false, false
			if piece >= 0 && piece < len(pieces) {
				down = at >= 1 && at < pieces[piece].Wide
				across = at >= 1 && at < pieces[piece].High
			}
			if is, ok := impl.IsBreak(bar(12, 12), list, brk(piece, true, at)); !ok || is != down {
				t.Error("down", piece, at, is, ok)
			}
			if is, ok := impl.IsBreak(bar(12, 12), list, brk(piece, false, at)); !ok || is != across {
				t.Error("across", piece, at, is, ok)
			}
		}
	}
	for _, far := range []int{math.MinInt, math.MaxInt} {
		for _, next := range []impl.Break{brk(far, true, 1), brk(far, false, far), brk(0, true, far), brk(0, false, far)} {
			if is, ok := impl.IsBreak(bar(3, 2), nil, next); !ok || is {
				t.Error(next, is, ok)
			}
		}
	}
	for _, b := range allBars() {
		if is, ok := impl.IsBreak(b, nil, brk(0, true, 1)); !ok || is != (b.Wide > 1) {
			t.Error("first break down", b, is, ok)
		}
		if is, ok := impl.IsBreak(b, nil, brk(0, false, 1)); !ok || is != (b.High > 1) {
			t.Error("first break across", b, is, ok)
		}
	}
}

// TestLongestLists has the longest lists of breaks that there are: one fewer than MaxBroken.
func TestLongestLists(t *testing.T) {
	whole := bar(12, 12)
	list, ok := impl.PlainBreaks(whole)
	if !ok || len(list) != impl.MaxBroken-1 {
		t.Fatal("PlainBreaks", len(list), ok)
	}
	p, ok := impl.PiecesAfter(whole, list)
	if !ok || len(p) != impl.MaxBroken || !slices.Equal(p, slices.Repeat([]impl.Bar{bar(1, 1)}, impl.MaxBroken)) {
		t.Error("PiecesAfter", p, ok)
	}
	// 11 columns of 12 squares are parted, and 12 columns broken 11 times.
	if long, ok := impl.LengthOfBreaks(whole, list); !ok || long != 11*12+12*11 {
		t.Error("LengthOfBreaks", long, ok)
	}
	last := len(list) - 1
	if is, ok := impl.IsBreak(whole, list[:last], list[last]); !ok || !is {
		t.Error("the last break", is, ok)
	}
	if is, ok := impl.IsBreak(whole, list, list[last]); !ok || is {
		t.Error("behind the last break", is, ok)
	}
	more := append(slices.Clone(list), list[last])
	if is, ok := impl.IsBreak(whole, more, list[last]); ok || is {
		t.Error("behind MaxBroken breaks", is, ok)
	}
	if p, ok := impl.PiecesAfter(whole, more); ok || len(p) != 0 {
		t.Error("MaxBroken breaks", p, ok)
	}
}

// TestBreaksKeepSquares makes every break that can be made, in turn, down to single squares.
func TestBreaksKeepSquares(t *testing.T) {
	turn := 0
	for _, b := range allBars() {
		var list []impl.Break
		sum := 0
		for {
			pieces, ok := impl.PiecesAfter(b, list)
			squares := 0
			for _, p := range pieces {
				squares += p.Wide * p.High
			}
			if !ok || squares != b.Wide*b.High || len(pieces) != len(list)+1 {
				t.Fatal(b, list, pieces, ok)
			}
			if long, ok := impl.LengthOfBreaks(b, list); !ok || long != sum {
				t.Fatal(b, list, long, sum)
			}
			may := breaksOf(pieces)
			if len(may) == 0 {
				break
			}
			turn = (turn*283 + 1021) % 10007
			next := may[turn%len(may)]
			if is, ok := impl.IsBreak(b, list, next); !ok || !is {
				t.Fatal(b, list, next, is, ok)
			}
			p := pieces[next.Piece]
			first, other, ok := impl.BreakBar(p, next.Down, next.At)
			after, fine := impl.PiecesAfter(b, append(list, next))
			pieces[next.Piece] = first
			if !ok || !fine || !slices.Equal(after, append(pieces, other)) {
				t.Fatal(b, list, next, after)
			}
			if next.Down {
				sum += p.High
			} else {
				sum += p.Wide
			}
			list = append(list, next)
		}
		if n, ok := impl.FewestBreaks(b); !ok || n != len(list) {
			t.Error("FewestBreaks", b, n, len(list))
		}
	}
}

func breaksOf(pieces []impl.Bar) []impl.Break {
	var list []impl.Break
	for number, p := range pieces {
		for at := 1; at < p.Wide; at++ {
			list = append(list, brk(number, true, at))
		}
		for at := 1; at < p.High; at++ {
			list = append(list, brk(number, false, at))
		}
	}
	return list
}

func TestPlainBreaks(t *testing.T) {
	want := []impl.Break{brk(0, true, 1), brk(0, false, 1), brk(1, true, 1), brk(1, false, 1), brk(3, false, 1)}
	if list, ok := impl.PlainBreaks(bar(3, 2)); !ok || !slices.Equal(list, want) {
		t.Error(list, ok)
	}
	want = []impl.Break{brk(0, true, 1), brk(1, true, 1)}
	if list, ok := impl.PlainBreaks(bar(3, 1)); !ok || !slices.Equal(list, want) {
		t.Error(list, ok)
	}
	want = []impl.Break{brk(0, false, 1), brk(1, false, 1)}
	if list, ok := impl.PlainBreaks(bar(1, 3)); !ok || !slices.Equal(list, want) {
		t.Error(list, ok)
	}
	for _, b := range allBars() {
		if list, ok := impl.PlainBreaks(b); !ok || !slices.Equal(list, plainBreaks(b)) {
			t.Error(b, list, ok)
		}
	}
	for _, b := range noBars() {
		if list, ok := impl.PlainBreaks(b); ok || len(list) != 0 {
			t.Error(b, list, ok)
		}
	}
}

// plainBreaks looks for the least number anew before each break.
func plainBreaks(b impl.Bar) []impl.Break {
	var list []impl.Break
	pieces := []impl.Bar{b}
	for {
		number := slices.IndexFunc(pieces, func(p impl.Bar) bool { return p != bar(1, 1) })
		if number < 0 {
			return list
		}
		p := pieces[number]
		if p.Wide > 1 {
			list = append(list, brk(number, true, 1))
			pieces[number] = bar(1, p.High)
			pieces = append(pieces, bar(p.Wide-1, p.High))
		} else {
			list = append(list, brk(number, false, 1))
			pieces[number] = bar(1, 1)
			pieces = append(pieces, bar(1, p.High-1))
		}
	}
}

func TestEqualParts(t *testing.T) {
	cases := []struct {
		b    impl.Bar
		many int
		want []impl.Bar
	}{
		{bar(3, 2), 3, []impl.Bar{bar(1, 2)}},
		{bar(3, 2), 2, []impl.Bar{bar(3, 1)}},
		{bar(3, 2), 1, []impl.Bar{bar(3, 2)}},
		{bar(3, 2), 6, []impl.Bar{bar(1, 1)}},
		{bar(3, 2), 4, nil},
		{bar(3, 2), 144, nil},
		{bar(1, 1), 1, []impl.Bar{bar(1, 1)}},
		{bar(1, 1), 2, nil},
		{bar(4, 4), 4, []impl.Bar{bar(1, 4), bar(2, 2), bar(4, 1)}},
		{bar(12, 12), 12, []impl.Bar{bar(1, 12), bar(2, 6), bar(3, 4), bar(4, 3), bar(6, 2), bar(12, 1)}},
		{bar(12, 12), 144, []impl.Bar{bar(1, 1)}},
	}
	for _, c := range cases {
		if p, ok := impl.EqualParts(c.b, c.many); !ok || !slices.Equal(p, c.want) {
			t.Error(c.b, c.many, p, ok)
		}
	}
	for _, b := range allBars() {
		for many := 1; many <= impl.MaxBroken; many++ {
			var want []impl.Bar
			for _, p := range allBars() {
				if b.Wide%p.Wide == 0 && b.High%p.High == 0 && (b.Wide/p.Wide)*(b.High/p.High) == many {
					want = append(want, p)
				}
			}
			if p, ok := impl.EqualParts(b, many); !ok || !slices.Equal(p, want) {
				t.Error(b, many, p, ok)
			}
		}
		for _, many := range []int{0, -1, 145, math.MinInt, math.MaxInt} {
			if p, ok := impl.EqualParts(b, many); ok || len(p) != 0 {
				t.Error(b, many, p, ok)
			}
		}
	}
	for _, b := range noBars() {
		if p, ok := impl.EqualParts(b, 1); ok || len(p) != 0 {
			t.Error(b, p, ok)
		}
	}
}

// waysToBreak counts without a limit, for all bars.
func waysToBreak(ordered bool) map[impl.Bar]*big.Int {
	ways := map[impl.Bar]*big.Int{}
	for _, b := range allBars() {
		sum := big.NewInt(0)
		if b == bar(1, 1) {
			sum.SetInt64(1)
		}
		for _, next := range breaksOf([]impl.Bar{b}) {
			p, q := bar(next.At, b.High), bar(b.Wide-next.At, b.High)
			if !next.Down {
				p, q = bar(b.Wide, next.At), bar(b.Wide, b.High-next.At)
			}
			many := new(big.Int).Mul(ways[p], ways[q])
			if ordered {
				merges := new(big.Int).Binomial(int64(b.Wide*b.High-2), int64(p.Wide*p.High-1))
				many.Mul(many, merges)
			}
			sum.Add(sum, many)
		}
		ways[b] = sum
	}
	return ways
}

func checkWays(t *testing.T, name string, count func(impl.Bar) (int, bool), ways map[impl.Bar]*big.Int) {
	limit := big.NewInt(impl.MaxTrees)
	for _, b := range allBars() {
		want, may := 0, false
		if ways[b].Cmp(limit) <= 0 {
			want, may = int(ways[b].Int64()), true
		}
		if n, ok := count(b); n != want || ok != may {
			t.Error(name, b, n, ok, "not", ways[b])
		}
	}
	for _, b := range noBars() {
		if n, ok := count(b); ok || n != 0 {
			t.Error(name, b, n, ok)
		}
	}
}

func TestCountTrees(t *testing.T) {
	for b, want := range map[impl.Bar]int{bar(1, 1): 1, bar(2, 1): 1, bar(3, 1): 2, bar(2, 2): 2, bar(3, 2): 8, bar(2, 3): 8, bar(12, 1): 58786, bar(1, 12): 58786} {
		if n, ok := impl.CountTrees(b); !ok || n != want {
			t.Error(b, n, ok)
		}
	}
	checkWays(t, "CountTrees", impl.CountTrees, waysToBreak(false))
}

func TestCountOrders(t *testing.T) {
	for b, want := range map[impl.Bar]int{bar(1, 1): 1, bar(2, 1): 1, bar(3, 1): 2, bar(2, 2): 4, bar(12, 1): 39916800, bar(1, 12): 39916800} {
		if n, ok := impl.CountOrders(b); !ok || n != want {
			t.Error(b, n, ok)
		}
	}
	checkWays(t, "CountOrders", impl.CountOrders, waysToBreak(true))
	for _, b := range []impl.Bar{bar(2, 2), bar(3, 2), bar(2, 3), bar(4, 2), bar(7, 1), bar(1, 6)} {
		if n, ok := impl.CountOrders(b); !ok || n != ordersMade([]impl.Bar{b}) {
			t.Error(b, n, ok)
		}
	}
}

// ordersMade makes all breaks in all orders.
func ordersMade(pieces []impl.Bar) int {
	list := breaksOf(pieces)
	if len(list) == 0 {
		return 1
	}
	sum := 0
	for _, next := range list {
		after := slices.Clone(pieces)
		p := pieces[next.Piece]
		if next.Down {
			after[next.Piece] = bar(next.At, p.High)
			after = append(after, bar(p.Wide-next.At, p.High))
		} else {
			after[next.Piece] = bar(p.Wide, next.At)
			after = append(after, bar(p.Wide, p.High-next.At))
		}
		sum += ordersMade(after)
	}
	return sum
}

// leastByBreaking tries all first breaks of a bar with these lines.
func leastByBreaking(downs, acrosses []int, known map[string]int) int {
	key := texts(downs) + "/" + texts(acrosses)
	if n, ok := known[key]; ok {
		return n
	}
	least := math.MaxInt
	for i, cost := range downs {
		n := cost + leastByBreaking(downs[:i], acrosses, known) + leastByBreaking(downs[i+1:], acrosses, known)
		least = min(least, n)
	}
	for i, cost := range acrosses {
		n := cost + leastByBreaking(downs, acrosses[:i], known) + leastByBreaking(downs, acrosses[i+1:], known)
		least = min(least, n)
	}
	if len(downs)+len(acrosses) == 0 {
		least = 0
	}
	known[key] = least
	return least
}

func texts(numbers []int) string {
	s := ""
	for _, n := range numbers {
		s += strconv.Itoa(n) + ","
	}
	return s
}

// lineLists has lists of costs of all lengths up to 5, with some that are alike.
func lineLists() [][]int {
	lists := [][]int{nil, {}, {0}, {100}, {0, 0}, {100, 0, 100}, {5}, {2, 3}, {1, 1, 1, 1}}
	z := 7
	for n := range 30 {
		var list []int
		for range n % 6 {
			z = (z*283 + 1021) % 10007
			list = append(list, z%(3+n*3))
		}
		lists = append(lists, list)
	}
	return lists
}

func TestLeastByLines(t *testing.T) {
	if n, ok := impl.LeastByLines([]int{5}, []int{2, 3}); !ok || n != 15 {
		t.Error("example", n, ok)
	}
	if n, ok := impl.LeastByLines(nil, nil); !ok || n != 0 {
		t.Error("single square", n, ok)
	}
	known := map[string]int{}
	for _, downs := range lineLists() {
		for _, acrosses := range lineLists() {
			want := leastByBreaking(downs, acrosses, known)
			if n, ok := impl.LeastByLines(downs, acrosses); !ok || n != want {
				t.Error(downs, acrosses, n, ok, "not", want)
			}
		}
	}
	// As many lines as allowed, all with the greatest cost: 143 breaks.
	full := slices.Repeat([]int{100}, 11)
	if n, ok := impl.LeastByLines(full, full); !ok || n != 14300 {
		t.Error("full", n, ok)
	}
	if n, ok := impl.LeastByLines(full, nil); !ok || n != 1100 {
		t.Error("only down", n, ok)
	}
	if n, ok := impl.LeastByLines(nil, full); !ok || n != 1100 {
		t.Error("only across", n, ok)
	}
}

func TestOrderByLines(t *testing.T) {
	cases := []struct {
		downs, acrosses []int
		want            [][]int
	}{
		{nil, nil, nil},
		{[]int{5}, []int{2, 3}, [][]int{{0, 0}, {1, 1}, {1, 0}}},
		{[]int{2, 3}, []int{5}, [][]int{{1, 0}, {0, 1}, {0, 0}}},
		{[]int{1, 1}, []int{1, 1}, [][]int{{0, 0}, {0, 1}, {1, 0}, {1, 1}}},
		{[]int{0, 100, 7}, nil, [][]int{{0, 1}, {0, 2}, {0, 0}}},
		{nil, []int{0, 100, 7}, [][]int{{1, 1}, {1, 2}, {1, 0}}},
		{[]int{4, 9, 4}, []int{9, 4, 9, 0}, [][]int{{0, 1}, {1, 0}, {1, 2}, {0, 0}, {0, 2}, {1, 1}, {1, 3}}},
	}
	for _, c := range cases {
		if order, ok := impl.OrderByLines(c.downs, c.acrosses); !ok || !slices.EqualFunc(order, c.want, slices.Equal) {
			t.Error(c.downs, c.acrosses, order, ok)
		}
	}
	for _, downs := range lineLists() {
		for _, acrosses := range lineLists() {
			order, ok := impl.OrderByLines(downs, acrosses)
			if !ok || len(order) != len(downs)+len(acrosses) {
				t.Fatal(downs, acrosses, order, ok)
			}
			checkOrder(t, [2][]int{downs, acrosses}, order)
		}
	}
	full := slices.Repeat([]int{50}, 11)
	order, ok := impl.OrderByLines(full, full)
	if !ok || len(order) != 22 {
		t.Fatal(order, ok)
	}
	for i, l := range order {
		if !slices.Equal(l, []int{i / 11, i % 11}) {
			t.Error("of equal costs", i, l)
		}
	}
}

// checkOrder breaks along each line in turn, and looks at the order of each two neighbours.
func checkOrder(t *testing.T, costs [2][]int, order [][]int) {
	sum := 0
	broken := [2]int{}
	for i, l := range order {
		cost := costs[l[0]][l[1]]
		sum += cost * (1 + broken[1-l[0]])
		broken[l[0]]++
		if i == 0 {
			continue
		}
		before := order[i-1]
		was := costs[before[0]][before[1]]
		if was < cost || was == cost && slices.Compare(before, l) >= 0 {
			t.Error(costs, order, "at", i)
		}
	}
	if n, ok := impl.LeastByLines(costs[0], costs[1]); !ok || n != sum {
		t.Error(costs, order, n, sum)
	}
}

func TestLinesThatAreNone(t *testing.T) {
	bad := [][]int{{-1}, {101}, {0, 101}, {100, -1, 100}, {math.MinInt}, {math.MaxInt}, make([]int, 12), make([]int, 1000)}
	good := [][]int{nil, {5}, make([]int, 11)}
	check := func(downs, acrosses []int) {
		if n, ok := impl.LeastByLines(downs, acrosses); ok || n != 0 {
			t.Error("LeastByLines", downs, acrosses, n, ok)
		}
		if order, ok := impl.OrderByLines(downs, acrosses); ok || len(order) != 0 {
			t.Error("OrderByLines", downs, acrosses, order, ok)
		}
	}
	for _, b := range bad {
		for _, g := range good {
			check(b, g)
			check(g, b)
		}
		check(b, b)
	}
}

// eating has the least costs of all bars up to a side, found by trying all first breaks and all numbers of squares of the first part.
type eating map[impl.Bar][]int

func eatAll(side int) eating {
	costs := eating{}
	for wide := 1; wide <= side; wide++ {
		for high := 1; high <= side; high++ {
			b := bar(wide, high)
			list := make([]int, wide*high+1)
			for squares := 1; squares < wide*high; squares++ {
				list[squares] = math.MaxInt
				for _, next := range breaksOf([]impl.Bar{b}) {
					list[squares] = min(list[squares], costs.behind(b, next, squares))
				}
			}
			costs[b] = list
		}
	}
	return costs
}

// behind is the least cost with a first break: its own, and that of both parts.
func (costs eating) behind(b impl.Bar, next impl.Break, squares int) int {
	long, p, q := b.High, bar(next.At, b.High), bar(b.Wide-next.At, b.High)
	if !next.Down {
		long, p, q = b.Wide, bar(b.Wide, next.At), bar(b.Wide, b.High-next.At)
	}
	least := math.MaxInt
	for k, cost := range costs[p] {
		if squares-k >= 0 && squares-k < len(costs[q]) {
			least = min(least, long*long+cost+costs[q][squares-k])
		}
	}
	return least
}

func (costs eating) first(b impl.Bar, squares int) impl.Break {
	for _, next := range breaksOf([]impl.Bar{b}) {
		if costs.behind(b, next, squares) == costs[b][squares] {
			return next
		}
	}
	return impl.Break{}
}

func TestToEatExamples(t *testing.T) {
	if n, ok := impl.LeastToEat(bar(2, 2), 1); !ok || n != 5 {
		t.Error("1 of 2x2", n, ok)
	}
	if n, ok := impl.LeastToEat(bar(3, 2), 3); !ok || n != 9 {
		t.Error("3 of 3x2", n, ok)
	}
	if down, at, ok := impl.FirstToEat(bar(3, 2), 3); !ok || !down || at != 1 {
		t.Error("first for 3 of 3x2", down, at, ok)
	}
	if down, at, ok := impl.FirstToEat(bar(2, 3), 2); !ok || down || at != 1 {
		t.Error("first for 2 of 2x3", down, at, ok)
	}
	if k, n, ok := impl.CheapestToEat(bar(2, 2)); !ok || k != 2 || n != 4 {
		t.Error("cheapest of 2x2", k, n, ok)
	}
	if k, n, ok := impl.CheapestToEat(bar(12, 1)); !ok || k != 1 || n != 1 {
		t.Error("cheapest of 12x1", k, n, ok)
	}
}

func TestToEat(t *testing.T) {
	costs := eatAll(impl.MaxSide)
	for _, b := range allBars() {
		all := b.Wide * b.High
		for squares := 0; squares <= all; squares++ {
			if n, ok := impl.LeastToEat(b, squares); !ok || n != costs[b][squares] {
				t.Error("LeastToEat", b, squares, n, ok, "not", costs[b][squares])
			}
			want := impl.Break{}
			may := squares > 0 && squares < all
			if may {
				want = costs.first(b, squares)
			}
			if down, at, ok := impl.FirstToEat(b, squares); ok != may || brk(0, down, at) != want {
				t.Error("FirstToEat", b, squares, down, at, ok, "not", want)
			}
		}
		if all == 1 {
			continue
		}
		least := slices.Min(costs[b][1:all])
		first := slices.Index(costs[b][1:all], least) + 1
		if k, n, ok := impl.CheapestToEat(b); !ok || k != first || n != least {
			t.Error("CheapestToEat", b, k, n, ok, "not", first, least)
		}
	}
}

func TestToEatFails(t *testing.T) {
	check := func(b impl.Bar, squares int) {
		if n, ok := impl.LeastToEat(b, squares); ok || n != 0 {
			t.Error("LeastToEat", b, squares, n, ok)
		}
		if down, at, ok := impl.FirstToEat(b, squares); ok || down || at != 0 {
			t.Error("FirstToEat", b, squares, down, at, ok)
		}
	}
	for _, b := range allBars() {
		for _, squares := range []int{-1, b.Wide*b.High + 1, 145, math.MinInt, math.MaxInt} {
			check(b, squares)
		}
	}
	for _, b := range append(noBars(), bar(1, 1)) {
		if k, n, ok := impl.CheapestToEat(b); ok || k != 0 || n != 0 {
			t.Error("CheapestToEat", b, k, n, ok)
		}
	}
	for _, b := range noBars() {
		for _, squares := range []int{0, 1, 2, 144} {
			check(b, squares)
		}
	}
}

func TestTurnBar(t *testing.T) {
	for _, b := range allBars() {
		if turned, ok := impl.TurnBar(b); !ok || turned != bar(b.High, b.Wide) {
			t.Error(b, turned, ok)
		}
	}
	for _, b := range noBars() {
		if turned, ok := impl.TurnBar(b); ok || turned != bar(0, 0) {
			t.Error(b, turned, ok)
		}
	}
}

func TestBarTexts(t *testing.T) {
	for _, b := range allBars() {
		want := strconv.Itoa(b.Wide) + "x" + strconv.Itoa(b.High)
		if s, ok := impl.BarText(b); !ok || s != want {
			t.Error(b, s, ok)
		}
		if parsed, ok := impl.ParseBar(want); !ok || parsed != b {
			t.Error(want, parsed, ok)
		}
	}
	for _, b := range noBars() {
		if s, ok := impl.BarText(b); ok || s != "" {
			t.Error(b, s, ok)
		}
	}
}

func TestParseBarFails(t *testing.T) {
	bad := []string{
		"", "x", "3", "3x", "x2", "3x2x", "x3x2", "3x2x1", "3xx2", "3X2", "3*2", "3 2", "32",
		" 3x2", "3x2 ", "3 x2", "3x 2", "3x2\n", "\n3x2", "3x2\x00", "\x003x2", "3\u00d72",
		"03x2", "3x02", "003x2", "+3x2", "3x+2", "-3x2", "3x-2", "-3x-2", "3.0x2", "3x2.0", "1_0x2", "0x3x2",
		"0x1", "1x0", "0x0", "00x1", "13x1", "1x13", "13x13", "12x13", "13x12", "0x2", "0x12", "100x1", "1x144",
		"9223372036854775808x1", "18446744073709551617x1", "1x18446744073709551617", "4294967297x1", "1x4294967297", "1x257",
		"ax2", "3xb", "axb", "\u0663x2", "\xffx2", "3e0x2", "1e1x1",
	}
	for _, s := range bad {
		if b, ok := impl.ParseBar(s); ok || b != bar(0, 0) {
			t.Errorf("%q %v %v", s, b, ok)
		}
	}
}
