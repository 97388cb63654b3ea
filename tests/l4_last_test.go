package tests

import (
	"fmt"
	"math"
	"math/big"
	"slices"
	"testing"

	"loop.example/g01377/impl"
)

// leastNotIn returns the least number from 0 on that is not among some.
func leastNotIn(some map[int]bool) int {
	least := 0
	for some[least] {
		least++
	}
	return least
}

// cut returns both parts of all breaks of a whole bar.
func cut(b impl.Bar) [][2]impl.Bar {
	var pairs [][2]impl.Bar
	for at := 1; at < b.Wide; at++ {
		pairs = append(pairs, [2]impl.Bar{bar(at, b.High), bar(b.Wide-at, b.High)})
	}
	for at := 1; at < b.High; at++ {
		pairs = append(pairs, [2]impl.Bar{bar(b.Wide, at), bar(b.Wide, b.High-at)})
	}
	return pairs
}

func byWideAndHigh(a, b impl.Bar) int {
	if a.Wide != b.Wide {
		return a.Wide - b.Wide
	}
	return a.High - b.High
}

// keptBehind returns all bars that can be kept, each once, in order.
func keptBehind(b impl.Bar) []impl.Bar {
	var kept []impl.Bar
	for _, pair := range cut(b) {
		kept = append(kept, pair[0], pair[1])
	}
	slices.SortFunc(kept, byWideAndHigh)
	return slices.Compact(kept)
}

// keptGame tells of a bar all that can be known of plays of the kept game.
type keptGame struct {
	won   bool
	heap  int
	plays *big.Int
}

var knownKept = allKept()

// allKept finds the kept game of all bars from what can be kept of each.
func allKept() map[impl.Bar]keptGame {
	games := map[impl.Bar]keptGame{}
	for _, b := range allBars() {
		findKept(b, games)
	}
	return games
}

func findKept(b impl.Bar, games map[impl.Bar]keptGame) keptGame {
	if g, ok := games[b]; ok {
		return g
	}
	g := keptGame{plays: new(big.Int)}
	heaps := map[int]bool{}
	for _, kept := range keptBehind(b) {
		behind := findKept(kept, games)
		g.won = g.won || !behind.won
		heaps[behind.heap] = true
		g.plays.Add(g.plays, behind.plays)
	}
	if len(heaps) == 0 {
		g.plays.SetInt64(1)
	}
	g.heap = leastNotIn(heaps)
	games[b] = g
	return g
}

func TestLastConstants(t *testing.T) {
	if impl.MaxStrip != 60 || impl.MaxGames != 8 || impl.MaxKeptPlays != 1000000000000000 {
		t.Error("a limit of chapter 4 is not that of the document")
	}
}

// TestKeptExamples has the numbers of the document's example of bars.
func TestKeptExamples(t *testing.T) {
	b := bar(3, 2)
	if n, ok := impl.FewestBreaks(b); !ok || n != 5 {
		t.Error("breaks of 3x2", n, ok)
	}
	if won, ok := impl.WinsPlain(b); !ok || !won {
		t.Error("WinsPlain of 3x2", won, ok)
	}
	if won, ok := impl.WinsKept(b); !ok || !won {
		t.Error("WinsKept of 3x2", won, ok)
	}
	if won, ok := impl.WinsKept(bar(2, 2)); !ok || won {
		t.Error("WinsKept of 2x2", won, ok)
	}
	if good, ok := impl.GoodKept(b); !ok || !slices.Equal(good, []impl.Bar{bar(2, 2)}) {
		t.Error("GoodKept of 3x2", good, ok)
	}
	if moves, ok := impl.KeptMoves(b); !ok || !slices.Equal(moves, []impl.Bar{bar(1, 2), bar(2, 2), bar(3, 1)}) {
		t.Error("KeptMoves of 3x2", moves, ok)
	}
	if n, ok := impl.KeptHeap(b); !ok || n != 3 {
		t.Error("KeptHeap of 3x2", n, ok)
	}
	if n, ok := impl.CountKeptPlays(bar(2, 2)); !ok || n != 2 {
		t.Error("CountKeptPlays of 2x2", n, ok)
	}
}

// TestStripExamples has the numbers of the document's example of strips.
func TestStripExamples(t *testing.T) {
	if lost, ok := impl.LostStrips(10, 1, true); !ok || !slices.Equal(lost, []int{1, 2, 4, 7, 10}) {
		t.Error("LostStrips up to 10", lost, ok)
	}
	for long, want := range map[int]int{3: 1, 5: 2, 8: 2} {
		if n, ok := impl.StripValue(long, 1, true); !ok || n != want {
			t.Error("StripValue of", long, n, ok)
		}
	}
	if good, ok := impl.GoodStrips([]int{5}, 1, true); !ok || !samePlaces(good, [][]int{{0, 1}}) {
		t.Error("GoodStrips of 5", good, ok)
	}
	if n, ok := impl.LongestStripPlay(5, 1, true); !ok || n != 3 {
		t.Error("LongestStripPlay of 5", n, ok)
	}
	if n, ok := impl.ShortestStripPlay(5, 1, true); !ok || n != 2 {
		t.Error("ShortestStripPlay of 5", n, ok)
	}
}

// TestSingleSquare has the bar and the strip that cannot be broken.
func TestSingleSquare(t *testing.T) {
	one := bar(1, 1)
	want := []string{
		show(false, true), show(false, true), show([]impl.Bar(nil), true), show([]impl.Bar(nil), true), show(0, true), show(1, true),
	}
	if told := keptCalls(one, leaveBars); !slices.Equal(told, want) {
		t.Errorf("%q not %q", told, want)
	}
	if lost, ok := impl.LostKept(1, 1); !ok || !slices.Equal(lost, []impl.Bar{one}) {
		t.Error("LostKept", lost, ok)
	}
	for many := 1; many <= 8; many++ {
		bars := slices.Repeat([]impl.Bar{one}, many)
		if won, ok := impl.WinsSeveral(bars); !ok || won {
			t.Error("WinsSeveral", many, won, ok)
		}
		if index, kept, ok := impl.FirstGoodSeveral(bars); ok || index != 0 || kept != bar(0, 0) {
			t.Error("FirstGoodSeveral", many, index, kept, ok)
		}
	}
	// Of a strip of one square all values are 0 and all lists empty.
	for _, unlike := range []bool{false, true} {
		want := []string{show(0, true), show([]int(nil), true), show([]int{1}, true), show(0, true), show(0, true)}
		if told := stripNumberCalls(1, 1, unlike, leaveNumbers); !slices.Equal(told, want) {
			t.Errorf("%v %q", unlike, told)
		}
	}
}

// plainGame finds who wins the plain game by trying all breaks of all pieces.
func plainGame(pieces []impl.Bar, known map[string]bool) bool {
	slices.SortFunc(pieces, byWideAndHigh)
	text := fmt.Sprint(pieces)
	if won, ok := known[text]; ok {
		return won
	}
	won := false
	for i, b := range pieces {
		for _, pair := range cut(b) {
			behind := append(slices.Delete(slices.Clone(pieces), i, i+1), pair[0], pair[1])
			won = won || !plainGame(behind, known)
		}
	}
	known[text] = won
	return won
}

func TestWinsPlain(t *testing.T) {
	searched := map[string]bool{}
	for _, b := range allBars() {
		// An odd number of breaks is an even number of squares.
		want := b.Wide*b.High%2 == 0
		if b.Wide*b.High <= 9 && plainGame([]impl.Bar{b}, searched) != want {
			t.Fatal("the search finds something else for", b)
		}
		if won, ok := impl.WinsPlain(b); !ok || won != want {
			t.Error(b, won, ok)
		}
	}
}

// TestKeptGame holds all bars against a search, and against what the program tells of the bars that can be kept.
func TestKeptGame(t *testing.T) {
	for _, b := range allBars() {
		want := knownKept[b]
		won, ok := impl.WinsKept(b)
		if !ok || won != want.won {
			t.Error("WinsKept", b, won, ok)
		}
		heap, ok := impl.KeptHeap(b)
		if !ok || heap != want.heap || won != (heap != 0) {
			t.Error("KeptHeap", b, heap, ok)
		}
		moves, ok := impl.KeptMoves(b)
		if !ok || !slices.Equal(moves, keptBehind(b)) || len(moves) != b.Wide+b.High-2 {
			t.Error("KeptMoves", b, moves, ok)
		}
		var lost []impl.Bar
		heaps := map[int]bool{}
		for _, kept := range moves {
			if wins, _ := impl.WinsKept(kept); !wins {
				lost = append(lost, kept)
			}
			of, _ := impl.KeptHeap(kept)
			heaps[of] = true
		}
		if won != (len(lost) > 0) || heap != leastNotIn(heaps) {
			t.Error("not as the bars that can be kept tell", b, won, lost, heap)
		}
		if good, ok := impl.GoodKept(b); !ok || !slices.Equal(good, lost) {
			t.Error("GoodKept", b, good, ok)
		}
	}
}

func TestGoodKept(t *testing.T) {
	for b, want := range map[impl.Bar][]impl.Bar{
		bar(1, 2): {bar(1, 1)}, bar(2, 1): {bar(1, 1)}, bar(12, 1): {bar(1, 1)}, bar(1, 12): {bar(1, 1)}, bar(2, 3): {bar(2, 2)},
		bar(12, 11): {bar(11, 11)}, bar(11, 12): {bar(11, 11)}, bar(5, 9): {bar(5, 5)}, bar(2, 2): nil, bar(12, 12): nil,
	} {
		if good, ok := impl.GoodKept(b); !ok || !slices.Equal(good, want) {
			t.Error(b, good, ok)
		}
	}
}

// playsByHand counts plays of the kept game by playing all of them.
func playsByHand(b impl.Bar) int {
	moves := keptBehind(b)
	if len(moves) == 0 {
		return 1
	}
	plays := 0
	for _, kept := range moves {
		plays += playsByHand(kept)
	}
	return plays
}

func TestCountKeptPlays(t *testing.T) {
	for _, b := range allBars() {
		want := knownKept[b].plays
		// No bar has more plays than MaxKeptPlays.
		if want.Cmp(big.NewInt(1000000000000000)) > 0 {
			t.Fatal(b, "has", want, "plays")
		}
		if n, ok := impl.CountKeptPlays(b); !ok || int64(n) != want.Int64() {
			t.Error(b, n, ok, "not", want)
		}
		if n, _ := impl.CountKeptPlays(b); b.Wide+b.High <= 10 && n != playsByHand(b) {
			t.Error(b, n, "not as played")
		}
	}
	for b, want := range map[impl.Bar]int{
		bar(2, 1): 1, bar(3, 1): 2, bar(4, 1): 4, bar(12, 1): 1024, bar(1, 12): 1024, bar(3, 2): 5, bar(3, 3): 14, bar(4, 4): 106, bar(12, 12): 2480593546,
	} {
		if n, ok := impl.CountKeptPlays(b); !ok || n != want {
			t.Error(b, n, ok, "not", want)
		}
	}
}

func TestLostKept(t *testing.T) {
	for _, b := range append(allBars(), noBars()...) {
		var want []impl.Bar
		may := b.Wide >= 1 && b.Wide <= 12 && b.High >= 1 && b.High <= 12
		for wide := 1; may && wide <= b.Wide; wide++ {
			for high := 1; high <= b.High; high++ {
				if !knownKept[bar(wide, high)].won {
					want = append(want, bar(wide, high))
				}
			}
		}
		if lost, ok := impl.LostKept(b.Wide, b.High); ok != may || !slices.Equal(lost, want) {
			t.Error(b, lost, ok, "not", want)
		}
	}
	if lost, ok := impl.LostKept(12, 2); !ok || !slices.Equal(lost, []impl.Bar{bar(1, 1), bar(2, 2)}) {
		t.Error("12 and 2", lost, ok)
	}
	if lost, ok := impl.LostKept(12, 12); !ok || len(lost) != 12 || lost[11] != bar(12, 12) {
		t.Error("12 and 12", lost, ok)
	}
}

// severalGame finds who wins with several bars by trying all moves with them.
func severalGame(bars []impl.Bar, known map[string]bool) bool {
	slices.SortFunc(bars, byWideAndHigh)
	text := fmt.Sprint(bars)
	if won, ok := known[text]; ok {
		return won
	}
	won := false
	for i, b := range bars {
		for _, kept := range keptBehind(b) {
			behind := slices.Clone(bars)
			behind[i] = kept
			won = won || !severalGame(behind, known)
		}
	}
	known[text] = won
	return won
}

// checkSeveral holds what is told of several bars against a way to know whether bars are won.
func checkSeveral(t *testing.T, bars []impl.Bar, wins func([]impl.Bar) bool) {
	t.Helper()
	want := wins(bars)
	if won, ok := impl.WinsSeveral(bars); !ok || won != want {
		t.Error("WinsSeveral", bars, won, ok)
	}
	wantIndex, wantKept, found := 0, bar(0, 0), false
	for i, b := range bars {
		for _, kept := range keptBehind(b) {
			behind := slices.Clone(bars)
			behind[i] = kept
			if !found && !wins(behind) {
				wantIndex, wantKept, found = i, kept, true
			}
		}
	}
	if found != want {
		t.Error("won, but not by a move", bars)
	}
	if index, kept, ok := impl.FirstGoodSeveral(bars); ok != found || index != wantIndex || kept != wantKept {
		t.Error("FirstGoodSeveral", bars, index, kept, ok, "not", wantIndex, wantKept)
	}
}

// TestFewBars tries all plays with up to three small bars.
func TestFewBars(t *testing.T) {
	known := map[string]bool{}
	wins := func(bars []impl.Bar) bool { return severalGame(slices.Clone(bars), known) }
	var small []impl.Bar
	for _, b := range allBars() {
		if b.Wide <= 3 && b.High <= 3 || b.High == 1 && b.Wide <= 5 {
			small = append(small, b)
		}
	}
	for _, a := range small {
		checkSeveral(t, []impl.Bar{a}, wins)
		for _, b := range small {
			checkSeveral(t, []impl.Bar{a, b}, wins)
			for _, c := range small {
				checkSeveral(t, []impl.Bar{a, b, c}, wins)
			}
		}
	}
}

// winsByHeaps tells by the heaps that a search has found whether bars are won.
func winsByHeaps(bars []impl.Bar) bool {
	all := 0
	for _, b := range bars {
		all ^= knownKept[b].heap
	}
	return all != 0
}

func TestSeveralBars(t *testing.T) {
	for _, a := range allBars() {
		checkSeveral(t, []impl.Bar{a}, winsByHeaps)
		for _, b := range allBars() {
			checkSeveral(t, []impl.Bar{a, b}, winsByHeaps)
		}
	}
	z := drawn(23)
	lost := 0
	for range 3000 {
		var bars []impl.Bar
		for range 1 + z.below(8) {
			bars = append(bars, bar(1+z.below(12), 1+z.below(12)))
		}
		checkSeveral(t, bars, winsByHeaps)
		if !winsByHeaps(bars) {
			lost++
		}
	}
	if lost < 50 {
		t.Error("only", lost, "lost lists of bars were tried")
	}
}

// TestFirstGoodSeveralInOrder has bars with more good moves than one.
func TestFirstGoodSeveralInOrder(t *testing.T) {
	check := func(bars []impl.Bar, wantIndex int, wantKept impl.Bar, want bool) {
		if index, kept, ok := impl.FirstGoodSeveral(bars); ok != want || index != wantIndex || kept != wantKept {
			t.Error(bars, index, kept, ok)
		}
	}
	check([]impl.Bar{bar(2, 2), bar(3, 2)}, 1, bar(2, 2), true)
	check([]impl.Bar{bar(3, 2), bar(2, 2)}, 0, bar(2, 2), true)
	check([]impl.Bar{bar(1, 1), bar(1, 1), bar(1, 2)}, 2, bar(1, 1), true)
	check([]impl.Bar{bar(2, 1), bar(2, 1), bar(2, 1)}, 0, bar(1, 1), true)
	check([]impl.Bar{bar(2, 3), bar(1, 2)}, 0, bar(2, 1), true)
	check([]impl.Bar{bar(2, 2), bar(3, 3), bar(1, 2)}, 0, bar(1, 2), true)
	check([]impl.Bar{bar(2, 1), bar(1, 2)}, 0, bar(0, 0), false)
	check(slices.Repeat([]impl.Bar{bar(12, 1)}, 8), 0, bar(0, 0), false)
	check(append(slices.Repeat([]impl.Bar{bar(12, 12)}, 7), bar(12, 11)), 0, bar(11, 12), true)
	check(append(slices.Repeat([]impl.Bar{bar(1, 1)}, 7), bar(12, 11)), 7, bar(11, 11), true)
}

// TestNumbersOfBars has lists of as many bars as may be, and of more and fewer.
func TestNumbersOfBars(t *testing.T) {
	for many := range 12 {
		may := many >= 1 && many <= 8
		bars := slices.Repeat([]impl.Bar{bar(2, 1)}, many)
		if won, ok := impl.WinsSeveral(bars); ok != may || won != (may && many%2 == 1) {
			t.Error("WinsSeveral", many, won, ok)
		}
		index, kept, ok := impl.FirstGoodSeveral(bars)
		wantKept := bar(0, 0)
		if may && many%2 == 1 {
			wantKept = bar(1, 1)
		}
		if ok != (may && many%2 == 1) || index != 0 || kept != wantKept {
			t.Error("FirstGoodSeveral", many, index, kept, ok)
		}
		for i := range bars {
			for _, no := range noBars() {
				bad := slices.Clone(bars)
				bad[i] = no
				if won, ok := impl.WinsSeveral(bad); ok || won {
					t.Error("WinsSeveral", bad, won, ok)
				}
				if index, kept, ok := impl.FirstGoodSeveral(bad); ok || index != 0 || kept != bar(0, 0) {
					t.Error("FirstGoodSeveral", bad, index, kept, ok)
				}
			}
		}
	}
}

// stripGame has the rules of a strip game.
type stripGame struct {
	least  int
	unlike bool
}

// may tells whether a strip can be broken into two parts.
func (g stripGame) may(a, b int) bool {
	return a >= g.least && b >= g.least && (a != b || !g.unlike)
}

// places returns all places of moves, those too that are behind the middle.
func (g stripGame) places(long int) []int {
	var all []int
	for at := 1; at < long; at++ {
		if g.may(at, long-at) {
			all = append(all, at)
		}
	}
	return all
}

// values finds those of all strips, 0 up to 60, by all their moves.
func (g stripGame) values() []int {
	values := []int{0}
	for long := 1; long <= 60; long++ {
		pairs := map[int]bool{}
		for _, at := range g.places(long) {
			pairs[values[at]^values[long-at]] = true
		}
		values = append(values, leastNotIn(pairs))
	}
	return values
}

// lengths finds for all strips, 0 up to 60, how many moves a play may have.
func (g stripGame) lengths() []map[int]bool {
	lengths := []map[int]bool{{0: true}}
	for long := 1; long <= 60; long++ {
		found := map[int]bool{}
		for _, at := range g.places(long) {
			for a := range lengths[at] {
				for b := range lengths[long-at] {
					found[1+a+b] = true
				}
			}
		}
		if len(found) == 0 {
			found[0] = true
		}
		lengths = append(lengths, found)
	}
	return lengths
}

// wins finds who wins with strips by trying all moves.
func (g stripGame) wins(strips []int, known map[string]bool) bool {
	strips = slices.Clone(strips)
	slices.Sort(strips)
	text := fmt.Sprint(g, strips)
	if won, ok := known[text]; ok {
		return won
	}
	won := false
	for i, long := range strips {
		for _, at := range g.places(long) {
			won = won || !g.wins(brokenStrip(strips, i, at), known)
		}
	}
	known[text] = won
	return won
}

func brokenStrip(strips []int, index, at int) []int {
	behind := append(slices.Clone(strips), strips[index]-at)
	behind[index] = at
	return behind
}

// allGames has all rules that there can be.
func allGames() []stripGame {
	var games []stripGame
	for least := 1; least <= 60; least++ {
		games = append(games, stripGame{least, false}, stripGame{least, true})
	}
	return games
}

// TestStripMoves has all strips, those too short to break with them.
func TestStripMoves(t *testing.T) {
	for _, g := range allGames() {
		for long := 1; long <= 60; long++ {
			var want []int
			for _, at := range g.places(long) {
				if at <= long-at {
					want = append(want, at)
				}
			}
			moves, ok := impl.StripMoves(long, g.least, g.unlike)
			if !ok || !slices.Equal(moves, want) {
				t.Error(g, long, moves, ok)
			}
			if short := long < 2*g.least || g.unlike && long == 2*g.least; short != (len(moves) == 0) {
				t.Error("a strip that is too short", g, long, moves)
			}
		}
	}
	check := func(long, least int, unlike bool, want ...int) {
		if moves, ok := impl.StripMoves(long, least, unlike); !ok || !slices.Equal(moves, want) {
			t.Error(long, least, unlike, moves, ok)
		}
	}
	check(6, 1, false, 1, 2, 3)
	check(6, 1, true, 1, 2)
	check(7, 1, true, 1, 2, 3)
	check(7, 3, true, 3)
	check(8, 3, false, 3, 4)
	check(8, 3, true, 3)
	check(6, 3, false, 3)
	check(6, 3, true)
	check(5, 3, false)
	check(2, 1, true)
	check(2, 1, false, 1)
	check(60, 30, false, 30)
	check(60, 30, true)
	check(60, 31, false)
	check(60, 60, false)
}

// TestStripValues holds all values against a plain search, and against what the program tells of parts.
func TestStripValues(t *testing.T) {
	for _, g := range allGames() {
		want := g.values()
		var told, lost []int
		for long := 1; long <= 60; long++ {
			n, ok := impl.StripValue(long, g.least, g.unlike)
			if !ok || n != want[long] {
				t.Error(g, long, n, ok, "not", want[long])
			}
			told = append(told, n)
			if n == 0 {
				lost = append(lost, long)
			}
			pairs := map[int]bool{}
			moves, _ := impl.StripMoves(long, g.least, g.unlike)
			for _, at := range moves {
				pairs[told[at-1]^told[long-at-1]] = true
			}
			if n != leastNotIn(pairs) {
				t.Error("not the least that no pair has", g, long, n)
			}
			if list, ok := impl.LostStrips(long, g.least, g.unlike); !ok || !slices.Equal(list, lost) {
				t.Error("LostStrips", g, long, list, ok)
			}
		}
	}
}

// TestStripsByAThought has strips of which one can tell without a search.
func TestStripsByAThought(t *testing.T) {
	for long := 1; long <= 60; long++ {
		// With parts of any lengths there are as many moves as lines.
		if n, ok := impl.StripValue(long, 1, false); !ok || n != (long-1)%2 {
			t.Error("StripValue", long, n, ok)
		}
		for name, call := range map[string]func(int, int, bool) (int, bool){"longest": impl.LongestStripPlay, "shortest": impl.ShortestStripPlay} {
			if n, ok := call(long, 1, false); !ok || n != long-1 {
				t.Error(name, long, n, ok)
			}
		}
		// Always taking the least part makes the longest play.
		for least := 1; least <= 60; least++ {
			if n, ok := impl.LongestStripPlay(long, least, false); !ok || n != max(long/least-1, 0) {
				t.Error("longest", long, least, n, ok)
			}
		}
		if n, ok := impl.LongestStripPlay(long, 1, true); !ok || n != max(long-2, 0) {
			t.Error("longest, unlike", long, n, ok)
		}
	}
	// These are the values of Grundy's game, as they are known.
	known := []int{0, 0, 1, 0, 2, 1, 0, 2, 1, 0, 2, 1, 3, 2, 1, 3, 2, 4, 3, 0, 4, 3, 0, 4, 3, 0, 4, 1, 2, 3, 1, 2, 4, 1, 2, 4, 1, 2, 4, 1, 5, 4, 1, 5, 4, 1, 5, 4, 1, 0}
	for i, want := range known {
		if n, ok := impl.StripValue(i+1, 1, true); !ok || n != want {
			t.Error("StripValue, unlike", i+1, n, ok, "not", want)
		}
	}
}

func TestStripPlays(t *testing.T) {
	for _, g := range allGames() {
		for long, lengths := range g.lengths() {
			if long == 0 {
				continue
			}
			least, greatest := math.MaxInt, 0
			for n := range lengths {
				least, greatest = min(least, n), max(greatest, n)
			}
			if n, ok := impl.LongestStripPlay(long, g.least, g.unlike); !ok || n != greatest {
				t.Error("LongestStripPlay", g, long, n, ok, "not", greatest)
			}
			if n, ok := impl.ShortestStripPlay(long, g.least, g.unlike); !ok || n != least {
				t.Error("ShortestStripPlay", g, long, n, ok, "not", least)
			}
		}
	}
	for long, want := range map[int][2]int{1: {0, 0}, 2: {0, 0}, 3: {1, 1}, 4: {2, 2}, 5: {3, 2}, 6: {4, 3}} {
		longest, ok := impl.LongestStripPlay(long, 1, true)
		shortest, fine := impl.ShortestStripPlay(long, 1, true)
		if !ok || !fine || longest != want[0] || shortest != want[1] {
			t.Error(long, longest, shortest, ok, fine)
		}
	}
}

// checkStrips holds what is told of strips against a way to know whether strips are won.
func checkStrips(t *testing.T, g stripGame, strips []int, wins func([]int) bool) {
	t.Helper()
	want := wins(strips)
	if won, ok := impl.WinsStrips(strips, g.least, g.unlike); !ok || won != want {
		t.Error("WinsStrips", g, strips, won, ok)
	}
	var good [][]int
	for i, long := range strips {
		for _, at := range g.places(long) {
			if at <= long-at && !wins(brokenStrip(strips, i, at)) {
				good = append(good, []int{i, at})
			}
		}
	}
	if want != (len(good) > 0) {
		t.Error("won, but not by a move", g, strips)
	}
	if list, ok := impl.GoodStrips(strips, g.least, g.unlike); !ok || !samePlaces(list, good) {
		t.Error("GoodStrips", g, strips, list, ok, "not", good)
	}
}

// TestFewStrips tries all plays with up to three short strips.
func TestFewStrips(t *testing.T) {
	known := map[string]bool{}
	for _, g := range []stripGame{{1, false}, {1, true}, {2, false}, {2, true}, {3, true}} {
		wins := func(strips []int) bool { return g.wins(strips, known) }
		for a := 1; a <= 12; a++ {
			checkStrips(t, g, []int{a}, wins)
			for b := 1; b <= 9; b++ {
				checkStrips(t, g, []int{min(a, 9), b}, wins)
				if a > 6 || b > 6 {
					continue
				}
				for c := 1; c <= 6; c++ {
					checkStrips(t, g, []int{a, b, c}, wins)
				}
			}
		}
	}
}

// TestManyStrips tries lists of all lengths, and tells by values who wins.
func TestManyStrips(t *testing.T) {
	z := drawn(41)
	for _, g := range allGames() {
		values := g.values()
		wins := func(strips []int) bool {
			all := 0
			for _, long := range strips {
				all ^= values[long]
			}
			return all != 0
		}
		for long := 1; long <= 60; long++ {
			checkStrips(t, g, []int{long}, wins)
			checkStrips(t, g, []int{long, long}, wins)
		}
		for range 30 {
			var strips []int
			for range 1 + z.below(8) {
				strips = append(strips, 1+z.below(60))
			}
			checkStrips(t, g, strips, wins)
		}
	}
}

func TestGoodStrips(t *testing.T) {
	check := func(strips []int, least int, unlike bool, want ...[]int) {
		if good, ok := impl.GoodStrips(strips, least, unlike); !ok || !samePlaces(good, want) {
			t.Error(strips, least, unlike, good, ok)
		}
	}
	check([]int{3}, 1, true, []int{0, 1})
	check([]int{1, 3}, 1, true, []int{1, 1})
	check([]int{3, 5}, 1, true, []int{1, 2})
	check([]int{5, 3}, 1, true, []int{0, 2})
	check([]int{2, 3}, 1, false, []int{0, 1}, []int{1, 1})
	check([]int{2, 4, 2}, 1, false, []int{0, 1}, []int{1, 1}, []int{1, 2}, []int{2, 1})
	check([]int{4}, 1, true)
	check([]int{3, 3}, 1, true)
	check([]int{1}, 1, false)
	check([]int{60}, 31, false)
	check([]int{60}, 30, false, []int{0, 30})
	// With as many strips as may be, the move is good though it leaves one more than a list has.
	check([]int{1, 1, 1, 1, 1, 1, 1, 3}, 1, true, []int{7, 1})
	check(slices.Repeat([]int{60}, 8), 1, true)
}

func TestBreakStrip(t *testing.T) {
	lists := [][]int{{1}, {2}, {5}, {6}, {60}, {5, 6}, {6, 1, 7}, {3, 4, 5, 6, 7, 8, 9}, {60, 60, 60, 60, 60, 60, 60}, {3, 4, 5, 6, 7, 8, 9, 10}}
	for _, strips := range lists {
		for _, g := range []stripGame{{1, false}, {1, true}, {2, false}, {3, true}, {30, false}, {30, true}, {60, false}} {
			for index := -2; index <= len(strips)+1; index++ {
				for at := -2; at <= 62; at++ {
					var want []int
					may := len(strips) < 8 && index >= 0 && index < len(strips) && at >= 1 && at < strips[index]
					may = may && g.may(at, strips[index]-at)
					if may {
						want = brokenStrip(strips, index, at)
					}
					if behind, ok := impl.BreakStrip(strips, index, at, g.least, g.unlike); ok != may || !slices.Equal(behind, want) {
						t.Error(strips, index, at, g, behind, ok)
					}
				}
			}
		}
	}
}

func TestBreakStripInPlace(t *testing.T) {
	check := func(strips []int, index, at, least int, unlike bool, want ...int) {
		if behind, ok := impl.BreakStrip(strips, index, at, least, unlike); ok != (len(want) > 0) || !slices.Equal(behind, want) {
			t.Error(strips, index, at, least, unlike, behind, ok)
		}
	}
	check([]int{5}, 0, 2, 1, true, 2, 3)
	check([]int{5}, 0, 3, 1, true, 3, 2)
	check([]int{7, 9, 8}, 1, 7, 2, true, 7, 7, 8, 2)
	check([]int{7, 9, 8}, 2, 4, 1, false, 7, 9, 4, 4)
	check([]int{7, 9, 8}, 2, 4, 1, true)
	check([]int{7, 9, 8}, 1, 8, 2, true)
	check([]int{7, 9, 8}, 1, 1, 2, true)
	check([]int{7, 9, 8}, 3, 1, 1, false)
	check([]int{7, 9, 8}, -1, 1, 1, false)
	check([]int{7, 9, 8}, 0, 0, 1, false)
	check([]int{7, 9, 8}, 0, 7, 1, false)
	check(slices.Repeat([]int{2}, 7), 6, 1, 1, false, 2, 2, 2, 2, 2, 2, 1, 1)
	check(slices.Repeat([]int{2}, 8), 7, 1, 1, false)
}

// TestBreakStripsDown breaks one strip down to its squares, as far as lists go.
func TestBreakStripsDown(t *testing.T) {
	strips := []int{60}
	for len(strips) < 8 {
		behind, ok := impl.BreakStrip(strips, 0, 1, 1, true)
		last, isLast := impl.BreakStrip(strips, len(strips)-1, 1, 1, true)
		if ok != (strips[0] > 1) || !isLast || !slices.Equal(last, brokenStrip(strips, len(strips)-1, 1)) {
			t.Fatal(strips, behind, ok, last, isLast)
		}
		strips = last
	}
	if behind, ok := impl.BreakStrip(strips, 7, 1, 1, true); ok || len(behind) != 0 || !slices.Equal(strips, []int{1, 1, 1, 1, 1, 1, 1, 53}) {
		t.Error(strips, behind, ok)
	}
}
