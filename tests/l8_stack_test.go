package tests

import (
	"fmt"
	"maps"
	"math"
	"slices"
	"strings"
	"testing"

	"loop.example/g01377/impl"
)

func slab(weight, bears int) impl.Slab { return impl.Slab{Weight: weight, Bears: bears} }

// slabsOf reads slabs that are told as pairs of numbers.
func slabsOf(numbers ...int) []impl.Slab {
	var slabs []impl.Slab
	for pair := range slices.Chunk(numbers, 2) {
		slabs = append(slabs, slab(pair[0], pair[1]))
	}
	return slabs
}

var (
	everyWeights = slices.Concat(smallWeights(), greatWeights())
	everySlabs   = slices.Concat(smallSlabs(), greatSlabs())
)

// smallWeights has all weights of up to 4 bars of up to 4, and of 5 bars of up to 2.
func smallWeights() [][]int {
	var lists [][]int
	add := func(bars, most int) {
		for number := range int(math.Pow(float64(most), float64(bars))) {
			var weights []int
			for range bars {
				weights = append(weights, number%most+1)
				number /= most
			}
			lists = append(lists, weights)
		}
	}
	for bars := 1; bars <= 4; bars++ {
		add(bars, 4)
	}
	add(5, 2)
	return lists
}

// greatWeights has weights of all numbers of bars: drawn ones, such as are alike, in order, and against it, and the greatest ones.
func greatWeights() [][]int {
	z := drawn(3)
	lists := [][]int{{3, 1, 4, 2}, {1, 2, 4, 8, 16, 32, 64, 128, 256, 512}, {1000, 1, 1000, 1, 1000}, {1, 1000}, {1000, 1}, {1, 1000, 1, 1, 1000, 1}}
	for bars := 1; bars <= impl.MaxWeights; bars++ {
		lists = append(lists, slices.Repeat([]int{1}, bars), slices.Repeat([]int{1000}, bars))
		for _, most := range []int{3, 10, 100, 1000} {
			var weights []int
			for range bars {
				weights = append(weights, z.below(most)+1)
			}
			up := slices.Sorted(slices.Values(weights))
			down := slices.Clone(up)
			slices.Reverse(down)
			lists = append(lists, weights, up, down)
		}
	}
	return lists
}

// noWeights has lists that are no weights.
func noWeights() [][]int {
	lists := [][]int{nil, {}, slices.Repeat([]int{1}, 13), slices.Repeat([]int{1000}, 24), make([]int, 12), make([]int, 1000000), slices.Repeat([]int{1}, 1000000)}
	for _, no := range noUpTo(1000) {
		lists = append(lists, []int{no}, []int{no, 5}, []int{5, no}, []int{5, no, 5}, append(slices.Repeat([]int{5}, 11), no), append([]int{no}, slices.Repeat([]int{5}, 11)...))
	}
	return lists
}

// smallSlabs has all pairs and some threes of slabs with few numbers.
func smallSlabs() [][]impl.Slab {
	var some []impl.Slab
	for weight := 1; weight <= 3; weight++ {
		for bears := 1; bears <= 4; bears++ {
			some = append(some, slab(weight, bears))
		}
	}
	var lists [][]impl.Slab
	for i, a := range some {
		lists = append(lists, []impl.Slab{a})
		for k, b := range some {
			lists = append(lists, []impl.Slab{a, b}, []impl.Slab{a, b, some[(3*i+5*k)%12]}, []impl.Slab{a, b, a, some[(7*i+k)%12]})
		}
	}
	return lists
}

// greatSlabs has slabs of all numbers up to the limit: drawn ones, such as are alike, and such as bear all, or none.
func greatSlabs() [][]impl.Slab {
	z := drawn(11)
	lists := [][]impl.Slab{slabsOf(2, 5, 3, 2, 1, 9), slabsOf(1000, 1, 1, 1, 1, 2, 1, 3), slabsOf(1000, 1000), slabsOf(1000, 1000, 1000, 1000, 1000, 1000)}
	for many := 1; many <= impl.MaxSlabs; many++ {
		for _, alike := range slabsOf(1, 1000, 1000, 1, 1, 1, 5, 9, 5, 10) {
			lists = append(lists, slices.Repeat([]impl.Slab{alike}, many))
		}
		for _, most := range [][2]int{{3, 9}, {10, 20}, {9, 50}, {300, 1000}, {1000, 1000}} {
			var slabs []impl.Slab
			for range many {
				slabs = append(slabs, slab(z.below(most[0])+1, z.below(most[1])+1))
			}
			lists = append(lists, slabs)
		}
	}
	return lists
}

// noSlabs has lists that are no slabs.
func noSlabs() [][]impl.Slab {
	lists := [][]impl.Slab{nil, {}, {{}}, make([]impl.Slab, 7), slices.Repeat([]impl.Slab{slab(1, 9)}, 8), slices.Repeat([]impl.Slab{slab(1000, 1000)}, 14), make([]impl.Slab, 1000000), slices.Repeat([]impl.Slab{slab(1, 9)}, 1000000)}
	for _, no := range noUpTo(1000) {
		for _, bad := range slabsOf(no, 5, 5, no, no, no) {
			six := slices.Repeat([]impl.Slab{slab(5, 5)}, 6)
			lists = append(lists, []impl.Slab{bad}, []impl.Slab{bad, slab(5, 5)}, []impl.Slab{slab(5, 5), bad}, append(slices.Clone(six), bad), append([]impl.Slab{bad}, six...))
		}
	}
	return lists
}

func sum(numbers []int) int {
	all := 0
	for _, n := range numbers {
		all += n
	}
	return all
}

// chosen has the indices that a number tells by its bits, and what they weigh.
func chosen(bits int, weights []int) ([]int, int) {
	var list []int
	heavy := 0
	for i, weight := range weights {
		if bits>>i&1 == 1 {
			list = append(list, i)
			heavy += weight
		}
	}
	return list, heavy
}

func TestStackConstants(t *testing.T) {
	if impl.MaxWeights != 12 || impl.MaxWeight != 1000 || impl.MaxSlabs != 7 || impl.MaxBites != 1000000 {
		t.Error(impl.MaxWeights, impl.MaxWeight, impl.MaxSlabs, impl.MaxBites)
	}
}

// TestWeightExamples has the numbers of the chapter's example.
func TestWeightExamples(t *testing.T) {
	weights := []int{3, 1, 4, 2}
	if n, ok := impl.LeastDifference(weights); !ok || n != 0 {
		t.Error("LeastDifference", n, ok)
	}
	if half, ok := impl.FirstHalf(weights); !ok || !slices.Equal(half, []int{0, 3}) {
		t.Error("FirstHalf", half, ok)
	}
	if n, ok := impl.CountHalves(weights); !ok || n != 1 {
		t.Error("CountHalves", n, ok)
	}
	if sums, ok := impl.SumsReached(weights); !ok || !slices.Equal(sums, []int{0, 1, 2, 3, 4, 5, 6, 7, 8, 9, 10}) {
		t.Error("SumsReached", sums, ok)
	}
	if n, ok := impl.PoorestShare(weights, 3); !ok || n != 3 {
		t.Error("PoorestShare", n, ok)
	}
	if first, other, ok := impl.BestTake(weights); !ok || first != 7 || other != 3 {
		t.Error("BestTake", first, other, ok)
	}
	if s, ok := impl.FirstTakes(weights); !ok || s != "ffff" {
		t.Error("FirstTakes", s, ok)
	}
	if first, other, ok := impl.GreedyTake(weights); !ok || first != 7 || other != 3 {
		t.Error("GreedyTake", first, other, ok)
	}
}

// TestBiteAndSlabExamples has the other numbers of the chapter's example.
func TestBiteAndSlabExamples(t *testing.T) {
	if n, ok := impl.BitesToEat(10, 2); !ok || n != 4 {
		t.Error("BitesToEat", n, ok)
	}
	for bites, want := range []int{10, 5, 2, 1, 0} {
		if left, ok := impl.LeftAfterBites(10, 2, bites); !ok || left != want {
			t.Error("LeftAfterBites", bites, left, ok)
		}
	}
	slabs, ok := impl.ParseSlabs("2^5,3^2,1^9")
	if !ok || !slices.Equal(slabs, slabsOf(2, 5, 3, 2, 1, 9)) {
		t.Error("ParseSlabs", slabs, ok)
	}
	if s, ok := impl.SlabsText(slabs); !ok || s != "2^5,3^2,1^9" {
		t.Error("SlabsText", s, ok)
	}
	if stack, ok := impl.FirstStack(slabs); !ok || !slices.Equal(stack, []int{0, 1, 2}) {
		t.Error("FirstStack", stack, ok)
	}
	if n, ok := impl.MostStacked(slabs); !ok || n != 3 {
		t.Error("MostStacked", n, ok)
	}
	if n, ok := impl.HeaviestStack(slabs); !ok || n != 6 {
		t.Error("HeaviestStack", n, ok)
	}
	if n, ok := impl.CountStacks(slabs); !ok || n != 14 {
		t.Error("CountStacks", n, ok)
	}
}

func TestAreWeights(t *testing.T) {
	for _, weights := range everyWeights {
		if !impl.AreWeights(weights) {
			t.Error(weights)
		}
	}
	for _, weights := range noWeights() {
		if impl.AreWeights(weights) {
			t.Errorf("%.60v", weights)
		}
	}
	for _, weights := range [][]int{{1}, {1000}, {1, 1000}, slices.Repeat([]int{1}, 12), slices.Repeat([]int{1000}, 12)} {
		if !impl.AreWeights(weights) {
			t.Error(weights)
		}
	}
	for _, weights := range [][]int{{0}, {1001}, {1, 1001}, slices.Repeat([]int{1}, 13), slices.Repeat([]int{1000}, 13)} {
		if impl.AreWeights(weights) {
			t.Error(weights)
		}
	}
}

// TestSingleWeight has one bar: one half is empty, and the second player gets none.
func TestSingleWeight(t *testing.T) {
	for _, weight := range []int{1, 2, 7, 999, 1000} {
		weights := []int{weight}
		if n, ok := impl.LeastDifference(weights); !ok || n != weight {
			t.Error("LeastDifference", weight, n, ok)
		}
		if half, ok := impl.FirstHalf(weights); !ok || !slices.Equal(half, []int{0}) {
			t.Error("FirstHalf", weight, half, ok)
		}
		if n, ok := impl.CountHalves(weights); !ok || n != 1 {
			t.Error("CountHalves", weight, n, ok)
		}
		if sums, ok := impl.SumsReached(weights); !ok || !slices.Equal(sums, []int{0, weight}) {
			t.Error("SumsReached", weight, sums, ok)
		}
		for sharers, want := range map[int]int{1: weight, 2: 0, 3: 0, 4: 0} {
			if n, ok := impl.PoorestShare(weights, sharers); !ok || n != want {
				t.Error("PoorestShare", weight, sharers, n, ok)
			}
		}
		for name, take := range takesOf {
			if first, other, ok := take(weights); !ok || first != weight || other != 0 {
				t.Error(name, weight, first, other, ok)
			}
		}
		if s, ok := impl.FirstTakes(weights); !ok || s != "f" {
			t.Error("FirstTakes", weight, s, ok)
		}
	}
}

// TestHalvesDifferTheLeast looks at all halves, with the bar 0 and without it.
func TestHalvesDifferTheLeast(t *testing.T) {
	several := 0
	for _, weights := range everyWeights {
		least := math.MaxInt
		var halves [][]int
		for bits := range 1 << len(weights) {
			half, one := chosen(bits, weights)
			differ := max(one, sum(weights)-one) - min(one, sum(weights)-one)
			if differ < least {
				least, halves = differ, nil
			}
			if differ == least && slices.Contains(half, 0) {
				halves = append(halves, half)
			}
		}
		first := slices.MinFunc(halves, slices.Compare[[]int])
		if len(halves) > 1 {
			several++
		}
		if n, ok := impl.LeastDifference(weights); !ok || n != least {
			t.Error("LeastDifference", weights, n, ok, "not", least)
		}
		if half, ok := impl.FirstHalf(weights); !ok || !slices.Equal(half, first) {
			t.Error("FirstHalf", weights, half, ok, "not", first)
		}
		if n, ok := impl.CountHalves(weights); !ok || n != len(halves) {
			t.Error("CountHalves", weights, n, ok, "not", len(halves))
		}
	}
	if several < 100 {
		t.Error("too few with several halves", several)
	}
}

func TestHalvesByHand(t *testing.T) {
	for _, c := range []struct {
		weights []int
		least   int
		first   []int
		many    int
	}{
		{[]int{1, 1}, 0, []int{0}, 1}, {[]int{2, 1}, 1, []int{0}, 1}, {[]int{1, 2}, 1, []int{0}, 1}, {[]int{1, 1, 1}, 1, []int{0}, 3},
		{[]int{5, 5, 5, 5}, 0, []int{0, 1}, 3}, {[]int{1, 2, 4}, 1, []int{0, 1}, 1}, {[]int{4, 2, 1}, 1, []int{0}, 1}, {[]int{10, 1, 1}, 8, []int{0}, 1},
		{[]int{1, 1, 10}, 8, []int{0, 1}, 1}, {[]int{1, 10, 1}, 8, []int{0, 2}, 1}, {[]int{1000, 1}, 999, []int{0}, 1}, {[]int{3, 1, 1, 1}, 0, []int{0}, 1},
		{[]int{1, 2, 3}, 0, []int{0, 1}, 1}, {[]int{1, 2, 3, 4}, 0, []int{0, 3}, 1}, {[]int{2, 2, 3}, 1, []int{0, 1}, 1}, {[]int{2, 3, 2}, 1, []int{0, 2}, 1},
		{slices.Repeat([]int{1000}, 12), 0, []int{0, 1, 2, 3, 4, 5}, 462}, {slices.Repeat([]int{1000}, 11), 1000, []int{0, 1, 2, 3, 4}, 462},
		{[]int{1, 2, 4, 8, 16, 32, 64, 128, 256, 512}, 1, []int{0, 1, 2, 3, 4, 5, 6, 7, 8}, 1},
	} {
		if n, ok := impl.LeastDifference(c.weights); !ok || n != c.least {
			t.Error("LeastDifference", c.weights, n, ok)
		}
		if half, ok := impl.FirstHalf(c.weights); !ok || !slices.Equal(half, c.first) {
			t.Error("FirstHalf", c.weights, half, ok)
		}
		if n, ok := impl.CountHalves(c.weights); !ok || n != c.many {
			t.Error("CountHalves", c.weights, n, ok)
		}
	}
}

func TestSumsReached(t *testing.T) {
	for _, weights := range everyWeights {
		reached := map[int]bool{}
		for bits := range 1 << len(weights) {
			_, heavy := chosen(bits, weights)
			reached[heavy] = true
		}
		want := slices.Sorted(maps.Keys(reached))
		if sums, ok := impl.SumsReached(weights); !ok || !slices.Equal(sums, want) {
			t.Error(weights, sums, ok, "not", want)
		}
	}
	for _, c := range []struct{ weights, sums []int }{
		{[]int{1}, []int{0, 1}}, {[]int{5, 5}, []int{0, 5, 10}}, {[]int{7, 2}, []int{0, 2, 7, 9}}, {[]int{1000, 1000, 1}, []int{0, 1, 1000, 1001, 2000, 2001}},
	} {
		if sums, ok := impl.SumsReached(c.weights); !ok || !slices.Equal(sums, c.sums) {
			t.Error(c.weights, sums, ok)
		}
	}
	if sums, ok := impl.SumsReached([]int{1, 2, 4, 8, 16, 32, 64, 128, 256, 512, 1000, 1000}); !ok || len(sums) != 3024 || sums[0] != 0 || sums[3023] != 3023 {
		t.Error(len(sums), ok)
	}
}

// poorestByParting returns what the poorest of sharers can have of the bars that a number tells by its bits: one sharer takes some of them, the others have the rest.
func poorestByParting(weights []int, bits, sharers int, known map[[2]int]int) int {
	_, all := chosen(bits, weights)
	if sharers == 1 {
		return all
	}
	if most, ok := known[[2]int{bits, sharers}]; ok {
		return most
	}
	most := 0
	for taken := bits; ; taken = (taken - 1) & bits {
		if _, own := chosen(taken, weights); own > most {
			most = max(most, min(own, poorestByParting(weights, bits&^taken, sharers-1, known)))
		}
		if taken == 0 {
			break
		}
	}
	known[[2]int{bits, sharers}] = most
	return most
}

// poorestByGiving returns what the poorest of sharers can have by giving each bar to each one of them.
func poorestByGiving(weights []int, had []int) int {
	if len(weights) == 0 {
		return slices.Min(had)
	}
	most := 0
	for one := range had {
		has := slices.Clone(had)
		has[one] += weights[0]
		most = max(most, poorestByGiving(weights[1:], has))
	}
	return most
}

func TestPoorestShare(t *testing.T) {
	for _, weights := range everyWeights {
		for sharers := 1; sharers <= 4; sharers++ {
			var want int
			if len(weights) <= 6 {
				want = poorestByGiving(weights, make([]int, sharers))
			} else {
				want = poorestByParting(weights, 1<<len(weights)-1, sharers, map[[2]int]int{})
			}
			if n, ok := impl.PoorestShare(weights, sharers); !ok || n != want {
				t.Error(weights, sharers, n, ok, "not", want)
			}
		}
		// The lighter one of two halves is the poorer share of two.
		differ, fine := impl.LeastDifference(weights)
		if n, ok := impl.PoorestShare(weights, 2); !ok || !fine || 2*n+differ != sum(weights) {
			t.Error(weights, n, ok, differ, fine)
		}
	}
}

func TestPoorestShareByHand(t *testing.T) {
	for _, c := range []struct {
		weights []int
		poorest [4]int
	}{
		{[]int{3, 1, 4, 2}, [4]int{10, 5, 3, 1}}, {[]int{5, 5, 5, 5}, [4]int{20, 10, 5, 5}}, {[]int{1, 1}, [4]int{2, 1, 0, 0}}, {[]int{9, 2, 1}, [4]int{12, 3, 1, 0}},
		{[]int{7, 7, 7, 3, 3, 1}, [4]int{28, 14, 8, 7}}, {slices.Repeat([]int{1000}, 12), [4]int{12000, 6000, 4000, 3000}}, {slices.Repeat([]int{1}, 11), [4]int{11, 5, 3, 2}},
		{[]int{8, 7, 6, 5, 4}, [4]int{30, 15, 8, 6}}, {[]int{1000, 1, 1, 1}, [4]int{1003, 3, 1, 1}},
	} {
		for i, want := range c.poorest {
			if n, ok := impl.PoorestShare(c.weights, i+1); !ok || n != want {
				t.Error(c.weights, i+1, n, ok, "not", want)
			}
		}
	}
}

func TestSharersThatAreNone(t *testing.T) {
	for _, weights := range [][]int{{1}, {3, 1, 4, 2}, slices.Repeat([]int{1000}, 12)} {
		for _, sharers := range noUpTo(4) {
			if n, ok := impl.PoorestShare(weights, sharers); ok || n != 0 {
				t.Error(weights, sharers, n, ok)
			}
		}
	}
}

// takesOf has the functions that tell what both players have.
var takesOf = map[string]func([]int) (int, int, bool){"BestTake": impl.BestTake, "GreedyTake": impl.GreedyTake}

// lead returns by how much the one who is to take can have more than the other one in the end, by all takes.
func lead(left []int, known map[[2]int]int, from int) int {
	if len(left) == 0 {
		return 0
	}
	key := [2]int{from, len(left)}
	if _, ok := known[key]; !ok {
		end := len(left) - 1
		known[key] = max(left[0]-lead(left[1:], known, from+1), left[end]-lead(left[:end], known, from))
	}
	return known[key]
}

// replay returns what both players have behind takes, or false if these are none of all bars.
func replay(weights []int, takes string) ([2]int, bool) {
	var had [2]int
	left := weights
	for i, sign := range takes {
		if len(left) == 0 {
			return had, false
		}
		switch sign {
		case 'f':
			had[i%2] += left[0]
			left = left[1:]
		case 'l':
			had[i%2] += left[len(left)-1]
			left = left[:len(left)-1]
		default:
			return had, false
		}
	}
	return had, len(left) == 0
}

// takenBy returns the game in which it is told, of each list left, whether the last bar is taken.
func takenBy(weights []int, isLast func(left []int, from int) bool) string {
	s := ""
	for from, left := 0, weights; len(left) > 0; {
		if isLast(left, from) {
			s, left = s+"l", left[:len(left)-1]
		} else {
			s, from, left = s+"f", from+1, left[1:]
		}
	}
	return s
}

func TestBestTakes(t *testing.T) {
	ties, lasts := 0, 0
	for _, weights := range everyWeights {
		known := map[[2]int]int{}
		want := takenBy(weights, func(left []int, from int) bool {
			end := len(left) - 1
			first, last := left[0]-lead(left[1:], known, from+1), left[end]-lead(left[:end], known, from)
			if first == last && end > 0 {
				ties++
			}
			return last > first
		})
		lasts += strings.Count(want, "l")
		takes, ok := impl.FirstTakes(weights)
		if !ok || takes != want {
			t.Error("FirstTakes", weights, takes, ok, "not", want)
		}
		had, whole := replay(weights, takes)
		if first, other, ok := impl.BestTake(weights); !ok || !whole || [2]int{first, other} != had || first-other != lead(weights, known, 0) {
			t.Error("BestTake", weights, first, other, ok, had, whole)
		}
	}
	if ties < 500 || lasts < 300 {
		t.Error("too few are looked at", ties, lasts)
	}
}

// TestNoOtherFirstTakesAreBetter holds what the first player has against each way to play when the other one plays best.
func TestNoOtherFirstTakesAreBetter(t *testing.T) {
	for _, weights := range smallWeights() {
		best, _, ok := impl.BestTake(weights)
		if !ok {
			t.Fatal(weights)
		}
		for bits := range 1 << len(weights) {
			turn := -1
			s := takenBy(weights, func(left []int, _ int) bool {
				turn++
				if turn%2 == 0 {
					return bits>>turn&1 == 1
				}
				takes, _ := impl.FirstTakes(left)
				return takes[0] == 'l'
			})
			if had, whole := replay(weights, s); !whole || had[0] > best {
				t.Fatal(weights, s, had, "better than", best)
			}
		}
	}
}

func TestGreedyTake(t *testing.T) {
	differ := 0
	for _, weights := range everyWeights {
		want, whole := replay(weights, takenBy(weights, func(left []int, _ int) bool { return left[len(left)-1] > left[0] }))
		first, other, ok := impl.GreedyTake(weights)
		if !ok || !whole || [2]int{first, other} != want {
			t.Error(weights, first, other, ok, "not", want)
		}
		if best, _, _ := impl.BestTake(weights); best != first {
			differ++
		}
	}
	if differ < 30 {
		t.Error("too few are looked at", differ)
	}
}

func TestTakesByHand(t *testing.T) {
	for _, c := range []struct {
		weights      []int
		best, greedy [2]int
		takes        string
	}{
		{[]int{1, 2}, [2]int{2, 1}, [2]int{2, 1}, "lf"}, {[]int{2, 1}, [2]int{2, 1}, [2]int{2, 1}, "ff"},
		// Both ends are alike, or as good.
		{[]int{2, 2}, [2]int{2, 2}, [2]int{2, 2}, "ff"}, {[]int{1, 9, 1}, [2]int{2, 9}, [2]int{2, 9}, "fff"}, {[]int{1, 9, 2}, [2]int{3, 9}, [2]int{3, 9}, "fff"},
		// Greed does not pay.
		{[]int{3, 9, 1, 2}, [2]int{11, 4}, [2]int{5, 10}, "lfff"},
		{[]int{2, 1, 9, 3}, [2]int{11, 4}, [2]int{5, 10}, "ffff"},
		// Of ends that are alike, the last one may be better.
		{[]int{4, 7, 1, 4}, [2]int{11, 5}, [2]int{8, 8}, "lfff"},
		{slices.Repeat([]int{1000}, 12), [2]int{6000, 6000}, [2]int{6000, 6000}, "ffffffffffff"},
		{slices.Repeat([]int{1000}, 11), [2]int{6000, 5000}, [2]int{6000, 5000}, "fffffffffff"},
	} {
		if first, other, ok := impl.BestTake(c.weights); !ok || [2]int{first, other} != c.best {
			t.Error("BestTake", c.weights, first, other, ok)
		}
		if first, other, ok := impl.GreedyTake(c.weights); !ok || [2]int{first, other} != c.greedy {
			t.Error("GreedyTake", c.weights, first, other, ok)
		}
		if s, ok := impl.FirstTakes(c.weights); !ok || s != c.takes {
			t.Error("FirstTakes", c.weights, s, ok)
		}
	}
}

// leftEach has what is left at first, and behind each bite until nothing is.
func leftEach(weight, part int) []int {
	each := []int{weight}
	for weight > 0 {
		taken := weight / part
		if taken*part < weight {
			taken++
		}
		weight -= taken
		each = append(each, weight)
	}
	return each
}

func TestBites(t *testing.T) {
	check := func(weight, part int) {
		each := leftEach(weight, part)
		if n, ok := impl.BitesToEat(weight, part); !ok || n != len(each)-1 {
			t.Error("BitesToEat", weight, part, n, ok, "not", len(each)-1)
		}
		for bites, want := range each {
			if left, ok := impl.LeftAfterBites(weight, part, bites); !ok || left != want {
				t.Error("LeftAfterBites", weight, part, bites, left, ok, "not", want)
			}
		}
		for _, bites := range []int{len(each), len(each) + 1, 999999, 1000000} {
			if left, ok := impl.LeftAfterBites(weight, part, bites); !ok || left != 0 {
				t.Error("LeftAfterBites", weight, part, bites, left, ok)
			}
		}
	}
	for part := 2; part <= 100; part++ {
		for weight := 1; weight <= 210; weight++ {
			check(weight, part)
		}
	}
	for _, part := range []int{2, 3, 7, 99, 100} {
		for _, weight := range []int{1000, 1001, 65536, 999999, 1000000} {
			check(weight, part)
		}
	}
}

func TestBitesByHand(t *testing.T) {
	for _, c := range []struct{ weight, part, bites int }{
		{1, 2, 1}, {1, 100, 1}, {2, 2, 2}, {3, 3, 3}, {7, 3, 4}, {100, 100, 100}, {101, 100, 100}, {200, 100, 150}, {1000000, 2, 20}, {524288, 2, 20}, {524287, 2, 19},
	} {
		if n, ok := impl.BitesToEat(c.weight, c.part); !ok || n != c.bites {
			t.Error(c, n, ok)
		}
	}
	for _, c := range []struct{ weight, part, bites, left int }{
		{1, 2, 0, 1}, {1, 100, 0, 1}, {1, 2, 1, 0}, {1, 2, 1000000, 0}, {1000000, 2, 0, 1000000}, {1000000, 2, 1, 500000}, {1000000, 100, 1, 990000}, {1000000, 100, 2, 980100},
		{1000000, 100, 3, 970299}, {1000000, 100, 4, 960596}, {1000000, 100, 1000000, 0}, {7, 3, 1, 4}, {7, 3, 2, 2}, {7, 3, 3, 1}, {7, 3, 4, 0}, {101, 100, 1, 99}, {100, 100, 99, 1},
	} {
		if left, ok := impl.LeftAfterBites(c.weight, c.part, c.bites); !ok || left != c.left {
			t.Error(c, left, ok)
		}
	}
}

func TestBitesThatAreNone(t *testing.T) {
	check := func(weight, part, bites int) {
		t.Helper()
		if left, ok := impl.LeftAfterBites(weight, part, bites); ok || left != 0 {
			t.Error("LeftAfterBites", weight, part, bites, left, ok)
		}
	}
	for _, weight := range noUpTo(1000000) {
		for _, part := range []int{1, 2, 10, 100, 101} {
			if n, ok := impl.BitesToEat(weight, part); ok || n != 0 {
				t.Error("BitesToEat", weight, part, n, ok)
			}
			check(weight, part, 0)
			check(weight, part, 1000000)
		}
	}
	for _, part := range append(noUpTo(100), 1) {
		for _, weight := range []int{1, 2, 10, 1000000} {
			if n, ok := impl.BitesToEat(weight, part); ok || n != 0 {
				t.Error("BitesToEat", weight, part, n, ok)
			}
			check(weight, part, 0)
			check(weight, part, 1)
		}
	}
	for _, bites := range noUpTo(1000000) {
		if bites == 0 {
			continue
		}
		for _, weight := range []int{1, 10, 1000000} {
			check(weight, 2, bites)
			check(weight, 100, bites)
		}
	}
}

func TestAreSlabs(t *testing.T) {
	for _, slabs := range everySlabs {
		if !impl.AreSlabs(slabs) {
			t.Error(slabs)
		}
	}
	for _, slabs := range noSlabs() {
		if impl.AreSlabs(slabs) {
			t.Errorf("%.60v", slabs)
		}
	}
	for _, slabs := range [][]impl.Slab{slabsOf(1, 1), slabsOf(1000, 1000), slabsOf(1, 1000, 1000, 1), slices.Repeat(slabsOf(1000, 1000), 7)} {
		if !impl.AreSlabs(slabs) {
			t.Error(slabs)
		}
	}
	for _, slabs := range [][]impl.Slab{slabsOf(1, 0), slabsOf(0, 1), slabsOf(1000, 1001), slabsOf(1001, 1000), slabsOf(1, 1000, 1, 1001), slices.Repeat(slabsOf(1, 1), 8)} {
		if impl.AreSlabs(slabs) {
			t.Error(slabs)
		}
	}
}

// bearsAll reports by the words of the chapter whether a list of any numbers is a stack.
func bearsAll(slabs []impl.Slab, order []int) bool {
	for low, index := range order {
		if index < 0 || index >= len(slabs) || slices.Index(order, index) != low {
			return false
		}
	}
	for low, index := range order {
		above := 0
		for _, higher := range order[low+1:] {
			above += slabs[higher].Weight
		}
		if above > slabs[index].Bears {
			return false
		}
	}
	return true
}

// allOrders has all lists of different numbers below many, in order.
func allOrders(many int, begin []int) [][]int {
	lists := [][]int{begin}
	for next := range many {
		if !slices.Contains(begin, next) {
			lists = append(lists, allOrders(many, append(slices.Clone(begin), next))...)
		}
	}
	return lists
}

// TestStacksBearWhatIsAbove looks at all orders of slabs.
func TestStacksBearWhatIsAbove(t *testing.T) {
	several := 0
	for _, slabs := range everySlabs {
		var stacks [][]int
		heaviest := 0
		for _, order := range allOrders(len(slabs), nil) {
			bears := bearsAll(slabs, order)
			if is, ok := impl.IsStack(slabs, order); !ok || is != bears {
				t.Fatal("IsStack", slabs, order, is, ok)
			}
			if !bears {
				continue
			}
			stacks = append(stacks, order)
			heavy := 0
			for _, index := range order {
				heavy += slabs[index].Weight
			}
			heaviest = max(heaviest, heavy)
		}
		if checkStacks(t, slabs, stacks) > 1 {
			several++
		}
		if n, ok := impl.HeaviestStack(slabs); !ok || n != heaviest {
			t.Error("HeaviestStack", slabs, n, ok, "not", heaviest)
		}
	}
	if several < 100 {
		t.Error("too few with several stacks", several)
	}
}

// checkStacks holds what is told against all stacks, and returns how many of them have the most slabs.
func checkStacks(t *testing.T, slabs []impl.Slab, stacks [][]int) int {
	t.Helper()
	most := 0
	var highest [][]int
	for _, stack := range stacks {
		if len(stack) > most {
			most, highest = len(stack), nil
		}
		if len(stack) == most {
			highest = append(highest, stack)
		}
	}
	first := slices.MinFunc(highest, slices.Compare[[]int])
	if n, ok := impl.MostStacked(slabs); !ok || n != most {
		t.Error("MostStacked", slabs, n, ok, "not", most)
	}
	if stack, ok := impl.FirstStack(slabs); !ok || !slices.Equal(stack, first) {
		t.Error("FirstStack", slabs, stack, ok, "not", first)
	}
	if n, ok := impl.CountStacks(slabs); !ok || n != len(stacks) {
		t.Error("CountStacks", slabs, n, ok, "not", len(stacks))
	}
	return len(highest)
}

func TestStacksOfSlabsByHand(t *testing.T) {
	for _, c := range []struct {
		slabs           []impl.Slab
		first           []int
		heaviest, count int
	}{
		{slabsOf(5, 4), []int{0}, 5, 2}, {slabsOf(1, 1), []int{0}, 1, 2}, {slabsOf(1000, 1000), []int{0}, 1000, 2},
		// Slabs that are alike bear one another, or not.
		{slabsOf(5, 4, 5, 4), []int{0}, 5, 3}, {slabsOf(5, 5, 5, 5), []int{0, 1}, 10, 5}, {slabsOf(5, 9, 5, 9, 5, 9), []int{0, 1}, 10, 10}, {slabsOf(5, 10, 5, 10, 5, 10), []int{0, 1, 2}, 15, 16},
		{slabsOf(9, 1, 1, 1, 1, 1), []int{0, 1}, 10, 8}, {slabsOf(10, 1, 2, 3, 1, 2), []int{0, 2}, 11, 7}, {slabsOf(1, 2, 2, 1), []int{0, 1}, 3, 5}, {slabsOf(2, 1, 1, 2), []int{0, 1}, 3, 5},
		{slabsOf(2, 1, 3, 2), []int{1, 0}, 5, 4},
		// The heaviest stack has fewer slabs than the highest one.
		{slabsOf(1000, 1, 1, 1, 1, 2, 1, 3), []int{2, 1, 3}, 1001, 18},
		{slices.Repeat(slabsOf(1, 1000), 7), []int{0, 1, 2, 3, 4, 5, 6}, 7, 13700}, {slices.Repeat(slabsOf(1000, 1), 7), []int{0}, 1000, 8}, {slices.Repeat(slabsOf(1000, 1000), 7), []int{0, 1}, 2000, 50},
		{slices.Repeat(slabsOf(166, 996), 7), []int{0, 1, 2, 3, 4, 5, 6}, 1162, 13700}, {slices.Repeat(slabsOf(166, 995), 7), []int{0, 1, 2, 3, 4, 5}, 996, 8660},
	} {
		if n, ok := impl.MostStacked(c.slabs); !ok || n != len(c.first) {
			t.Error("MostStacked", c.slabs, n, ok)
		}
		if stack, ok := impl.FirstStack(c.slabs); !ok || !slices.Equal(stack, c.first) {
			t.Error("FirstStack", c.slabs, stack, ok)
		}
		if n, ok := impl.HeaviestStack(c.slabs); !ok || n != c.heaviest {
			t.Error("HeaviestStack", c.slabs, n, ok)
		}
		if n, ok := impl.CountStacks(c.slabs); !ok || n != c.count {
			t.Error("CountStacks", c.slabs, n, ok)
		}
	}
}

// TestIsStackOfAnyNumbers has all lists of numbers that tell slabs, or just none.
func TestIsStackOfAnyNumbers(t *testing.T) {
	numbers := []int{-1, 0, 1, 2, 3}
	lists := [][]int{nil}
	for begin := 0; begin < len(lists); begin++ {
		if len(lists[begin]) < 4 {
			for _, n := range numbers {
				lists = append(lists, append(slices.Clone(lists[begin]), n))
			}
		}
	}
	for _, slabs := range [][]impl.Slab{slabsOf(1, 1), slabsOf(2, 5, 3, 2), slabsOf(2, 5, 3, 2, 1, 9), slabsOf(1, 9, 1, 9, 1, 9), slabsOf(5, 1, 5, 1, 5, 1)} {
		for _, order := range lists {
			if is, ok := impl.IsStack(slabs, order); !ok || is != bearsAll(slabs, order) {
				t.Error(slabs, order, is, ok)
			}
		}
	}
}

func TestIsStackByHand(t *testing.T) {
	slabs := slabsOf(2, 5, 3, 2, 1, 9)
	for _, order := range [][]int{nil, {}, {0}, {1}, {2}, {0, 1}, {1, 0}, {0, 1, 2}, {0, 2, 1}, {2, 0, 1}, {2, 1, 0}} {
		if is, ok := impl.IsStack(slabs, order); !ok || !is {
			t.Error(order, is, ok)
		}
	}
	long := slices.Repeat([]int{0, 1, 2}, 300000)
	for _, order := range [][]int{
		{1, 0, 2}, {1, 2, 0}, {0, 0}, {1, 1}, {2, 2}, {0, 1, 0}, {0, 1, 2, 0}, {3}, {-1}, {0, 3}, {3, 0}, {0, -1}, {2, 0, 1, 3}, {-1, 2, 0, 1}, {math.MinInt}, {math.MaxInt}, {1 << 32}, {1 << 32, 0},
		{0, 1, 2, 3, 4, 5, 6, 7}, long, make([]int, 1000000), slices.Repeat([]int{math.MaxInt}, 1000000),
	} {
		if is, ok := impl.IsStack(slabs, order); !ok || is {
			t.Errorf("%.60v %v %v", order, is, ok)
		}
	}
	for _, slabs := range noSlabs() {
		for _, order := range [][]int{nil, {0}, {0, 1}} {
			if is, ok := impl.IsStack(slabs, order); ok || is {
				t.Errorf("%.60v %v %v %v", slabs, order, is, ok)
			}
		}
	}
}

func TestSlabsTexts(t *testing.T) {
	for _, slabs := range everySlabs {
		want := ""
		for _, s := range slabs {
			want += fmt.Sprintf(",%d^%d", s.Weight, s.Bears)
		}
		want = want[1:]
		if s, ok := impl.SlabsText(slabs); !ok || s != want {
			t.Error(slabs, s, ok)
		}
		if parsed, ok := impl.ParseSlabs(want); !ok || !slices.Equal(parsed, slabs) {
			t.Error(want, parsed, ok)
		}
	}
	for text, want := range map[string][]impl.Slab{
		"1^1": slabsOf(1, 1), "1000^1000": slabsOf(1000, 1000), "10^1,1^10": slabsOf(10, 1, 1, 10), strings.Repeat("1000^1000,", 6) + "1000^1000": slices.Repeat(slabsOf(1000, 1000), 7),
	} {
		if parsed, ok := impl.ParseSlabs(text); !ok || !slices.Equal(parsed, want) {
			t.Error(text, parsed, ok)
		}
		if s, ok := impl.SlabsText(want); !ok || s != text {
			t.Error(want, s, ok)
		}
	}
	for _, slabs := range noSlabs() {
		if s, ok := impl.SlabsText(slabs); ok || s != "" {
			t.Errorf("%.60v %q %v", slabs, s, ok)
		}
	}
}

func TestTextsThatAreNoSlabs(t *testing.T) {
	seven := strings.Repeat("2^5,", 6) + "2^5"
	bad := []string{
		"", ",", "^", "^,^", ",,", "2", "2^", "^5", "2,5", "2^5,", ",2^5", "2^5,,3^2", "2^5,3", "2^5,3^", "2^5,^2", "2^^5", "2^5^", "^2^5", "2^5^1", "2^5^3^2", "2^5,3^2,", ",2^5,3^2",
		seven + ",2^5", seven + ",", "," + seven, seven + "^", seven + "0000", seven + ",2^5,2^5",
		"0^5", "2^0", "0^0", "1001^5", "2^1001", "1000^1001", "1001^1000", "02^5", "2^05", "002^5", "2^5,03^2", "00^5", "01000^5", "+2^5", "2^+5", "-2^5", "2^-5", "-0^5", "2^5,+3^2",
		" 2^5", "2^5 ", "2 ^5", "2^ 5", "2^5, 3^2", "2^5 ,3^2", "2^5\n", "\n2^5", "2^5\x00", "\x002^5", "2\t^5", "2*5", "2x5", "2.5", "2-5", "2^5;3^2", "2^5.3^2", "2^5/3^2", "2^5 3^2", "2:5",
		"a^5", "2^a", "A^5", "0x2^5", "2^0x5", "1e2^5", "1_0^5", "2^1_0", "2.0^5", "2^5.0", "\uff12^5", "2^\u0665", "2\u02c65", "\xff", "2^5\xff", "2\u20605", "NaN^5", "Inf^5",
		"18446744073709551618^5", "2^18446744073709551621", "4294967298^5", "2^4294967301", "99999999999999999999999^5", "9223372036854775808^5", "-9223372036854775808^5",
	}
	for _, s := range bad {
		if slabs, ok := impl.ParseSlabs(s); ok || len(slabs) != 0 {
			t.Errorf("%q %v %v", s, slabs, ok)
		}
	}
}
