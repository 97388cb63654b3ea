package tests

import (
	"fmt"
	"math"
	"slices"
	"strconv"
	"testing"

	"loop.example/g01377/impl"
)

func box(long, broad, tall int) impl.Box {
	return impl.Box{Long: long, Broad: broad, Tall: tall}
}

// allBoxes has all boxes in order.
func allBoxes() []impl.Box {
	var boxes []impl.Box
	for long := 1; long <= 60; long++ {
		for broad := 1; broad <= long; broad++ {
			for tall := 1; tall <= broad; tall++ {
				boxes = append(boxes, box(long, broad, tall))
			}
		}
	}
	return boxes
}

// noEdges has numbers that are no sides of boxes.
func noEdges() []int {
	return []int{math.MinInt, math.MinInt + 1, -60, -1, 0, 61, 62, 120, 500, 1<<32 + 2, math.MaxInt - 1, math.MaxInt}
}

// noBoxes has what is no box, by one number that is no side, or by the order of the sides.
func noBoxes() []impl.Box {
	boxes := []impl.Box{box(0, 0, 0), box(61, 61, 61), box(-2, -2, -3), box(1, 2, 3), box(1, 1, 2), box(1, 2, 1), box(2, 1, 2), box(2, 2, 3), box(2, 3, 2), box(3, 1, 2), box(59, 60, 1), box(60, 59, 60)}
	for _, no := range noEdges() {
		boxes = append(boxes, box(no, 1, 1), box(3, no, 1), box(3, 2, no), box(no, no, 2), box(no, no, no), box(60, 60, no))
	}
	return boxes
}

// facesOf returns the areas of all six faces of a box together.
func facesOf(b impl.Box) int {
	area := 0
	for _, face := range [][2]int{{b.Long, b.Broad}, {b.Long, b.Tall}, {b.Broad, b.Tall}} {
		area += face[0]*face[1] + face[0]*face[1]
	}
	return area
}

// outerSides builds a box of small bars and counts their sides that no other one hides.
func outerSides(b impl.Box) int {
	inside := func(at, long int) bool { return at >= 0 && at < long }
	count := 0
	for x := range b.Long {
		for y := range b.Broad {
			for z := range b.Tall {
				for _, d := range [][3]int{{1, 0, 0}, {-1, 0, 0}, {0, 1, 0}, {0, -1, 0}, {0, 0, 1}, {0, 0, -1}} {
					if !inside(x+d[0], b.Long) || !inside(y+d[1], b.Broad) || !inside(z+d[2], b.Tall) {
						count++
					}
				}
			}
		}
	}
	return count
}

// boxesBy has, for each number of a box, all boxes with it, in order.
func boxesBy(number func(impl.Box) int) map[int][]impl.Box {
	by := map[int][]impl.Box{}
	for _, b := range allBoxes() {
		by[number(b)] = append(by[number(b)], b)
	}
	return by
}

func barsIn(b impl.Box) int { return b.Long * b.Broad * b.Tall }

// firstWithLeast returns the first of boxes with the least paper, and this: zeros if there are no boxes.
func firstWithLeast(boxes []impl.Box) (impl.Box, int) {
	best, least := box(0, 0, 0), 0
	for i, b := range boxes {
		if i == 0 || facesOf(b) < least {
			best, least = b, facesOf(b)
		}
	}
	return best, least
}

func TestWrapConstants(t *testing.T) {
	if impl.MaxEdge != 60 || impl.MaxStacked != 500 || impl.MaxBundled != 60 || impl.MaxNested != 10 {
		t.Error("a limit of chapter 5 is not that of the document")
	}
}

// TestBoxExamples has the numbers of the document's example of boxes.
func TestBoxExamples(t *testing.T) {
	var texts []string
	boxes, ok := impl.BoxesOf(12)
	for _, b := range boxes {
		s, _ := impl.BoxText(b)
		texts = append(texts, s)
	}
	if !ok || !slices.Equal(texts, []string{"3*2*2", "4*3*1", "6*2*1", "12*1*1"}) {
		t.Error("BoxesOf 12", texts, ok)
	}
	if b, n, ok := impl.BestBox(12); !ok || b != box(3, 2, 2) || n != 32 {
		t.Error("BestBox of 12", b, n, ok)
	}
	if n, ok := impl.PaperOf(box(4, 3, 1)); !ok || n != 38 {
		t.Error("PaperOf 4*3*1", n, ok)
	}
	if n, ok := impl.PaperSaved(12); !ok || n != 40 {
		t.Error("PaperSaved of 12", n, ok)
	}
	if n, ok := impl.RibbonOf(box(3, 2, 2), 5); !ok || n != 23 {
		t.Error("RibbonOf 3*2*2", n, ok)
	}
	if is, ok := impl.FitsInto(box(2, 1, 1), box(3, 2, 2)); !ok || !is {
		t.Error("FitsInto", is, ok)
	}
	if wide, high, ok := impl.SheetFor(box(3, 2, 2), 1); !ok || wide != 7 || high != 9 {
		t.Error("SheetFor", wide, high, ok)
	}
	if boxes, ok := impl.BoxesByPaper(22); !ok || !slices.Equal(boxes, []impl.Box{box(3, 2, 1), box(5, 1, 1)}) {
		t.Error("BoxesByPaper 22", boxes, ok)
	}
}

// TestBundleExamples has the numbers of the document's example of bundles.
func TestBundleExamples(t *testing.T) {
	if n, ok := impl.LeastPaper(7, 4, 1); !ok || n != 32 {
		t.Error("LeastPaper of 7", n, ok)
	}
	if bundles, ok := impl.FirstBundles(7, 4, 1); !ok || !slices.Equal(bundles, []int{3, 4}) {
		t.Error("FirstBundles of 7", bundles, ok)
	}
	for bundle, want := range map[int]int{3: 15, 4: 17} {
		if n, ok := impl.PaperOfBundles([]int{bundle}, 1); !ok || n != want {
			t.Error("PaperOfBundles", bundle, n, ok)
		}
	}
	if n, ok := impl.PaperOfBundles([]int{3, 4}, 1); !ok || n != 32 {
		t.Error("PaperOfBundles of both", n, ok)
	}
}

// TestSmallBar has the box of a single small bar.
func TestSmallBar(t *testing.T) {
	one := box(1, 1, 1)
	told := boxCalls(one, 0, 1, 1)
	if want := []string{show(true), show(1, true), show(6, true), show(8, true), show(3, 4, true), show(false, true), show("1*1*1", true)}; !slices.Equal(told, want) {
		t.Errorf("%q not %q", told, want)
	}
	told = stackCalls(1, leaveBoxes)
	if want := []string{show([]impl.Box{one}, true), show(1, true), show(one, 6, true), show(0, true), show(one, true)}; !slices.Equal(told, want) {
		t.Errorf("%q not %q", told, want)
	}
	for _, most := range []int{1, 2, 60} {
		told = bundleCalls(1, most, 0, leaveNumbers)
		if want := []string{show(6, true), show([]int{1}, true)}; !slices.Equal(told, want) {
			t.Errorf("%d %q not %q", most, told, want)
		}
	}
	if boxes, ok := impl.BoxesByPaper(6); !ok || !slices.Equal(boxes, []impl.Box{one}) {
		t.Error("BoxesByPaper", boxes, ok)
	}
	if row, ok := impl.LongestNest([]impl.Box{one}); !ok || !slices.Equal(row, []int{0}) {
		t.Error("LongestNest", row, ok)
	}
	if b, ok := impl.ParseBox("1*1*1"); !ok || b != one {
		t.Error("ParseBox", b, ok)
	}
	if n, ok := impl.PaperOfBundles([]int{1}, 60); !ok || n != 66 {
		t.Error("PaperOfBundles", n, ok)
	}
}

func TestIsBox(t *testing.T) {
	known := map[impl.Box]bool{}
	for _, b := range allBoxes() {
		known[b] = true
	}
	for long := -1; long <= 62; long++ {
		for broad := -1; broad <= 62; broad++ {
			for tall := -1; tall <= 62; tall++ {
				if b := box(long, broad, tall); impl.IsBox(b) != known[b] {
					t.Error(b, !known[b])
				}
			}
		}
	}
	for _, b := range noBoxes() {
		if impl.IsBox(b) {
			t.Error(b)
		}
	}
}

func TestVolumeAndPaper(t *testing.T) {
	for _, b := range allBoxes() {
		if n, ok := impl.VolumeOf(b); !ok || n != barsIn(b) {
			t.Error("VolumeOf", b, n, ok)
		}
		n, ok := impl.PaperOf(b)
		if !ok || n != facesOf(b) {
			t.Error("PaperOf", b, n, ok)
		}
		if b.Long <= 7 && n != outerSides(b) {
			t.Error("not as built", b, n)
		}
	}
	for b, want := range map[impl.Box][2]int{
		box(2, 1, 1): {2, 10}, box(2, 2, 2): {8, 24}, box(60, 1, 1): {60, 242}, box(60, 60, 1): {3600, 7440}, box(60, 60, 60): {216000, 21600},
	} {
		volume, _ := impl.VolumeOf(b)
		paper, _ := impl.PaperOf(b)
		if volume != want[0] || paper != want[1] {
			t.Error(b, volume, paper)
		}
	}
}

func TestRibbonOf(t *testing.T) {
	bows := append(noEdges(), 1, 5, 59, 60)
	for _, b := range allBoxes() {
		around := b.Long + b.Tall + b.Long + b.Tall + b.Broad + b.Tall + b.Broad + b.Tall
		for _, bow := range bows {
			want, may := 0, bow >= 0 && bow <= 60
			if may {
				want = around + bow
			}
			if n, ok := impl.RibbonOf(b, bow); ok != may || n != want {
				t.Error(b, bow, n, ok)
			}
		}
	}
	if n, ok := impl.RibbonOf(box(7, 5, 2), 0); !ok || n != 32 {
		t.Error("without a bow", n, ok)
	}
	if n, ok := impl.RibbonOf(box(60, 60, 60), 60); !ok || n != 540 {
		t.Error("greatest", n, ok)
	}
}

// stacked has what is to be told of a number of small bars; Tall of a box is 0 if there is none.
type stacked struct {
	boxes []impl.Box
	best  impl.Box
	paper int
	flat  impl.Box
}

func checkStack(t *testing.T, bars int, want stacked) {
	t.Helper()
	if boxes, ok := impl.BoxesOf(bars); !ok || !slices.Equal(boxes, want.boxes) {
		t.Error("BoxesOf", bars, boxes, ok)
	}
	if n, ok := impl.CountBoxes(bars); !ok || n != len(want.boxes) {
		t.Error("CountBoxes", bars, n, ok)
	}
	found, saved := want.best.Tall > 0, 0
	if found {
		saved = 6*bars - want.paper
	}
	if b, n, ok := impl.BestBox(bars); ok != found || b != want.best || n != want.paper {
		t.Error("BestBox", bars, b, n, ok)
	}
	if n, ok := impl.PaperSaved(bars); ok != found || n != saved {
		t.Error("PaperSaved", bars, n, ok)
	}
	if b, ok := impl.FlatBox(bars); ok != (want.flat.Tall > 0) || b != want.flat {
		t.Error("FlatBox", bars, b, ok)
	}
}

// TestStacks holds all numbers of small bars against all boxes.
func TestStacks(t *testing.T) {
	by := boxesBy(barsIn)
	none := 0
	for bars := 1; bars <= 500; bars++ {
		want := stacked{boxes: by[bars]}
		want.best, want.paper = firstWithLeast(want.boxes)
		want.flat, _ = firstWithLeast(slices.DeleteFunc(slices.Clone(want.boxes), func(b impl.Box) bool { return b.Tall != 1 }))
		checkStack(t, bars, want)
		if len(want.boxes) == 0 {
			none++
		}
	}
	if none == 0 || none == 500 {
		t.Error(none, "numbers fill no box")
	}
}

// TestBestBoxHasLeastPaper asks the program alone: no box that it tells of has less paper than the best.
func TestBestBoxHasLeastPaper(t *testing.T) {
	for bars := 1; bars <= 500; bars++ {
		boxes, _ := impl.BoxesOf(bars)
		best, least, ok := impl.BestBox(bars)
		if ok != (len(boxes) > 0) {
			t.Error("there are boxes, but none is the best, or the other way", bars)
		}
		for i, b := range boxes {
			volume, _ := impl.VolumeOf(b)
			paper, fine := impl.PaperOf(b)
			if volume != bars || !fine || paper < least || paper == least && slices.Index(boxes, best) > i {
				t.Error(bars, b, volume, paper, "but", best, least)
			}
		}
	}
}

func TestStacksByHand(t *testing.T) {
	check := func(bars int, best impl.Box, paper int, flat impl.Box, boxes ...impl.Box) {
		t.Helper()
		checkStack(t, bars, stacked{boxes, best, paper, flat})
	}
	zero := box(0, 0, 0)
	check(2, box(2, 1, 1), 10, box(2, 1, 1), box(2, 1, 1))
	check(8, box(2, 2, 2), 24, box(4, 2, 1), box(2, 2, 2), box(4, 2, 1), box(8, 1, 1))
	check(60, box(5, 4, 3), 94, box(10, 6, 1),
		box(5, 4, 3), box(6, 5, 2), box(10, 3, 2), box(10, 6, 1), box(12, 5, 1), box(15, 2, 2), box(15, 4, 1), box(20, 3, 1), box(30, 2, 1), box(60, 1, 1))
	check(59, box(59, 1, 1), 238, box(59, 1, 1), box(59, 1, 1))
	check(62, box(31, 2, 1), 190, box(31, 2, 1), box(31, 2, 1))
	// A side would have to be longer than 60.
	check(61, zero, 0, zero)
	check(67, zero, 0, zero)
	check(122, zero, 0, zero)
	check(499, zero, 0, zero)
	check(500, box(10, 10, 5), 400, box(25, 20, 1),
		box(10, 10, 5), box(20, 5, 5), box(25, 5, 4), box(25, 10, 2), box(25, 20, 1), box(50, 5, 2), box(50, 10, 1))
}

func TestNumbersThatAreNotStacked(t *testing.T) {
	zero := box(0, 0, 0)
	want := []string{show([]impl.Box(nil), false), show(0, false), show(zero, 0, false), show(0, false), show(zero, false)}
	// Some of these numbers fill boxes that are too great to be asked for.
	for _, bars := range []int{math.MinInt, math.MinInt + 1, -12, -1, 0, 501, 504, 512, 3600, 216000, 1<<32 + 12, math.MaxInt - 1, math.MaxInt} {
		if told := stackCalls(bars, leaveBoxes); !slices.Equal(told, want) {
			t.Errorf("%d %q", bars, told)
		}
	}
}

// bundlesBy finds for all numbers of small bars up to 60 the first best
// bundles, whose lists it holds against each other as a whole.
func bundlesBy(most, seal int, papers map[int]int) [][]int {
	paperOf := func(list []int) int {
		sum := 0
		for _, bundle := range list {
			sum += papers[bundle] + seal
		}
		return sum
	}
	isBefore := func(a, b []int) bool {
		switch {
		case paperOf(a) != paperOf(b):
			return paperOf(a) < paperOf(b)
		case len(a) != len(b):
			return len(a) < len(b)
		}
		return slices.Compare(a, b) < 0
	}
	best := [][]int{{}}
	for bars := 1; bars <= 60; bars++ {
		var first []int
		for bundle := 1; bundle <= min(most, bars); bundle++ {
			list := append(slices.Clone(best[bars-bundle]), bundle)
			slices.Sort(list)
			if first == nil || isBefore(list, first) {
				first = list
			}
		}
		best = append(best, first)
	}
	return best
}

// bestPapers returns for each bundle the least paper of a box of it.
func bestPapers() map[int]int {
	by := boxesBy(barsIn)
	papers := map[int]int{}
	for bundle := 1; bundle <= 60; bundle++ {
		_, papers[bundle] = firstWithLeast(by[bundle])
	}
	return papers
}

func TestBundles(t *testing.T) {
	papers := bestPapers()
	for most := 1; most <= 60; most++ {
		for _, seal := range []int{0, 1, 3, 8, 60} {
			for bars, want := range bundlesBy(most, seal, papers) {
				if bars == 0 {
					continue
				}
				paper := 0
				for _, bundle := range want {
					paper += papers[bundle] + seal
				}
				if n, ok := impl.LeastPaper(bars, most, seal); !ok || n != paper {
					t.Error("LeastPaper", bars, most, seal, n, ok, "not", paper)
				}
				if list, ok := impl.FirstBundles(bars, most, seal); !ok || !slices.Equal(list, want) {
					t.Error("FirstBundles", bars, most, seal, list, ok, "not", want)
				}
			}
		}
	}
}

// partings returns all lists of numbers up to most, increasing or staying the same, that are together so many.
func partings(bars, least, most int) [][]int {
	if bars == 0 {
		return [][]int{nil}
	}
	var all [][]int
	for first := least; first <= min(bars, most); first++ {
		for _, others := range partings(bars-first, first, most) {
			all = append(all, append([]int{first}, others...))
		}
	}
	return all
}

// TestBundlesByAllPartings tries all bundles there can be: none need less
// paper in all, and those that need as little come behind.
func TestBundlesByAllPartings(t *testing.T) {
	ties := 0
	for bars := 1; bars <= 16; bars++ {
		for most := 1; most <= bars+1; most++ {
			lists := partings(bars, 1, most)
			for _, seal := range []int{0, 1, 2, 3, 4, 5, 10, 60} {
				least, ok := impl.LeastPaper(bars, most, seal)
				best, fine := impl.FirstBundles(bars, most, seal)
				if paper, good := impl.PaperOfBundles(best, seal); !ok || !fine || !good || paper != least {
					t.Error(bars, most, seal, best, "need", paper, "not", least)
				}
				found := false
				for _, list := range lists {
					paper, good := impl.PaperOfBundles(list, seal)
					if !good || paper < least {
						t.Error(bars, most, seal, list, "need", paper, good, "and not", least)
					}
					if paper == least && (len(list) < len(best) || len(list) == len(best) && slices.Compare(list, best) < 0) {
						t.Error(bars, most, seal, list, "not", best)
					}
					found = found || slices.Equal(list, best)
					if paper == least && !slices.Equal(list, best) {
						ties++
					}
				}
				if !found {
					t.Error(bars, most, seal, best, "are not such bundles")
				}
			}
		}
	}
	if ties == 0 {
		t.Error("no bundles were tried of which others are as good")
	}
}

func TestBundlesByHand(t *testing.T) {
	check := func(bars, most, seal, paper int, bundles ...int) {
		if n, ok := impl.LeastPaper(bars, most, seal); !ok || n != paper {
			t.Error("LeastPaper", bars, most, seal, n, ok)
		}
		if list, ok := impl.FirstBundles(bars, most, seal); !ok || !slices.Equal(list, bundles) {
			t.Error("FirstBundles", bars, most, seal, list, ok)
		}
	}
	check(1, 1, 0, 6, 1)
	check(2, 1, 60, 132, 1, 1)
	check(2, 2, 0, 10, 2)
	check(7, 7, 0, 28, 1, 6)
	check(7, 7, 2, 32, 7)
	check(7, 60, 1, 30, 1, 6)
	check(11, 11, 0, 38, 3, 8)
	check(60, 60, 0, 94, 60)
	check(60, 60, 60, 154, 60)
	check(60, 1, 0, 360, slices.Repeat([]int{1}, 60)...)
	check(60, 1, 60, 3960, slices.Repeat([]int{1}, 60)...)
	check(59, 59, 0, 112, 5, 54)
	check(59, 60, 60, 232, 5, 54)
}

func TestNumbersThatAreNotBundled(t *testing.T) {
	want := []string{show(0, false), show([]int(nil), false)}
	bad := noEdges()
	for _, no := range bad {
		for _, n := range append(noEdges(), 1, 7, 59, 60) {
			calls := [][3]int{{no, n, 5}, {n, no, 5}, {no, no, n}, {no, 7, n}, {7, no, n}}
			if no != 0 {
				// A seal of 0 is one.
				calls = append(calls, [3]int{n, 7, no}, [3]int{7, n, no}, [3]int{n, n, no}, [3]int{7, 7, no})
			}
			for _, c := range calls {
				if told := bundleCalls(c[0], c[1], c[2], leaveNumbers); !slices.Equal(told, want) {
					t.Errorf("%v %q", c, told)
				}
			}
		}
	}
}

func TestPaperOfBundles(t *testing.T) {
	papers := bestPapers()
	z := drawn(17)
	for many := 1; many <= 60; many++ {
		for _, seal := range []int{0, 1, 37, 60} {
			var bundles []int
			want := 0
			for range many {
				bundle := 1 + z.below(60)
				bundles = append(bundles, bundle)
				want += papers[bundle] + seal
			}
			if n, ok := impl.PaperOfBundles(bundles, seal); !ok || n != want {
				t.Error(bundles, seal, n, ok, "not", want)
			}
			slices.Reverse(bundles)
			if n, ok := impl.PaperOfBundles(bundles, seal); !ok || n != want {
				t.Error("from behind", bundles, seal, n, ok, "not", want)
			}
		}
	}
	check := func(seal, want int, bundles ...int) {
		if n, ok := impl.PaperOfBundles(bundles, seal); ok != (want > 0) || n != want {
			t.Error(bundles, seal, n, ok)
		}
	}
	check(0, 22, 4, 1)
	check(60, 362, 60, 4, 1, 1)
	check(0, 5640, slices.Repeat([]int{60}, 60)...)
	check(60, 9240, slices.Repeat([]int{60}, 60)...)
	check(60, 17880, slices.Repeat([]int{59}, 60)...)
	check(0, 0)
	check(0, 0, slices.Repeat([]int{1}, 61)...)
	check(60, 0, slices.Repeat([]int{60}, 61)...)
	check(61, 0, 5)
	check(-1, 0, 5)
	for _, no := range noEdges() {
		check(0, 0, no)
		check(0, 0, no, 5)
		check(60, 0, 5, no)
		check(1, 0, append(slices.Repeat([]int{2}, 59), no)...)
		if no != 0 {
			check(no, 0, 5, 6)
		}
	}
}

func TestFitsInto(t *testing.T) {
	boxes := slices.DeleteFunc(allBoxes(), func(b impl.Box) bool { return b.Long > 6 && b.Long < 59 || b.Long >= 59 && b.Tall < 58 })
	for _, a := range boxes {
		for _, b := range boxes {
			want := a.Long < b.Long && a.Broad < b.Broad && a.Tall < b.Tall
			if is, ok := impl.FitsInto(a, b); !ok || is != want {
				t.Error(a, b, is, ok)
			}
		}
		for _, no := range noBoxes() {
			for _, pair := range [][2]impl.Box{{a, no}, {no, a}, {no, no}} {
				if is, ok := impl.FitsInto(pair[0], pair[1]); ok || is {
					t.Error(pair, is, ok)
				}
			}
		}
	}
	check := func(a, b impl.Box, want bool) {
		if is, ok := impl.FitsInto(a, b); !ok || is != want {
			t.Error(a, b, is, ok)
		}
	}
	check(box(1, 1, 1), box(2, 2, 2), true)
	check(box(1, 1, 1), box(60, 60, 1), false)
	check(box(59, 1, 1), box(60, 2, 2), true)
	check(box(60, 1, 1), box(60, 60, 60), false)
	check(box(59, 59, 59), box(60, 60, 60), true)
	check(box(3, 2, 2), box(2, 1, 1), false)
	check(box(3, 2, 2), box(3, 2, 2), false)
	check(box(5, 4, 1), box(6, 4, 2), false)
	check(box(5, 4, 2), box(6, 5, 2), false)
}

// rowsOfBoxes returns all rows of different indices, each of whose boxes goes into the next one, behind a row.
func rowsOfBoxes(list []impl.Box, row []int) [][]int {
	all := [][]int{row}
	for next, b := range list {
		goes := !slices.Contains(row, next)
		if goes && len(row) > 0 {
			last := list[row[len(row)-1]]
			goes = last.Long < b.Long && last.Broad < b.Broad && last.Tall < b.Tall
		}
		if goes {
			all = append(all, rowsOfBoxes(list, append(slices.Clone(row), next))...)
		}
	}
	return all
}

func checkNest(t *testing.T, list []impl.Box) int {
	t.Helper()
	var want []int
	for _, row := range rowsOfBoxes(list, nil) {
		if len(row) > len(want) || len(row) == len(want) && slices.Compare(row, want) < 0 {
			want = row
		}
	}
	got, ok := impl.LongestNest(list)
	if !ok || !slices.Equal(got, want) {
		t.Error(list, got, ok, "not", want)
	}
	for i := 1; i < len(got); i++ {
		if is, ok := impl.FitsInto(list[got[i-1]], list[got[i]]); !ok || !is {
			t.Error(list, got, "do not go into each other")
		}
	}
	return len(want)
}

func TestLongestNest(t *testing.T) {
	z := drawn(29)
	lengths := map[int]int{}
	for _, greatest := range []int{2, 3, 5, 12, 60} {
		for range 300 {
			var list []impl.Box
			for range z.below(11) {
				sides := []int{1 + z.below(greatest), 1 + z.below(greatest), 1 + z.below(greatest)}
				slices.Sort(sides)
				list = append(list, box(sides[2], sides[1], sides[0]))
			}
			lengths[checkNest(t, list)]++
		}
	}
	for long := 0; long <= 5; long++ {
		if lengths[long] == 0 {
			t.Error("no list was tried whose longest row has", long)
		}
	}
}

func TestNestsByHand(t *testing.T) {
	check := func(list []impl.Box, want ...int) {
		if row, ok := impl.LongestNest(list); !ok || !slices.Equal(row, want) {
			t.Error(list, row, ok)
		}
	}
	check(nil)
	check([]impl.Box{})
	check([]impl.Box{box(3, 2, 2)}, 0)
	check([]impl.Box{box(3, 2, 2), box(2, 1, 1)}, 1, 0)
	check([]impl.Box{box(2, 1, 1), box(3, 2, 2)}, 0, 1)
	check([]impl.Box{box(3, 2, 2), box(3, 2, 2)}, 0)
	check([]impl.Box{box(3, 2, 1), box(3, 2, 2), box(1, 1, 1)}, 2, 1)
	check([]impl.Box{box(3, 3, 3), box(1, 1, 1), box(2, 2, 2), box(1, 1, 1)}, 1, 2, 0)
	check([]impl.Box{box(9, 9, 9), box(1, 1, 1), box(5, 2, 2), box(4, 3, 2)}, 1, 2, 0)
	check([]impl.Box{box(5, 5, 5), box(9, 9, 1), box(2, 2, 2), box(1, 1, 1)}, 3, 2, 0)
	check(slices.Repeat([]impl.Box{box(7, 7, 7)}, 10), 0)
	var nest []impl.Box
	for side := 51; side <= 60; side++ {
		nest = append(nest, box(side, side, side))
	}
	check(nest, 0, 1, 2, 3, 4, 5, 6, 7, 8, 9)
	slices.Reverse(nest)
	check(nest, 9, 8, 7, 6, 5, 4, 3, 2, 1, 0)
	nest[0], nest[9] = nest[9], nest[0]
	check(nest, 0, 8, 7, 6, 5, 4, 3, 2, 1, 9)
}

func TestListsThatAreNotNested(t *testing.T) {
	fails := func(list []impl.Box) {
		if row, ok := impl.LongestNest(list); ok || len(row) != 0 {
			t.Errorf("%.80v %v %v", list, row, ok)
		}
	}
	fails(slices.Repeat([]impl.Box{box(1, 1, 1)}, 11))
	fails(slices.Repeat([]impl.Box{box(3, 2, 1)}, 12))
	fails(make([]impl.Box, 1000000))
	for _, no := range noBoxes() {
		fails([]impl.Box{no})
		for at := range 10 {
			list := slices.Repeat([]impl.Box{box(3, 2, 1)}, 10)
			list[at] = no
			fails(list)
			fails(list[:at+1])
			fails(list[at:])
		}
	}
}

func TestBoxesByPaper(t *testing.T) {
	by := boxesBy(facesOf)
	none := 0
	for paper := 6; paper <= 500; paper++ {
		boxes, ok := impl.BoxesByPaper(paper)
		if !ok || !slices.Equal(boxes, by[paper]) {
			t.Error(paper, boxes, ok, "not", by[paper])
		}
		if len(by[paper]) == 0 && paper%2 == 0 {
			none++
		}
	}
	if none == 0 {
		t.Error("each even paper was that of a box")
	}
	for paper, want := range map[int][]impl.Box{
		6: {box(1, 1, 1)}, 7: nil, 8: nil, 10: {box(2, 1, 1)}, 12: nil, 21: nil, 499: nil,
		242: {box(10, 7, 3), box(23, 3, 2), box(60, 1, 1)},
		// That of 61*1*1, too, but its Long would be too great.
		246: {box(9, 8, 3), box(19, 3, 3), box(30, 3, 1)},
		500: {box(15, 10, 4), box(16, 7, 6), box(20, 6, 5), box(34, 4, 3)},
	} {
		if boxes, ok := impl.BoxesByPaper(paper); !ok || !slices.Equal(boxes, want) {
			t.Error(paper, boxes, ok)
		}
	}
	// Some of these are papers of boxes, but too great to be asked for.
	for _, paper := range []int{math.MinInt, math.MinInt + 1, -22, -6, -1, 0, 1, 2, 4, 5, 501, 502, 21600, 1<<32 + 22, math.MaxInt - 1, math.MaxInt} {
		if boxes, ok := impl.BoxesByPaper(paper); ok || len(boxes) != 0 {
			t.Error(paper, boxes, ok)
		}
	}
}

func TestSheetFor(t *testing.T) {
	for _, b := range allBoxes() {
		for _, over := range append(noEdges(), 1, 17, 59, 60) {
			wide, high, may := 0, 0, over >= 0 && over <= 60
			if may {
				wide = b.Tall + b.Long + b.Tall
				high = b.Broad + b.Tall + b.Broad + b.Tall + over
			}
			if w, h, ok := impl.SheetFor(b, over); ok != may || w != wide || h != high {
				t.Error(b, over, w, h, ok)
			}
		}
	}
	if w, h, ok := impl.SheetFor(box(1, 1, 1), 0); !ok || w != 3 || h != 4 {
		t.Error("least", w, h, ok)
	}
	if w, h, ok := impl.SheetFor(box(60, 60, 60), 60); !ok || w != 180 || h != 300 {
		t.Error("greatest", w, h, ok)
	}
}

// TestFitsSheet has sheets that are just enough, and those that are not, straight and turned.
func TestFitsSheet(t *testing.T) {
	for _, b := range []impl.Box{box(1, 1, 1), box(3, 2, 2), box(7, 2, 1), box(20, 3, 1), box(60, 1, 1), box(60, 60, 1), box(60, 60, 60)} {
		for _, over := range []int{0, 1, 2, 11, 60} {
			wide, high, _ := impl.SheetFor(b, over)
			sides := []int{1, wide - 1, wide, wide + 1, high - 1, high, high + 1, 499, 500}
			for _, w := range sides {
				for _, h := range sides {
					want := w >= wide && h >= high || h >= wide && w >= high
					if is, ok := impl.FitsSheet(b, over, w, h); !ok || is != want {
						t.Error(b, over, w, h, is, ok)
					}
				}
			}
		}
	}
	check := func(over, wide, high int, want bool) {
		if is, ok := impl.FitsSheet(box(3, 2, 2), over, wide, high); !ok || is != want {
			t.Error(over, wide, high, is, ok)
		}
	}
	check(1, 7, 9, true)
	check(1, 9, 7, true)
	check(1, 8, 8, false)
	check(0, 8, 8, true)
	check(1, 6, 500, false)
	check(1, 500, 6, false)
	check(1, 7, 8, false)
	check(2, 7, 9, false)
	check(1, 1, 1, false)
	check(1, 500, 500, true)
}

func TestSheetsThatAreNone(t *testing.T) {
	fails := func(b impl.Box, over, wide, high int) {
		if is, ok := impl.FitsSheet(b, over, wide, high); ok || is {
			t.Error(b, over, wide, high, is, ok)
		}
	}
	for _, no := range []int{math.MinInt, math.MinInt + 1, -500, -1, 0, 501, 502, 1<<32 + 9, math.MaxInt - 1, math.MaxInt} {
		for _, n := range []int{math.MinInt, -1, 0, 1, 9, 500, 501, math.MaxInt} {
			fails(box(3, 2, 2), 1, no, n)
			fails(box(3, 2, 2), 1, n, no)
		}
		if no != 0 {
			fails(box(3, 2, 2), no, 500, 500)
		}
	}
	fails(box(3, 2, 2), 61, 500, 500)
	for _, no := range noBoxes() {
		fails(no, 1, 500, 500)
		if w, h, ok := impl.SheetFor(no, 1); ok || w != 0 || h != 0 {
			t.Error(no, w, h, ok)
		}
	}
}

func TestBoxTexts(t *testing.T) {
	for _, b := range allBoxes() {
		want := strconv.Itoa(b.Long) + "*" + strconv.Itoa(b.Broad) + "*" + strconv.Itoa(b.Tall)
		if s, ok := impl.BoxText(b); !ok || s != want {
			t.Error(b, s, ok)
		}
		if parsed, ok := impl.ParseBox(want); !ok || parsed != b {
			t.Error(want, parsed, ok)
		}
	}
	for _, b := range noBoxes() {
		if s, ok := impl.BoxText(b); ok || s != "" {
			t.Error(b, s, ok)
		}
		if parsed, ok := impl.ParseBox(fmt.Sprintf("%d*%d*%d", b.Long, b.Broad, b.Tall)); ok || parsed != box(0, 0, 0) {
			t.Error("parsed", b, parsed, ok)
		}
	}
}

func TestParseBoxFails(t *testing.T) {
	bad := []string{
		"", "*", "**", "***", "3", "3*2", "3*2*", "*3*2", "3**2", "3*2*2*", "*3*2*2", "3*2*2*1", "3**2*2", "3*2**2", "3x2x2", "3x2*2", "3*2x2", "322",
		" 3*2*2", "3*2*2 ", "3 *2*2", "3* 2*2", "3*2 *2", "3*2* 2", "3*2*2\n", "\n3*2*2", "3*2*2\x00", "\x003*2*2", "3\u00d72\u00d72", "3\u22172\u22172",
		"03*2*2", "3*02*2", "3*2*02", "+3*2*2", "3*+2*2", "3*2*+2", "-3*2*2", "3*-2*2", "3*2*-2", "-3*-2*-2", "3.0*2*2", "1_0*2*2", "0x3*2*2",
		"2*3*1", "2*1*2", "1*2*1", "1*2*3", "3*1*2", "0*0*0", "3*2*0", "3*0*0", "61*1*1", "61*61*61", "60*61*1", "60*60*61", "100*1*1",
		"9223372036854775808*1*1", "18446744073709551619*2*2", "3*18446744073709551618*2", "3*2*18446744073709551618", "4294967299*2*2", "259*2*2",
		"a*2*2", "3*b*2", "3*2*c", "a*b*c", "\u0663*2*2", "\xff*2*2", "3e0*2*2", "1e1*1*1", "3*2*2,3*2*2", "3*2*2^1",
	}
	for _, s := range bad {
		if b, ok := impl.ParseBox(s); ok || b != box(0, 0, 0) {
			t.Errorf("%q %v %v", s, b, ok)
		}
	}
}
