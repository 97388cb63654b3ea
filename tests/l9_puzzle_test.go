package tests

import (
	"fmt"
	"math"
	"slices"
	"strconv"
	"strings"
	"testing"

	"loop.example/g01377/impl"
)

func clue(kind, a, b int) impl.Clue { return impl.Clue{Kind: kind, A: a, B: b} }

// puzzleOf reads a puzzle of clues that are told as threes of numbers.
func puzzleOf(numbers ...int) impl.Puzzle {
	var p impl.Puzzle
	for three := range slices.Chunk(numbers, 3) {
		p.Clues = append(p.Clues, clue(three[0], three[1], three[2]))
	}
	return p
}

func samePuzzle(a, b impl.Puzzle) bool { return slices.Equal(a.Clues, b.Clues) }

// hiddenOne is a hidden chomp with what the tests of chapter 3 know of it.
type hiddenOne struct {
	rows []int
	known
}

var (
	everyHidden = hiddenOnes()
	everyClue   = allClues()
	everyPuzzle = slices.Concat(smallPuzzles(), drawnPuzzles())
)

// hiddenOnes has all hidden chomps, in order.
func hiddenOnes() []hiddenOne {
	var all []hiddenOne
	for _, c := range everyChomp {
		if c[0] <= 5 && len(c) <= 4 {
			all = append(all, hiddenOne{c, knownTable[fmt.Sprint(c)]})
		}
	}
	return all
}

// tells returns by the words of the chapter which B a clue with a kind and an A has of the chomp.
func (h hiddenOne) tells(kind, a int) int {
	switch kind {
	case 0:
		return len(squaresOf(h.rows))
	case 1:
		if a < len(h.rows) {
			return h.rows[a]
		}
		return 0
	case 2:
		if h.won {
			return 1
		}
		return 0
	case 3:
		return h.heap
	case 4:
		return len(slices.DeleteFunc(slices.Clone(h.rows), func(many int) bool { return many <= a }))
	case 5:
		return len(h.good)
	}
	panic(kind)
}

// fitting has all hidden chomps that fit clues, in order.
func fitting(clues []impl.Clue) [][]int {
	var rows [][]int
	for _, h := range everyHidden {
		if !slices.ContainsFunc(clues, func(c impl.Clue) bool { return h.tells(c.Kind, c.A) != c.B }) {
			rows = append(rows, h.rows)
		}
	}
	return rows
}

// without has the clues but the one with an index.
func without(clues []impl.Clue, k int) []impl.Clue {
	return slices.Delete(slices.Clone(clues), k, k+1)
}

// allClues has all clues: for each kind, so many A and so many B from 0 on.
func allClues() []impl.Clue {
	var clues []impl.Clue
	for kind, many := range [][2]int{{1, 21}, {4, 21}, {1, 2}, {1, 21}, {5, 21}, {1, 21}} {
		for a := range many[0] {
			for b := range many[1] {
				clues = append(clues, clue(kind, a, b))
			}
		}
	}
	return clues
}

// noClues has clues with numbers that pass their limits, by one and by more.
func noClues() []impl.Clue {
	clues := []impl.Clue{
		clue(-1, 0, 0), clue(6, 0, 0), clue(7, 0, 1), clue(0, 1, 5), clue(0, -1, 5), clue(0, 0, -1), clue(0, 0, 21), clue(1, 4, 0), clue(1, -1, 0), clue(1, 0, -1), clue(1, 3, 21),
		clue(2, 0, 2), clue(2, 0, -1), clue(2, 1, 1), clue(2, -1, 0), clue(2, 0, 20), clue(3, 1, 0), clue(3, -1, 0), clue(3, 0, 21), clue(3, 0, -1), clue(4, 5, 0), clue(4, -1, 1), clue(4, 0, 21),
		clue(4, 4, -1), clue(5, 1, 1), clue(5, -1, 1), clue(5, 0, 21), clue(5, 0, -1), clue(-1, -1, -1), clue(6, 5, 21),
	}
	for _, far := range []int{math.MinInt, math.MinInt + 1, -20, -6, 22, 40, 1 << 32, 1<<32 + 1, math.MaxInt - 1, math.MaxInt} {
		clues = append(clues, clue(far, 0, 0), clue(0, far, 0), clue(0, 0, far), clue(1, far, 1), clue(1, 1, far), clue(2, 0, far), clue(4, far, 1), clue(4, 1, far), clue(far, far, far))
	}
	return clues
}

// noPuzzles has puzzles with a clue that is none, and with too many clues.
func noPuzzles() []impl.Puzzle {
	fine := clue(0, 0, 5)
	puzzles := []impl.Puzzle{
		{Clues: slices.Repeat([]impl.Clue{fine}, 7)}, {Clues: slices.Repeat([]impl.Clue{clue(0, 0, 1)}, 12)}, {Clues: make([]impl.Clue, 7)}, {Clues: make([]impl.Clue, 1000000)},
		{Clues: slices.Repeat([]impl.Clue{clue(6, 0, 0)}, 7)},
	}
	for _, no := range noClues() {
		puzzles = append(puzzles, impl.Puzzle{Clues: []impl.Clue{no}}, impl.Puzzle{Clues: []impl.Clue{fine, no}}, impl.Puzzle{Clues: []impl.Clue{no, fine}})
		for k := range 6 {
			clues := slices.Repeat([]impl.Clue{fine}, 6)
			clues[k] = no
			puzzles = append(puzzles, impl.Puzzle{Clues: clues})
		}
	}
	return puzzles
}

// smallPuzzles has the puzzle without clues, all of one clue, and some by hand.
func smallPuzzles() []impl.Puzzle {
	puzzles := []impl.Puzzle{
		{}, {Clues: []impl.Clue{}}, puzzleOf(0, 0, 5, 2, 0, 0), puzzleOf(1, 0, 1, 0, 0, 3), puzzleOf(0, 0, 3, 1, 2, 1, 1, 1, 1), puzzleOf(0, 0, 20, 2, 0, 0), puzzleOf(0, 0, 5, 0, 0, 6),
		puzzleOf(0, 0, 1, 0, 0, 20), puzzleOf(4, 0, 4, 4, 4, 4), puzzleOf(1, 3, 0, 1, 2, 0, 1, 1, 0, 1, 0, 1), puzzleOf(2, 0, 1, 2, 0, 0),
	}
	for _, c := range everyClue {
		puzzles = append(puzzles, impl.Puzzle{Clues: []impl.Clue{c}}, impl.Puzzle{Clues: []impl.Clue{c, c}})
	}
	for _, c := range []impl.Clue{clue(0, 0, 1), clue(0, 0, 5), clue(2, 0, 0), clue(3, 0, 13), clue(5, 0, 20)} {
		for many := 3; many <= 6; many++ {
			puzzles = append(puzzles, impl.Puzzle{Clues: slices.Repeat([]impl.Clue{c}, many)})
		}
	}
	return puzzles
}

// drawnPuzzles has puzzles of 2 and more clues: such as one chomp fits, and such as have one clue or more of any others.
func drawnPuzzles() []impl.Puzzle {
	z := drawn(29)
	var puzzles []impl.Puzzle
	for many := 2; many <= 6; many++ {
		for turn := range 150 {
			h := everyHidden[z.below(len(everyHidden))]
			var p impl.Puzzle
			for k := range many {
				c := everyClue[z.below(len(everyClue))]
				// The kinds are drawn evenly, as those with few clues would be rare.
				c.Kind = z.below(6)
				c.A = z.below([]int{1, 4, 1, 1, 5, 1}[c.Kind])
				c.B = h.tells(c.Kind, c.A)
				if turn%5 == 4 && k == turn%many || turn%30 == 29 {
					c = everyClue[z.below(len(everyClue))]
				}
				p.Clues = append(p.Clues, c)
			}
			puzzles = append(puzzles, p)
		}
	}
	return puzzles
}

func TestPuzzleConstants(t *testing.T) {
	if impl.MaxHiddenWide != 5 || impl.MaxHiddenHigh != 4 || impl.MaxClues != 6 {
		t.Error(impl.MaxHiddenWide, impl.MaxHiddenHigh, impl.MaxClues)
	}
	if len(everyHidden) != 125 || len(everyClue) != 254 {
		t.Error("the tests find", len(everyHidden), "hidden chomps and", len(everyClue), "clues")
	}
}

// TestPuzzleExamples has the numbers of the chapter's example.
func TestPuzzleExamples(t *testing.T) {
	p, ok := impl.ParsePuzzle("0.0.5,2.0.0")
	if !ok || !samePuzzle(p, puzzleOf(0, 0, 5, 2, 0, 0)) {
		t.Fatal("ParsePuzzle", p, ok)
	}
	if list, ok := impl.Solutions(p); !ok || !samePlaces(list, [][]int{{2, 2, 1}, {3, 1, 1}, {3, 2}}) {
		t.Error("Solutions", list, ok)
	}
	if left, ok := impl.LeftByClues(p); !ok || !slices.Equal(left, []int{125, 6, 3}) {
		t.Error("LeftByClues", left, ok)
	}
	if n, ok := impl.CountSolutions(p); !ok || n != 3 {
		t.Error("CountSolutions", n, ok)
	}
	if first, ok := impl.FirstSolution(p); !ok || !slices.Equal(first, []int{2, 2, 1}) {
		t.Error("FirstSolution", first, ok)
	}
	if s, ok := impl.PuzzleText(p); !ok || s != "0.0.5,2.0.0" {
		t.Error("PuzzleText", s, ok)
	}
	q, ok := impl.ParsePuzzle("1.0.1,0.0.3")
	if sure, fine := impl.SureRows(q); !ok || !fine || !slices.Equal(sure, []int{1, 1, 1, 0}) {
		t.Error("SureRows", sure, fine)
	}
}

// TestPuzzlesByHand has puzzles that can be solved on paper.
func TestPuzzlesByHand(t *testing.T) {
	for _, c := range []struct {
		puzzle         impl.Puzzle
		solutions      [][]int
		sure, needless []int
		left           []int
		best           int
		harder         []int
	}{
		{puzzleOf(0, 0, 1), [][]int{{1}}, []int{1, 0, 0, 0}, nil, []int{125, 1}, 0, []int{0, 0, 1}},
		{puzzleOf(0, 0, 20), [][]int{{5, 5, 5, 5}}, []int{5, 5, 5, 5}, nil, []int{125, 1}, 0, []int{0, 0, 20}},
		{puzzleOf(0, 0, 2), [][]int{{1, 1}, {2}}, []int{-1, -1, 0, 0}, nil, []int{125, 2}, 0, nil},
		{puzzleOf(0, 0, 0), nil, nil, nil, []int{125, 0}, 0, nil},
		// Rows that a chomp does not have.
		{puzzleOf(1, 1, 0), [][]int{{1}, {2}, {3}, {4}, {5}}, []int{-1, 0, 0, 0}, nil, []int{125, 5}, 0, nil},
		{puzzleOf(1, 0, 0), nil, nil, nil, []int{125, 0}, 0, nil},
		{puzzleOf(1, 3, 5), [][]int{{5, 5, 5, 5}}, []int{5, 5, 5, 5}, nil, []int{125, 1}, 0, []int{1, 3, 5}},
		{puzzleOf(1, 2, 6), nil, nil, nil, []int{125, 0}, 0, nil},
		// Either one of two clues is needless, but not both of them; the first one is taken out.
		{puzzleOf(1, 3, 5, 0, 0, 20), [][]int{{5, 5, 5, 5}}, []int{5, 5, 5, 5}, []int{0, 1}, []int{125, 1, 1}, 0, []int{0, 0, 20}},
		{puzzleOf(0, 0, 1, 0, 0, 1), [][]int{{1}}, []int{1, 0, 0, 0}, []int{0, 1}, []int{125, 1, 1}, 0, []int{0, 0, 1}},
		{puzzleOf(0, 0, 2, 1, 0, 2, 4, 0, 1), [][]int{{2}}, []int{2, 0, 0, 0}, []int{0, 1, 2}, []int{125, 2, 1, 1}, 0, []int{1, 0, 2, 4, 0, 1}},
		// Behind a clue that is taken out the next one is not left out.
		{puzzleOf(0, 0, 1, 1, 0, 1, 1, 1, 0), [][]int{{1}}, []int{1, 0, 0, 0}, []int{0, 1, 2}, []int{125, 1, 1, 1}, 0, []int{1, 0, 1, 1, 1, 0}},
		{puzzleOf(1, 0, 1, 1, 1, 0, 0, 0, 1), [][]int{{1}}, []int{1, 0, 0, 0}, []int{0, 1, 2}, []int{125, 4, 1, 1}, 2, []int{0, 0, 1}},
		// Clues that contradict each other: none is left, and each one is needless if the others do so, too.
		{puzzleOf(0, 0, 1, 0, 0, 20), nil, nil, nil, []int{125, 1, 0}, 0, nil},
		{puzzleOf(0, 0, 1, 0, 0, 20, 1, 0, 2), nil, nil, []int{0, 1, 2}, []int{125, 1, 0, 0}, 0, nil},
		{puzzleOf(2, 0, 1, 2, 0, 0), nil, nil, nil, []int{125, 109, 0}, 1, nil},
		{puzzleOf(4, 0, 4, 4, 4, 4), [][]int{{5, 5, 5, 5}}, []int{5, 5, 5, 5}, []int{0}, []int{125, 70, 1}, 1, []int{4, 4, 4}},
		{puzzleOf(4, 4, 3), [][]int{{5, 5, 5}, {5, 5, 5, 1}, {5, 5, 5, 2}, {5, 5, 5, 3}, {5, 5, 5, 4}}, []int{5, 5, 5, -1}, nil, []int{125, 5}, 0, nil},
		{puzzleOf(4, 1, 0, 4, 0, 2), [][]int{{1, 1}}, []int{1, 1, 0, 0}, nil, []int{125, 4, 1}, 0, []int{4, 1, 0, 4, 0, 2}},
		// Arms of 3 and 1 squares beside the poisoned one are as good as a heap of 2, as those of 0 and 2, and of 1 and 3, are.
		{puzzleOf(3, 0, 2, 1, 1, 1, 1, 0, 4), [][]int{{4, 1}}, []int{4, 1, 0, 0}, nil, []int{125, 13, 3, 1}, 0, []int{3, 0, 2, 1, 1, 1, 1, 0, 4}},
		{puzzleOf(3, 0, 2, 1, 1, 1), [][]int{{1, 1, 1}, {2, 1, 1, 1}, {4, 1}}, []int{-1, 1, -1, -1}, nil, []int{125, 13, 3}, 0, nil},
		{puzzleOf(3, 0, 2, 1, 1, 0), [][]int{{3}}, []int{3, 0, 0, 0}, nil, []int{125, 13, 1}, 1, []int{3, 0, 2, 1, 1, 0}},
		{puzzleOf(5, 0, 3, 0, 0, 6), [][]int{{3, 2, 1}}, []int{3, 2, 1, 0}, nil, []int{125, 7, 1}, 0, []int{5, 0, 3, 0, 0, 6}},
	} {
		want := puzzleFacts{c.solutions, c.sure, c.needless, c.left, c.best, puzzleOf(c.harder...)}
		if reckoned := factsOf(c.puzzle); fmt.Sprint(reckoned) != fmt.Sprint(want) {
			t.Error("the tests reckon", c.puzzle, reckoned, "not", want)
		}
		checkPuzzle(t, c.puzzle, want)
	}
}

// TestPuzzleWithoutClues is fitted by all hidden chomps.
func TestPuzzleWithoutClues(t *testing.T) {
	for _, p := range []impl.Puzzle{{}, {Clues: []impl.Clue{}}} {
		checkPuzzle(t, p, puzzleFacts{fitting(nil), []int{-1, -1, -1, -1}, nil, []int{125}, 0, impl.Puzzle{}})
		if first, ok := impl.FirstSolution(p); !ok || !slices.Equal(first, []int{1}) {
			t.Error("FirstSolution", first, ok)
		}
		if k, ok := impl.BestClue(p); ok || k != 0 {
			t.Error("BestClue", k, ok)
		}
		for k := -1; k <= 1; k++ {
			if q, ok := impl.DropClue(p, k); ok || len(q.Clues) != 0 {
				t.Error("DropClue", k, q, ok)
			}
		}
		if q, ok := impl.AddClue(p, clue(2, 0, 1)); !ok || !samePuzzle(q, puzzleOf(2, 0, 1)) {
			t.Error("AddClue", q, ok)
		}
		if s, ok := impl.PuzzleText(p); !ok || s != "" {
			t.Error("PuzzleText", s, ok)
		}
	}
	if p, ok := impl.ParsePuzzle(""); !ok || len(p.Clues) != 0 {
		t.Error("ParsePuzzle", p, ok)
	}
}

func TestIsClue(t *testing.T) {
	for _, c := range everyClue {
		if !impl.IsClue(c) {
			t.Error(c, "is a clue")
		}
	}
	for _, c := range noClues() {
		if impl.IsClue(c) {
			t.Error(c, "is no clue")
		}
	}
	for kind := -2; kind <= 8; kind++ {
		for a := -2; a <= 7; a++ {
			for b := -2; b <= 23; b++ {
				c := clue(kind, a, b)
				if is := impl.IsClue(c); is != slices.Contains(everyClue, c) {
					t.Error(c, is)
				}
			}
		}
	}
}

func TestIsPuzzle(t *testing.T) {
	for _, p := range everyPuzzle {
		if !impl.IsPuzzle(p) {
			t.Error(p)
		}
	}
	for _, p := range noPuzzles() {
		if impl.IsPuzzle(p) {
			t.Errorf("%.60v", p)
		}
	}
	for _, c := range everyClue {
		for many := 0; many <= 8; many++ {
			if is := impl.IsPuzzle(impl.Puzzle{Clues: slices.Repeat([]impl.Clue{c}, many)}); is != (many <= 6) {
				t.Error(c, many, is)
			}
		}
	}
}

// TestDoesFit holds all clues against all hidden chomps.
func TestDoesFit(t *testing.T) {
	for _, c := range everyClue {
		for _, h := range everyHidden {
			if fits, ok := impl.DoesFit(c, h.rows); !ok || fits != (h.tells(c.Kind, c.A) == c.B) {
				t.Error(c, h.rows, fits, ok)
			}
		}
	}
}

func TestDoesFitByHand(t *testing.T) {
	for _, c := range []struct {
		rows string
		fits []impl.Clue
	}{
		{"1", []impl.Clue{clue(0, 0, 1), clue(1, 0, 1), clue(1, 1, 0), clue(1, 2, 0), clue(1, 3, 0), clue(2, 0, 0), clue(3, 0, 0), clue(4, 0, 1), clue(4, 1, 0), clue(4, 4, 0), clue(5, 0, 0)}},
		{"33", []impl.Clue{clue(0, 0, 6), clue(1, 0, 3), clue(1, 1, 3), clue(1, 2, 0), clue(1, 3, 0), clue(2, 0, 1), clue(3, 0, 4), clue(4, 0, 2), clue(4, 2, 2), clue(4, 3, 0), clue(5, 0, 1)}},
		{"32", []impl.Clue{clue(0, 0, 5), clue(1, 0, 3), clue(1, 1, 2), clue(1, 2, 0), clue(2, 0, 0), clue(3, 0, 0), clue(4, 0, 2), clue(4, 1, 2), clue(4, 2, 1), clue(4, 3, 0), clue(5, 0, 0)}},
		{"321", []impl.Clue{clue(0, 0, 6), clue(1, 2, 1), clue(1, 3, 0), clue(2, 0, 1), clue(4, 0, 3), clue(4, 1, 2), clue(4, 2, 1), clue(5, 0, 3)}},
		{"5555", []impl.Clue{clue(0, 0, 20), clue(1, 3, 5), clue(2, 0, 1), clue(4, 0, 4), clue(4, 3, 4), clue(4, 4, 4)}},
		{"5", []impl.Clue{clue(0, 0, 5), clue(1, 0, 5), clue(1, 1, 0), clue(2, 0, 1), clue(3, 0, 4), clue(4, 4, 1), clue(5, 0, 1)}},
		{"1111", []impl.Clue{clue(0, 0, 4), clue(1, 3, 1), clue(2, 0, 1), clue(3, 0, 3), clue(4, 0, 4), clue(4, 1, 0), clue(5, 0, 1)}},
	} {
		for _, one := range c.fits {
			for b := 0; b <= 20; b++ {
				other := clue(one.Kind, one.A, b)
				fits, ok := impl.DoesFit(other, digits(c.rows))
				if may := one.Kind != 2 || b <= 1; ok != may || fits != (may && b == one.B) {
					t.Error(c.rows, other, fits, ok)
				}
			}
		}
	}
}

// notHidden has lists that are no chomps, and chomps that are too wide or too high to be hidden ones.
func notHidden() [][]int {
	lists := noChomps()
	for _, c := range everyChomp {
		if c[0] > 5 || len(c) > 4 {
			lists = append(lists, c)
		}
	}
	return append(lists, make([]int, 1000000), slices.Repeat([]int{1}, 1000000))
}

func TestNoHiddenChompFits(t *testing.T) {
	for _, rows := range notHidden() {
		for _, c := range []impl.Clue{clue(0, 0, 1), clue(0, 0, sum(rows)), clue(1, 3, 1), clue(2, 0, 0), clue(2, 0, 1), clue(3, 0, 0), clue(4, 4, 1), clue(5, 0, 1)} {
			if fits, ok := impl.DoesFit(c, rows); ok || fits {
				t.Errorf("%v %.60v %v %v", c, rows, fits, ok)
			}
		}
		for _, clues := range []int{0, 1, 6} {
			if p, ok := impl.MakePuzzle(rows, clues, 5); ok || len(p.Clues) != 0 {
				t.Errorf("%.60v %v %v", rows, p, ok)
			}
		}
	}
	for _, c := range noClues() {
		for _, rows := range [][]int{{1}, {3, 2}, {5, 5, 5, 5}, {6}, nil} {
			if fits, ok := impl.DoesFit(c, rows); ok || fits {
				t.Error(c, rows, fits, ok)
			}
		}
	}
}

// puzzleFacts tells of a puzzle all that the program tells.
type puzzleFacts struct {
	solutions            [][]int
	sure, needless, left []int
	best                 int
	harder               impl.Puzzle
}

// factsOf finds them by the words of the chapter.
func factsOf(p impl.Puzzle) puzzleFacts {
	facts := puzzleFacts{solutions: fitting(p.Clues), left: []int{125}}
	many := len(facts.solutions)
	for y := 0; y < 4 && many > 0; y++ {
		numbers := map[int]bool{}
		for _, rows := range facts.solutions {
			numbers[append(slices.Clone(rows), 0, 0, 0, 0)[y]] = true
		}
		facts.sure = append(facts.sure, -1)
		if len(numbers) == 1 {
			facts.sure[y] = append(slices.Clone(facts.solutions[0]), 0, 0, 0, 0)[y]
		}
	}
	fewest := math.MaxInt
	for k, c := range p.Clues {
		if len(fitting(without(p.Clues, k))) == many {
			facts.needless = append(facts.needless, k)
		}
		facts.left = append(facts.left, len(fitting(p.Clues[:k+1])))
		if alone := len(fitting([]impl.Clue{c})); alone < fewest {
			facts.best, fewest = k, alone
		}
	}
	if many == 1 {
		facts.harder = harderOf(p)
	}
	return facts
}

// harderOf marks the clues that are taken out of a puzzle that is solved.
func harderOf(p impl.Puzzle) impl.Puzzle {
	out := make([]bool, len(p.Clues))
	left := func() []impl.Clue {
		var clues []impl.Clue
		for k, c := range p.Clues {
			if !out[k] {
				clues = append(clues, c)
			}
		}
		return clues
	}
	for k := range p.Clues {
		out[k] = true
		out[k] = len(fitting(left())) == 1
	}
	return impl.Puzzle{Clues: left()}
}

// checkPuzzle holds what the program tells of a puzzle against what is known of it.
func checkPuzzle(t *testing.T, p impl.Puzzle, want puzzleFacts) {
	t.Helper()
	many := len(want.solutions)
	if list, ok := impl.Solutions(p); !ok || !samePlaces(list, want.solutions) {
		t.Error("Solutions", p, list, ok, "not", want.solutions)
	}
	if n, ok := impl.CountSolutions(p); !ok || n != many {
		t.Error("CountSolutions", p, n, ok, "not", many)
	}
	var first []int
	if many > 0 {
		first = want.solutions[0]
	}
	if rows, ok := impl.FirstSolution(p); ok != (many > 0) || !slices.Equal(rows, first) {
		t.Error("FirstSolution", p, rows, ok, "not", first)
	}
	if sure, ok := impl.SureRows(p); ok != (many > 0) || !slices.Equal(sure, want.sure) {
		t.Error("SureRows", p, sure, ok, "not", want.sure)
	}
	if is, ok := impl.IsSolved(p); !ok || is != (many == 1) {
		t.Error("IsSolved", p, is, ok)
	}
	if needless, ok := impl.NeedlessClues(p); !ok || !slices.Equal(needless, want.needless) {
		t.Error("NeedlessClues", p, needless, ok, "not", want.needless)
	}
	if left, ok := impl.LeftByClues(p); !ok || !slices.Equal(left, want.left) {
		t.Error("LeftByClues", p, left, ok, "not", want.left)
	}
	if k, ok := impl.BestClue(p); ok != (len(p.Clues) > 0) || k != want.best {
		t.Error("BestClue", p, k, ok, "not", want.best)
	}
	if harder, ok := impl.HarderPuzzle(p); ok != (many == 1) || !samePuzzle(harder, want.harder) {
		t.Error("HarderPuzzle", p, harder, ok, "not", want.harder)
	}
}

// TestSolutionsFitAllClues holds all that is told of puzzles against plain searches.
func TestSolutionsFitAllClues(t *testing.T) {
	none, one, several, together, ties, shorter := 0, 0, 0, 0, 0, 0
	count := func(n *int, is bool) {
		if is {
			*n++
		}
	}
	for _, p := range everyPuzzle {
		facts := factsOf(p)
		checkPuzzle(t, p, facts)
		many := len(facts.solutions)
		count(&none, many == 0)
		count(&one, many == 1)
		count(&several, many > 1)
		kept := 0
		for k, c := range p.Clues {
			count(&kept, !slices.Contains(facts.needless, k))
			count(&ties, k > facts.best && c != p.Clues[facts.best] && len(fitting([]impl.Clue{c})) == len(fitting([]impl.Clue{p.Clues[facts.best]})))
		}
		count(&together, many == 1 && len(facts.harder.Clues) > kept)
		count(&shorter, many == 1 && len(facts.harder.Clues) < len(p.Clues))
	}
	if none < 100 || one < 100 || several < 100 || together < 50 || ties < 20 || shorter < 100 {
		t.Error("too few are looked at", none, one, several, together, ties, shorter)
	}
}

// TestHarderPuzzles holds what is told of harder puzzles against what is told of others alone.
func TestHarderPuzzles(t *testing.T) {
	for _, p := range everyPuzzle {
		solved, _ := impl.IsSolved(p)
		harder, ok := impl.HarderPuzzle(p)
		if ok != solved {
			t.Fatal(p, solved, harder, ok)
		}
		if !ok {
			continue
		}
		first, _ := impl.FirstSolution(p)
		if all, fine := impl.Solutions(harder); !fine || !samePlaces(all, [][]int{first}) {
			t.Error(p, "is solved by", first, harder, "by", all)
		}
		if needless, fine := impl.NeedlessClues(harder); !fine || len(needless) != 0 {
			t.Error(p, harder, "has needless clues", needless)
		}
		if again, fine := impl.HarderPuzzle(harder); !fine || !samePuzzle(again, harder) {
			t.Error(p, harder, "is made harder", again)
		}
		left := harder.Clues
		for _, c := range p.Clues {
			if len(left) > 0 && left[0] == c {
				left = left[1:]
			}
		}
		if len(left) != 0 {
			t.Error(p, harder, "has other clues")
		}
	}
}

func TestDropClue(t *testing.T) {
	for _, p := range everyPuzzle {
		for k := range p.Clues {
			if q, ok := impl.DropClue(p, k); !ok || !slices.Equal(q.Clues, without(p.Clues, k)) {
				t.Error(p, k, q, ok)
			}
		}
		many := len(p.Clues)
		for _, k := range []int{math.MinInt, -many, -1, many, many + 1, 6, 7, 1 << 32, math.MaxInt} {
			if q, ok := impl.DropClue(p, k); ok || len(q.Clues) != 0 {
				t.Error(p, k, q, ok)
			}
		}
	}
}

func TestAddClue(t *testing.T) {
	for i, p := range everyPuzzle {
		added := []impl.Clue{everyClue[i%len(everyClue)], everyClue[(7*i+3)%len(everyClue)]}
		for _, c := range added {
			may := len(p.Clues) < 6
			var want []impl.Clue
			if may {
				want = slices.Concat(p.Clues, []impl.Clue{c})
			}
			if q, ok := impl.AddClue(p, c); ok != may || !slices.Equal(q.Clues, want) {
				t.Error(p, c, q, ok)
			}
		}
	}
	for _, c := range noClues() {
		for many := 0; many <= 7; many++ {
			p := impl.Puzzle{Clues: slices.Repeat([]impl.Clue{clue(0, 0, 5)}, many)}
			if q, ok := impl.AddClue(p, c); ok || len(q.Clues) != 0 {
				t.Error(p, c, q, ok)
			}
		}
	}
}

// madeOf makes a puzzle by the words of the chapter.
func madeOf(h hiddenOne, clues, seed int) impl.Puzzle {
	var p impl.Puzzle
	for z := seed; len(p.Clues) < clues; {
		z = (z*283 + 1021) % 10007
		kind := z % 6
		z = (z*283 + 1021) % 10007
		a := map[int]int{1: z % 4, 4: z % 5}[kind]
		p.Clues = append(p.Clues, clue(kind, a, h.tells(kind, a)))
	}
	return p
}

func TestMakePuzzle(t *testing.T) {
	check := func(h hiddenOne, clues, seed int) {
		p, ok := impl.MakePuzzle(h.rows, clues, seed)
		if !ok || !samePuzzle(p, madeOf(h, clues, seed)) {
			t.Error(h.rows, clues, seed, p, ok)
		}
		if !impl.IsPuzzle(p) || len(p.Clues) != clues || !slices.ContainsFunc(fitting(p.Clues), func(rows []int) bool { return slices.Equal(rows, h.rows) }) {
			t.Error(h.rows, clues, seed, p, "is not fitted")
		}
	}
	for i, h := range everyHidden {
		for clues := range 7 {
			for _, seed := range []int{0, 1, 2, 80*i + clues, 5000, 9998, 9999} {
				check(h, clues, seed)
			}
		}
	}
	for seed := range 10000 {
		check(everyHidden[seed%125], 1+seed%6, seed)
	}
}

func TestMadePuzzlesByHand(t *testing.T) {
	for _, c := range []struct {
		rows  string
		clues int
		seed  int
		text  string
	}{
		// Behind 0 come 1021, 9768, 3433, 1881, 2973, 1792, 7807, 8862, 7217, 2004, 7761 and 5851.
		{"1", 6, 0, "1.0.1,1.1.0,3.0.0,1.2.0,5.0.0,3.0.0"}, {"32", 6, 0, "1.0.3,1.1.2,3.0.0,1.2.0,5.0.0,3.0.0"}, {"221", 4, 0, "1.0.2,1.1.2,3.0.0,1.2.1"}, {"32", 0, 0, ""}, {"32", 1, 0, "1.0.3"},
		// Behind 1 come 1304, 9801, 2765, 2970, 943, 7708, 859, 3950, 8094, 20, 6681 and 421.
		{"32", 6, 1, "2.0.0,5.0.0,1.0.3,1.2.0,0.0.5,3.0.0"}, {"33", 6, 1, "2.0.1,5.0.1,1.0.3,1.2.0,0.0.6,3.0.4"},
		// Behind 9999 come 8764, 9504, 8777, 3176, 9206, 4499, 3349, 8130, 201, 7869, 6394 and 9263.
		{"5555", 1, 9999, "4.4.4"}, {"32", 6, 9999, "4.4.0,5.0.0,2.0.0,1.2.0,3.0.0,4.3.0"}, {"54", 6, 9999, "4.4.1,5.0.0,2.0.0,1.2.0,3.0.0,4.3.2"}, {"1", 0, 9999, ""},
	} {
		p, ok := impl.MakePuzzle(digits(c.rows), c.clues, c.seed)
		if s, fine := impl.PuzzleText(p); !ok || !fine || s != c.text {
			t.Error(c.rows, c.clues, c.seed, s, ok)
		}
	}
}

func TestPuzzlesThatAreNotMade(t *testing.T) {
	far := []int{math.MinInt, math.MinInt + 1, -9999, -1, 10000, 10001, 10007, 20000, 1 << 32, math.MaxInt - 1, math.MaxInt}
	for _, rows := range [][]int{{1}, {3, 2}, {5, 5, 5, 5}} {
		for _, seed := range far {
			for _, clues := range []int{0, 1, 6} {
				if p, ok := impl.MakePuzzle(rows, clues, seed); ok || len(p.Clues) != 0 {
					t.Error(rows, clues, seed, p, ok)
				}
			}
		}
		for _, clues := range append(far, 7, 8, -6) {
			for _, seed := range []int{0, 1, 9999} {
				if p, ok := impl.MakePuzzle(rows, clues, seed); ok || len(p.Clues) != 0 {
					t.Error(rows, clues, seed, p, ok)
				}
			}
		}
	}
}

func TestPuzzleTexts(t *testing.T) {
	for _, p := range everyPuzzle {
		var texts []string
		for _, c := range p.Clues {
			texts = append(texts, strconv.Itoa(c.Kind)+"."+strconv.Itoa(c.A)+"."+strconv.Itoa(c.B))
		}
		want := strings.Join(texts, ",")
		if s, ok := impl.PuzzleText(p); !ok || s != want {
			t.Error(p, s, ok)
		}
		if parsed, ok := impl.ParsePuzzle(want); !ok || !samePuzzle(parsed, p) {
			t.Error(want, parsed, ok)
		}
	}
	for text, want := range map[string]impl.Puzzle{
		"": {}, "0.0.0": puzzleOf(0, 0, 0), "4.4.20": puzzleOf(4, 4, 20), "1.3.20,2.0.1": puzzleOf(1, 3, 20, 2, 0, 1),
		"5.0.20" + strings.Repeat(",3.0.10", 5): {Clues: append([]impl.Clue{clue(5, 0, 20)}, slices.Repeat([]impl.Clue{clue(3, 0, 10)}, 5)...)},
	} {
		if parsed, ok := impl.ParsePuzzle(text); !ok || !samePuzzle(parsed, want) {
			t.Error(text, parsed, ok)
		}
		if s, ok := impl.PuzzleText(want); !ok || s != text {
			t.Error(want, s, ok)
		}
	}
	for _, p := range noPuzzles() {
		if s, ok := impl.PuzzleText(p); ok || s != "" {
			t.Errorf("%.60v %q %v", p, s, ok)
		}
	}
}

func TestTextsThatAreNoPuzzles(t *testing.T) {
	six := strings.Repeat("0.0.5,", 5) + "0.0.5"
	bad := []string{
		",", ".", "..", "..,..", ",,", ".,.", "0", "0.", "0.0", "0.0.", ".0.5", "0..5", "0.5", "0.0.5,", ",0.0.5", "0.0.5,,2.0.0", "0.0.5,2.0", "0.0.5,2", "0.0.5,2.0.", "0.0.5,2.0.0,", ",0.0.5,2.0.0",
		"0.0.5.", "0.0.5.0", ".0.0.5", "0.0.5.2.0.0", "0,0,5", "0.0,5", "0,0.5", six + ",0.0.5", six + ",", "," + six, six + ".", six + "0", six + ",0.0.5,0.0.5", six + ",x",
		"6.0.0", "7.0.0", "-1.0.0", "0.1.5", "0.0.21", "0.0.-1", "0.-1.5", "1.4.0", "1.-1.0", "1.0.21", "2.0.2", "2.1.0", "2.0.20", "3.1.0", "3.0.21", "4.5.0", "4.0.21", "5.1.0", "5.0.21", "0.0.5,6.0.0", "2.0.0,0.0.21",
		"00.0.5", "0.00.5", "0.0.05", "0.0.00", "01.0.5", "1.00.5", "1.01.5", "0.0.020", "0.0.5,2.0.00", "+0.0.5", "0.+0.5", "0.0.+5", "-0.0.5", "0.-0.5", "0.0.-5", "0.0.-0",
		" 0.0.5", "0.0.5 ", "0 .0.5", "0. 0.5", "0.0 .5", "0.0. 5", "0.0.5, 2.0.0", "0.0.5 ,2.0.0", " ", "\n", "0.0.5\n", "\n0.0.5", "0.0.5\x00", "\x000.0.5", "\x00", "0\t.0.5", "-",
		"0-0-5", "0*0*5", "0x0x5", "0:0:5", "0/0/5", "0 0 5", "0^0^5", "0.0.5;2.0.0", "0.0.5/2.0.0", "0.0.5 2.0.0", "0.0.5.2.0.0", "0.0.5-2.0.0",
		"a.0.5", "0.a.5", "0.0.a", "0.0.A", "0.0.x", "0.0.0x5", "0.0.1e1", "0.0.1_0", "0.0.5a", "(0.0.5)", "[0.0.5]", "{0 0 5}", "\uff10.0.5", "0.0.\u0665", "0\u00b70\u00b75", "0\uff0e0\uff0e5", "0.0.5\uff0c2.0.0", "\xff", "0.0.5\xff",
		"18446744073709551616.0.5", "0.18446744073709551616.5", "0.0.18446744073709551621", "0.0.4294967301", "4294967296.0.5", "0.0.9223372036854775813", "0.0.99999999999999999999999", "0.0.-9223372036854775808",
	}
	for _, s := range bad {
		if p, ok := impl.ParsePuzzle(s); ok || len(p.Clues) != 0 {
			t.Errorf("%q %v %v", s, p, ok)
		}
	}
}
