package tests

import (
	"fmt"
	"math"
	"slices"
	"strings"
	"sync"
	"testing"

	"loop.example/g01377/impl"
)

// puzzleCalls calls every function of chapter 9 that takes a puzzle, and tells all results; spoil gets each list and each puzzle returned.
func puzzleCalls(p impl.Puzzle, k int, c impl.Clue, spoil func(results ...any)) []string {
	var told []string
	tell := func(results ...any) {
		told = append(told, show(results...))
		spoil(results...)
	}
	tell(impl.IsPuzzle(p))
	solutions, ok := impl.Solutions(p)
	tell(solutions, ok)
	many, ok := impl.CountSolutions(p)
	tell(many, ok)
	first, ok := impl.FirstSolution(p)
	tell(first, ok)
	sure, ok := impl.SureRows(p)
	tell(sure, ok)
	solved, ok := impl.IsSolved(p)
	tell(solved, ok)
	needless, ok := impl.NeedlessClues(p)
	tell(needless, ok)
	dropped, ok := impl.DropClue(p, k)
	tell(dropped, ok)
	added, ok := impl.AddClue(p, c)
	tell(added, ok)
	left, ok := impl.LeftByClues(p)
	tell(left, ok)
	best, ok := impl.BestClue(p)
	tell(best, ok)
	harder, ok := impl.HarderPuzzle(p)
	tell(harder, ok)
	text, ok := impl.PuzzleText(p)
	tell(text, ok)
	return told
}

// hiddenCalls calls every function of chapter 9 that takes a chomp, and tells all results.
func hiddenCalls(c impl.Clue, rows []int, clues, seed int, spoil func(results ...any)) []string {
	fits, ok := impl.DoesFit(c, rows)
	made, fine := impl.MakePuzzle(rows, clues, seed)
	told := []string{show(fits, ok), show(made, fine)}
	spoil(made)
	return told
}

func leaveResults(...any) {}

// spoilResults fills all that results give access to.
func spoilResults(results ...any) {
	for _, r := range results {
		switch result := r.(type) {
		case []int:
			spoilNumbers(result)
		case [][]int:
			spoilNumbers(result...)
		case impl.Puzzle:
			spoilt(result.Clues, clue(-5, -5, -5), true)
		}
	}
}

func TestNoPuzzlesFail(t *testing.T) {
	number, list, is, puzzle := show(0, false), show([]int(nil), false), show(false, false), show(impl.Puzzle{}, false)
	zero := []string{show(false), list, number, list, list, is, list, puzzle, puzzle, list, number, puzzle, show("", false)}
	for _, p := range noPuzzles() {
		for _, k := range []int{-1, 0, 1, 5, 6} {
			for _, c := range []impl.Clue{clue(0, 0, 5), clue(6, 0, 0)} {
				if told := puzzleCalls(p, k, c, leaveResults); !slices.Equal(told, zero) {
					t.Errorf("%.60v %q", p, told)
				}
			}
		}
	}
}

// puzzleInts has numbers at and beyond all limits of chapter 9.
func puzzleInts() []int {
	return []int{math.MinInt, math.MinInt + 1, -10000, -6, -1, 0, 1, 2, 3, 4, 5, 6, 7, 19, 20, 21, 9998, 9999, 10000, 1 << 32, math.MaxInt - 1, math.MaxInt}
}

func TestNoNumberMakesPuzzlesPanic(t *testing.T) {
	for _, a := range puzzleInts() {
		for _, b := range puzzleInts() {
			catch(t, func() {
				for kind := -1; kind <= 6; kind++ {
					c := clue(kind, a, b)
					impl.IsClue(c)
					puzzleCalls(impl.Puzzle{Clues: []impl.Clue{c}}, a, clue(a, kind, b), leaveResults)
					hiddenCalls(c, []int{3, 2}, a, b, leaveResults)
				}
				puzzleCalls(puzzleOf(0, 0, 5, a, b, a, 2, 0, 0), b, clue(a, a, b), leaveResults)
				puzzleCalls(puzzleOf(0, 0, 5, 2, 0, 0), a, clue(b, 0, 0), leaveResults)
				for _, rows := range [][]int{nil, {}, {a}, {a, b}, {5, a, b}, {5, 5, 5, a}, {5, 4, 3, 2, a}} {
					hiddenCalls(clue(0, 0, 5), rows, 6, a, leaveResults)
					hiddenCalls(clue(5, 0, 1), rows, a, b, leaveResults)
				}
			}, a, b)
		}
	}
}

func TestNoTextMakesParsePuzzlePanic(t *testing.T) {
	signs := []string{"", ",", ".", "0", "1", "5", "20", "21", "0.0.5", "0.0.5,", ",2.0.0", "1.3.4,4.4.1", "-1", "+1", " ", "\n", "\x00", "\xff", "\uff12", "99999999999999999999"}
	good := 0
	for _, a := range signs {
		for _, b := range signs {
			for _, c := range signs {
				s := a + b + c
				catch(t, func() {
					p, ok := impl.ParsePuzzle(s)
					if text, fine := impl.PuzzleText(p); !fine || ok && text != s || !ok && len(p.Clues) != 0 {
						t.Errorf("%q %v %v", s, p, ok)
					}
					if ok {
						good++
					}
				}, s)
			}
		}
	}
	if good < 30 {
		t.Error("too few are puzzles", good)
	}
	for _, sign := range []string{",", ".", "0.0.5,", "0.", "0", "0,", ".5,", "-", "..,"} {
		for _, s := range []string{strings.Repeat(sign, 1000000), "0.0.5" + strings.Repeat(sign, 1000000), strings.Repeat(sign, 1000000) + "0.0.5"} {
			if p, ok := impl.ParsePuzzle(s); ok || len(p.Clues) != 0 {
				t.Error("long text of", sign, len(p.Clues), ok)
			}
		}
	}
}

// someOfPuzzles has puzzles of all numbers of clues, and some that are none.
func someOfPuzzles() []impl.Puzzle {
	puzzles := []impl.Puzzle{{}, puzzleOf(0, 0, 1), puzzleOf(0, 0, 5, 2, 0, 0), puzzleOf(1, 3, 5, 0, 0, 20), puzzleOf(0, 0, 1, 1, 0, 1, 1, 1, 0), puzzleOf(0, 0, 1, 0, 0, 20), {Clues: slices.Repeat([]impl.Clue{clue(0, 0, 1)}, 6)}}
	for i, p := range everyPuzzle {
		if i%17 == 0 {
			puzzles = append(puzzles, p)
		}
	}
	return append(puzzles, puzzleOf(6, 0, 0), puzzleOf(0, 0, 5, 0, 1, 5), puzzleOf(0, 0, 21, 0, 0, 5), impl.Puzzle{Clues: slices.Repeat([]impl.Clue{clue(0, 0, 1)}, 7)})
}

func TestPuzzlesAreNotModified(t *testing.T) {
	for _, p := range someOfPuzzles() {
		for k := range max(len(p.Clues), 1) {
			var told []string
			for _, spare := range []impl.Clue{clue(-7, -7, -7), clue(0, 0, 1), clue(2, 0, 0), {}} {
				given, whole := withRoom(p.Clues, spare)
				before := slices.Clone(whole)
				results := puzzleCalls(impl.Puzzle{Clues: given}, k, clue(1, 0, 2), spoilResults)
				if !slices.Equal(whole, before) {
					t.Error("modified", before, whole)
				}
				told = append(told, fmt.Sprint(results))
			}
			if slices.Max(told) != slices.Min(told) {
				t.Error("what is behind the clues was read", p, told)
			}
		}
	}
}

func TestHiddenChompsAreNotModified(t *testing.T) {
	for _, rows := range [][]int{nil, {1}, {3, 2}, {5, 5, 5}, {5, 5, 5, 5}, {4, 2, 1}, {6}, {2, 2, 2, 2, 2}, {0}, {1, 2}, {3, 0}} {
		for _, c := range []impl.Clue{clue(0, 0, 5), clue(1, 1, 2), clue(1, 3, 0), clue(2, 0, 0), clue(3, 0, 0), clue(4, 0, 2), clue(5, 0, 0), clue(6, 0, 0)} {
			var told []string
			for _, spare := range []int{-7, 0, 1, 2} {
				given, whole := withRoom(rows, spare)
				before := slices.Clone(whole)
				results := hiddenCalls(c, given, 6, 77, spoilResults)
				if !slices.Equal(whole, before) {
					t.Error("modified", before, whole)
				}
				told = append(told, fmt.Sprint(results))
			}
			if slices.Max(told) != slices.Min(told) {
				t.Error("what is behind the rows was read", rows, told)
			}
		}
	}
}

// TestPuzzleResultsAreNew spoils each result and calls again: nothing is kept from call to call.
func TestPuzzleResultsAreNew(t *testing.T) {
	for _, p := range someOfPuzzles() {
		given := impl.Puzzle{Clues: slices.Clone(p.Clues)}
		first := puzzleCalls(given, 0, clue(2, 0, 1), spoilResults)
		if again := puzzleCalls(given, 0, clue(2, 0, 1), leaveResults); !slices.Equal(first, again) || !samePuzzle(given, p) {
			t.Error(p, first, again)
		}
	}
	for _, h := range everyHidden {
		rows := slices.Clone(h.rows)
		first := hiddenCalls(clue(2, 0, 1), rows, 6, 5, spoilResults)
		if again := hiddenCalls(clue(2, 0, 1), rows, 6, 5, leaveResults); !slices.Equal(first, again) || !slices.Equal(rows, h.rows) {
			t.Error(rows, first, again)
		}
	}
	for _, text := range []string{"", "0.0.5", "0.0.5,2.0.0"} {
		p, ok := impl.ParsePuzzle(text)
		want := show(p, ok)
		spoilResults(p)
		if again, ok := impl.ParsePuzzle(text); show(again, ok) != want {
			t.Error(want, again, ok)
		}
	}
}

func TestSolutionsShareNothing(t *testing.T) {
	for _, p := range someOfPuzzles() {
		list, _ := impl.Solutions(p)
		overwrite(list)
		for i, rows := range list {
			for _, n := range rows {
				if n != -1000-i {
					t.Error("shared with another one", p, i, rows)
				}
			}
		}
	}
}

// puzzleResults tells results of all functions of chapter 9.
func puzzleResults() string {
	told := show(impl.IsClue(clue(0, 0, 5)))
	for _, p := range []impl.Puzzle{puzzleOf(0, 0, 1), puzzleOf(1, 3, 5, 0, 0, 20), puzzleOf(1, 0, 1, 0, 0, 3), puzzleOf(0, 0, 1, 1, 0, 1, 1, 1, 0)} {
		told += strings.Join(puzzleCalls(p, 0, clue(5, 0, 1), spoilResults), "")
	}
	told += strings.Join(hiddenCalls(clue(5, 0, 1), []int{3, 3}, 6, 99, spoilResults), "")
	parsed, ok := impl.ParsePuzzle("0.0.5,2.0.0")
	return told + show(parsed, ok)
}

// TestPuzzlesAtTheSameTime calls from several goroutines: no call leaves anything to another one.
func TestPuzzlesAtTheSameTime(t *testing.T) {
	want := puzzleResults()
	told := make([]string, 16)
	var calls sync.WaitGroup
	for i := range told {
		calls.Go(func() { told[i] = puzzleResults() })
	}
	calls.Wait()
	for i, got := range told {
		if got != want {
			t.Error(i, got, "not", want)
		}
	}
	if strings.Contains(want, "false") {
		t.Error("a call fails", want)
	}
}
