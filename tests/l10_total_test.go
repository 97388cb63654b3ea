package tests

import (
	"fmt"
	"math/rand/v2"
	"runtime"
	"slices"
	"strings"
	"sync"
	"testing"
	"time"

	"loop.example/g01377/impl"
)

// spoilDesk fills all that a desk gives access to, each list by other values.
func spoilDesk(d impl.Desk) {
	spoilt(d.Nuts, "spoilt", true)
	spoilt(d.Strips, -5, true)
	spoilt(d.Weights, -6, true)
	spoilt(d.Slabs, slab(-7, -7), true)
}

func leaveDesk(impl.Desk) {}

// deskCalls calls every function of chapter 10 that takes a desk, and tells all results; spoil gets each desk returned.
func deskCalls(d impl.Desk, line string, spoil func(impl.Desk)) string {
	told := show(impl.IsDesk(d))
	next, reply, ok := impl.DeskLine(d, line)
	told += show(next, reply, ok)
	spoil(next)
	return told
}

// scriptCalls calls every function of chapter 10 that takes a script, or nothing, and tells all results; spoil gets each desk returned.
func scriptCalls(s string, spoil func(impl.Desk)) string {
	first := impl.FirstDesk()
	replies, ok := impl.RunScript(s)
	after, fine := impl.DeskAfter(s)
	failed, known := impl.FailedLines(s)
	told := show(first, replies, ok, after, fine, failed, known)
	spoil(first)
	spoil(after)
	// The replies and the numbers of lines are spoilt as lists of a desk.
	spoil(impl.Desk{Nuts: replies, Strips: failed})
	return told
}

// goodLines has lines of each kind that succeed on the first desk.
func goodLines() []string {
	return []string{
		"bar 12x11", "nuts 12/34", "strips 7-8-9", "weights 9-9-1", "slabs 1^1,2^2", "turn", "round", "put 0 0", "break 0 2", "squares", "breaks", "trees", "eat 3", "all", "rows", "columns", "rich 2x1", "parts 3",
		"poor 2", "pieces 3", "few 3", "plain", "kept", "good", "heap", "value 8 1", "lost 10 1", "wins 1", "moves 1", "taste 2 2 5", "weigh 8 7", "group 16", "grid 7", "halves", "share 3", "take", "ends",
		"stack", "stacks", "heavy", "bites 10 2",
	}
}

// failingLines has lines that fail on the first desk.
func failingLines() []string {
	return []string{"put 9 9", "break 0 5", "eat 7", "rich 9x9", "poor 9", "moves 0", "taste 2 2 9", "share 5", "fly", "", " ", "bar 0x0", "nuts 1/22", "strips 0", "weights 0", "slabs 1", "turn 1"}
}

// TestGoodLines has a line of each kind.
func TestGoodLines(t *testing.T) {
	firsts := map[string]bool{}
	for _, line := range goodLines() {
		firsts[strings.Fields(line)[0]] = true
		if _, reply, ok := impl.DeskLine(impl.FirstDesk(), line); !ok || reply == "no" || reply == "what" {
			t.Errorf("%q %q %v", line, reply, ok)
		}
	}
	if len(firsts) != len(everyAsked) {
		t.Error(len(firsts), "kinds of lines")
	}
	for _, line := range failingLines() {
		if _, reply, ok := impl.DeskLine(impl.FirstDesk(), line); !ok || reply != "no" && reply != "what" {
			t.Errorf("%q %q %v", line, reply, ok)
		}
	}
}

func TestNoTextMakesTheConsolePanic(t *testing.T) {
	signs := []string{"", " ", "\n", "x", "-", "^", ",", "/", "0", "1", "9", "60", "1000", "999999", "99999999999999999999", "3x2", "13x13", "2^5", "\x00", "\xff", "\uff12", "squares", "break", "taste", "nuts", "bar", "strips", "slabs", "what"}
	for _, a := range signs {
		for _, b := range signs {
			for _, c := range signs {
				for _, s := range []string{a + b + c, a + " " + b + " " + c, a + "\n" + b + " " + c + "\n"} {
					catch(t, func() {
						scriptCalls(s, leaveDesk)
						deskCalls(firstDesk(), s, leaveDesk)
						deskCalls(impl.Desk{}, s, leaveDesk)
					}, s)
				}
			}
		}
	}
	for first := range everyAsked {
		for _, sign := range []string{" ", "9", "1 ", "x", "-", "1-", "/", "1/", ",", "1^1,", "\xff", "0"} {
			for _, many := range []int{1, 10, 1000, 2900, 1000000} {
				s := first + " " + strings.Repeat(sign, many)
				catch(t, func() {
					scriptCalls(s+"\n", leaveDesk)
					deskCalls(firstDesk(), s, leaveDesk)
				}, first, sign, many)
			}
		}
	}
}

// TestNoBytesMakeTheConsolePanic has texts of bytes of any kind, and such as lines have.
func TestNoBytesMakeTheConsolePanic(t *testing.T) {
	z := rand.New(rand.NewPCG(3, 7))
	good := goodLines()
	for range 20000 {
		text := []byte(good[z.IntN(len(good))] + "\n" + good[z.IntN(len(good))] + "\n")
		for range 1 + z.IntN(3) {
			text[z.IntN(len(text))] = []byte{byte(z.IntN(256)), "0123456789 x-^,/\n"[z.IntN(17)]}[z.IntN(2)]
		}
		s := string(text)
		catch(t, func() {
			scriptCalls(s, leaveDesk)
			deskCalls(firstDesk(), strings.TrimSuffix(s, "\n"), leaveDesk)
			deskCalls(firstDesk(), strings.ReplaceAll(s, "\n", ""), leaveDesk)
		}, s)
	}
}

// TestNoDeskMakesTheConsolePanic has desks with any numbers and texts.
func TestNoDeskMakesTheConsolePanic(t *testing.T) {
	zero := show(false) + show(impl.Desk{}, "", false)
	lines := append(goodLines(), failingLines()...)
	for i, d := range noDesks() {
		for _, line := range []string{lines[i%len(lines)], lines[(7*i+3)%len(lines)]} {
			catch(t, func() {
				if told := deskCalls(d, line, leaveDesk); told != zero {
					t.Errorf("%.80v %q %q", d, line, told)
				}
			}, line)
		}
	}
	for _, n := range stackInts() {
		for _, line := range lines {
			catch(t, func() {
				deskCalls(impl.Desk{Bar: bar(n, n), Nuts: []string{fmt.Sprint(n)}, Strips: []int{n}, Weights: []int{n}, Slabs: slabsOf(n, n)}, line, leaveDesk)
				deskCalls(impl.Desk{Bar: bar(n, 2), Nuts: rows("201/130"), Strips: []int{5, n}, Weights: []int{n, 1, n}, Slabs: slabsOf(2, n, n, 5)}, line, leaveDesk)
				deskCalls(impl.Desk{Bar: bar(3, 2), Nuts: rows("201/130"), Strips: []int{n}, Weights: []int{n}, Slabs: slabsOf(n, n)}, line, leaveDesk)
			}, n, line)
		}
	}
}

// deskWithRoom has the desk with room behind each list, filled by what could be in it, or by what could not, and the whole of each list.
func deskWithRoom(d impl.Desk, turn int) (impl.Desk, impl.Desk) {
	var given, whole impl.Desk
	given.Bar, whole.Bar = d.Bar, d.Bar
	given.Nuts, whole.Nuts = withRoom(d.Nuts, []string{"", "999", "000", strings.Repeat("1", len(d.Nuts[0]))}[turn])
	given.Strips, whole.Strips = withRoom(d.Strips, []int{-7, 0, 1, 60}[turn])
	given.Weights, whole.Weights = withRoom(d.Weights, []int{-7, 0, 1, 1000}[turn])
	given.Slabs, whole.Slabs = withRoom(d.Slabs, []impl.Slab{{}, slab(-7, 1), slab(1, 1000), slab(1000, 1)}[turn])
	return given, whole
}

func copyOf(d impl.Desk) impl.Desk {
	return impl.Desk{Bar: d.Bar, Nuts: slices.Clone(d.Nuts), Strips: slices.Clone(d.Strips), Weights: slices.Clone(d.Weights), Slabs: slices.Clone(d.Slabs)}
}

// TestDesksAreNotModified spoils each desk returned: nothing of it is the desk that was given, or is behind its lists.
func TestDesksAreNotModified(t *testing.T) {
	for _, d := range someDesks() {
		for _, line := range append(goodLines(), failingLines()...) {
			var told []string
			for turn := range 4 {
				given, whole := deskWithRoom(d, turn)
				before := copyOf(whole)
				told = append(told, deskCalls(given, line, spoilDesk))
				if !sameDesk(whole, before) {
					t.Error("modified", line, before, whole)
				}
			}
			if slices.Max(told) != slices.Min(told) {
				t.Error("what is behind the lists was read", d, line, told)
			}
		}
	}
}

// TestDesksThatAreNoneAreNotModified has desks with a list that is none, of which room behind it would make one.
func TestDesksThatAreNoneAreNotModified(t *testing.T) {
	for turn := range 4 {
		for _, change := range []func(d *impl.Desk){
			func(d *impl.Desk) { d.Nuts = d.Nuts[:0] }, func(d *impl.Desk) { d.Strips = d.Strips[:0] }, func(d *impl.Desk) { d.Weights = d.Weights[:0] }, func(d *impl.Desk) { d.Slabs = d.Slabs[:0] },
		} {
			given, whole := deskWithRoom(firstDesk(), turn)
			change(&given)
			before := copyOf(whole)
			if told := deskCalls(given, "squares", spoilDesk); told != show(false)+show(impl.Desk{}, "", false) || !sameDesk(whole, before) {
				t.Error(turn, told, whole)
			}
		}
	}
}

// TestListsOfADeskShareNothing fills each list of a desk, up to its room, and looks at all others.
func TestListsOfADeskShareNothing(t *testing.T) {
	look := func(name string, d impl.Desk) {
		before := copyOf(d)
		spoilt(d.Strips, -5, true)
		if !slices.Equal(d.Weights, before.Weights) {
			t.Error("the weights are the strips", name)
		}
		d.Strips = before.Strips
		spoilt(d.Weights, -6, true)
		d.Weights = before.Weights
		if !sameDesk(d, before) {
			t.Error("shared", name, d, before)
		}
	}
	look("FirstDesk", impl.FirstDesk())
	for _, line := range append(goodLines(), failingLines()...) {
		d, _, _ := impl.DeskLine(impl.FirstDesk(), line)
		look(line, d)
		for _, next := range goodLines() {
			d, ok := impl.DeskAfter(scriptOf("strips 3-1-4-2", line, "weights 3-1-4-2", next))
			if !ok {
				t.Error(line, next)
			}
			look(line+" "+next, d)
		}
	}
}

// TestConsoleResultsAreNew spoils each result and calls again: nothing is kept from call to call.
func TestConsoleResultsAreNew(t *testing.T) {
	lines, _ := exampleLines()
	scripts := []string{"", scriptOf(lines...), scriptOf(goodLines()...), scriptOf(failingLines()...), "turn\n", "squares"}
	for _, s := range scripts {
		first := scriptCalls(s, spoilDesk)
		if again := scriptCalls(s, leaveDesk); first != again {
			t.Error(s, first, again)
		}
	}
	for _, d := range someDesks() {
		for _, line := range append(goodLines(), failingLines()...) {
			given := copyOf(d)
			first := deskCalls(given, line, spoilDesk)
			if again := deskCalls(given, line, leaveDesk); first != again || !sameDesk(given, d) {
				t.Error(d, line, first, again)
			}
		}
	}
}

// consoleResults tells results of all functions of chapter 10.
func consoleResults() string {
	lines, _ := exampleLines()
	told := scriptCalls(scriptOf(lines...), spoilDesk) + scriptCalls(scriptOf(goodLines()...), spoilDesk) + scriptCalls("", spoilDesk)
	for _, line := range goodLines() {
		told += deskCalls(impl.FirstDesk(), line, spoilDesk)
	}
	return told
}

// TestConsolesAtTheSameTime calls from several goroutines: no call leaves anything to another one, nor a goroutine behind.
func TestConsolesAtTheSameTime(t *testing.T) {
	before := runtime.NumGoroutine()
	want := consoleResults()
	told := make([]string, 16)
	var calls sync.WaitGroup
	for i := range told {
		calls.Go(func() { told[i] = consoleResults() })
	}
	calls.Wait()
	for i, got := range told {
		if got != want {
			t.Error(i, got, "not", want)
		}
	}
	if strings.Contains(want, "false") {
		t.Error("a call fails", want)
	}
	// One that is about to end is counted for a while.
	for tries := 0; runtime.NumGoroutine() > before && tries < 500; tries++ {
		time.Sleep(10 * time.Millisecond)
	}
	if after := runtime.NumGoroutine(); after > before {
		t.Error(before, "goroutines before,", after, "after")
	}
}
