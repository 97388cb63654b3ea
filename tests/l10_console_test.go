package tests

import (
	"fmt"
	"math/rand/v2"
	"regexp"
	"slices"
	"strconv"
	"strings"
	"testing"

	"loop.example/g01377/impl"
)

// asked is what lines of one kind ask: the words behind the first one, each told by its letter, and the calls that the chapter names for them.
type asked struct {
	words string
	calls func(d *impl.Desk, n []int, word string) []any
}

// wordForms has the texts that a word with a letter may have, by the words of the chapters that tell of them.
var wordForms = map[string]*regexp.Regexp{
	"N": wholly(`0|[1-9][0-9]{0,5}`),
	"B": wholly(`([1-9]|1[0-2])x([1-9]|1[0-2])`),
	"U": wholly(sameRows()),
	"S": wholly(several(`[1-9]|[1-5][0-9]|60`, "-", 8)),
	"W": wholly(several(`[1-9][0-9]{0,2}|1000`, "-", 12)),
	"L": wholly(several(`([1-9][0-9]{0,2}|1000)\^([1-9][0-9]{0,2}|1000)`, ",", 7)),
}

func wholly(form string) *regexp.Regexp { return regexp.MustCompile(`\A(?:` + form + `)\z`) }

// several has up to so many of a form, with a sign between them.
func several(form, sign string, most int) string {
	return fmt.Sprintf("(?:%s)(?:%s(?:%s)){0,%d}", form, sign, form, most-1)
}

// sameRows has the NutsTexts: one form for each length of the rows.
func sameRows() string {
	var forms []string
	for wide := 1; wide <= 8; wide++ {
		forms = append(forms, several(fmt.Sprintf("[0-9]{%d}", wide), "/", 8))
	}
	return strings.Join(forms, "|")
}

// numbersOf reads the numbers of a text that has a sign between them.
func numbersOf(text, sign string) []int {
	var numbers []int
	for _, word := range strings.Split(text, sign) {
		n, _ := strconv.Atoi(word)
		numbers = append(numbers, n)
	}
	return numbers
}

func slabsRead(text string) []impl.Slab {
	return slabsOf(numbersOf(strings.ReplaceAll(text, "^", ","), ",")...)
}

// joined has the numbers of a list with a sign between them.
func joined(numbers []int, sign string) string {
	return strings.ReplaceAll(strings.Trim(fmt.Sprint(numbers), "[]"), " ", sign)
}

var everyAsked = allAsked()

// allAsked has all lines of the chapter's table, by their first words.
func allAsked() map[string]asked {
	all := map[string]asked{}
	for _, lines := range []map[string]asked{settingLines(), barLines(), nutLines(), stripLines(), pralineLines(), weightLines()} {
		for first, line := range lines {
			all[first] = line
		}
	}
	return all
}

func settingLines() map[string]asked {
	return map[string]asked{
		"bar": {"B", func(d *impl.Desk, n []int, word string) []any {
			sides := numbersOf(word, "x")
			d.Bar = bar(sides[0], sides[1])
			return []any{word, true}
		}},
		"nuts": {"U", func(d *impl.Desk, n []int, word string) []any { d.Nuts = rows(word); return []any{word, true} }},
		"strips": {"S", func(d *impl.Desk, n []int, word string) []any {
			d.Strips = numbersOf(word, "-")
			return []any{word, true}
		}},
		"weights": {"W", func(d *impl.Desk, n []int, word string) []any {
			d.Weights = numbersOf(word, "-")
			return []any{word, true}
		}},
		"slabs": {"L", func(d *impl.Desk, n []int, word string) []any { d.Slabs = slabsRead(word); return []any{word, true} }},
	}
}

// barLines has the lines of the chapters 1 and 4 that ask and change the Bar.
func barLines() map[string]asked {
	return map[string]asked{
		"turn": {"", func(d *impl.Desk, n []int, word string) []any {
			b, ok := impl.TurnBar(d.Bar)
			d.Bar = b
			return []any{fmt.Sprintf("%dx%d", b.Wide, b.High), ok}
		}},
		"squares": {"", func(d *impl.Desk, n []int, word string) []any { return list(impl.SquaresOf(d.Bar)) }},
		"breaks":  {"", func(d *impl.Desk, n []int, word string) []any { return list(impl.FewestBreaks(d.Bar)) }},
		"trees":   {"", func(d *impl.Desk, n []int, word string) []any { return list(impl.CountTrees(d.Bar)) }},
		"eat":     {"N", func(d *impl.Desk, n []int, word string) []any { return list(impl.LeastToEat(d.Bar, n[0])) }},
		"plain":   {"", func(d *impl.Desk, n []int, word string) []any { return list(impl.WinsPlain(d.Bar)) }},
		"kept":    {"", func(d *impl.Desk, n []int, word string) []any { return list(impl.WinsKept(d.Bar)) }},
		"good":    {"", func(d *impl.Desk, n []int, word string) []any { return list(impl.GoodKept(d.Bar)) }},
		"heap":    {"", func(d *impl.Desk, n []int, word string) []any { return list(impl.KeptHeap(d.Bar)) }},
	}
}

// nutLines has the lines of chapter 2.
func nutLines() map[string]asked {
	become := func(d *impl.Desk, nuts []string, ok bool) []any {
		if ok {
			d.Nuts = nuts
		}
		return []any{strings.Join(nuts, "/"), ok}
	}
	return map[string]asked{
		"round": {"", func(d *impl.Desk, n []int, word string) []any {
			nuts, ok := impl.TurnNuts(d.Nuts)
			return become(d, nuts, ok)
		}},
		"put": {"NN", func(d *impl.Desk, n []int, word string) []any {
			nuts, ok := impl.PutNut(d.Nuts, n[0], n[1])
			return become(d, nuts, ok)
		}},
		"all":     {"", func(d *impl.Desk, n []int, word string) []any { return list(impl.NutsIn(d.Nuts)) }},
		"rows":    {"", func(d *impl.Desk, n []int, word string) []any { return list(impl.RowNuts(d.Nuts)) }},
		"columns": {"", func(d *impl.Desk, n []int, word string) []any { return list(impl.ColumnNuts(d.Nuts)) }},
		"rich": {"B", func(d *impl.Desk, n []int, word string) []any {
			sides := numbersOf(word, "x")
			x, y, many, ok := impl.RichestPart(d.Nuts, bar(sides[0], sides[1]))
			return []any{x, y, many, ok}
		}},
		"parts":  {"N", func(d *impl.Desk, n []int, word string) []any { return list(impl.CountParts(d.Nuts, n[0])) }},
		"poor":   {"N", func(d *impl.Desk, n []int, word string) []any { return list(impl.FirstStrips(d.Nuts, n[0])) }},
		"pieces": {"N", func(d *impl.Desk, n []int, word string) []any { return list(impl.PoorestPiece(d.Nuts, n[0])) }},
		"few":    {"N", func(d *impl.Desk, n []int, word string) []any { return list(impl.FewestPieces(d.Nuts, n[0])) }},
	}
}

// stripLines has the lines of chapter 4 that tell of strips.
func stripLines() map[string]asked {
	return map[string]asked{
		"break": {"NN", func(d *impl.Desk, n []int, word string) []any {
			strips, ok := impl.BreakStrip(d.Strips, n[0], n[1], 1, false)
			if ok {
				d.Strips = strips
			}
			return []any{joined(strips, "-"), ok}
		}},
		"value": {"NN", func(d *impl.Desk, n []int, word string) []any { return list(impl.StripValue(n[0], n[1], true)) }},
		"lost":  {"NN", func(d *impl.Desk, n []int, word string) []any { return list(impl.LostStrips(n[0], n[1], true)) }},
		"wins":  {"N", func(d *impl.Desk, n []int, word string) []any { return list(impl.WinsStrips(d.Strips, n[0], true)) }},
		"moves": {"N", func(d *impl.Desk, n []int, word string) []any { return list(impl.GoodStrips(d.Strips, n[0], true)) }},
	}
}

// pralineLines has the lines of chapter 6.
func pralineLines() map[string]asked {
	two := func(a, b int, ok bool) []any { return []any{a, b, ok} }
	return map[string]asked{
		"taste": {"NNN", func(d *impl.Desk, n []int, word string) []any {
			pralines, ok := impl.MostPralines(n[0], n[1])
			code, fine := impl.CodeOfPraline(pralines, n[0], n[1], n[2])
			return []any{code, ok && fine}
		}},
		"weigh": {"NN", func(d *impl.Desk, n []int, word string) []any { return list(impl.ResultsFor(n[0], n[1])) }},
		"group": {"N", func(d *impl.Desk, n []int, word string) []any { return two(impl.BestGroup(n[0])) }},
		"grid":  {"N", func(d *impl.Desk, n []int, word string) []any { return two(impl.GridFor(n[0])) }},
	}
}

// weightLines has the lines of chapter 8.
func weightLines() map[string]asked {
	return map[string]asked{
		"halves": {"", func(d *impl.Desk, n []int, word string) []any { return list(impl.FirstHalf(d.Weights)) }},
		"share":  {"N", func(d *impl.Desk, n []int, word string) []any { return list(impl.PoorestShare(d.Weights, n[0])) }},
		"take": {"", func(d *impl.Desk, n []int, word string) []any {
			first, other, ok := impl.BestTake(d.Weights)
			return []any{first, other, ok}
		}},
		"ends":   {"", func(d *impl.Desk, n []int, word string) []any { return list(impl.FirstTakes(d.Weights)) }},
		"stack":  {"", func(d *impl.Desk, n []int, word string) []any { return list(impl.FirstStack(d.Slabs)) }},
		"stacks": {"", func(d *impl.Desk, n []int, word string) []any { return list(impl.CountStacks(d.Slabs)) }},
		"heavy":  {"", func(d *impl.Desk, n []int, word string) []any { return list(impl.HeaviestStack(d.Slabs)) }},
		"bites":  {"NN", func(d *impl.Desk, n []int, word string) []any { return list(impl.BitesToEat(n[0], n[1])) }},
	}
}

func list[T any](result T, ok bool) []any { return []any{result, ok} }

// replied tells the results of a call, the last of which tells whether it succeeds, by the words of the chapter.
func replied(results []any) string {
	last := len(results) - 1
	if results[last] == false {
		return "no"
	}
	var words []string
	for _, result := range results[:last] {
		words = append(words, repliedWord(result))
	}
	return strings.Join(words, " ")
}

func repliedWord(result any) string {
	text := fmt.Sprint(result)
	switch r := result.(type) {
	case bool:
		text = map[bool]string{true: "yes", false: "never"}[r]
	case []int:
		text = joined(r, ",")
	case [][]int:
		var texts []string
		for _, numbers := range r {
			texts = append(texts, joined(numbers, ","))
		}
		text = strings.Join(texts, " ")
	case []impl.Bar:
		var texts []string
		for _, b := range r {
			texts = append(texts, fmt.Sprintf("%dx%d", b.Wide, b.High))
		}
		text = strings.Join(texts, ",")
	}
	if text == "" {
		return "-"
	}
	return text
}

// wanted has the desk behind a line and its reply, by the table.
func wanted(d impl.Desk, line string) (impl.Desk, string) {
	first, behind, more := strings.Cut(line, " ")
	kind, ok := everyAsked[first]
	var words []string
	if more {
		words = strings.Split(behind, " ")
	}
	if !ok || len(words) != len(kind.words) {
		return d, "what"
	}
	for i, letter := range strings.Split(kind.words, "") {
		if !wordForms[letter].MatchString(words[i]) {
			return d, "what"
		}
	}
	word := ""
	if len(words) > 0 {
		word = words[0]
	}
	reply := replied(kind.calls(&d, numbersOf(behind, " "), word))
	return d, reply
}

func sameDesk(a, b impl.Desk) bool {
	return a.Bar == b.Bar && slices.Equal(a.Nuts, b.Nuts) && slices.Equal(a.Strips, b.Strips) && slices.Equal(a.Weights, b.Weights) && slices.Equal(a.Slabs, b.Slabs)
}

// firstDesk has what the document tells of FirstDesk.
func firstDesk() impl.Desk {
	return impl.Desk{Bar: bar(3, 2), Nuts: rows("201/130"), Strips: []int{5}, Weights: []int{3, 1, 4, 2}, Slabs: slabsOf(2, 5, 3, 2, 1, 9)}
}

// scriptOf ends each line by a newline.
func scriptOf(lines ...string) string {
	text := ""
	for _, line := range lines {
		text += line + "\n"
	}
	return text
}

// failing has the numbers of the replies that are no or what, counted from 1.
func failing(replies []string) []int {
	var numbers []int
	for i, reply := range replies {
		if reply == "no" || reply == "what" {
			numbers = append(numbers, i+1)
		}
	}
	return numbers
}

// checkScript holds a script of lines against these replies, by all functions of chapter 10, and returns the desk behind it.
func checkScript(t *testing.T, lines, replies []string) impl.Desk {
	t.Helper()
	s := scriptOf(lines...)
	if got, ok := impl.RunScript(s); !ok || !slices.Equal(got, replies) {
		t.Errorf("RunScript %q %q %v not %q", lines, got, ok, replies)
	}
	if got, ok := impl.FailedLines(s); !ok || !slices.Equal(got, failing(replies)) {
		t.Errorf("FailedLines %q %v %v not %v", lines, got, ok, failing(replies))
	}
	d := impl.FirstDesk()
	for i, line := range lines {
		next, reply, ok := impl.DeskLine(d, line)
		if !ok || reply != replies[i] {
			t.Errorf("DeskLine %v %q %q %v not %q", d, line, reply, ok, replies[i])
		}
		if slices.Contains([]string{"no", "what"}, reply) && !sameDesk(next, d) {
			t.Errorf("changed by %q: %v %v", line, d, next)
		}
		d = next
	}
	after, ok := impl.DeskAfter(s)
	if !ok || !sameDesk(after, d) || !impl.IsDesk(after) {
		t.Errorf("DeskAfter %q %v %v not %v", lines, after, ok, d)
	}
	return d
}

func TestConsoleConstants(t *testing.T) {
	if impl.MaxScript != 3000 || impl.MaxLines != 50 {
		t.Error(impl.MaxScript, impl.MaxLines)
	}
	if len(everyAsked) != 41 {
		t.Error("the tests know", len(everyAsked), "lines")
	}
}

func TestFirstDesk(t *testing.T) {
	if d := impl.FirstDesk(); !sameDesk(d, firstDesk()) || !impl.IsDesk(d) {
		t.Error(d)
	}
}

// exampleLines has the lines and the replies of the chapter's example.
func exampleLines() ([]string, []string) {
	lines := []string{
		"squares", "breaks", "trees", "eat 3", "turn", "all", "columns", "rich 2x1", "parts 3", "poor 2", "pieces 3", "few 3", "put 0 0", "round", "plain", "kept", "good", "heap", "bar 2x2", "kept", "good",
		"value 8 1", "lost 10 1", "wins 1", "moves 1", "break 0 2", "wins 1", "break 0 2", "taste 2 2 5", "weigh 8 7", "group 16", "grid 7", "halves", "share 3", "take", "ends", "stack", "stacks", "heavy",
		"bites 10 2", "rich 9x9", "fly",
	}
	replies := []string{
		"6", "5", "8", "9", "2x3", "7", "3,3,1", "0 1 4", "5", "1,2", "1", "3", "301/130", "13/30/01", "yes", "yes", "2x2", "3", "2x2", "never", "-",
		"2", "1,2,4,7,10", "yes", "0,1", "2-3", "yes", "no", "1,2", "=r", "4 8", "2 4", "0,3", "3", "7 3", "ffff", "0,1,2", "14", "6",
		"4", "no", "what",
	}
	return lines, replies
}

func TestConsoleExample(t *testing.T) {
	lines, replies := exampleLines()
	behind := checkScript(t, lines, replies)
	if want := (impl.Desk{Bar: bar(2, 2), Nuts: rows("13/30/01"), Strips: []int{2, 3}, Weights: []int{3, 1, 4, 2}, Slabs: slabsOf(2, 5, 3, 2, 1, 9)}); !sameDesk(behind, want) {
		t.Error(behind)
	}
	if failed, ok := impl.FailedLines(scriptOf(lines...)); !ok || !slices.Equal(failed, []int{28, 41, 42}) {
		t.Error("FailedLines", failed, ok)
	}
	for i := range lines {
		checkScript(t, lines[:i], replies[:i])
	}
}

// TestLinesByHand has lines of each kind on the first desk, or behind others, with replies that succeed, that are no, and that are what.
func TestLinesByHand(t *testing.T) {
	for _, pairs := range [][]string{
		{"bar 12x1", "12x1", "squares", "12", "breaks", "11", "bar 13x1", "what", "bar 0x1", "what", "bar 1x13", "what", "bar 01x1", "what", "bar 3x2x1", "what", "bar", "what", "bar ", "what", "bar 3x2 1", "what", "bar 3 2", "what", "bar 3X2", "what"},
		{"nuts 9", "9", "all", "9", "put 0 0", "no", "nuts 12/3", "what", "nuts 123456789", "what", "nuts 1a", "what", "nuts ", "what", "nuts", "what", "nuts 1/", "what", "nuts 1 2", "what", "nuts 1/2/3/4/5/6/7/8/9", "what"},
		{"strips 60", "60", "strips 1-2-3-4-5-6-7-8", "1-2-3-4-5-6-7-8", "break 7 4", "no", "strips 1-2-3-4-5-6-7-8-9", "what", "strips 61", "what", "strips 0", "what", "strips 5-", "what", "strips -5", "what", "strips 5--5", "what", "strips 05", "what", "strips 5,4", "what", "strips", "what", "strips ", "what", "strips 5 4", "what"},
		{"weights 1000", "1000", "halves", "0", "weights 1-2-3-4-5-6-7-8-9-10-11-12", "1-2-3-4-5-6-7-8-9-10-11-12", "weights 1-2-3-4-5-6-7-8-9-10-11-12-13", "what", "weights 1001", "what", "weights 0", "what", "weights 1-0", "what", "weights 03", "what", "weights +3", "what", "weights", "what", "weights ", "what", "weights 3 1", "what"},
		{"slabs 1000^1000", "1000^1000", "stacks", "2", "stack", "0", "slabs 1^9,1^9,1^9,1^9,1^9,1^9,1^9,1^9", "what", "slabs 1001^1", "what", "slabs 1^1001", "what", "slabs 0^1", "what", "slabs 1^1,", "what", "slabs 1", "what", "slabs 01^1", "what", "slabs", "what", "slabs ", "what", "slabs 1^1 1^1", "what"},
		{"turn", "2x3", "turn", "3x2", "turn 1", "what", "turn ", "what", "bar 1x12", "1x12", "turn", "12x1"},
		{"round", "12/30/01", "round", "031/102", "round", "10/03/21", "round", "201/130", "round 1", "what", "round  ", "what"},
		{"put 2 1", "201/131", "put 0 1", "201/231", "put 3 0", "no", "put 0 2", "no", "put 999999 0", "no", "put 0 1000000", "what", "put 1", "what", "put 1 1 1", "what", "put -1 0", "what", "put", "what", "rows", "3,6"},
		{"break 0 4", "4-1", "break 0 2", "2-1-2", "break 2 1", "2-1-1-1", "break 1 1", "no", "break 4 1", "no", "break 0 0", "no", "break 0 2", "no", "break 999999 1", "no", "break 0", "what", "break 0 1 1", "what", "break 0 01", "what", "break", "what"},
		{"squares 1", "what", "breaks 0", "what", "trees ", "what", "bar 12x12", "12x12", "trees", "no", "squares", "144", "breaks", "143", "bar 1x1", "1x1", "trees", "1", "breaks", "0"},
		{"eat 0", "0", "eat 6", "0", "eat 7", "no", "eat 999999", "no", "eat 1000000", "what", "eat 03", "what", "eat +3", "what", "eat -3", "what", "eat", "what", "eat 3 3", "what", "eat  3", "what", "eat 3 ", "what", "eat 3x2", "what"},
		{"all", "7", "all 1", "what", "rows", "3,4", "rows 1", "what", "columns", "3,3,1", "columns 0", "what", "nuts 000", "000", "all", "0", "rows", "0", "columns", "0,0,0"},
		{"rich 3x2", "0 0 7", "rich 1x1", "1 1 3", "rich 2x2", "0 0 6", "rich 4x1", "no", "rich 1x3", "no", "rich 12x12", "no", "rich 13x1", "what", "rich 2", "what", "rich", "what", "rich ", "what", "rich 2x1 1", "what", "rich 0x0", "what"},
		{"parts 0", "2", "parts 7", "1", "parts 999999", "0", "parts 1000000", "what", "parts", "what", "parts 1 1", "what", "parts -1", "what"},
		{"poor 1", "3", "poor 3", "1,1,1", "poor 4", "no", "poor 0", "no", "poor 999999", "no", "poor 1000000", "what", "poor", "what", "poor 1 1", "what", "poor x", "what"},
		{"pieces 1", "7", "pieces 5", "0", "pieces 6", "no", "pieces 0", "no", "pieces", "what", "pieces 1 2", "what", "pieces 1.", "what", "nuts 5", "5", "pieces 2", "no"},
		{"few 7", "1", "few 999999", "1", "few 1000000", "what", "few 0", "6", "few", "what", "few 1 1", "what", "few 00", "what", "nuts 99", "99", "few 0", "2", "few 17", "2", "few 18", "1"},
		{"plain", "yes", "plain 1", "what", "bar 3x1", "3x1", "plain", "never", "bar 1x1", "1x1", "plain", "never", "kept", "never", "good", "-", "heap", "0"},
		{"bar 4x3", "4x3", "kept", "yes", "good", "3x3", "heap", "1", "kept 1", "what", "good 0", "what", "heap 3", "what", "bar 1x5", "1x5", "good", "1x1", "heap", "4", "kept ", "what"},
		{"value 1 1", "0", "value 3 1", "1", "value 5 1", "2", "value 2 1", "0", "value 60 60", "0", "value 0 1", "no", "value 61 1", "no", "value 1 0", "no", "value 1 61", "no", "value 1", "what", "value 1 1 1", "what", "value", "what", "value a 1", "what"},
		{"lost 3 1", "1,2", "lost 3 3", "1,2,3", "lost 1 60", "1", "lost 0 1", "no", "lost 61 1", "no", "lost 1 0", "no", "lost 1 61", "no", "lost 3", "what", "lost 3 1 1", "what", "lost", "what", "lost 3 1000000", "what"},
		{"wins 1", "yes", "wins 2", "yes", "wins 3", "never", "wins 60", "never", "wins 0", "no", "wins 61", "no", "wins", "what", "wins 1 1", "what", "wins 1x", "what", "strips 4", "4", "wins 1", "never", "strips 4-2-1", "4-2-1", "wins 1", "never"},
		{"moves 2", "0,2", "moves 3", "-", "moves 60", "-", "moves 0", "no", "moves 61", "no", "moves", "what", "moves 1 1", "what", "moves 999999", "no", "moves 1000000", "what", "strips 3-3", "3-3", "moves 1", "-", "strips 3-2", "3-2", "moves 1", "0,1", "strips 3-3-3", "3-3-3", "moves 1", "0,1 1,1 2,1"},
		{"taste 2 2 8", "2,2", "taste 2 2 9", "no", "taste 1 1 0", "0", "taste 0 2 0", "no", "taste 2 0 0", "no", "taste 21 1 0", "no", "taste 1 21 0", "no", "taste 20 1 999999", "1,1,1,1,0,1,0,0,0,0,1,0,0,0,1,1,1,1,1,1", "taste 20 20 1000000", "what", "taste 2 2", "what", "taste 2 2 5 1", "what", "taste", "what", "taste 2 2 05", "what"},
		{"weigh 1 0", "-", "weigh 2 1", "r", "weigh 3 2", "=", "weigh 3 0", "l", "weigh 8 8", "no", "weigh 0 0", "no", "weigh 1001 0", "no", "weigh 8", "what", "weigh 8 7 1", "what", "weigh", "what", "weigh 8 -1", "what"},
		{"group 1", "1 1", "group 2", "1 2", "group 0", "no", "group 1001", "no", "group 999999", "no", "group", "what", "group 16 1", "what", "group l", "what", "grid 1", "1 1", "grid 6", "2 3", "grid 0", "no", "grid 1001", "no", "grid 1000000", "what", "grid", "what", "grid 7 7", "what", "grid 7 ", "what"},
		{"halves 1", "what", "weights 5-5", "5-5", "halves", "0", "take", "5 5", "ends", "ff", "weights 1-2-9", "1-2-9", "halves", "0,1", "take", "10 2", "ends", "llf", "take 1", "what", "ends 1", "what", "halves ", "what"},
		{"share 1", "10", "share 2", "5", "share 4", "1", "share 5", "no", "share 0", "no", "share 999999", "no", "share 1000000", "what", "share", "what", "share 2 2", "what", "weights 5", "5", "share 2", "0"},
		{"slabs 9^1,9^1", "9^1,9^1", "stack", "0", "stacks", "3", "heavy", "9", "slabs 1^1,1^1", "1^1,1^1", "stack", "0,1", "stacks", "5", "heavy", "2", "stack 1", "what", "stacks 0", "what", "heavy x", "what", "heavy ", "what"},
		{"bites 1 2", "1", "bites 1 100", "1", "bites 4 2", "3", "bites 0 2", "no", "bites 10 1", "no", "bites 10 101", "no", "bites 10 0", "no", "bites 999999 2", "20", "bites 1000000 2", "what", "bites 10", "what", "bites 10 2 1", "what", "bites", "what"},
	} {
		var lines, replies []string
		for pair := range slices.Chunk(pairs, 2) {
			lines, replies = append(lines, pair[0]), append(replies, pair[1])
		}
		checkScript(t, lines, replies)
	}
}

// TestLinesOfNoKind has lines that are nothing of the table, on several desks.
func TestLinesOfNoKind(t *testing.T) {
	lines := []string{
		"", " ", "  ", "fly", "what", "no", "squares ", " squares", "Squares", "SQUARES", "squares\r", "squares\t", "squares\x00", "\x00", "\xff", "square", "squaress", "squares breaks", "squares,breaks", "eat\t3", "eat,3", "eat3",
		"eat\u00a03", "eat \uff13", "eat 3\r", "eat 0x3", "eat 1_0", "eat 1e1", "eat 3.0", "eat 00", "eat -0", "eat +0", "eat 0000003", "eat 99999999999999999999", "eat 18446744073709551619", "eat 4294967299", "eat 3 3 3", "eat  ",
		"bar  3x2", "bar 3x2 ", " bar 3x2", "bar 3*2", "bar +3x2", "bar 3x-2", "nuts 201/130/", "nuts /201", "nuts 201//130", "nuts 201,130", "strips 5-+1", "strips 5- 1", "strips 1000000", "weights 1-", "weights -", "slabs 2^5,", "slabs ,2^5", "slabs 2^5^1",
		"slabs 2-5", "slabs ^", "slabs 2^", "Desk", "N", "turn turn", "put a b", "put 0  0", "break 0 2 ", "break  2", "taste  2 5", "taste 2 2 5 ", "value 8 1 true", "cut", "x", "-", "1", "0", "3x2", "squares;",
	}
	for _, d := range someDesks() {
		for _, line := range lines {
			if next, reply, ok := impl.DeskLine(d, line); !ok || reply != "what" || !sameDesk(next, d) {
				t.Errorf("%q %q %v %v", line, reply, ok, next)
			}
		}
	}
	for _, line := range lines {
		if replies, ok := impl.RunScript(scriptOf("turn", line, "squares")); !ok || !slices.Equal(replies, []string{"2x3", "what", "6"}) {
			t.Errorf("%q %q %v", line, replies, ok)
		}
	}
}

// someDesks has desks with little and with much in them.
func someDesks() []impl.Desk {
	return []impl.Desk{
		firstDesk(),
		{Bar: bar(1, 1), Nuts: rows("0"), Strips: []int{1}, Weights: []int{1}, Slabs: slabsOf(1, 1)},
		{Bar: bar(12, 12), Nuts: uniform(8, 8, "9"), Strips: slices.Repeat([]int{60}, 8), Weights: slices.Repeat([]int{1000}, 12), Slabs: slices.Repeat(slabsOf(1000, 1000), 7)},
		{Bar: bar(12, 1), Nuts: rows("12345678"), Strips: []int{60, 1, 30}, Weights: []int{1, 2, 4, 8, 16, 32, 64, 128, 256, 512, 1000}, Slabs: slabsOf(1, 1000, 2, 999, 3, 3, 1000, 1)},
		{Bar: bar(5, 7), Nuts: rows("3/1/4/1/5/9/2/6"), Strips: []int{9, 2, 6}, Weights: []int{5, 3, 5}, Slabs: slabsOf(5, 3, 5, 8, 9, 7, 9, 3, 2, 3)},
	}
}

// drawnDesk has all kinds of numbers up to the limits; the lists are not long, as some calls take long.
func drawnDesk(z *rand.Rand) impl.Desk {
	d := impl.Desk{Bar: bar(1+z.IntN(12), 1+z.IntN(12))}
	wide := 1 + z.IntN(8)
	for range 1 + z.IntN(8) {
		d.Nuts = append(d.Nuts, fmt.Sprintf("%0*d", wide, z.IntN([]int{1, 10, 100, 1000, 10000, 100000, 1000000, 10000000, 100000000}[z.IntN(wide+1)])))
	}
	for range 1 + z.IntN(8) {
		d.Strips = append(d.Strips, 1+z.IntN([]int{5, 12, 60}[z.IntN(3)]))
	}
	for range 1 + z.IntN(8) {
		d.Weights = append(d.Weights, 1+z.IntN([]int{5, 100, 1000}[z.IntN(3)]))
	}
	for range 1 + z.IntN(5) {
		d.Slabs = append(d.Slabs, slab(1+z.IntN([]int{5, 1000}[z.IntN(2)]), 1+z.IntN([]int{20, 1000}[z.IntN(2)])))
	}
	return d
}

// drawnWord has a word for a letter, now and then one that is none.
func drawnWord(z *rand.Rand, letter string) string {
	d := drawnDesk(z)
	switch {
	case z.IntN(12) == 0:
		return []string{"", "0", "00", "01", "+1", "-1", "1000000", "999999", "13x1", "12", "1x1", "61", "1-1", "1001", "0-1", "1^0", "1^1", "1^1,1^1", "x", "-", "a"}[z.IntN(21)]
	case letter == "B":
		return fmt.Sprintf("%dx%d", 1+z.IntN(1+z.IntN(13)), 1+z.IntN(1+z.IntN(13)))
	case letter == "U":
		return strings.Join(d.Nuts, "/")
	case letter == "S":
		return joined(d.Strips, "-")
	case letter == "W":
		return joined(d.Weights, "-")
	case letter == "L":
		var texts []string
		for _, s := range d.Slabs {
			texts = append(texts, fmt.Sprintf("%d^%d", s.Weight, s.Bears))
		}
		return strings.Join(texts, ",")
	}
	return strconv.Itoa(z.IntN([]int{2, 4, 8, 22, 70, 1002}[z.IntN(6)]))
}

// drawnLine has a line of the table, now and then one with a word too much, or too few.
func drawnLine(z *rand.Rand, firsts []string) string {
	first := firsts[z.IntN(len(firsts))]
	words := []string{first}
	for _, letter := range strings.Split(everyAsked[first].words, "") {
		words = append(words, drawnWord(z, letter))
	}
	switch z.IntN(15) {
	case 0:
		words = append(words, drawnWord(z, "N"))
	case 1:
		words = words[:len(words)-1]
	}
	return strings.Join(words, " ")
}

func allFirsts() []string {
	var firsts []string
	for first := range everyAsked {
		firsts = append(firsts, first)
	}
	slices.Sort(firsts)
	return firsts
}

// TestLinesDoWhatTheirCallsDo holds drawn lines on drawn desks against the calls that they name, each kind with a reply, with no if there can be one, and with what.
func TestLinesDoWhatTheirCallsDo(t *testing.T) {
	z := rand.New(rand.NewPCG(10, 41))
	seen := map[string]int{}
	firsts := allFirsts()
	for range 40000 {
		d, line := drawnDesk(z), drawnLine(z, firsts)
		next, reply, ok := impl.DeskLine(d, line)
		want, wantReply := wanted(d, line)
		if !ok || reply != wantReply || !sameDesk(next, want) || !impl.IsDesk(next) {
			t.Fatalf("%v %q %q %v %v not %q %v", d, line, reply, ok, next, wantReply, want)
		}
		first, _, _ := strings.Cut(line, " ")
		switch reply {
		case "no", "what":
			seen[first+" "+reply]++
		default:
			seen[first]++
		}
	}
	canFail := strings.Fields("put break trees eat rich poor pieces value lost wins moves taste weigh group grid share bites")
	for _, first := range firsts {
		if seen[first] < 50 || seen[first+" what"] < 20 || (seen[first+" no"] >= 20) != slices.Contains(canFail, first) {
			t.Error("too few", first, seen[first], seen[first+" no"], seen[first+" what"])
		}
	}
}

// TestScriptsDoWhatTheirLinesDo holds drawn scripts against their lines, one after the other.
func TestScriptsDoWhatTheirLinesDo(t *testing.T) {
	z := rand.New(rand.NewPCG(41, 10))
	firsts := allFirsts()
	for turn := range 600 {
		var lines, replies []string
		d := firstDesk()
		for range z.IntN(51) {
			line := drawnLine(z, firsts)
			if len(scriptOf(append(lines, line)...)) > 3000 {
				break
			}
			next, reply := wanted(d, line)
			lines, replies, d = append(lines, line), append(replies, reply), next
		}
		if behind := checkScript(t, lines, replies); !sameDesk(behind, d) {
			t.Fatal(turn, lines, behind, d)
		}
	}
}

// TestNumbersOfLines has numbers at the limits of a line and around them.
func TestNumbersOfLines(t *testing.T) {
	good := []string{"0", "1", "9", "10", "999", "100000", "999998", "999999"}
	bad := []string{"", "00", "01", "0999999", "000000", "1000000", "9999999", "1000001", "-1", "-0", "+0", "+1", "--1", "0x1", "1x1", "1,", "1-1", ".1", "1.0", "1e3", "\u0661", "4294967296", "18446744073709551616", "18446744073709551617", "1\x00"}
	for _, first := range allFirsts() {
		kind := everyAsked[first].words
		for place, letter := range strings.Split(kind, "") {
			if letter != "N" {
				continue
			}
			words := slices.Repeat([]string{"1"}, len(kind))
			for i, number := range slices.Concat(good, bad) {
				words[place] = number
				line := first + " " + strings.Join(words, " ")
				_, reply, ok := impl.DeskLine(firstDesk(), line)
				_, want := wanted(firstDesk(), line)
				if !ok || (reply == "what") != (i >= len(good)) || reply != want {
					t.Errorf("%q %q %v", line, reply, ok)
				}
			}
		}
	}
}

// TestNumbersOfWords has each line with all other numbers of words, and with empty ones.
func TestNumbersOfWords(t *testing.T) {
	words := map[string]string{"N": "1", "B": "1x1", "U": "1", "S": "1", "W": "1", "L": "1^1"}
	for _, first := range allFirsts() {
		line := []string{first}
		for _, letter := range strings.Split(everyAsked[first].words, "") {
			line = append(line, words[letter])
		}
		for _, none := range []string{
			strings.Join(append(slices.Clone(line), "1"), " "), strings.Join(append(slices.Clone(line), "1x1"), " "), strings.Join(append(slices.Clone(line), "1", "1", "1", "1", "1"), " "),
			strings.Join(line, " ") + " ", " " + strings.Join(line, " "), strings.Join(line, "  ") + " ", strings.Join(append(line[:len(line):len(line)], ""), "  "), strings.Join(line, "\t") + "\t",
		} {
			if next, reply, ok := impl.DeskLine(firstDesk(), none); !ok || reply != "what" || !sameDesk(next, firstDesk()) {
				t.Errorf("%q %q %v", none, reply, ok)
			}
		}
		for many := 1; many < len(line); many++ {
			for _, few := range []string{strings.Join(line[:many], " "), strings.Join(line[:many], " ") + strings.Repeat(" ", len(line)-many)} {
				if next, reply, ok := impl.DeskLine(firstDesk(), few); !ok || reply != "what" || !sameDesk(next, firstDesk()) {
					t.Errorf("%q %q %v", few, reply, ok)
				}
			}
		}
	}
}

// TestTextsOfStripsAndWeights has those with one number, with many, with all that there may be, and with one more.
func TestTextsOfStripsAndWeights(t *testing.T) {
	for _, kind := range []struct {
		first      string
		most, many int
		of         func(impl.Desk) []int
	}{
		{"strips", 60, 8, func(d impl.Desk) []int { return d.Strips }},
		{"weights", 1000, 12, func(d impl.Desk) []int { return d.Weights }},
	} {
		for many := 1; many <= kind.many+1; many++ {
			for _, n := range []int{0, 1, 2, 9, 10, kind.most - 1, kind.most, kind.most + 1, 999999} {
				numbers := slices.Repeat([]int{kind.most}, many)
				numbers[many-1] = n
				text := joined(numbers, "-")
				d, reply, ok := impl.DeskLine(firstDesk(), kind.first+" "+text)
				if 1 <= n && n <= kind.most && many <= kind.many {
					if !ok || reply != text || !slices.Equal(kind.of(d), numbers) {
						t.Error(kind.first, text, reply, ok, d)
					}
				} else if !ok || reply != "what" || !sameDesk(d, firstDesk()) {
					t.Error(kind.first, text, reply, ok, d)
				}
			}
		}
	}
}

// TestEmptyScript has no line, and so no reply.
func TestEmptyScript(t *testing.T) {
	if d := checkScript(t, nil, nil); !sameDesk(d, firstDesk()) {
		t.Error(d)
	}
	if replies, ok := impl.RunScript(""); !ok || len(replies) != 0 {
		t.Error(replies, ok)
	}
	if d, ok := impl.DeskAfter(""); !ok || !sameDesk(d, firstDesk()) {
		t.Error(d, ok)
	}
	if failed, ok := impl.FailedLines(""); !ok || len(failed) != 0 {
		t.Error(failed, ok)
	}
	checkScript(t, []string{""}, []string{"what"})
	checkScript(t, []string{"", "", "squares", ""}, []string{"what", "what", "6", "what"})
}

// TestLimitsOfScripts has scripts that just meet the limits.
func TestLimitsOfScripts(t *testing.T) {
	checkScript(t, slices.Repeat([]string{""}, 50), slices.Repeat([]string{"what"}, 50))
	checkScript(t, slices.Repeat([]string{"squares"}, 50), slices.Repeat([]string{"6"}, 50))
	checkScript(t, slices.Repeat([]string{"turn"}, 49), append(slices.Repeat([]string{"2x3", "3x2"}, 24), "2x3"))
	checkScript(t, []string{strings.Repeat("x", 2999)}, []string{"what"})
	checkScript(t, []string{strings.Repeat(" ", 2999)}, []string{"what"})
	checkScript(t, []string{"squares", strings.Repeat("9", 2985), "turn"}, []string{"6", "what", "2x3"})
	checkScript(t, slices.Repeat([]string{strings.Repeat("y", 59)}, 50), slices.Repeat([]string{"what"}, 50))
}

// noScripts has texts that are no scripts.
func noScripts() []string {
	line59 := strings.Repeat("y", 59) + "\n"
	texts := []string{
		"squares", " ", "x", "\r", "\x00", "squares\nbreaks", "squares\n ", "squares\n\nbreaks", "\nsquares", "\n\n ", "squares\n\r", "squares\r", "turn\nturn\nt",
		strings.Repeat("\n", 51), strings.Repeat("squares\n", 51), strings.Repeat("\n", 3000), strings.Repeat("\n", 3001), strings.Repeat("\n", 50) + "x", strings.Repeat("squares\n", 50) + "squares",
		strings.Repeat("x", 3000) + "\n", strings.Repeat(" ", 3000) + "\n", strings.Repeat("x", 3000), strings.Repeat("x", 2999), strings.Repeat("x", 3001), strings.Repeat(line59, 50)[1:] + "zz", "y" + strings.Repeat(line59, 50),
		"squares\n" + strings.Repeat("9", 2992) + "\n", strings.Repeat("squares\n", 1000000), strings.Repeat("\n", 1000000), strings.Repeat("x", 1000000), strings.Repeat("x", 1000000) + "\n",
	}
	lines, _ := exampleLines()
	return append(texts, strings.Join(lines, "\n"), scriptOf(lines...)+scriptOf(lines...), "\n"+strings.Join(lines, "\n"))
}

func TestTextsThatAreNoScripts(t *testing.T) {
	for _, s := range noScripts() {
		if replies, ok := impl.RunScript(s); ok || len(replies) != 0 {
			t.Errorf("RunScript %.60q %q %v", s, replies, ok)
		}
		if d, ok := impl.DeskAfter(s); ok || !sameDesk(d, impl.Desk{}) {
			t.Errorf("DeskAfter %.60q %v %v", s, d, ok)
		}
		if failed, ok := impl.FailedLines(s); ok || len(failed) != 0 {
			t.Errorf("FailedLines %.60q %v %v", s, failed, ok)
		}
	}
}

// TestLimitsOfLines has lines with as many bytes as there may be, which are more than one of a script has.
func TestLimitsOfLines(t *testing.T) {
	for _, d := range someDesks() {
		for _, sign := range []string{"x", " ", "9", "-", "\xff", "\r", "eat 3"} {
			for _, start := range []string{"", "squares", "squares ", "eat ", "strips ", "strips 5-", "weights 1-", "nuts ", "slabs 1^1,"} {
				line := (start + strings.Repeat(sign, 3000))[:3000]
				if next, reply, ok := impl.DeskLine(d, line); !ok || reply != "what" || !sameDesk(next, d) {
					t.Errorf("%.20q %q %v", line, reply, ok)
				}
				if next, reply, ok := impl.DeskLine(d, line+"x"); ok || reply != "" || !sameDesk(next, impl.Desk{}) {
					t.Errorf("%.20q %q %v", line, reply, ok)
				}
			}
		}
	}
}

func TestLinesWithANewline(t *testing.T) {
	for _, d := range someDesks() {
		for _, line := range []string{"\n", "squares\n", "\nsquares", "turn\nturn", "squares\r\n", "eat 3\n", "eat \n3", "fly\n", "\n\n", strings.Repeat("x", 2999) + "\n", strings.Repeat("\n", 1000000), strings.Repeat("x", 1000000)} {
			if next, reply, ok := impl.DeskLine(d, line); ok || reply != "" || !sameDesk(next, impl.Desk{}) {
				t.Errorf("%.20q %q %v %v", line, reply, ok, next)
			}
		}
	}
}

// noDesks has desks that are none because of one of their parts, and some because of several.
func noDesks() []impl.Desk {
	desks := []impl.Desk{{}, {Bar: bar(3, 2)}, {Bar: bar(3, 2), Nuts: rows("201/130")}}
	with := func(change func(d *impl.Desk)) {
		d := firstDesk()
		change(&d)
		desks = append(desks, d)
	}
	for _, b := range append(noBars(), bar(0, 0)) {
		with(func(d *impl.Desk) { d.Bar = b })
	}
	for _, nuts := range noNuts() {
		with(func(d *impl.Desk) { d.Nuts = nuts })
	}
	for _, strips := range noStrips() {
		with(func(d *impl.Desk) { d.Strips = strips })
	}
	for _, weights := range noWeights() {
		with(func(d *impl.Desk) { d.Weights = weights })
	}
	for _, slabs := range noSlabs() {
		with(func(d *impl.Desk) { d.Slabs = slabs })
	}
	return desks
}

func TestDesksThatAreNone(t *testing.T) {
	for _, d := range noDesks() {
		if impl.IsDesk(d) {
			t.Errorf("IsDesk %.80v", d)
		}
		for _, line := range []string{"squares", "bar 2x2", "nuts 1", "strips 5", "weights 5", "slabs 1^1", "value 8 1", "fly", "", "turn", "put 0 0"} {
			if next, reply, ok := impl.DeskLine(d, line); ok || reply != "" || !sameDesk(next, impl.Desk{}) {
				t.Errorf("DeskLine %.80v %q %q %v %v", d, line, reply, ok, next)
			}
		}
	}
}

func TestIsDesk(t *testing.T) {
	for _, d := range someDesks() {
		if !impl.IsDesk(d) {
			t.Error(d)
		}
	}
	z := rand.New(rand.NewPCG(1, 10))
	for range 5000 {
		if d := drawnDesk(z); !impl.IsDesk(d) {
			t.Error(d)
		}
	}
}

// TestFailedLinesLeaveTheDesk asks again what was asked before lines that fail.
func TestFailedLinesLeaveTheDesk(t *testing.T) {
	failing := []string{"fly", "put 9 9", "break 0 7", "bar 0x0", "nuts 1/22", "strips 61", "weights 0", "slabs 0^0", "turn 1", "round 1", "put 0", "eat 999999", "rich 9x9", "poor 9"}
	asks := []string{"squares", "all", "moves 1", "halves", "stack"}
	setting := []string{"bar 3x3", "nuts 12/34", "strips 7-8", "weights 9-9-1", "slabs 1^1,2^2"}
	for _, fails := range failing {
		lines := slices.Concat(setting, asks, []string{fails}, asks)
		replies, ok := impl.RunScript(scriptOf(lines...))
		if !ok || len(replies) != len(lines) || !slices.Equal(replies[5:10], replies[11:]) {
			t.Error(fails, replies, ok)
		}
		if failed, ok := impl.FailedLines(scriptOf(lines...)); !ok || !slices.Equal(failed, []int{11}) {
			t.Error(fails, failed, ok)
		}
		d, ok := impl.DeskAfter(scriptOf(lines...))
		if want := (impl.Desk{Bar: bar(3, 3), Nuts: rows("12/34"), Strips: []int{7, 8}, Weights: []int{9, 9, 1}, Slabs: slabsOf(1, 1, 2, 2)}); !ok || !sameDesk(d, want) {
			t.Error(fails, d, ok)
		}
	}
}

// TestScriptsOneBehindAnother holds a script of two parts against the lines of the second part on the desk behind the first one.
func TestScriptsOneBehindAnother(t *testing.T) {
	lines, _ := exampleLines()
	for cut := range lines {
		whole, ok := impl.RunScript(scriptOf(lines...))
		first, fine := impl.RunScript(scriptOf(lines[:cut]...))
		d, known := impl.DeskAfter(scriptOf(lines[:cut]...))
		if !ok || !fine || !known {
			t.Fatal(cut, ok, fine, known)
		}
		for _, line := range lines[cut:] {
			next, reply, _ := impl.DeskLine(d, line)
			first, d = append(first, reply), next
		}
		if !slices.Equal(first, whole) {
			t.Error(cut, first, whole)
		}
	}
}
