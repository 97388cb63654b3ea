package impl

import (
	"cmp"
	"slices"
	"strconv"
	"strings"
)

const MaxSide = 12
const MaxBroken = 144
const MaxTrees = 1000000000000000
const MaxLineCost = 100

type Bar struct {
	Wide int
	High int
}

type Break struct {
	Piece int
	Down  bool
	At    int
}

// eatCosts has, for each number of squares of one bar, the least cost of
// breaks behind which some pieces have just so many.
type eatCosts [MaxBroken + 1]int

// barLine is one line of a bar that is broken by costs.
type barLine struct {
	kind   int
	number int
	cost   int
}

// The kinds of lines, as OrderByLines tells them.
const (
	lineDown   = 0
	lineAcross = 1
)

// IsBar reports whether b, whose numbers may be any, is a bar.
func IsBar(b Bar) bool {
	return 1 <= b.Wide && b.Wide <= MaxSide && 1 <= b.High && b.High <= MaxSide
}

// SquaresOf returns how many squares a bar has.
func SquaresOf(b Bar) (int, bool) {
	if !IsBar(b) {
		return 0, false
	}
	return b.Wide * b.High, true
}

// FewestBreaks returns how many breaks lead to single squares: there is no other number.
func FewestBreaks(b Bar) (int, bool) {
	if !IsBar(b) {
		return 0, false
	}
	return b.Wide*b.High - 1, true
}

// BreakBar returns both parts of a break of a bar.
func BreakBar(b Bar, down bool, at int) (Bar, Bar, bool) {
	if !IsBar(b) || !hasLine(b, down, at) {
		return Bar{}, Bar{}, false
	}
	first, other := partsOf(b, down, at)
	return first, other, true
}

// linesOf returns how many lines a bar has down, or across.
func linesOf(b Bar, down bool) int {
	if down {
		return b.Wide - 1
	}
	return b.High - 1
}

func hasLine(b Bar, down bool, at int) bool {
	return 1 <= at && at <= linesOf(b, down)
}

func lengthOfLine(b Bar, down bool) int {
	if down {
		return b.High
	}
	return b.Wide
}

func partsOf(b Bar, down bool, at int) (Bar, Bar) {
	if down {
		return Bar{at, b.High}, Bar{b.Wide - at, b.High}
	}
	return Bar{b.Wide, at}, Bar{b.Wide, b.High - at}
}

// IsBreak reports whether next, whose numbers may be any, can be made behind a list of fewer than MaxBroken breaks.
func IsBreak(b Bar, list []Break, next Break) (bool, bool) {
	pieces, _, ok := makeBreaks(b, list)
	if !ok || len(list) >= MaxBroken {
		return false, false
	}
	return canMake(pieces, next), true
}

// PiecesAfter returns all pieces behind breaks, by their numbers.
func PiecesAfter(b Bar, list []Break) ([]Bar, bool) {
	pieces, _, ok := makeBreaks(b, list)
	return pieces, ok
}

// LengthOfBreaks returns how long breaks are together.
func LengthOfBreaks(b Bar, list []Break) (int, bool) {
	_, length, ok := makeBreaks(b, list)
	return length, ok
}

// makeBreaks returns the pieces behind breaks, and how long these are together.
func makeBreaks(b Bar, list []Break) ([]Bar, int, bool) {
	if !IsBar(b) || len(list) > MaxBroken {
		return nil, 0, false
	}
	pieces := []Bar{b}
	length := 0
	for _, next := range list {
		if !canMake(pieces, next) {
			return nil, 0, false
		}
		length += lengthOfLine(pieces[next.Piece], next.Down)
		pieces = makeBreak(pieces, next)
	}
	return pieces, length, true
}

func canMake(pieces []Bar, next Break) bool {
	if next.Piece < 0 || next.Piece >= len(pieces) {
		return false
	}
	return hasLine(pieces[next.Piece], next.Down, next.At)
}

// makeBreak breaks one of the pieces in place and returns them with its other part.
func makeBreak(pieces []Bar, next Break) []Bar {
	first, other := partsOf(pieces[next.Piece], next.Down, next.At)
	pieces[next.Piece] = first
	return append(pieces, other)
}

// PlainBreaks returns breaks that lead to single squares: each one breaks the piece with the least number that is no single square, down at 1 if it is more than 1 wide, otherwise across at 1.
func PlainBreaks(b Bar) ([]Break, bool) {
	if !IsBar(b) {
		return nil, false
	}
	var list []Break
	pieces := []Bar{b}
	// Pieces before this number are single squares and stay so: new ones come behind all others.
	for number := 0; number < len(pieces); number++ {
		for pieces[number] != (Bar{1, 1}) {
			next := Break{number, pieces[number].Wide > 1, 1}
			list = append(list, next)
			pieces = makeBreak(pieces, next)
		}
	}
	return list, true
}

// EqualParts returns all bars, of which just so many, many in 1..MaxBroken, all told as they lie in the bar, fill it in rows and columns, those with lesser Wide first: perhaps none.
func EqualParts(b Bar, many int) ([]Bar, bool) {
	if !IsBar(b) || many < 1 || many > MaxBroken {
		return nil, false
	}
	var parts []Bar
	for wide := 1; wide <= b.Wide; wide++ {
		columns := b.Wide / wide
		if b.Wide%wide != 0 || many%columns != 0 {
			continue
		}
		rows := many / columns
		if b.High%rows == 0 {
			parts = append(parts, Bar{wide, b.High / rows})
		}
	}
	return parts, true
}

// CountTrees returns in how many ways a bar can be broken to single squares if it does not matter which of two pieces is broken first. It fails if they are more than MaxTrees.
func CountTrees(b Bar) (int, bool) {
	return countWays(b, false)
}

// CountOrders returns in how many ways if it does. It fails in the same way.
func CountOrders(b Bar) (int, bool) {
	return countWays(b, true)
}

func countWays(b Bar, ordered bool) (int, bool) {
	if !IsBar(b) {
		return 0, false
	}
	ways := map[Bar]int{}
	for wide := 1; wide <= b.Wide; wide++ {
		for high := 1; high <= b.High; high++ {
			part := Bar{wide, high}
			ways[part] = waysOf(part, ways, ordered)
		}
	}
	if ways[b] > MaxTrees {
		return 0, false
	}
	return ways[b], true
}

// waysOf counts the ways of one bar by those of its parts; more than MaxTrees are told as one more than these.
func waysOf(b Bar, ways map[Bar]int, ordered bool) int {
	if b == (Bar{1, 1}) {
		return 1
	}
	sum := 0
	for _, down := range [2]bool{true, false} {
		for at := 1; at <= linesOf(b, down); at++ {
			first, other := partsOf(b, down, at)
			many := cappedProduct(ways[first], ways[other])
			if ordered {
				many = cappedProduct(many, mergesOf(first.Wide*first.High-1, other.Wide*other.High-1))
			}
			sum = min(sum+many, MaxTrees+1)
		}
	}
	return sum
}

// cappedProduct multiplies two numbers in 1..MaxTrees+1 without overflow: a product over MaxTrees is MaxTrees+1.
func cappedProduct(a int, b int) int {
	if a > MaxTrees/b {
		return MaxTrees + 1
	}
	return a * b
}

// mergesOf returns in how many ways two rows of breaks can be put together to one, or MaxTrees+1 if they are more than MaxTrees.
func mergesOf(a int, b int) int {
	fewer, more := min(a, b), max(a, b)
	many := 1
	for i := 1; i <= fewer; i++ {
		many = many * (more + i) / i
		if many > MaxTrees {
			return MaxTrees + 1
		}
	}
	return many
}

// LeastByLines returns the least cost of breaking to single squares a bar with so many lines down, and so many across, both lists of 0..MaxSide - 1 numbers in 0..MaxLineCost: each break, of one piece, costs what is told of the line along which it is.
func LeastByLines(downs []int, acrosses []int) (int, bool) {
	if !areLineCosts(downs) || !areLineCosts(acrosses) {
		return 0, false
	}
	sum := 0
	broken := [2]int{}
	for _, next := range sortedLines(downs, acrosses) {
		// The lines of the other kind that are broken already have parted what this one goes through.
		sum += next.cost * (broken[1-next.kind] + 1)
		broken[next.kind]++
	}
	return sum, true
}

// OrderByLines returns an order of all lines with this cost, if along each line in turn all pieces that it goes through are broken: each is told by 0 for down or 1 for across, and its number, by costs, greater ones first, of equal ones those down first, then by their numbers.
func OrderByLines(downs []int, acrosses []int) ([][]int, bool) {
	if !areLineCosts(downs) || !areLineCosts(acrosses) {
		return nil, false
	}
	var order [][]int
	for _, next := range sortedLines(downs, acrosses) {
		order = append(order, []int{next.kind, next.number})
	}
	return order, true
}

func areLineCosts(costs []int) bool {
	if len(costs) > MaxSide-1 {
		return false
	}
	for _, cost := range costs {
		if cost < 0 || cost > MaxLineCost {
			return false
		}
	}
	return true
}

// sortedLines returns all lines in the order of OrderByLines.
func sortedLines(downs []int, acrosses []int) []barLine {
	var lines []barLine
	for number, cost := range downs {
		lines = append(lines, barLine{lineDown, number, cost})
	}
	for number, cost := range acrosses {
		lines = append(lines, barLine{lineAcross, number, cost})
	}
	slices.SortFunc(lines, func(a barLine, b barLine) int {
		return cmp.Or(cmp.Compare(b.cost, a.cost), cmp.Compare(a.kind, b.kind), cmp.Compare(a.number, b.number))
	})
	return lines
}

// LeastToEat returns the least cost of breaks behind which some pieces have just so many squares together, 0 up to all, if a break costs the square of its length.
func LeastToEat(b Bar, squares int) (int, bool) {
	if !IsBar(b) || squares < 0 || squares > b.Wide*b.High {
		return 0, false
	}
	return costsToEat(b)[lying(b)][squares], true
}

// FirstToEat returns the first break of the whole bar, down or not, and at, with which that can be: those down first, then by at; it fails if no break is needed.
func FirstToEat(b Bar, squares int) (bool, int, bool) {
	if !IsBar(b) || squares <= 0 || squares >= b.Wide*b.High {
		return false, 0, false
	}
	costs := costsToEat(b)
	least := costs[lying(b)][squares]
	first := Break{}
search:
	for _, down := range [2]bool{true, false} {
		for at := 1; at <= linesOf(b, down); at++ {
			if costsBehind(b, down, at, costs)[squares] == least {
				first = Break{0, down, at}
				break search
			}
		}
	}
	return first.Down, first.At, true
}

// CheapestToEat returns the number of squares, more than 0 and fewer than all, for which LeastToEat is the least, the first one of several, and this. It fails for a single square.
func CheapestToEat(b Bar) (int, int, bool) {
	if !IsBar(b) || b == (Bar{1, 1}) {
		return 0, 0, false
	}
	costs := costsToEat(b)[lying(b)]
	best := 1
	for squares := 2; squares < b.Wide*b.High; squares++ {
		if costs[squares] < costs[best] {
			best = squares
		}
	}
	return best, costs[best], true
}

// lying returns a bar so turned that it is not higher than wide: it costs the same to eat of both.
func lying(b Bar) Bar {
	return Bar{max(b.Wide, b.High), min(b.Wide, b.High)}
}

// costsToEat returns the costs of a bar and of all bars that can be broken from it, each one lying.
func costsToEat(b Bar) map[Bar]eatCosts {
	whole := lying(b)
	costs := map[Bar]eatCosts{}
	for wide := 1; wide <= whole.Wide; wide++ {
		for high := 1; high <= min(wide, whole.High); high++ {
			part := Bar{wide, high}
			costs[part] = leastCosts(part, costs)
		}
	}
	return costs
}

// leastCosts returns the costs of one bar by those of its parts.
func leastCosts(b Bar, costs map[Bar]eatCosts) eatCosts {
	all := b.Wide * b.High
	least := highCosts()
	least[0], least[all] = 0, 0
	for _, down := range [2]bool{true, false} {
		// Breaks beyond the middle have the same parts as those before it.
		for at := 1; at <= (linesOf(b, down)+1)/2; at++ {
			behind := costsBehind(b, down, at, costs)
			for squares := 1; squares < all; squares++ {
				least[squares] = min(least[squares], behind[squares])
			}
		}
	}
	return least
}

// costsBehind returns the costs of one bar if this break is made first.
func costsBehind(b Bar, down bool, at int, costs map[Bar]eatCosts) eatCosts {
	first, other := partsOf(b, down, at)
	firstCosts, otherCosts := costs[lying(first)], costs[lying(other)]
	length := lengthOfLine(b, down)
	behind := highCosts()
	for i := 0; i <= first.Wide*first.High; i++ {
		for j := 0; j <= other.Wide*other.High; j++ {
			behind[i+j] = min(behind[i+j], length*length+firstCosts[i]+otherCosts[j])
		}
	}
	return behind
}

// highCosts returns costs that are more than any breaks cost.
func highCosts() eatCosts {
	var high eatCosts
	for squares := range high {
		high[squares] = MaxBroken * MaxSide * MaxSide
	}
	return high
}

// TurnBar returns the bar turned by a quarter.
func TurnBar(b Bar) (Bar, bool) {
	if !IsBar(b) {
		return Bar{}, false
	}
	return Bar{b.High, b.Wide}, true
}

// BarText returns Wide, x and High.
func BarText(b Bar) (string, bool) {
	if !IsBar(b) {
		return "", false
	}
	return strconv.Itoa(b.Wide) + "x" + strconv.Itoa(b.High), true
}

// ParseBar returns the bar with a BarText. It fails if there is none.
func ParseBar(s string) (Bar, bool) {
	left, right, _ := strings.Cut(s, "x")
	wide, _ := strconv.Atoi(left)
	high, _ := strconv.Atoi(right)
	b := Bar{wide, high}
	// Signs and superfluous zeros are numbers, too, but not those of a BarText.
	if text, ok := BarText(b); !ok || text != s {
		return Bar{}, false
	}
	return b, true
}
