package tests

import (
	"fmt"
	"math"
	"math/rand/v2"
	"regexp"
	"slices"
	"strings"
	"sync"
	"testing"

	"loop.example/g01259/impl"
)

type Clue = impl.Clue

type Puzzle = impl.Puzzle

// puzzleOf reads a puzzle, valid or not, without the program's help.
func puzzleOf(text string) Puzzle {
	var p Puzzle
	side, words, _ := strings.Cut(text, ":")
	if _, err := fmt.Sscan(side, &p.Side); err != nil {
		panic(text)
	}
	for word := range strings.FieldsFuncSeq(words, func(r rune) bool { return r == ',' }) {
		p.Clues = append(p.Clues, clueOf(word))
	}
	return p
}

func clueOf(word string) Clue {
	var c Clue
	if _, err := fmt.Sscanf(word, "%d.%d.%d.%d", &c.Kind, &c.A, &c.B, &c.C); err != nil {
		panic(word)
	}
	return c
}

// textBy writes a puzzle.
func textBy(p Puzzle) string {
	text := fmt.Sprint(p.Side, ":")
	for i, c := range p.Clues {
		if i > 0 {
			text += ","
		}
		text += fmt.Sprintf("%d.%d.%d.%d", c.Kind, c.A, c.B, c.C)
	}
	return strings.ReplaceAll(text, " ", "")
}

// mostBy has the greatest A, B and C of each kind.
func mostBy(side int) map[int][3]int {
	return map[int][3]int{
		0: {side, 0, 0},
		1: {side, 0, 0},
		2: {2 * side, 0, 0},
		3: {side, side, side * side},
		4: {side, side, 2 * side * side},
		5: {side, side, 1},
	}
}

// isClueBy is the document's sentence on clues.
func isClueBy(side int, c Clue) bool {
	most, isKind := mostBy(side)[c.Kind]
	for i, n := range []int{c.A, c.B, c.C} {
		isKind = isKind && n >= 0 && n <= most[i]
	}
	return isKind && side >= 1 && side <= 12
}

func isPuzzleBy(p Puzzle) bool {
	return p.Side >= 1 && p.Side <= 12 && len(p.Clues) <= 6 &&
		!slices.ContainsFunc(p.Clues, func(c Clue) bool { return !isClueBy(p.Side, c) })
}

// isSeen looks for a peg between.
func isSeen(a, b Peg) bool {
	return !slices.ContainsFunc(boardPegs(13, 13), func(p Peg) bool { return p != a && p != b && onLine(a, b, p) })
}

func areaBy(a, b Peg) int {
	return max(cross(a, b), cross(b, a))
}

// fitsBy is the document's sentence on kinds.
func fitsBy(c Clue, p Peg) bool {
	at := Peg{X: c.A, Y: c.B}
	switch c.Kind {
	case 0:
		return p.X == c.A
	case 1:
		return p.Y == c.A
	case 2:
		return p.X+p.Y == c.A
	case 3:
		return areaBy(at, p) == c.C
	case 4:
		return far(at, p) == c.C
	}
	return isSeen(at, p) == (c.C == 1)
}

func solutionsBy(p Puzzle) []Peg {
	return filtered(boardPegs(p.Side+1, p.Side+1), func(q Peg) bool {
		return !slices.ContainsFunc(p.Clues, func(c Clue) bool { return !fitsBy(c, q) })
	})
}

// withoutBy leaves out the clues with these indices.
func withoutBy(p Puzzle, out ...int) Puzzle {
	left := Puzzle{Side: p.Side}
	for i, c := range p.Clues {
		if !slices.Contains(out, i) {
			left.Clues = append(left.Clues, c)
		}
	}
	return left
}

func areSame(p, q Puzzle) bool {
	return p.Side == q.Side && slices.Equal(p.Clues, q.Clues)
}

// puzzles are valid ones of all sorts: with no clue and with six, with no solution, with one, with solutions on one
// line and in many corners, with needless clues and with none, and the limits met exactly.
var puzzles = []string{
	"4:2.5.0.0,3.4.0.4",
	"4:2.5.0.0",
	"1:",
	"12:",
	"7:",
	"1:0.0.0.0",
	"1:0.1.0.0,1.1.0.0",
	"1:2.0.0.0",
	"1:2.1.0.0",
	"1:2.2.0.0",
	"1:3.1.1.1",
	"1:4.0.0.2",
	"1:5.1.1.1",
	"1:5.1.1.0",
	"1:0.0.0.0,0.1.0.0",
	"2:5.0.0.0",
	"3:5.3.3.0,5.0.0.0",
	"12:3.0.0.0",
	"12:3.0.0.1",
	"12:3.12.12.0",
	"12:3.12.0.144",
	"12:3.5.5.7",
	"12:4.6.6.25",
	"12:4.0.0.288",
	"12:4.12.12.0",
	"12:4.6.6.0",
	"12:5.6.6.1",
	"12:5.6.6.0",
	"12:0.12.0.0",
	"12:1.12.0.0",
	"12:2.24.0.0",
	"12:2.12.0.0",
	"12:2.12.0.0,4.6.6.8",
	"6:0.3.0.0,0.3.0.0,1.2.0.0,1.2.0.0",
	"6:0.3.0.0,0.3.0.0",
	"4:0.0.0.0,1.0.0.0,2.0.0.0",
	"4:2.0.0.0,0.0.0.0,1.0.0.0",
	"4:1.0.0.0,2.0.0.0,0.0.0.0",
	"9:0.4.0.0,1.7.0.0,2.11.0.0",
	"9:2.11.0.0,1.7.0.0,0.4.0.0",
	"9:5.0.0.1,2.11.0.0,5.4.7.1,1.7.0.0,5.1.1.0,4.0.7.16",
	"5:0.1.0.0,0.2.0.0,0.3.0.0",
	"5:0.1.0.0,0.1.0.0,0.1.0.0,0.1.0.0,0.1.0.0,0.1.0.0",
	"12:3.12.0.144,4.12.0.288,5.12.0.0,2.12.0.0,0.0.0.0,1.12.0.0",
	"12:1.12.0.0,0.0.0.0,2.12.0.0,5.12.0.0,4.12.0.288,3.12.0.144",
	"11:5.0.0.1,5.11.0.1,5.0.11.1,5.11.11.1,5.5.5.1,5.6.6.1",
	"11:5.0.0.0,5.11.0.0,5.0.11.0,5.11.11.0,5.5.5.0,5.6.6.0",
}

// someClue returns a clue of a board that often fits a peg.
func someClue(mix *rand.Rand, side int, p Peg) Clue {
	kind := mix.IntN(6)
	most := mostBy(side)[kind]
	c := Clue{Kind: kind, A: mix.IntN(most[0] + 1), B: mix.IntN(most[1] + 1), C: mix.IntN(most[2] + 1)}
	if mix.IntN(6) == 0 {
		return c
	}
	for n := range max(most[0], most[2]) + 1 {
		if kind < 3 {
			c.A = n
		} else {
			c.C = n
		}
		if fitsBy(c, p) {
			break
		}
	}
	return c
}

// allPuzzles are those that have names and many that have none, of all sides and numbers of clues.
var allPuzzles = sync.OnceValue(func() []Puzzle {
	mix := rand.New(rand.NewPCG(9, 11))
	var all []Puzzle
	for _, s := range puzzles {
		all = append(all, puzzleOf(s))
	}
	for side := 1; side <= 12; side++ {
		for clues := range 7 {
			for range 12 {
				hidden := Peg{X: mix.IntN(side + 1), Y: mix.IntN(side + 1)}
				p := Puzzle{Side: side}
				for range clues {
					p.Clues = append(p.Clues, someClue(mix, side, hidden))
				}
				all = append(all, p)
			}
		}
	}
	return all
})

func TestAllPuzzles(t *testing.T) {
	solved := map[int]int{}
	for _, p := range allPuzzles() {
		if !isPuzzleBy(p) {
			t.Error(p)
		}
		solved[min(2, len(solutionsBy(p)))]++
	}
	if solved[0] < 100 || solved[1] < 100 || solved[2] < 100 {
		t.Error(solved)
	}
}

// atEnds are numbers at the ends of what a board of a side has, and of int.
func atEnds(side int) []int {
	at := []int{-1, 0, 1, 2, math.MaxInt, math.MinInt, 1 << 32, -1 << 32, math.MaxInt - side, math.MinInt + side}
	for _, n := range []int{side, 2 * side, side * side, 2 * side * side} {
		at = append(at, n-1, n, n+1)
	}
	slices.Sort(at)
	return slices.Compact(at)
}

func TestIsClue(t *testing.T) {
	for _, side := range []int{1, 2, 3, 4, 11, 12} {
		at := atEnds(side)
		kinds := append(counted(-2, 8), math.MaxInt, math.MinInt, 1<<32, 3+1<<32)
		for _, kind := range kinds {
			for _, a := range at {
				for _, b := range at {
					for _, c := range at {
						checkClue(t, side, Clue{Kind: kind, A: a, B: b, C: c})
					}
				}
			}
		}
	}
	for _, side := range []int{1, 2, 3} {
		listsOf(3, counted(-1, 2*side*side+1), func(l []int) {
			for kind := -1; kind <= 6; kind++ {
				checkClue(t, side, Clue{Kind: kind, A: l[0], B: l[1], C: l[2]})
			}
		})
	}
}

// counted are the numbers from least to greatest.
func counted(least, greatest int) []int {
	var l []int
	for n := least; n <= greatest; n++ {
		l = append(l, n)
	}
	return l
}

func checkClue(t *testing.T, side int, c Clue) {
	t.Helper()
	want := isClueBy(side, c)
	if impl.IsClue(side, c) != want {
		t.Error(side, c, "not", want)
	}
	if impl.IsPuzzle(Puzzle{Side: side, Clues: []Clue{c}}) != want {
		t.Error(side, c, "alone is not", want)
	}
}

func TestIsClueOfNamed(t *testing.T) {
	for _, c := range []struct {
		side int
		word string
		want bool
	}{
		{4, "0.0.0.0", true}, {4, "0.4.0.0", true}, {4, "0.5.0.0", false}, {4, "0.-1.0.0", false}, {4, "0.1.1.0", false}, {4, "0.1.0.1", false},
		{4, "1.0.0.0", true}, {4, "1.4.0.0", true}, {4, "1.5.0.0", false}, {4, "1.-1.0.0", false}, {4, "1.1.1.0", false}, {4, "1.1.0.1", false},
		{4, "2.0.0.0", true}, {4, "2.8.0.0", true}, {4, "2.9.0.0", false}, {4, "2.-1.0.0", false}, {4, "2.1.1.0", false}, {4, "2.1.0.1", false},
		{4, "3.0.0.0", true}, {4, "3.4.4.16", true}, {4, "3.4.4.17", false}, {4, "3.5.4.16", false}, {4, "3.4.5.16", false}, {4, "3.4.4.-1", false},
		{4, "3.-1.4.0", false}, {4, "3.4.-1.0", false},
		{4, "4.0.0.0", true}, {4, "4.4.4.32", true}, {4, "4.4.4.33", false}, {4, "4.5.4.32", false}, {4, "4.4.5.32", false}, {4, "4.4.4.-1", false},
		{4, "4.-1.4.0", false}, {4, "4.4.-1.0", false},
		{4, "5.0.0.0", true}, {4, "5.4.4.1", true}, {4, "5.4.4.2", false}, {4, "5.5.4.1", false}, {4, "5.4.5.1", false}, {4, "5.4.4.-1", false},
		{4, "5.-1.4.0", false}, {4, "5.4.-1.0", false},
		{4, "6.0.0.0", false}, {4, "-1.0.0.0", false},
		{12, "0.12.0.0", true}, {12, "1.12.0.0", true}, {12, "2.24.0.0", true}, {12, "3.12.12.144", true}, {12, "4.12.12.288", true}, {12, "5.12.12.1", true},
		{12, "0.13.0.0", false}, {12, "1.13.0.0", false}, {12, "2.25.0.0", false}, {12, "3.12.12.145", false}, {12, "4.12.12.289", false}, {12, "5.12.12.2", false},
		{1, "3.1.1.1", true}, {1, "3.1.1.2", false}, {1, "4.1.1.2", true}, {1, "4.1.1.3", false}, {1, "2.2.0.0", true}, {1, "2.3.0.0", false},
		{0, "0.0.0.0", false}, {-1, "0.0.0.0", false}, {13, "0.0.0.0", false}, {13, "5.1.1.1", false},
		{math.MaxInt, "0.0.0.0", false}, {math.MinInt, "0.0.0.0", false}, {1<<32 + 4, "0.0.0.0", false},
	} {
		if is := impl.IsClue(c.side, clueOf(c.word)); is != c.want {
			t.Error(c.side, c.word, is)
		}
	}
}

// notPuzzles are puzzles that are none.
func notPuzzles() []Puzzle {
	var none []Puzzle
	for _, side := range []int{0, -1, 13, -4, 1<<32 + 4, math.MaxInt, math.MinInt} {
		none = append(none, Puzzle{Side: side}, Puzzle{Side: side, Clues: []Clue{{}}}, Puzzle{Side: side, Clues: make([]Clue, 7)})
	}
	for _, word := range []string{
		"0.5.0.0", "1.-1.0.0", "2.9.0.0", "2.1.0.1", "3.4.4.17", "3.5.0.0", "4.4.4.33", "4.0.5.1", "5.1.1.2", "5.0.0.-1", "6.0.0.0", "-1.0.0.0",
		"0.9223372036854775807.0.0", "4.0.0.9223372036854775807", "5.-9223372036854775808.0.0", "9223372036854775807.0.0.0", "4294967296.0.0.0",
	} {
		c := clueOf(word)
		for _, clues := range [][]Clue{{c}, {c, {}}, {{}, c}, {{}, {}, {}, {}, {}, c}, {c, {}, {}, {}, {}, {}}, {c, c}, {{}, {}, c, {}, {}, {}, {}}} {
			none = append(none, Puzzle{Side: 4, Clues: clues})
		}
	}
	return append(none, Puzzle{}, Puzzle{Side: 4, Clues: make([]Clue, 7)}, Puzzle{Side: 12, Clues: make([]Clue, 1000)},
		puzzleOf("1:0.1.0.0,0.2.0.0"), puzzleOf("12:3.12.12.145"))
}

func TestIsPuzzle(t *testing.T) {
	for _, p := range allPuzzles() {
		if !impl.IsPuzzle(p) {
			t.Error(p)
		}
	}
	for _, p := range notPuzzles() {
		if impl.IsPuzzle(p) {
			t.Error(p)
		}
	}
	for n := range 9 {
		if impl.IsPuzzle(Puzzle{Side: 12, Clues: make([]Clue, n)}) != (n <= 6) {
			t.Error(n, "clues")
		}
	}
}

func checkFit(t *testing.T, side int, c Clue, p Peg, want bool) {
	t.Helper()
	if does, ok := impl.DoesFit(side, c, p); does != want || !ok {
		t.Error(side, c, p, does, ok)
	}
}

// TestDoesFit takes all clues of small boards, and all that are nearly right of the greatest one.
func TestDoesFit(t *testing.T) {
	for side := 1; side <= 3; side++ {
		for kind, most := range mostBy(side) {
			for k := range (most[0] + 1) * (most[1] + 1) * (most[2] + 1) {
				c := Clue{Kind: kind, A: k % (most[0] + 1), B: k / (most[0] + 1) % (most[1] + 1), C: k / (most[0] + 1) / (most[1] + 1)}
				for _, p := range boardPegs(side+1, side+1) {
					checkFit(t, side, c, p, fitsBy(c, p))
				}
			}
		}
	}
	for _, at := range boardPegs(13, 13) {
		for _, p := range boardPegs(13, 13) {
			checkFit(t, 12, Clue{Kind: 0, A: at.X}, p, at.X == p.X)
			checkFit(t, 12, Clue{Kind: 1, A: at.X}, p, at.X == p.Y)
			checkFit(t, 12, Clue{Kind: 2, A: at.X + at.Y}, p, at.X+at.Y == p.X+p.Y)
			checkNumbers(t, Clue{Kind: 3, A: at.X, B: at.Y}, p, areaBy(at, p), 144)
			checkNumbers(t, Clue{Kind: 4, A: at.X, B: at.Y}, p, far(at, p), 288)
			checkFit(t, 12, Clue{Kind: 5, A: at.X, B: at.Y, C: 1}, p, isSeen(at, p))
			checkFit(t, 12, Clue{Kind: 5, A: at.X, B: at.Y, C: 0}, p, !isSeen(at, p))
		}
	}
}

// TestTrianglesOfClues is kind 3 in the words of chapter 1.
func TestTrianglesOfClues(t *testing.T) {
	for _, at := range boardPegs(13, 13) {
		for _, p := range boardPegs(13, 13) {
			twice, _ := impl.TwiceArea([]Peg{{}, at, p}) // 0 if these are no triangle
			checkFit(t, 12, Clue{Kind: 3, A: at.X, B: at.Y, C: max(twice, -twice)}, p, true)
		}
	}
}

// checkNumbers: a number next to the right one does not fit, and none at the ends, unless it is the right one.
func checkNumbers(t *testing.T, c Clue, p Peg, right, most int) {
	t.Helper()
	for _, n := range []int{0, right - 1, right, right + 1, most} {
		if c.C = n; n >= 0 && n <= most {
			checkFit(t, 12, c, p, n == right)
		}
	}
}

func TestDoesFitOfNamed(t *testing.T) {
	for _, c := range []struct {
		side int
		word string
		p    Peg
		want bool
	}{
		{4, "0.4.0.0", Peg{X: 4, Y: 1}, true}, {4, "0.1.0.0", Peg{X: 4, Y: 1}, false},
		{4, "1.1.0.0", Peg{X: 4, Y: 1}, true}, {4, "1.4.0.0", Peg{X: 4, Y: 1}, false},
		{4, "2.5.0.0", Peg{X: 4, Y: 1}, true}, {4, "2.3.0.0", Peg{X: 4, Y: 1}, false},
		{4, "2.0.0.0", Peg{}, true}, {4, "2.8.0.0", Peg{X: 4, Y: 4}, true},
		{4, "3.4.0.4", Peg{X: 4, Y: 1}, true}, {4, "3.0.4.16", Peg{X: 4, Y: 1}, true}, {4, "3.4.0.16", Peg{X: 4, Y: 4}, true},
		{4, "3.4.0.8", Peg{X: 4, Y: 4}, false}, {4, "3.0.0.0", Peg{X: 3, Y: 2}, true}, {4, "3.0.0.1", Peg{X: 3, Y: 2}, false},
		{4, "3.2.2.0", Peg{X: 3, Y: 3}, true}, {4, "3.3.3.0", Peg{X: 1, Y: 1}, true}, {4, "3.3.2.0", Peg{}, true},
		{4, "3.3.2.0", Peg{X: 3, Y: 2}, true}, {4, "3.1.2.1", Peg{X: 1, Y: 1}, true}, {4, "3.1.1.1", Peg{X: 1, Y: 2}, true},
		{4, "4.3.2.0", Peg{X: 3, Y: 2}, true}, {4, "4.3.2.0", Peg{X: 3, Y: 1}, false}, {4, "4.0.0.32", Peg{X: 4, Y: 4}, true},
		{4, "4.4.0.32", Peg{Y: 4}, true}, {4, "4.1.2.5", Peg{X: 3, Y: 3}, true}, {4, "4.1.2.5", Peg{}, true}, {4, "4.1.2.4", Peg{X: 3, Y: 3}, false},
		{4, "5.3.2.1", Peg{X: 3, Y: 2}, true}, {4, "5.3.2.0", Peg{X: 3, Y: 2}, false}, {4, "5.0.0.1", Peg{}, true}, {4, "5.0.0.0", Peg{}, false},
		{4, "5.3.2.1", Peg{X: 3, Y: 1}, true}, {4, "5.3.2.1", Peg{X: 3}, false}, {4, "5.3.2.0", Peg{X: 3}, true},
		{4, "5.0.0.0", Peg{X: 4, Y: 2}, true}, {4, "5.0.0.1", Peg{X: 4, Y: 3}, true}, {4, "5.0.0.0", Peg{X: 3, Y: 3}, true}, {4, "5.4.4.0", Peg{}, true},
		{12, "5.0.0.0", Peg{X: 12}, true}, {12, "5.12.12.0", Peg{X: 6, Y: 9}, true}, {12, "5.12.12.1", Peg{X: 5, Y: 9}, true},
		{1, "4.0.0.2", Peg{X: 1, Y: 1}, true}, {1, "3.1.0.1", Peg{X: 1, Y: 1}, true}, {1, "5.0.0.1", Peg{X: 1, Y: 1}, true},
	} {
		checkFit(t, c.side, clueOf(c.word), c.p, c.want)
	}
}

func TestNoFit(t *testing.T) {
	fails := func(side int, c Clue, p Peg) {
		t.Helper()
		if does, ok := impl.DoesFit(side, c, p); does || ok {
			t.Error(side, c, p, does, ok)
		}
	}
	for _, p := range offBoard(4) {
		for _, word := range []string{"0.4.0.0", "1.4.0.0", "2.5.0.0", "3.0.0.0", "4.4.0.1", "5.4.4.1", "5.4.4.0"} {
			fails(4, clueOf(word), p)
		}
	}
	for _, p := range notPuzzles() {
		if len(p.Clues) == 1 {
			fails(p.Side, p.Clues[0], Peg{})
			fails(p.Side, p.Clues[0], Peg{X: math.MaxInt})
		}
	}
	fails(12, Clue{}, Peg{X: 13})
	fails(12, Clue{}, Peg{Y: 13})
}

// offBoard are points that are no pegs of a board, the nearest ones with them.
func offBoard(side int) []Peg {
	off := slices.Clone(notPegs)
	for n := range side + 1 {
		off = append(off, Peg{X: -1, Y: n}, Peg{X: n, Y: -1}, Peg{X: side + 1, Y: n}, Peg{X: n, Y: side + 1})
	}
	return append(off, Peg{X: -1, Y: -1}, Peg{X: side + 1, Y: side + 1}, Peg{X: 40, Y: 40})
}

// TestSolutions is promise 9 for solutions: they fit all clues, and no other peg does.
func TestSolutions(t *testing.T) {
	for _, p := range allPuzzles() {
		want := solutionsBy(p)
		solutions, ok := impl.Solutions(p)
		if !slices.Equal(solutions, want) || !ok {
			t.Error(textBy(p), solutions, ok, "not", want)
		}
		for _, peg := range boardPegs(p.Side+1, p.Side+1) {
			fits := true
			for _, c := range p.Clues {
				does, ok := impl.DoesFit(p.Side, c, peg)
				fits = fits && does && ok
			}
			if fits != slices.Contains(solutions, peg) {
				t.Error(textBy(p), peg, fits)
			}
		}
		if n, ok := impl.CountSolutions(p); n != len(want) || !ok {
			t.Error(textBy(p), n, ok)
		}
		if is, ok := impl.IsSolved(p); is != (len(want) == 1) || !ok {
			t.Error(textBy(p), is, ok)
		}
		first, ok := impl.FirstSolution(p)
		if ok != (len(want) > 0) || ok && first != want[0] || !ok && first != (Peg{}) {
			t.Error(textBy(p), first, ok)
		}
	}
}

func TestSolutionsOfNamed(t *testing.T) {
	for s, want := range map[string]string{
		"4:2.5.0.0,3.4.0.4": "4,1", "4:2.5.0.0": "1,4 2,3 3,2 4,1", "1:": "0,0 0,1 1,0 1,1", "1:5.1.1.0": "", "12:3.0.0.1": "",
		"12:4.6.6.25": "1,6 2,3 2,9 3,2 3,10 6,1 6,11 9,2 9,10 10,3 10,9 11,6", "12:4.6.6.0": "6,6", "12:4.0.0.288": "12,12",
		"1:0.0.0.0,0.1.0.0": "", "2:5.0.0.0": "0,2 2,0 2,2", "3:5.3.3.0,5.0.0.0": "0,3 3,0", "1:3.1.1.1": "0,1 1,0", "1:2.2.0.0": "1,1",
	} {
		solutions, ok := impl.Solutions(puzzleOf(s))
		if !slices.Equal(solutions, pegsOf(want)) || !ok {
			t.Error(s, solutions, ok)
		}
	}
	for s, want := range map[string]int{"12:": 169, "12:3.0.0.0": 169, "7:": 64, "12:0.12.0.0": 13, "12:5.6.6.1": 97, "12:5.6.6.0": 72} {
		if n, ok := impl.CountSolutions(puzzleOf(s)); n != want || !ok {
			t.Error(s, n, ok)
		}
	}
}

// columnEnds are the first and the last pegs with each X: no others are corners of a band.
func columnEnds(l []Peg) []Peg {
	return filtered(l, func(p Peg) bool {
		column := filtered(l, func(q Peg) bool { return q.X == p.X })
		return p == column[0] || p == column[len(column)-1]
	})
}

// TestBandOfSolutions takes also as many solutions as chapter 4 does not.
func TestBandOfSolutions(t *testing.T) {
	sizes := map[int]int{}
	great := 0
	for _, p := range allPuzzles() {
		solutions := solutionsBy(p)
		band, ok := impl.BandOfSolutions(p)
		if len(solutions) == 0 {
			if len(band) != 0 || ok {
				t.Error(textBy(p), band, ok)
			}
			continue
		}
		if !slices.Equal(band, bandBy(columnEnds(solutions))) || !ok {
			t.Error(textBy(p), band, ok)
		}
		if len(solutions) > 30 {
			great++
		} else if told, ok := impl.BandOf(solutions); !slices.Equal(band, told) || !ok {
			t.Error(textBy(p), band, told, ok)
		}
		sizes[len(band)]++
	}
	if great < 50 || sizes[1] < 50 || sizes[2] < 50 || sizes[3] < 5 || sizes[4] < 50 || sizes[12] < 1 {
		t.Error(great, sizes)
	}
	for s, want := range map[string]string{
		"12:": "0,0 12,0 12,12 0,12", "12:3.0.0.0": "0,0 12,0 12,12 0,12", "1:": "0,0 1,0 1,1 0,1", "12:0.12.0.0": "12,0 12,12",
		"12:2.12.0.0": "0,12 12,0", "12:4.6.6.0": "6,6", "12:4.6.6.25": "1,6 2,3 3,2 6,1 9,2 10,3 11,6 10,9 9,10 6,11 3,10 2,9",
		"2:5.0.0.0": "0,2 2,0 2,2", "12:5.6.6.1": "0,1 1,0 11,0 12,1 12,11 11,12 1,12 0,11", "1:5.1.1.0": "", "4:2.5.0.0": "1,4 4,1",
	} {
		band, ok := impl.BandOfSolutions(puzzleOf(s))
		if !slices.Equal(band, pegsOf(want)) || ok != (want != "") {
			t.Error(s, band, ok)
		}
	}
}

func TestNeedlessClues(t *testing.T) {
	for _, p := range allPuzzles() {
		var want []int
		for k := range p.Clues {
			if slices.Equal(solutionsBy(withoutBy(p, k)), solutionsBy(p)) {
				want = append(want, k)
			}
		}
		if needless, ok := impl.NeedlessClues(p); !slices.Equal(needless, want) || !ok {
			t.Error(textBy(p), needless, ok, "not", want)
		}
	}
	for s, want := range map[string][]int{
		"12:": nil, "4:2.5.0.0,3.4.0.4": nil, "12:3.0.0.0": {0}, "12:3.0.0.1": nil, "6:0.3.0.0,0.3.0.0,1.2.0.0,1.2.0.0": {0, 1, 2, 3},
		"6:0.3.0.0,0.3.0.0": {0, 1}, "9:0.4.0.0,1.7.0.0,2.11.0.0": {0, 1, 2}, "4:2.0.0.0,0.0.0.0,1.0.0.0": {0, 1, 2},
		"4:2.0.0.0,0.0.0.0": {1}, "5:0.1.0.0,0.2.0.0,0.3.0.0": {0, 1, 2}, "5:0.1.0.0,0.2.0.0": nil, "5:0.1.0.0,0.1.0.0,0.2.0.0": {0, 1},
		"5:0.1.0.0,0.1.0.0,0.1.0.0,0.1.0.0,0.1.0.0,0.1.0.0": {0, 1, 2, 3, 4, 5}, "9:0.4.0.0,5.4.7.1,1.7.0.0": {1},
	} {
		if needless, ok := impl.NeedlessClues(puzzleOf(s)); !slices.Equal(needless, want) || !ok {
			t.Error(s, needless, ok)
		}
	}
}

func TestDropClue(t *testing.T) {
	for _, p := range allPuzzles() {
		for k := range p.Clues {
			if dropped, ok := impl.DropClue(p, k); !areSame(dropped, withoutBy(p, k)) || !ok {
				t.Error(textBy(p), k, dropped, ok)
			}
		}
		for _, k := range []int{-1, len(p.Clues), len(p.Clues) + 1, 6, 7, 1 << 32, -1 << 32, math.MaxInt, math.MinInt} {
			if dropped, ok := impl.DropClue(p, k); !isNothing(dropped) || ok {
				t.Error(textBy(p), k, dropped, ok)
			}
		}
	}
	six := "12:1.12.0.0,0.0.0.0,2.12.0.0,5.12.0.0,4.12.0.288,3.12.0.144"
	for k, want := range map[int]string{
		0: "12:0.0.0.0,2.12.0.0,5.12.0.0,4.12.0.288,3.12.0.144",
		3: "12:1.12.0.0,0.0.0.0,2.12.0.0,4.12.0.288,3.12.0.144",
		5: "12:1.12.0.0,0.0.0.0,2.12.0.0,5.12.0.0,4.12.0.288",
	} {
		if dropped, ok := impl.DropClue(puzzleOf(six), k); textBy(dropped) != want || !ok {
			t.Error(k, dropped, ok)
		}
	}
	if dropped, ok := impl.DropClue(puzzleOf("4:2.5.0.0"), 0); textBy(dropped) != "4:" || !ok {
		t.Error(dropped, ok)
	}
}

func TestAddClue(t *testing.T) {
	mix := rand.New(rand.NewPCG(9, 6))
	for _, p := range allPuzzles() {
		c := someClue(mix, p.Side, Peg{X: p.Side, Y: 1})
		more, ok := impl.AddClue(p, c)
		if len(p.Clues) == 6 {
			if !isNothing(more) || ok {
				t.Error(textBy(p), c, more, ok)
			}
			continue
		}
		if !areSame(more, Puzzle{Side: p.Side, Clues: slices.Concat(p.Clues, []Clue{c})}) || !ok {
			t.Error(textBy(p), c, more, ok)
		}
		back, ok := impl.DropClue(more, len(p.Clues))
		if !areSame(back, p) || !ok {
			t.Error(textBy(p), back, ok)
		}
	}
	for _, none := range notPuzzles() {
		if none.Side == 4 && len(none.Clues) == 1 {
			if more, ok := impl.AddClue(puzzleOf("4:2.5.0.0"), none.Clues[0]); !isNothing(more) || ok {
				t.Error(none, more, ok)
			}
		}
	}
}

// TestAddedAreApart: puzzles with other clues more than the same one do not share them.
func TestAddedAreApart(t *testing.T) {
	room := append(make([]Clue, 0, 9), clueOf("2.5.0.0"), clueOf("5.1.1.1"))
	p := Puzzle{Side: 4, Clues: room}
	one, _ := impl.AddClue(p, clueOf("0.4.0.0"))
	other, _ := impl.AddClue(p, clueOf("1.4.0.0"))
	if textBy(one) != "4:2.5.0.0,5.1.1.1,0.4.0.0" || textBy(other) != "4:2.5.0.0,5.1.1.1,1.4.0.0" {
		t.Error(one, other)
	}
	if room[:3][2] != (Clue{}) {
		t.Error(room[:3])
	}
}

func TestLeftByClues(t *testing.T) {
	for _, p := range allPuzzles() {
		var want []int
		for n := range len(p.Clues) + 1 {
			want = append(want, len(solutionsBy(Puzzle{Side: p.Side, Clues: p.Clues[:n]})))
		}
		left, ok := impl.LeftByClues(p)
		if !slices.Equal(left, want) || !ok {
			t.Error(textBy(p), left, ok, "not", want)
		}
	}
	for s, want := range map[string][]int{
		"4:2.5.0.0,3.4.0.4": {25, 4, 1}, "1:": {4}, "12:": {169}, "12:3.0.0.0": {169, 169}, "12:3.0.0.1": {169, 0},
		"4:0.0.0.0,1.0.0.0,2.0.0.0": {25, 5, 1, 1}, "5:0.1.0.0,0.2.0.0,0.3.0.0": {36, 6, 0, 0},
	} {
		if left, ok := impl.LeftByClues(puzzleOf(s)); !slices.Equal(left, want) || !ok {
			t.Error(s, left, ok)
		}
	}
}

func TestBestClue(t *testing.T) {
	for _, p := range allPuzzles() {
		best, least := 0, 1000
		for k, c := range p.Clues {
			if n := len(solutionsBy(Puzzle{Side: p.Side, Clues: []Clue{c}})); n < least {
				best, least = k, n
			}
		}
		if k, ok := impl.BestClue(p); k != best || ok != (len(p.Clues) > 0) {
			t.Error(textBy(p), k, ok, "not", best)
		}
	}
	for s, want := range map[string]int{
		"4:2.5.0.0,3.4.0.4": 0, "4:2.0.0.0": 0, "4:0.1.0.0,1.1.0.0": 0, "4:0.1.0.0,1.1.0.0,2.0.0.0": 2, "4:5.0.0.1,3.4.0.4,2.1.0.0,2.7.0.0": 2,
		"4:0.0.0.0,3.0.0.1": 1, "12:4.0.0.3,4.0.0.0": 0, "12:3.0.0.0,5.6.6.1": 1,
	} {
		if k, ok := impl.BestClue(puzzleOf(s)); k != want || !ok {
			t.Error(s, k, ok)
		}
	}
	for _, s := range []string{"1:", "12:"} {
		if k, ok := impl.BestClue(puzzleOf(s)); k != 0 || ok {
			t.Error(s, k, ok)
		}
	}
}

// harderBy goes through the clues once, with those that are out.
func harderBy(p Puzzle) Puzzle {
	var out []int
	for k := range p.Clues {
		if len(solutionsBy(withoutBy(p, append(slices.Clone(out), k)...))) == 1 {
			out = append(out, k)
		}
	}
	return withoutBy(p, out...)
}

// TestHarderPuzzle is promise 9 for harder puzzles: the same peg solves them.
func TestHarderPuzzle(t *testing.T) {
	taken := map[int]int{}
	for _, p := range allPuzzles() {
		solutions := solutionsBy(p)
		harder, ok := impl.HarderPuzzle(p)
		if len(solutions) != 1 {
			if !isNothing(harder) || ok {
				t.Error(textBy(p), harder, ok)
			}
			continue
		}
		if !areSame(harder, harderBy(p)) || !ok {
			t.Error(textBy(p), harder, ok, "not", harderBy(p))
		}
		is, ok := impl.IsSolved(harder)
		first, fine := impl.FirstSolution(harder)
		if !is || !ok || !fine || first != solutions[0] {
			t.Error(textBy(p), harder, first)
		}
		if needless, ok := impl.NeedlessClues(harder); len(needless) != 0 || !ok {
			t.Error(textBy(p), harder, needless)
		}
		taken[len(p.Clues)-len(harder.Clues)]++
	}
	for n := range 5 {
		if taken[n] < 10 {
			t.Error(taken)
		}
	}
}

func TestHarderPuzzleOfNamed(t *testing.T) {
	for s, want := range map[string]string{
		"4:2.5.0.0,3.4.0.4":                                           "4:2.5.0.0,3.4.0.4",
		"4:2.0.0.0":                                                   "4:2.0.0.0",
		"4:0.0.0.0,1.0.0.0,2.0.0.0":                                   "4:2.0.0.0",
		"4:2.0.0.0,0.0.0.0,1.0.0.0":                                   "4:0.0.0.0,1.0.0.0",
		"4:1.0.0.0,2.0.0.0,0.0.0.0":                                   "4:2.0.0.0",
		"4:0.0.0.0,2.0.0.0,1.0.0.0":                                   "4:2.0.0.0",
		"9:0.4.0.0,1.7.0.0,2.11.0.0":                                  "9:1.7.0.0,2.11.0.0",
		"9:2.11.0.0,1.7.0.0,0.4.0.0":                                  "9:1.7.0.0,0.4.0.0",
		"6:0.3.0.0,0.3.0.0,1.2.0.0,1.2.0.0":                           "6:0.3.0.0,1.2.0.0",
		"12:1.12.0.0,0.0.0.0,2.12.0.0,5.12.0.0,4.12.0.288,3.12.0.144": "12:4.12.0.288",
		"12:3.12.0.144,4.12.0.288,5.12.0.0,2.12.0.0,0.0.0.0,1.12.0.0": "12:0.0.0.0,1.12.0.0",
		"1:2.2.0.0,2.2.0.0,2.2.0.0,2.2.0.0,2.2.0.0,2.2.0.0":           "1:2.2.0.0",
	} {
		if harder, ok := impl.HarderPuzzle(puzzleOf(s)); textBy(harder) != want || !ok {
			t.Error(s, harder, ok)
		}
	}
	for _, s := range []string{"1:", "12:", "4:2.5.0.0", "1:0.0.0.0,0.1.0.0", "12:3.0.0.1"} {
		if harder, ok := impl.HarderPuzzle(puzzleOf(s)); !isNothing(harder) || ok {
			t.Error(s, harder, ok)
		}
	}
}

// madeBy writes the numbers down first, and then reads them.
func madeBy(side int, p Peg, clues, seed int) Puzzle {
	numbers := []int{seed}
	for i := range 18 {
		numbers = append(numbers, (numbers[i]*197+3079)%10009)
	}
	numbers = numbers[1:]
	made := Puzzle{Side: side}
	for range clues {
		c := Clue{Kind: numbers[0] % 6}
		numbers = numbers[1:]
		switch c.Kind {
		case 0:
			c.A = p.X
		case 1:
			c.A = p.Y
		case 2:
			c.A = p.X + p.Y
		default:
			c.A, c.B = numbers[0]%(side+1), numbers[1]%(side+1)
			numbers = numbers[2:]
			for c.Kind != 5 && !fitsBy(c, p) {
				c.C++
			}
			if c.Kind == 5 && isSeen(Peg{X: c.A, Y: c.B}, p) {
				c.C = 1
			}
		}
		made.Clues = append(made.Clues, c)
	}
	return made
}

func checkMade(t *testing.T, side int, p Peg, clues, seed int) {
	t.Helper()
	made, ok := impl.MakePuzzle(side, p, clues, seed)
	if want := madeBy(side, p, clues, seed); !areSame(made, want) || !ok {
		t.Error(side, p, clues, seed, made, ok, "not", want)
	}
	solutions, ok := impl.Solutions(made)
	if !slices.Contains(solutions, p) || !ok {
		t.Error(side, p, clues, seed, solutions, ok)
	}
}

// TestMakePuzzle takes all seeds, all sides, all numbers of clues, and all pegs of some boards.
func TestMakePuzzle(t *testing.T) {
	for seed := range 10000 {
		side := seed%12 + 1
		checkMade(t, side, Peg{X: seed / 12 % (side + 1), Y: seed / 156 % (side + 1)}, (seed+6)%7, seed)
	}
	for _, side := range []int{1, 2, 3, 12} {
		for _, p := range boardPegs(side+1, side+1) {
			for _, seed := range []int{0, 1, 5000, 9999} {
				checkMade(t, side, p, 6, seed)
				checkMade(t, side, p, 0, seed)
			}
		}
	}
	for side := 1; side <= 12; side++ {
		for _, p := range []Peg{{}, {X: side}, {Y: side}, {X: side, Y: side}} {
			for clues := range 7 {
				checkMade(t, side, p, clues, 0)
				checkMade(t, side, p, clues, 9999)
				checkMade(t, side, p, clues, 1000*clues+side)
			}
		}
	}
}

func TestMakePuzzleOfNamed(t *testing.T) {
	for _, c := range []struct {
		side        int
		p           Peg
		clues, seed int
		want        string
	}{
		{4, Peg{X: 4, Y: 1}, 4, 0, "4:1.1.0.0,0.4.0.0,2.5.0.0,5.4.1.1"},
		{4, Peg{X: 4, Y: 1}, 1, 0, "4:1.1.0.0"},
		{4, Peg{X: 2, Y: 1}, 4, 0, "4:1.1.0.0,0.2.0.0,2.3.0.0,5.4.1.0"},
		{1, Peg{X: 1}, 1, 9999, "1:5.0.1.1"},
		{12, Peg{X: 12, Y: 12}, 0, 9999, "12:"},
		{1, Peg{}, 0, 0, "1:"},
	} {
		if made, ok := impl.MakePuzzle(c.side, c.p, c.clues, c.seed); textBy(made) != c.want || !ok {
			t.Error(c, made, ok)
		}
	}
}

func TestNoPuzzleIsMade(t *testing.T) {
	fails := func(side int, p Peg, clues, seed int) {
		t.Helper()
		if made, ok := impl.MakePuzzle(side, p, clues, seed); !isNothing(made) || ok {
			t.Error(side, p, clues, seed, made, ok)
		}
	}
	for _, n := range []int{-1, math.MaxInt, math.MinInt, 1 << 32, -1 << 32, 1<<32 + 1} {
		fails(n, Peg{}, 3, 7)
		fails(4, Peg{}, n, 7)
		fails(4, Peg{}, 3, n)
		fails(n, Peg{X: n, Y: n}, n, n)
	}
	fails(0, Peg{}, 3, 7)
	fails(13, Peg{}, 3, 7)
	fails(4, Peg{}, 7, 7)
	fails(4, Peg{}, 3, 10000)
	fails(4, Peg{}, 0, 10000)
	fails(4, Peg{}, 0, -1)
	for _, p := range offBoard(4) {
		fails(4, p, 3, 7)
		fails(4, p, 0, 7)
	}
	fails(12, Peg{X: 13}, 6, 0)
	fails(1, Peg{Y: 2}, 6, 0)
}

func TestPuzzleText(t *testing.T) {
	for _, p := range allPuzzles() {
		want := textBy(p)
		if text, ok := impl.PuzzleText(p); text != want || !ok {
			t.Error(p, text, ok)
		}
		if back, ok := impl.ParsePuzzle(want); !areSame(back, p) || !ok {
			t.Error(want, back, ok)
		}
	}
	for _, s := range puzzles {
		if text, ok := impl.PuzzleText(puzzleOf(s)); text != s || !ok {
			t.Error(s, text, ok)
		}
	}
}

var puzzleForm = regexp.MustCompile(`^(0|-?[1-9][0-9]*):((0|-?[1-9][0-9]*)(\.(0|-?[1-9][0-9]*)){3}(,(0|-?[1-9][0-9]*)(\.(0|-?[1-9][0-9]*)){3})*)?\z`)

// parseBy takes what has the form of a text, with numbers of few digits, and is one of a puzzle.
func parseBy(s string) (Puzzle, bool) {
	if !puzzleForm.MatchString(s) || regexp.MustCompile(`[0-9]{10}`).MatchString(s) || !isPuzzleBy(puzzleOf(s)) {
		return Puzzle{}, false
	}
	return puzzleOf(s), true
}

func checkParse(t *testing.T, s string) bool {
	t.Helper()
	want, isOne := parseBy(s)
	if p, ok := impl.ParsePuzzle(s); !areSame(p, want) || ok != isOne || !ok && !isNothing(p) {
		t.Errorf("%q %v %v", s, p, ok)
	}
	return isOne
}

// TestParsePuzzle takes texts out of which one byte is taken, into which one is put, or of which one is another.
func TestParsePuzzle(t *testing.T) {
	mix := rand.New(rand.NewPCG(9, 9))
	does := map[bool]int{}
	for _, s := range puzzles {
		for at := range len(s) + 1 {
			for range 12 {
				put := string(".,:0123456789-+ "[mix.IntN(16)])
				does[checkParse(t, s[:at]+put+s[at:])]++
				if at < len(s) {
					does[checkParse(t, s[:at]+s[at+1:])]++
					does[checkParse(t, s[:at]+put+s[at+1:])]++
				}
			}
		}
	}
	if does[true] < 100 || does[false] < 1000 {
		t.Error(does)
	}
}

func TestNearlyTexts(t *testing.T) {
	for _, s := range []string{
		"", "4", ":", "::", "4::", "4:,", "4:.", "4:...", "4: ", " 4:", "4 :", "+4:", "-4:", "04:", "4.0:", "4:\n", "0:", "-0:", "-1:", "13:", "x:", "0x4:", "4;",
		"4:2.5.0", "4:2.5.0.0.0", "4:2.5.0.0.", "4:.2.5.0.0", "4:2.5.0.0,", "4:,2.5.0.0", "4:2.5.0.0,,3.4.0.4", "4:2.5.0.0;3.4.0.4", "4:2.5.0.0.3.4.0.4",
		"4:2.5.0.0, 3.4.0.4", "4:2.5.0.0 ,3.4.0.4", "4:2.5.0.0,3.4.0.4 ", "4:2.5.0.0,3.4.0.4\n", "4:2.5.0.0,3.4.0.4:", "4:2.5.0.0:3.4.0.4", "4:2,5,0,0",
		"4:02.5.0.0", "4:2.05.0.0", "4:2.5.00.0", "4:2.5.0.-0", "4:2.+5.0.0", "4:2.5..0", "4:2.5.0.x", "4:2.5.0.0,3.4.0", "4.2.5.0.0", "2.5.0.0",
		"4:0.5.0.0", "4:6.0.0.0", "4:-1.0.0.0", "4:2.5.0.1", "4:3.4.4.17", "4:5.1.1.2", "5:0.1.0.0,0.1.0.0,0.1.0.0,0.1.0.0,0.1.0.0,0.1.0.0,0.1.0.0",
		"99999999999999999999:", "4:2.99999999999999999999.0.0", "18446744073709551620:", "4:2.18446744073709551621.0.0", "4294967300:", "4:2.4294967301.0.0",
		"-9223372036854775808:", "9223372036854775807:", "4:9223372036854775807.0.0.0", "4:2.1_0.0.0", "\u0664:", "4\x00:", "4:2.5.0.0\x00",
		strings.Repeat("4:2.5.0.0,", 1000), "4:" + strings.Repeat("2.5.0.0,", 1000) + "2.5.0.0", strings.Repeat("0", 1000) + "4:",
	} {
		if p, ok := impl.ParsePuzzle(s); !isNothing(p) || ok {
			t.Errorf("%q %v %v", s, p, ok)
		}
	}
}

// onPuzzles are all functions of the chapter that take a puzzle, with other arguments that are valid for one of side 4
// with a clue at least.
func onPuzzles() map[string]func(Puzzle) (any, bool) {
	return map[string]func(Puzzle) (any, bool){
		"Solutions":       func(p Puzzle) (any, bool) { return pair(impl.Solutions(p)) },
		"CountSolutions":  func(p Puzzle) (any, bool) { return pair(impl.CountSolutions(p)) },
		"FirstSolution":   func(p Puzzle) (any, bool) { return pair(impl.FirstSolution(p)) },
		"BandOfSolutions": func(p Puzzle) (any, bool) { return pair(impl.BandOfSolutions(p)) },
		"IsSolved":        func(p Puzzle) (any, bool) { return pair(impl.IsSolved(p)) },
		"NeedlessClues":   func(p Puzzle) (any, bool) { return pair(impl.NeedlessClues(p)) },
		"DropClue":        func(p Puzzle) (any, bool) { return pair(impl.DropClue(p, 0)) },
		"DropClue, last":  func(p Puzzle) (any, bool) { return pair(impl.DropClue(p, len(p.Clues)-1)) },
		"AddClue":         func(p Puzzle) (any, bool) { return pair(impl.AddClue(p, Clue{})) },
		"LeftByClues":     func(p Puzzle) (any, bool) { return pair(impl.LeftByClues(p)) },
		"BestClue":        func(p Puzzle) (any, bool) { return pair(impl.BestClue(p)) },
		"HarderPuzzle":    func(p Puzzle) (any, bool) { return pair(impl.HarderPuzzle(p)) },
		"PuzzleText":      func(p Puzzle) (any, bool) { return pair(impl.PuzzleText(p)) },
		"IsPuzzle":        func(p Puzzle) (any, bool) { return impl.IsPuzzle(p), impl.IsPuzzle(p) },
	}
}

func TestNoPuzzleFails(t *testing.T) {
	for name, call := range onPuzzles() {
		for _, p := range notPuzzles() {
			if v, ok := call(p); !isNothing(v) || ok {
				t.Error(name, p, v, ok)
			}
		}
	}
}

// TestPuzzlesAreKept is promise 11 for clues and for what is made of them.
func TestPuzzlesAreKept(t *testing.T) {
	behind := []Clue{clueOf("0.1.0.0"), clueOf("9.9.9.9"), clueOf("2.1.0.0"), clueOf("5.0.0.0"), {}, {}}
	done := map[string]int{}
	for name, call := range onPuzzles() {
		for _, p := range allPuzzles()[:300] {
			if _, ok := call(p); !ok {
				continue
			}
			done[name]++
			onClues := func(clues []Clue) (any, bool) { return call(Puzzle{Side: p.Side, Clues: clues}) }
			checkRoom(t, name, onClues, p.Clues, behind)
		}
	}
	for name := range onPuzzles() {
		if done[name] < 20 {
			t.Error(name, done[name])
		}
	}
}

// TestMadePuzzlesAreNew: no call keeps the clues of another one.
func TestMadePuzzlesAreNew(t *testing.T) {
	for name, make := range map[string]func() (Puzzle, bool){
		"MakePuzzle":  func() (Puzzle, bool) { return impl.MakePuzzle(4, Peg{X: 4, Y: 1}, 6, 3) },
		"ParsePuzzle": func() (Puzzle, bool) { return impl.ParsePuzzle("4:2.5.0.0,3.4.0.4") },
	} {
		one, _ := make()
		want := textBy(one)
		if !fillAll(one) || textBy(one) == want {
			t.Error(name)
		}
		if other, ok := make(); textBy(other) != want || !ok {
			t.Error(name, other, ok)
		}
	}
}
