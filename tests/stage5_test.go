package tests

import (
	"math"
	"math/rand/v2"
	"slices"
	"testing"

	"loop.example/g01259/impl"
)

// onBoard is a function of the program that counts something on a board.
type onBoard = func(w, h int) (int, bool)

// boardPegs are the pegs of a board, in order.
func boardPegs(w, h int) []Peg {
	var pegs []Peg
	for k := range w * h {
		pegs = append(pegs, Peg{X: k / h, Y: k % h})
	}
	return pegs
}

// everyBoard calls f with each board up to most by most: those of one peg, of one row, of one column, and turned ones.
func everyBoard(most int, f func(w, h int, pegs []Peg)) {
	for w := 1; w <= most; w++ {
		for h := 1; h <= most; h++ {
			f(w, h, boardPegs(w, h))
		}
	}
}

func everyPair(pegs []Peg, f func(a, b Peg)) {
	for i, a := range pegs {
		for _, b := range pegs[i+1:] {
			f(a, b)
		}
	}
}

func everyThree(pegs []Peg, f func(a, b, c Peg)) {
	for i, a := range pegs {
		everyPair(pegs[i+1:], func(b, c Peg) { f(a, b, c) })
	}
}

func far(a, b Peg) int {
	return dot(less(a, b), less(a, b))
}

func inLine(a, b, c Peg) bool {
	return cross(less(b, a), less(c, a)) == 0
}

// stepsBy looks for the greatest number of steps that are whole.
func stepsBy(a, b Peg) int {
	steps := 0
	for n := max(b.X-a.X, a.X-b.X, b.Y-a.Y, a.Y-b.Y); n > 0; n-- {
		if steps == 0 && (b.X-a.X)%n == 0 && (b.Y-a.Y)%n == 0 {
			steps = n
		}
	}
	return steps
}

// choose is the number of ways to choose k of n.
func choose(n, k int) int {
	ways := 1
	for i := range k {
		ways = ways * (n - i) / (i + 1)
	}
	return ways
}

// checkCount: a count is as wanted on this board.
func checkCount(t *testing.T, name string, count onBoard, w, h, want int) {
	t.Helper()
	if n, ok := count(w, h); n != want || !ok {
		t.Error(name, w, h, n, ok, "not", want)
	}
}

// checkSquare: a count is as wanted on the boards of 1 by 1, 2 by 2 and so on.
func checkSquare(t *testing.T, name string, count onBoard, wants ...int) {
	t.Helper()
	for i, want := range wants {
		checkCount(t, name, count, i+1, i+1, want)
	}
}

func pairsOf(steps int) onBoard {
	return func(w, h int) (int, bool) { return impl.CountPairs(w, h, steps) }
}

func areaOf(twice int) onBoard {
	return func(w, h int) (int, bool) { return impl.CountOfArea(w, h, twice) }
}

func seenFrom(p Peg) onBoard {
	return func(w, h int) (int, bool) { return impl.PegsSeen(w, h, p) }
}

func TestCountPairs(t *testing.T) {
	everyBoard(12, func(w, h int, pegs []Peg) {
		want := map[int]int{}
		everyPair(pegs, func(a, b Peg) { want[stepsBy(a, b)]++ })
		all := 0
		for steps := 1; steps <= 12; steps++ {
			checkCount(t, "pairs", pairsOf(steps), w, h, want[steps])
			n, _ := impl.CountPairs(w, h, steps)
			all += n
		}
		if all != choose(w*h, 2) {
			t.Error(w, h, "has", all, "pairs")
		}
	})
	for _, c := range []struct{ w, h, steps, want int }{
		{1, 1, 1, 0}, {1, 1, 12, 0}, {2, 1, 1, 1}, {1, 2, 1, 1}, {1, 2, 2, 0}, {3, 3, 1, 28}, {3, 3, 2, 8}, {3, 3, 3, 0},
		{12, 1, 11, 1}, {1, 12, 11, 1}, {12, 1, 1, 11}, {12, 12, 11, 26}, {12, 12, 12, 0}, {4, 1, 3, 1}, {4, 7, 6, 4}, {7, 4, 6, 4},
	} {
		checkCount(t, "pairs", pairsOf(c.steps), c.w, c.h, c.want)
	}
}

// TestPairsAreToldByPegsOnLine is what the document says of steps.
func TestPairsAreToldByPegsOnLine(t *testing.T) {
	for _, b := range [][2]int{{1, 1}, {1, 9}, {5, 3}, {6, 6}, {12, 12}} {
		want := map[int]int{}
		everyPair(boardPegs(b[0], b[1]), func(p, q Peg) {
			on, ok := impl.PegsOnLine(q, p)
			if !ok {
				t.Error(p, q)
			}
			want[on-1]++
		})
		for steps := 1; steps <= 12; steps++ {
			checkCount(t, "pairs", pairsOf(steps), b[0], b[1], want[steps])
		}
	}
}

// linesBy returns how many pegs are on each line, told by two pegs with no other one before the second.
func linesBy(pegs []Peg) []int {
	var lines []int
	for i, b := range pegs {
		for k, a := range pegs[:i] {
			if slices.ContainsFunc(slices.Concat(pegs[:k], pegs[k+1:i]), func(p Peg) bool { return inLine(a, b, p) }) {
				continue
			}
			lines = append(lines, len(filtered(pegs, func(p Peg) bool { return inLine(a, b, p) })))
		}
	}
	return lines
}

func TestCountSlopes(t *testing.T) {
	everyBoard(12, func(w, h int, pegs []Peg) {
		var slopes []Peg
		everyPair(pegs, func(a, b Peg) {
			if !slices.ContainsFunc(slopes, func(s Peg) bool { return cross(s, less(b, a)) == 0 }) {
				slopes = append(slopes, less(b, a))
			}
		})
		checkCount(t, "slopes", impl.CountSlopes, w, h, len(slopes))
		checkCount(t, "slopes, turned", impl.CountSlopes, h, w, len(slopes))
	})
	checkSquare(t, "slopes", impl.CountSlopes, 0, 4, 8, 16, 24, 40, 48, 72, 88, 112, 128, 168)
	checkCount(t, "slopes", impl.CountSlopes, 12, 1, 1)
	checkCount(t, "slopes", impl.CountSlopes, 1, 12, 1)
	checkCount(t, "slopes", impl.CountSlopes, 2, 3, 6)
}

func TestCountLines(t *testing.T) {
	everyBoard(12, func(w, h int, pegs []Peg) {
		lines := linesBy(pegs)
		most := slices.Max(append(lines, 0))
		longest := 0
		for _, n := range lines {
			if n == most {
				longest++
			}
		}
		checkCount(t, "straight", impl.CountStraight, w, h, len(lines))
		checkCount(t, "longest", impl.CountOnLongest, w, h, longest)
		if len(lines) > 0 && most != max(w, h) {
			t.Error(w, h, "has", most, "pegs on a line")
		}
	})
	checkSquare(t, "straight", impl.CountStraight, 0, 6, 20, 62, 140, 306, 536, 938, 1492, 2306, 3296, 4722)
	checkSquare(t, "longest", impl.CountOnLongest, 0, 6, 8, 10, 12, 14, 16, 18, 20, 22, 24, 26)
	for _, c := range []struct{ w, h, straight, longest int }{
		{1, 2, 1, 1}, {2, 1, 1, 1}, {1, 12, 1, 1}, {12, 1, 1, 1}, {2, 3, 11, 2}, {3, 2, 11, 2}, {12, 11, 3945, 11}, {11, 12, 3945, 11},
	} {
		checkCount(t, "straight", impl.CountStraight, c.w, c.h, c.straight)
		checkCount(t, "longest", impl.CountOnLongest, c.w, c.h, c.longest)
	}
}

// TestThrees is promise 5 for all boards: threes are triangles or in a line.
func TestThrees(t *testing.T) {
	everyBoard(12, func(w, h int, pegs []Peg) {
		line, triangles, greatest := 0, 0, 0
		everyThree(pegs, func(a, b, c Peg) {
			twice := cross(less(b, a), less(c, a))
			if twice == 0 {
				line++
			} else {
				triangles++
			}
			greatest = max(greatest, twice, -twice)
		})
		checkCount(t, "in line", impl.CountInLine, w, h, line)
		checkCount(t, "triangles", impl.CountTriangles, w, h, triangles)
		checkCount(t, "greatest", impl.GreatestTriangle, w, h, greatest)
		ones, _ := impl.CountInLine(w, h)
		others, _ := impl.CountTriangles(w, h)
		if ones+others != choose(w*h, 3) {
			t.Error(w, h, ones, "and", others, "threes")
		}
	})
	checkSquare(t, "in line", impl.CountInLine, 0, 0, 8, 44, 152, 372, 824, 1544, 2712, 4448, 6992, 10332)
	checkSquare(t, "triangles", impl.CountTriangles, 0, 4, 76, 516, 2148, 6768, 17600, 40120, 82608, 157252, 280988, 477012)
	for _, c := range []struct{ w, h, line, triangles, greatest int }{
		{1, 2, 0, 0, 0}, {2, 1, 0, 0, 0}, {1, 3, 1, 0, 0}, {3, 1, 1, 0, 0}, {1, 12, 220, 0, 0}, {12, 1, 220, 0, 0},
		{2, 3, 2, 18, 2}, {3, 2, 2, 18, 2}, {12, 12, 10332, 477012, 121}, {12, 2, 440, 1584, 11},
	} {
		checkCount(t, "in line", impl.CountInLine, c.w, c.h, c.line)
		checkCount(t, "triangles", impl.CountTriangles, c.w, c.h, c.triangles)
		checkCount(t, "greatest", impl.GreatestTriangle, c.w, c.h, c.greatest)
	}
}

// TestCountOfArea is promise 5 for areas: they share the threes.
func TestCountOfArea(t *testing.T) {
	everyBoard(6, func(w, h int, pegs []Peg) {
		want := map[int]int{}
		everyThree(pegs, func(a, b, c Peg) {
			twice := cross(less(b, a), less(c, a))
			want[max(twice, -twice)]++
		})
		shared := 0
		for twice := 0; twice <= 200; twice++ {
			checkCount(t, "area", areaOf(twice), w, h, want[twice])
			n, _ := impl.CountOfArea(w, h, twice)
			shared += n
		}
		line, _ := impl.CountInLine(w, h)
		triangles, _ := impl.CountTriangles(w, h)
		checkCount(t, "area 0", areaOf(0), w, h, line)
		if shared != line+triangles || shared != choose(w*h, 3) {
			t.Error(w, h, shared, "threes have areas")
		}
	})
	for _, c := range []struct{ w, h, twice, want int }{
		{3, 3, 1, 32}, {3, 3, 0, 8}, {3, 3, 2, 32}, {3, 3, 3, 4}, {3, 3, 4, 8}, {3, 3, 5, 0}, {3, 3, 200, 0},
		{1, 1, 0, 0}, {1, 1, 1, 0}, {1, 6, 0, 20}, {6, 1, 0, 20}, {6, 1, 1, 0}, {2, 2, 1, 4}, {6, 6, 0, 372}, {6, 6, 25, 20}, {6, 6, 200, 0},
	} {
		checkCount(t, "area", areaOf(c.twice), c.w, c.h, c.want)
	}
}

// squaresBy goes on to the left with a step as long as that from corner to corner: each square is found four times.
func squaresBy(w, h int, pegs []Peg) int {
	has := func(p Peg) bool { return p.X >= 0 && p.X < w && p.Y >= 0 && p.Y < h }
	found := 0
	for _, a := range pegs {
		for _, b := range pegs {
			c := Peg{X: b.X - (b.Y - a.Y), Y: b.Y + (b.X - a.X)}
			d := Peg{X: a.X - (b.Y - a.Y), Y: a.Y + (b.X - a.X)}
			if a != b && has(c) && has(d) {
				found++
			}
		}
	}
	return found / 4
}

func TestCountSquares(t *testing.T) {
	everyBoard(12, func(w, h int, pegs []Peg) {
		checkCount(t, "squares", impl.CountSquares, w, h, squaresBy(w, h, pegs))
	})
	checkSquare(t, "squares", impl.CountSquares, 0, 1, 6, 20, 50, 105, 196, 336, 540, 825, 1210, 1716)
	for _, c := range [][3]int{{1, 12, 0}, {12, 1, 0}, {2, 3, 2}, {3, 2, 2}, {3, 4, 10}, {4, 3, 10}, {12, 2, 11}, {2, 12, 11}} {
		checkCount(t, "squares", impl.CountSquares, c[0], c[1], c[2])
	}
}

func TestCountUpright(t *testing.T) {
	everyBoard(12, func(w, h int, pegs []Peg) {
		want := 0
		everyPair(pegs, func(a, b Peg) { // the lower left corner and the upper right one
			if a.X < b.X && a.Y < b.Y {
				want++
			}
		})
		checkCount(t, "upright", impl.CountUpright, w, h, want)
	})
	checkSquare(t, "upright", impl.CountUpright, 0, 1, 9, 36, 100, 225, 441, 784, 1296, 2025, 3025, 4356)
	for _, c := range [][3]int{{1, 12, 0}, {12, 1, 0}, {2, 3, 3}, {3, 2, 3}, {12, 2, 66}, {2, 12, 66}, {12, 11, 3630}} {
		checkCount(t, "upright", impl.CountUpright, c[0], c[1], c[2])
	}
}

// isRectangle: four pegs in order are one if the first and the last one, and both others, have the same middle and are
// as far from each other.
func isRectangle(a, b, c, d Peg) bool {
	return a.X+d.X == b.X+c.X && a.Y+d.Y == b.Y+c.Y && far(a, d) == far(b, c)
}

func TestCountRectangles(t *testing.T) {
	everyBoard(6, func(w, h int, pegs []Peg) {
		all, upright, squares := 0, 0, 0
		for i, a := range pegs {
			everyThree(pegs[i+1:], func(b, c, d Peg) {
				if !isRectangle(a, b, c, d) {
					return
				}
				all++
				if a.X == b.X {
					upright++
				}
				if far(a, b) == far(a, c) {
					squares++
				}
			})
		}
		checkCount(t, "rectangles", impl.CountRectangles, w, h, all)
		checkCount(t, "upright", impl.CountUpright, w, h, upright)
		checkCount(t, "squares", impl.CountSquares, w, h, squares)
	})
	checkSquare(t, "rectangles", impl.CountRectangles, 0, 1, 10, 44, 130, 313)
	for _, c := range [][3]int{{1, 6, 0}, {6, 1, 0}, {2, 3, 3}, {3, 2, 3}, {2, 6, 15}, {6, 2, 15}, {3, 4, 20}, {4, 3, 20}} {
		checkCount(t, "rectangles", impl.CountRectangles, c[0], c[1], c[2])
	}
}

func TestCountRight(t *testing.T) {
	everyBoard(6, func(w, h int, pegs []Peg) {
		want := 0
		everyThree(pegs, func(a, b, c Peg) {
			for _, legs := range [][3]Peg{{a, b, c}, {b, c, a}, {c, a, b}} {
				if dot(less(legs[1], legs[0]), less(legs[2], legs[0])) == 0 {
					want++
				}
			}
		})
		checkCount(t, "right", impl.CountRight, w, h, want)
	})
	checkSquare(t, "right", impl.CountRight, 0, 4, 44, 200, 596, 1444)
	for _, c := range [][3]int{{1, 6, 0}, {6, 1, 0}, {1, 2, 0}, {2, 3, 14}, {3, 2, 14}} {
		checkCount(t, "right", impl.CountRight, c[0], c[1], c[2])
	}
}

func TestPegsSeen(t *testing.T) {
	everyBoard(12, func(w, h int, pegs []Peg) {
		both := 0
		for _, p := range pegs {
			seen := 0
			for _, q := range pegs {
				if p != q && !slices.ContainsFunc(pegs, func(r Peg) bool { return r != p && r != q && onLine(p, q, r) }) {
					seen++
				}
			}
			checkCount(t, "seen", seenFrom(p), w, h, seen)
			both += seen
		}
		if pairs, ok := impl.CountPairs(w, h, 1); 2*pairs != both || !ok {
			t.Error(w, h, pairs, ok)
		}
	})
	for _, c := range []struct {
		w, h int
		p    Peg
		want int
	}{
		{3, 3, Peg{}, 5}, {3, 3, Peg{X: 1, Y: 1}, 8}, {1, 1, Peg{}, 0}, {1, 12, Peg{}, 1}, {1, 12, Peg{Y: 1}, 2}, {12, 1, Peg{X: 11}, 1},
		{2, 2, Peg{X: 1}, 3}, {12, 1, Peg{X: 5}, 2}, {12, 12, Peg{X: 11, Y: 11}, 85},
	} {
		checkCount(t, "seen", seenFrom(c.p), c.w, c.h, c.want)
	}
}

func TestSeenFromNoPegOfTheBoard(t *testing.T) {
	none := append(pegsOf("-1,0 0,-1 3,0 0,2 3,2 -1,-1 2,2 40,40 -40,0"), notPegs...)
	for _, p := range none {
		if n, ok := impl.PegsSeen(3, 2, p); n != 0 || ok {
			t.Error(p, n, ok)
		}
	}
	for _, p := range pegsOf("12,0 0,12 12,12") {
		if n, ok := impl.PegsSeen(12, 12, p); n != 0 || ok {
			t.Error(p, n, ok)
		}
	}
}

// noThree are 53 pegs of which no three are in a line: X by X modulo 53 is Y.
func noThree() []Peg {
	var pegs []Peg
	for x := range 53 {
		pegs = append(pegs, Peg{X: x - 26, Y: x*x%53 - 26})
	}
	return pegs
}

func threeBy(l []Peg) bool {
	has := false
	everyThree(l, func(a, b, c Peg) { has = has || inLine(a, b, c) })
	return has
}

func checkThree(t *testing.T, l []Peg, want bool) {
	t.Helper()
	if has, ok := impl.HasThree(l); has != want || !ok {
		t.Error(l, has, ok)
	}
}

func TestHasThree(t *testing.T) {
	does := map[bool]int{}
	check := func(l []Peg) {
		want := threeBy(l)
		checkThree(t, l, want)
		does[want]++
	}
	everySet(check)
	someLists(40, check)
	if does[true] < 100 || does[false] < 50 {
		t.Error(does)
	}
	for s, want := range map[string]bool{
		"0,0": false, "40,-40": false, "0,0 5,5": false, "-40,-40 40,40": false, "0,0 1,0 0,1": false, "0,0 1,1 2,2": true,
		"2,2 0,0 1,1": true, "-40,-40 40,40 0,0": true, "-40,-40 40,39 0,0": false, "0,0 40,39 39,38": false,
		"0,0 1,2 5,1 2,4": true, "3,1 0,0 4,9 7,2 6,2": true, "0,0 7,1 9,4 3,8 0,1 0,5": true, "0,3 7,1 5,3 9,4 8,8 -2,3": true,
		"0,0 6,3 1,5 4,2": true, "0,0 2,1 1,0 2,2": false,
	} {
		checkThree(t, pegsOf(s), want)
	}
}

// TestHasThreeTakesFewPegs: the document names no least number of pegs, so there may be none, other than for
// AreDifferent.
func TestHasThreeTakesFewPegs(t *testing.T) {
	for _, none := range [][]Peg{nil, {}, noThree()[:0], noThree()[53:]} {
		checkThree(t, none, false)
		if impl.AreDifferent(none) {
			t.Error("no pegs are 1 at least")
		}
	}
	for _, p := range []Peg{{}, {X: 3, Y: -4}, {X: -40, Y: -40}, {X: 40, Y: 40}} {
		checkThree(t, []Peg{p}, false)
		checkThree(t, []Peg{p, {X: 1, Y: 39}}, false)
	}
}

// TestHasThreeMeetsLimits: 50 pegs are the limit, wherever the three of them are in the list.
func TestHasThreeMeetsLimits(t *testing.T) {
	all := noThree()
	for n := range 51 {
		checkThree(t, all[:n], false)
		checkThree(t, all[53-n:], false)
	}
	mix := rand.New(rand.NewPCG(6, 50))
	for range 50 {
		l := slices.Clone(all[:50])
		copy(l[47:], pegsOf("-40,40 -39,39 -37,37"))
		mix.Shuffle(50, func(i, k int) { l[i], l[k] = l[k], l[i] })
		checkThree(t, l, true)
	}
	for _, at := range [][3]int{{0, 1, 2}, {0, 25, 49}, {49, 0, 1}, {47, 49, 48}, {0, 49, 48}, {7, 30, 12}} {
		l := slices.Clone(all[:50])
		for i, p := range pegsOf("-40,40 -39,39 -37,37") {
			l[at[i]] = p
		}
		checkThree(t, l, true)
	}
	for n := 51; n <= 53; n++ {
		if has, ok := impl.HasThree(all[:n]); has || ok {
			t.Error(n, has, ok)
		}
	}
}

func threeCalls() map[string]call {
	return map[string]call{"HasThree": func(l []Peg) (any, bool) { return pair(impl.HasThree(l)) }}
}

func TestNoListHasThree(t *testing.T) {
	none := [][]Peg{
		pegsOf("0,0 0,0"),
		pegsOf("0,0 1,1 2,2 0,0"),
		pegsOf("0,0 1,1 1,1 2,2"),
		pegsOf("0,0 1,0 0,1 0,1"),
		boardPegs(3, 17),
		append(noThree()[:49], noThree()[0]),
		append(boardPegs(7, 7), Peg{X: 6, Y: 6}),
		append(boardPegs(7, 7), Peg{X: 7, Y: 41}),
		make([]Peg, 50),
		make([]Peg, 1000),
		{{X: math.MinInt}, {}, {X: math.MaxInt}},
		{{Y: math.MinInt}, {}, {Y: math.MaxInt}},
	}
	for _, p := range notPegs {
		none = append(none, []Peg{p}, []Peg{{}, p}, []Peg{p, {}, {X: 1}, {X: 2}}, []Peg{{}, {X: 1}, {X: 2}, p})
	}
	checkFailing(t, threeCalls(), none)
}

// TestThreesAreKept is promise 11 for lists of pegs.
func TestThreesAreKept(t *testing.T) {
	checkKept(t, threeCalls(), append(pegLists, "", "0,0 1,1 2,2", "2,2 7,1 1,1 5,9 0,0"))
}

// firstBy tries all sets in lexicographic order.
func firstBy(pegs []Peg) []Peg {
	var first []Peg
	setsBy(pegs, func(set []Peg) {
		if len(set) > len(first) && !threeBy(set) {
			first = slices.Clone(set)
		}
	})
	return first
}

func TestNoThree(t *testing.T) {
	everyBoard(4, func(w, h int, pegs []Peg) {
		want := firstBy(pegs)
		if first, ok := impl.FirstNoThree(w, h); !slices.Equal(first, want) || !ok {
			t.Error(w, h, first, ok, want)
		}
		checkCount(t, "no three", impl.MostNoThree, w, h, len(want))
	})
	checkSquare(t, "no three", impl.MostNoThree, 1, 4, 6, 8)
	for _, c := range []struct {
		w, h int
		want string
	}{
		{3, 3, "0,0 0,1 1,0 1,2 2,1 2,2"}, {1, 1, "0,0"}, {1, 2, "0,0 0,1"}, {2, 1, "0,0 1,0"}, {1, 4, "0,0 0,1"}, {4, 1, "0,0 1,0"},
		{2, 2, "0,0 0,1 1,0 1,1"}, {4, 2, "0,0 0,1 1,0 1,1"}, {2, 4, "0,0 0,1 1,0 1,1"}, {4, 4, "0,0 0,1 1,2 1,3 2,0 2,1 3,2 3,3"},
	} {
		if first, ok := impl.FirstNoThree(c.w, c.h); !slices.Equal(first, pegsOf(c.want)) || !ok {
			t.Error(c.w, c.h, first, ok)
		}
	}
}

// TestNoThreeIsNew: what is written into a result is in no later one.
func TestNoThreeIsNew(t *testing.T) {
	for w := 1; w <= 4; w++ {
		one, _ := impl.FirstNoThree(w, 3)
		other, _ := impl.FirstNoThree(w, 3)
		kept := slices.Clone(other)
		fillAll(one)
		again, ok := impl.FirstNoThree(w, 3)
		if !slices.Equal(other, kept) || !slices.Equal(again, kept) || !ok {
			t.Error(w, other, again, ok)
		}
	}
}

// onBoards are all functions that take a board, with other arguments that are valid, by the greatest w and h they take.
func onBoards() map[int]map[string]onBoard {
	return map[int]map[string]onBoard{
		12: {
			"CountPairs": pairsOf(1), "CountSlopes": impl.CountSlopes, "CountStraight": impl.CountStraight,
			"CountInLine": impl.CountInLine, "CountTriangles": impl.CountTriangles, "GreatestTriangle": impl.GreatestTriangle,
			"CountSquares": impl.CountSquares, "CountUpright": impl.CountUpright, "PegsSeen": seenFrom(Peg{}),
			"CountOnLongest": impl.CountOnLongest,
		},
		6: {"CountOfArea": areaOf(1), "CountRectangles": impl.CountRectangles, "CountRight": impl.CountRight},
		4: {
			"MostNoThree": impl.MostNoThree,
			"FirstNoThree": func(w, h int) (int, bool) {
				pegs, ok := impl.FirstNoThree(w, h)
				return len(pegs), ok
			},
		},
	}
}

func TestBoardsMeetLimits(t *testing.T) {
	if impl.MaxBoard != 12 || impl.MaxListed != 6 {
		t.Error(impl.MaxBoard, impl.MaxListed)
	}
	for most, counts := range onBoards() {
		for name, count := range counts {
			for _, b := range [][2]int{{most, most}, {1, most}, {most, 1}, {1, 1}, {most, 2}} {
				if n, ok := count(b[0], b[1]); !ok || n < 0 {
					t.Error(name, b, n, ok)
				}
			}
			for _, bad := range []int{0, -1, -most, most + 1, 13, 100, math.MinInt, math.MaxInt, 1 << 32, 1<<32 + 1} {
				for _, b := range [][2]int{{bad, 1}, {1, bad}, {bad, bad}, {bad, most}, {most, bad}, {bad, 3}, {3, bad}} {
					if n, ok := count(b[0], b[1]); ok || n != 0 {
						t.Error(name, b, n, ok)
					}
				}
			}
		}
	}
}

func TestStepsAndAreasOutOfRange(t *testing.T) {
	for _, bad := range []int{0, -1, -2, 13, 14, 100, math.MinInt, math.MaxInt, 1<<32 + 1} {
		for _, b := range [][2]int{{1, 1}, {3, 3}, {12, 12}} {
			if n, ok := impl.CountPairs(b[0], b[1], bad); n != 0 || ok {
				t.Error("steps", bad, n, ok)
			}
		}
	}
	for _, bad := range []int{-1, -2, -200, 201, 202, 1000, math.MinInt, math.MaxInt, 1<<32 + 1} {
		for _, b := range [][2]int{{1, 1}, {3, 3}, {6, 6}} {
			if n, ok := impl.CountOfArea(b[0], b[1], bad); n != 0 || ok {
				t.Error("twice", bad, n, ok)
			}
		}
	}
}
