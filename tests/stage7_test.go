package tests

import (
	"math"
	"math/rand/v2"
	"reflect"
	"slices"
	"strings"
	"sync"
	"testing"
	"testing/synctest"

	"loop.example/g01259/impl"
)

// cuttable are polygons with few and many cuts, of all sorts: one empty triangle, strips, to the right, from another
// corner than the first one, not convex, with pegs inside and on their lines, long ones up to the limits, and twice an
// area of exactly MaxCutArea.
var cuttable = []string{
	"0,0 1,0 0,1",
	"0,1 1,0 0,0",
	"-40,-40 40,39 39,38",
	"0,0 1,0 1,1 0,1",
	"3,5 3,6 2,6 2,5",
	"40,-40 40,-39 39,-39 39,-40",
	"0,0 2,0 0,1",
	"0,0 1,2 2,1",
	"0,0 2,1 1,1 1,2",
	"1,1 1,2 0,0 2,1",
	"0,0 2,0 2,1 0,1",
	"0,0 2,0 2,2 0,2",
	"2,0 0,0 0,2 2,2",
	"0,0 3,0 0,3",
	"0,0 2,0 2,1 1,1 1,2 0,2",
	"0,0 3,0 3,1 2,1 2,2 1,2 1,1 0,1",
	"1,0 2,1 1,2 0,1",
	"0,0 3,1 1,1 1,3",
	"-1,0 0,-1 1,-1 1,0 0,1 -1,1",
	"0,0 4,0 3,1 0,1",
	"0,0 2,0 2,1 1,1 1,2 0,3",
	"0,0 10,0 0,1",
	"0,0 9,0 1,1 0,1",
	"0,0 5,0 2,2",
	"0,0 2,0 4,2 1,2",
	"-40,0 -35,0 -34,1 -35,1",
	"-40,-39 1,1 40,39 -1,-1",
	"-40,-40 40,30 -39,-39",
	"4,0 5,1 4,4 4,1 1,1 1,0",
	"1,0 3,2 4,4 3,4 1,2",
	"5,1 5,2 1,2 0,1 4,1 4,0",
}

// manyCuts are polygons with more than MaxCutList cuts.
var manyCuts = []string{
	"3,0 3,2 0,2 0,1 1,1 1,0",
	"0,0 6,0 4,1 0,1",
	"2,3 0,1 0,0 1,0 3,2 3,3",
	"0,0 5,0 5,1 0,1",
	"0,1 5,1 5,0 0,0",
	"40,-40 40,-35 39,-35 39,-40",
}

// tooGreat are polygons with twice an area above MaxCutArea.
var tooGreat = []string{
	"0,0 11,0 0,1",
	"0,1 11,0 0,0",
	"0,0 11,0 11,1 0,1",
	"0,0 6,0 5,1 0,1",
	"0,0 4,0 0,3",
	"0,0 3,0 3,2 0,2",
	"2,0 3,2 2,3 0,2 0,0 1,1 0,1",
	"-40,-40 40,-40 40,40 -40,40",
	"0,0 0,3 3,3 3,0 2,0 2,2 1,2 1,0",
}

// listsOfThree reads triangles that are lists of any pegs, with ; between them.
func listsOfThree(text string) [][]Peg {
	var list [][]Peg
	for s := range strings.SplitSeq(text, ";") {
		list = append(list, pegsOf(s))
	}
	return list
}

// areApart: some line through two pegs of one of two lists has the one on its one side, and the other one on its other
// one: the triangles or lines have no more in common than what is on it.
func areApart(t, u []Peg) bool {
	is := false
	for _, l := range [][]Peg{t, u} {
		everyPair(l, func(a, b Peg) {
			is = is || areBeside(a, b, t, u) || areBeside(a, b, u, t)
		})
	}
	return is
}

func areBeside(a, b Peg, right, left []Peg) bool {
	for _, p := range right {
		if cross(less(b, a), less(p, a)) > 0 {
			return false
		}
	}
	for _, p := range left {
		if cross(less(b, a), less(p, a)) < 0 {
			return false
		}
	}
	return true
}

// isEmptyIn: three pegs are an empty triangle within a polygon. If no line of this goes through it, it is within if its
// barycentre is.
func isEmptyIn(l, t []Peg) bool {
	if size(fan(t)) != 1 {
		return false
	}
	for i, a := range l {
		if !areApart(t, []Peg{a, l[(i+1)%len(l)]}) {
			return false
		}
	}
	var thrice []Peg
	for _, p := range l {
		thrice = append(thrice, Peg{X: 3 * p.X, Y: 3 * p.Y})
	}
	return place(thrice, Peg{X: t[0].X + t[1].X + t[2].X, Y: t[0].Y + t[1].Y + t[2].Y}) == 1
}

// pegsIn are the pegs inside a polygon and on its lines, in order.
func pegsIn(l []Peg) []Peg {
	return filtered(boxOf(l), func(p Peg) bool { return place(l, p) >= 0 })
}

// emptyIn are all empty triangles within a polygon, in order.
func emptyIn(l []Peg) [][]Peg {
	var all [][]Peg
	everyThree(pegsIn(l), func(a, b, c Peg) {
		if t := []Peg{a, b, c}; isEmptyIn(l, t) {
			all = append(all, t)
		}
	})
	return all
}

// emptyAround are those of the box around a polygon, within it or not, if this is not too great.
func emptyAround(l []Peg) [][]Peg {
	if len(boxOf(l)) > 25 {
		return emptyIn(l)
	}
	var all [][]Peg
	everyThree(boxOf(l), func(a, b, c Peg) {
		if t := []Peg{a, b, c}; size(fan(t)) == 1 {
			all = append(all, t)
		}
	})
	return all
}

func byPegs(t, u []Peg) int {
	return slices.CompareFunc(t, u, byOrder)
}

// cutting is a polygon with all empty triangles within it and all its cuts, in order.
type cutting struct {
	corners []Peg
	empty   [][]Peg
	cuts    [][][]Peg
}

func cuttingOf(l []Peg) cutting {
	empty := emptyIn(l)
	return cutting{l, empty, cutsOf(empty, size(fan(l)))}
}

// isCut is the document's sentence on cuts: triangles that are apart fill the polygon if they are as many as twice its
// area.
func (c cutting) isCut(list [][]Peg) bool {
	if len(list) != size(fan(c.corners)) || !slices.IsSortedFunc(list, byPegs) {
		return false
	}
	for i, t := range list {
		if !hasList(c.empty, t) {
			return false
		}
		for _, u := range list[:i] {
			if !areApart(t, u) {
				return false
			}
		}
	}
	return true
}

func hasList(lists [][]Peg, l []Peg) bool {
	return slices.ContainsFunc(lists, func(k []Peg) bool { return slices.Equal(k, l) })
}

// cutsOf chooses so many triangles that are apart in all ways, in order.
func cutsOf(empty [][]Peg, count int) [][][]Peg {
	var cuts [][][]Peg
	var choose func(chosen, rest [][]Peg)
	choose = func(chosen, rest [][]Peg) {
		lacking := count - len(chosen)
		if lacking == 0 {
			cuts = append(cuts, slices.Clone(chosen))
		}
		for i := 0; i+lacking <= len(rest) && lacking > 0; i++ {
			var next [][]Peg
			for _, t := range rest[i+1:] {
				if areApart(rest[i], t) {
					next = append(next, t)
				}
			}
			choose(append(slices.Clone(chosen), rest[i]), next)
		}
	}
	choose(nil, empty)
	return cuts
}

// cuttings are the named polygons, what moves make of some, and small ones.
var cuttings = sync.OnceValue(func() []cutting {
	var all []cutting
	add := func(l []Peg) { all = append(all, cuttingOf(l)) }
	for _, s := range slices.Concat(cuttable, manyCuts) {
		add(pegsOf(s))
	}
	for i, m := range moves {
		for k := i % 3; k < len(cuttable); k += 3 {
			l := bringAll(m, pegsOf(cuttable[k]))
			if areSmall(l) && len(all)%4 > 0 {
				add(tellings(l)[i%len(l)])
			} else if l = bringAll(Move{A: m.A, B: m.B, C: m.C, D: m.D}, pegsOf(cuttable[k])); areSmall(l) {
				add(tellings(l)[i%len(l)])
			}
		}
	}
	for n := 3; n <= 6; n++ {
		for i, l := range smallPolygons(min(n, 5)) {
			if n < 5 && i%5 == 0 || i%31 == n {
				add(l)
			}
		}
	}
	return all
})

// isOrdinary leaves out the polygons with so many cuts that a test of each with each would take long.
func isOrdinary(c cutting) bool { return len(c.cuts) <= 70 }

// everyCut calls f with all ordinary polygons and cuts of them.
func everyCut(f func(c cutting, cut [][]Peg)) {
	for _, c := range cuttings() {
		for _, cut := range c.cuts {
			if isOrdinary(c) {
				f(c, cut)
			}
		}
	}
}

func TestCuttings(t *testing.T) {
	most, bent, inside := map[int]bool{}, 0, 0
	for _, c := range cuttings() {
		most[size(fan(c.corners))] = true
		if !isRound(c.corners) {
			bent++
		}
		if slices.ContainsFunc(pegsIn(c.corners), func(p Peg) bool { return place(c.corners, p) == 1 }) {
			inside++
		}
	}
	if len(most) != 10 || !most[1] || !most[10] || bent < 30 || inside < 30 || len(cuttings()) < 200 {
		t.Error(most, bent, inside, len(cuttings()))
	}
}

func TestCountAndAllCuts(t *testing.T) {
	many := 0
	for _, c := range cuttings() {
		if n, ok := impl.CountCuts(c.corners); n != len(c.cuts) || n < 1 || !ok {
			t.Error(c.corners, n, ok, "not", len(c.cuts))
		}
		if first, ok := impl.FirstCut(c.corners); !reflect.DeepEqual(first, c.cuts[0]) || !ok {
			t.Error(c.corners, first, ok)
		}
		all, ok := impl.AllCuts(c.corners)
		if len(c.cuts) > 200 {
			many++
			if len(all) != 0 || ok {
				t.Error(c.corners, len(all), ok)
			}
		} else if !reflect.DeepEqual(all, c.cuts) || !ok {
			t.Error(c.corners, all, ok)
		}
	}
	if many < len(manyCuts) {
		t.Error(many)
	}
}

func TestCutsOfNamed(t *testing.T) {
	for _, c := range []struct {
		text  string
		count int
		first string
	}{
		{"0,0 1,0 0,1", 1, "0,0 0,1 1,0"},
		{"0,1 1,0 0,0", 1, "0,0 0,1 1,0"},
		{"0,0 1,0 1,1 0,1", 2, "0,0 0,1 1,0;0,1 1,0 1,1"},
		{"1,1 1,0 0,0 0,1", 2, "0,0 0,1 1,0;0,1 1,0 1,1"},
		{"0,0 2,0 0,1", 1, "0,0 0,1 1,0;0,1 1,0 2,0"},
		{"0,0 1,2 2,1", 1, "0,0 1,1 1,2;0,0 1,1 2,1;1,1 1,2 2,1"},
		{"0,0 2,1 1,1 1,2", 1, "0,0 1,1 1,2;0,0 1,1 2,1"},
		{"0,0 2,0 2,1 0,1", 6, "0,0 0,1 1,0;0,1 1,0 1,1;1,0 1,1 2,0;1,1 2,0 2,1"},
		{"0,0 2,0 2,2 0,2", 64, "0,0 0,1 1,0;0,1 0,2 1,0;0,2 1,0 1,1;0,2 1,1 1,2;1,0 1,1 2,0;1,1 1,2 2,0;1,2 2,0 2,1;1,2 2,1 2,2"},
		{"5,1 5,2 1,2 0,1 4,1 4,0", 196, ""},
		{"3,0 3,2 0,2 0,1 1,1 1,0", 203, ""},
		{"0,0 6,0 4,1 0,1", 210, ""},
		{"0,0 5,0 5,1 0,1", 252, ""},
		{"0,0 10,0 0,1", 1, ""},
	} {
		if n, ok := impl.CountCuts(pegsOf(c.text)); n != c.count || !ok {
			t.Error(c.text, n, ok)
		}
		if first, ok := impl.FirstCut(pegsOf(c.text)); c.first != "" && !reflect.DeepEqual(first, listsOfThree(c.first)) || !ok {
			t.Error(c.text, first, ok)
		}
		all, ok := impl.AllCuts(pegsOf(c.text))
		if ok != (c.count <= 200) || ok && len(all) != c.count || !ok && len(all) != 0 {
			t.Error(c.text, len(all), ok)
		}
	}
	square := [][][]Peg{listsOfThree("0,0 0,1 1,0;0,1 1,0 1,1"), listsOfThree("0,0 0,1 1,1;0,0 1,0 1,1")}
	if all, ok := impl.AllCuts(pegsOf("0,0 1,0 1,1 0,1")); !reflect.DeepEqual(all, square) || !ok {
		t.Error(all, ok)
	}
}

// TestTrapezoids: what is between two lines that are one step apart, of a and of b steps, has as many cuts as there are
// ways to choose the triangles that stand on the one of them.
func TestTrapezoids(t *testing.T) {
	for a := 1; a < 10; a++ {
		for b := 1; a+b <= 10; b++ {
			l := []Peg{{}, {X: a}, {X: b, Y: 1}, {Y: 1}}
			if n, ok := impl.CountCuts(l); n != choose(a+b, a) || !ok {
				t.Error(a, b, n, ok)
			}
		}
	}
}

// badTriangles are lists that are in no cut of any polygon: too few or too many pegs, in another order, with no area or
// too much of it, and points that are no pegs, up to the ends of int.
var badTriangles = [][]Peg{
	nil,
	{},
	pegsOf("0,0"),
	pegsOf("0,0 0,1"),
	pegsOf("0,0 0,1 1,0 1,1"),
	pegsOf("0,0 0,1 1,0 1,0"),
	pegsOf("0,0 1,0 0,1"),
	pegsOf("1,0 0,1 0,0"),
	pegsOf("0,1 0,0 1,0"),
	pegsOf("0,0 0,0 0,0"),
	pegsOf("0,0 0,0 1,0"),
	pegsOf("0,0 1,0 1,0"),
	pegsOf("0,0 1,0 2,0"),
	pegsOf("0,0 0,1 2,0"),
	pegsOf("0,0 0,2 1,0"),
	pegsOf("0,0 1,2 2,1"),
	pegsOf("40,0 40,1 41,0"),
	pegsOf("-41,0 -40,0 -40,1"),
	pegsOf("0,40 0,41 1,40"),
	pegsOf("0,-41 0,-40 1,-40"),
	{{X: math.MinInt}, {}, {X: math.MaxInt}},
	{{X: math.MinInt, Y: math.MinInt}, {X: 0, Y: 1}, {X: math.MaxInt, Y: math.MaxInt}},
	{{Y: math.MinInt}, {Y: math.MaxInt}, {X: math.MaxInt}},
	// Twice the area of the last ones is 1 in 64 bits.
	{{X: -1, Y: 1 << 32}, {}, {X: 1 << 32, Y: 1}},
	{{}, {X: 1 << 32, Y: -1}, {X: 1<<32 + 1, Y: 1<<32 - 1}},
	{{}, {Y: math.MaxInt}, {X: math.MaxInt}},
}

// checkCut compares IsCut with the test's own way, and a function that requires a cut, too.
func checkCut(t *testing.T, c cutting, list [][]Peg) bool {
	t.Helper()
	want := c.isCut(list)
	if is, ok := impl.IsCut(c.corners, list); is != want || !ok {
		t.Error(c.corners, list, is, ok)
	}
	if n, ok := impl.TrianglesAt(c.corners, list, Peg{X: 40, Y: 40}); ok != want || n != 0 && !want {
		t.Error(c.corners, list, n, ok)
	}
	return want
}

func TestIsCut(t *testing.T) {
	for _, c := range cuttings() {
		for i, cut := range c.cuts {
			if is, ok := impl.IsCut(c.corners, cut); !is || !ok {
				t.Error(c.corners, cut, is, ok)
			}
			if i > 5 {
				continue
			}
			checkCut(t, c, append(slices.Clone(cut), cut[len(cut)-1]))
			for k := range cut {
				checkCut(t, c, slices.Delete(slices.Clone(cut), k, k+1))
				for n := range cut {
					changed := slices.Clone(cut)
					changed[k] = cut[n]
					checkCut(t, c, changed)
					changed[n] = cut[k]
					checkCut(t, c, changed)
				}
			}
		}
	}
}

// TestIsNoCut puts lists in the places of the triangles of cuts, and tells these in all orders.
func TestIsNoCut(t *testing.T) {
	everyCut(func(c cutting, cut [][]Peg) {
		for k, one := range cut {
			for _, bad := range badTriangles {
				changed := slices.Clone(cut)
				changed[k] = bad
				if is, ok := impl.IsCut(c.corners, changed); is || !ok {
					t.Error(c.corners, changed, is, ok)
				}
			}
			for _, told := range tellings(one) {
				changed := slices.Clone(cut)
				changed[k] = told
				if is, ok := impl.IsCut(c.corners, changed); is != slices.Equal(told, one) || !ok {
					t.Error(c.corners, changed, is, ok)
				}
			}
		}
	})
	for _, list := range [][][]Peg{nil, {}, {nil}, {nil, nil}, make([][]Peg, 8), make([][]Peg, 100000)} {
		for _, s := range slices.Concat(cuttable, manyCuts) {
			if is, ok := impl.IsCut(pegsOf(s), list); is || !ok {
				t.Error(s, list[:min(len(list), 8)], is, ok)
			}
		}
	}
}

// TestIsCutOfAll takes all lists of two and of three triangles, in order and not, within polygons and around them, and
// of more triangles many lists that are nearly a cut.
func TestIsCutOfAll(t *testing.T) {
	empty := emptyIn(pegsOf("-1,-1 2,-1 2,2 -1,2"))
	cuts := 0
	for _, s := range []string{"0,0 1,0 1,1 0,1", "0,0 0,1 1,2 1,1", "0,0 2,0 0,1", "0,0 2,1 1,1 1,2"} {
		c := cuttingOf(pegsOf(s))
		listsOf(2, empty, func(list [][]Peg) {
			if checkCut(t, c, list) {
				cuts++
			}
		})
	}
	if cuts != 6 || len(empty) < 100 {
		t.Error(cuts, len(empty))
	}
	empty = emptyIn(pegsOf("0,0 2,0 2,2 0,2"))
	cuts = 0
	for _, s := range []string{"0,0 2,1 1,2", "0,0 2,0 1,1 0,1", "0,0 1,0 2,1 2,2"} {
		c := cuttingOf(pegsOf(s))
		listsOf(3, empty, func(list [][]Peg) {
			if checkCut(t, c, list) {
				cuts++
			}
		})
	}
	if cuts != 7 || len(empty) != 32 {
		t.Error(cuts, len(empty))
	}
	r := rand.New(rand.NewPCG(7, 7))
	for _, c := range cuttings() {
		around := emptyAround(c.corners)
		for range 100 {
			changed := slices.Clone(c.cuts[r.IntN(len(c.cuts))])
			for range 1 + r.IntN(2) {
				changed[r.IntN(len(changed))] = around[r.IntN(len(around))]
			}
			slices.SortFunc(changed, byPegs)
			checkCut(t, c, changed)
		}
	}
}

// linesOf are the lines of a cut, in order, with how many triangles have each.
func linesOf(cut [][]Peg) ([][]Peg, []int) {
	var lines [][]Peg
	var counts []int
	var all [][]Peg
	for _, t := range cut {
		all = append(all, []Peg{t[0], t[1]}, []Peg{t[0], t[2]}, []Peg{t[1], t[2]})
	}
	slices.SortFunc(all, byPegs)
	for i, line := range all {
		if i == 0 || !slices.Equal(line, all[i-1]) {
			lines, counts = append(lines, line), append(counts, 0)
		}
		counts[len(counts)-1]++
	}
	return lines, counts
}

// innerBy are the lines that two triangles of a cut have.
func innerBy(cut [][]Peg) [][]Peg {
	var inner [][]Peg
	lines, counts := linesOf(cut)
	for i, line := range lines {
		if counts[i] == 2 {
			inner = append(inner, line)
		}
	}
	return inner
}

func TestTrianglesAndLines(t *testing.T) {
	for _, c := range cuttings() {
		triangles, ok := impl.TrianglesOfCut(c.corners)
		if triangles != size(fan(c.corners)) || !ok {
			t.Error(c.corners, triangles, ok)
		}
		count, ok := impl.LinesOfCut(c.corners)
		for _, cut := range c.cuts {
			lines, _ := linesOf(cut)
			if count != len(lines) || triangles != len(cut) || !ok {
				t.Error(c.corners, cut, count, triangles, ok)
			}
		}
	}
	for _, c := range []struct {
		text             string
		triangles, lines int
	}{
		{"0,0 1,0 0,1", 1, 3},
		{"0,1 1,0 0,0", 1, 3},
		{"0,0 1,0 1,1 0,1", 2, 5},
		{"0,0 2,0 2,2 0,2", 8, 16},
		{"0,0 0,2 2,2 2,0", 8, 16},
		{"0,0 10,0 0,1", 10, 21},
		{"0,0 1,2 2,1", 3, 6},
		{"-40,-40 40,39 39,38", 1, 3},
	} {
		if n, ok := impl.TrianglesOfCut(pegsOf(c.text)); n != c.triangles || !ok {
			t.Error(c.text, n, ok)
		}
		if n, ok := impl.LinesOfCut(pegsOf(c.text)); n != c.lines || !ok {
			t.Error(c.text, n, ok)
		}
	}
}

func TestInnerLines(t *testing.T) {
	for _, c := range cuttings() {
		for _, cut := range c.cuts {
			want := innerBy(cut)
			if lines, ok := impl.InnerLines(c.corners, cut); len(lines)+len(want) > 0 && !reflect.DeepEqual(lines, want) || !ok {
				t.Error(c.corners, cut, lines, ok)
			}
			if n, _ := impl.LinesOfCut(c.corners); 3*len(cut) != n+len(want) {
				t.Error(c.corners, cut, n, len(want))
			}
		}
	}
	for _, c := range []struct{ text, cut, lines string }{
		{"0,0 1,0 0,1", "0,0 0,1 1,0", ""},
		{"0,0 0,1 1,1 1,0", "0,0 0,1 1,1;0,0 1,0 1,1", "0,0 1,1"},
		{"0,0 1,2 2,1", "0,0 1,1 1,2;0,0 1,1 2,1;1,1 1,2 2,1", "0,0 1,1;1,1 1,2;1,1 2,1"},
		{"0,0 2,0 0,1", "0,0 0,1 1,0;0,1 1,0 2,0", "0,1 1,0"},
	} {
		var want [][]Peg
		if c.lines != "" {
			want = listsOfThree(c.lines)
		}
		lines, ok := impl.InnerLines(pegsOf(c.text), listsOfThree(c.cut))
		if len(lines)+len(want) > 0 && !reflect.DeepEqual(lines, want) || !ok {
			t.Error(c.text, lines, ok)
		}
	}
}

// exchangeBy takes out the triangles of an inner line, and looks among all empty triangles of the polygon for two
// others of the same four corners that make a cut. It fails if these are no parallelogram.
func exchangeBy(c cutting, cut [][]Peg, line []Peg) ([][]Peg, bool) {
	if !hasList(innerBy(cut), line) {
		return nil, false
	}
	has := func(t []Peg) bool { return slices.Contains(t, line[0]) && slices.Contains(t, line[1]) }
	var kept [][]Peg
	var four []Peg
	for _, t := range cut {
		if has(t) {
			four = append(four, t...)
		} else {
			kept = append(kept, t)
		}
	}
	four = slices.Compact(inOrderBy(four))
	// The middle two of four in order are the ends of one line across, or the outer two are.
	if len(four) != 4 || less(four[1], four[0]) != less(four[3], four[2]) {
		return nil, false
	}
	for _, t := range c.empty {
		if !has(t) && isOf(four, t) {
			kept = append(kept, t)
		}
	}
	slices.SortFunc(kept, byPegs)
	return kept, true
}

func isOf(four, t []Peg) bool {
	return len(filtered(t, func(p Peg) bool { return slices.Contains(four, p) })) == 3
}

// checkExchange compares the functions that exchange a line with the test's own way.
func checkExchange(t *testing.T, c cutting, cut [][]Peg, line []Peg) bool {
	t.Helper()
	want, does := exchangeBy(c, cut, line)
	if can, ok := impl.CanExchange(c.corners, cut, line); can != does || !ok {
		t.Error(c.corners, cut, line, can, ok)
	}
	made, ok := impl.ExchangeLine(c.corners, cut, line)
	if len(made)+len(want) > 0 && !reflect.DeepEqual(made, want) || ok != does {
		t.Error(c.corners, cut, line, made, ok)
	}
	return does
}

// TestExchanges also is promise 7: exchanged lines make cuts.
func TestExchanges(t *testing.T) {
	count := map[bool]int{}
	for _, c := range cuttings() {
		for i, cut := range c.cuts {
			if !isOrdinary(c) && i%8 > 0 {
				continue
			}
			exchanges := 0
			for _, line := range innerBy(cut) {
				can := checkExchange(t, c, cut, line)
				count[can]++
				if !can {
					continue
				}
				exchanges++
				made, _ := impl.ExchangeLine(c.corners, cut, line)
				if is, ok := impl.IsCut(c.corners, made); !is || !ok || !c.isCut(made) {
					t.Error(c.corners, cut, line, made)
				}
				checkExchangedBack(t, c.corners, cut, made)
			}
			if n, ok := impl.ExchangesOf(c.corners, cut); n != exchanges || !ok {
				t.Error(c.corners, cut, n, ok)
			}
		}
	}
	if count[true] < 1000 || count[false] < 1000 {
		t.Error(count)
	}
}

// checkExchangedBack: the one line that only the made cut has brings the other one back.
func checkExchangedBack(t *testing.T, l []Peg, cut, made [][]Peg) {
	t.Helper()
	lines, _ := linesOf(cut)
	var others [][]Peg
	madeLines, _ := linesOf(made)
	for _, line := range madeLines {
		if !hasList(lines, line) {
			others = append(others, line)
		}
	}
	if len(others) != 1 {
		t.Error(l, cut, made, others)
		return
	}
	if back, ok := impl.ExchangeLine(l, made, others[0]); !reflect.DeepEqual(back, cut) || !ok {
		t.Error(l, cut, made, back, ok)
	}
}

// noLines are lists that are no line of any cut.
var noLines = [][]Peg{
	nil,
	{},
	pegsOf("0,0"),
	pegsOf("0,0 0,0"),
	pegsOf("1,1 1,1"),
	pegsOf("0,0 1,1 1,1"),
	pegsOf("0,1 1,0 0,1"),
	pegsOf("0,0 2,0"),
	pegsOf("0,0 2,2"),
	pegsOf("0,2 2,0"),
	pegsOf("40,40 41,41"),
	{{X: math.MinInt, Y: math.MinInt}, {X: math.MaxInt, Y: math.MaxInt}},
	{{X: math.MinInt}, {X: math.MinInt}},
	{{X: 1 << 32}, {X: 1<<32 + 1, Y: 1}},
	make([]Peg, 1000),
}

// TestExchangeOfAnyLine takes all pairs of pegs, in both orders, lists of a peg less and of a peg more, and lists of
// any points.
func TestExchangeOfAnyLine(t *testing.T) {
	done := map[bool]int{}
	for _, c := range cuttings() {
		pegs := append(pegsIn(c.corners), Peg{X: -7, Y: 7})
		for i, cut := range c.cuts {
			if i%30 > 0 {
				continue
			}
			listsOf(2, pegs, func(line []Peg) { done[checkExchange(t, c, cut, line)]++ })
			for _, line := range noLines {
				done[checkExchange(t, c, cut, line)]++
			}
			for _, line := range innerBy(cut) {
				checkExchange(t, c, cut, line[:1])
				checkExchange(t, c, cut, line[1:])
				checkExchange(t, c, cut, append(slices.Clone(line), line[0]))
				checkExchange(t, c, cut, append(slices.Clone(line), Peg{X: 9}))
			}
		}
	}
	if done[true] < 100 || done[false] < 1000 {
		t.Error(done)
	}
}

func TestExchangeOfNamed(t *testing.T) {
	for _, c := range []struct{ text, cut, line, want string }{ // want is empty if it fails
		{"0,0 1,0 1,1 0,1", "0,0 0,1 1,0;0,1 1,0 1,1", "0,1 1,0", "0,0 0,1 1,1;0,0 1,0 1,1"},
		{"0,0 1,0 1,1 0,1", "0,0 0,1 1,1;0,0 1,0 1,1", "0,0 1,1", "0,0 0,1 1,0;0,1 1,0 1,1"},
		{"0,0 1,0 1,1 0,1", "0,0 0,1 1,1;0,0 1,0 1,1", "1,1 0,0", ""},
		{"0,0 1,0 1,1 0,1", "0,0 0,1 1,1;0,0 1,0 1,1", "0,1 1,0", ""},
		{"0,0 1,0 1,1 0,1", "0,0 0,1 1,1;0,0 1,0 1,1", "0,0 0,1", ""},
		{"0,0 1,0 1,1 0,1", "0,0 0,1 1,1;0,0 1,0 1,1", "0,0 1,1 1,1", ""},
		{"0,0 1,0 1,1 0,1", "0,0 0,1 1,1;0,0 1,0 1,1", "0,0", ""},
		{"0,0 1,0 0,1", "0,0 0,1 1,0", "0,1 1,0", ""},
		{"0,0 2,0 0,1", "0,0 0,1 1,0;0,1 1,0 2,0", "0,1 1,0", ""},
		{"0,0 1,2 2,1", "0,0 1,1 1,2;0,0 1,1 2,1;1,1 1,2 2,1", "0,0 1,1", ""},
		{"0,0 2,0 2,1 0,1", "0,0 0,1 1,0;0,1 1,0 1,1;1,0 1,1 2,0;1,1 2,0 2,1", "1,0 1,1", "0,0 0,1 1,0;0,1 1,0 2,0;0,1 1,1 2,0;1,1 2,0 2,1"},
		{"0,0 2,0 2,1 0,1", "0,0 0,1 1,0;0,1 1,0 2,0;0,1 1,1 2,0;1,1 2,0 2,1", "0,1 1,0", ""},
	} {
		var want [][]Peg
		if c.want != "" {
			want = listsOfThree(c.want)
		}
		can, ok := impl.CanExchange(pegsOf(c.text), listsOfThree(c.cut), pegsOf(c.line))
		if can != (c.want != "") || !ok {
			t.Error(c.text, c.cut, c.line, can, ok)
		}
		made, ok := impl.ExchangeLine(pegsOf(c.text), listsOfThree(c.cut), pegsOf(c.line))
		if len(made)+len(want) > 0 && !reflect.DeepEqual(made, want) || ok != (c.want != "") {
			t.Error(c.text, c.cut, c.line, made, ok)
		}
	}
}

// TestCountReached is promise 7: all cuts are reached, from each one.
func TestCountReached(t *testing.T) {
	for _, c := range cuttings() {
		want := len(c.cuts)
		if want > 200 {
			want = 0
		}
		for i, cut := range c.cuts {
			if i > 0 && i%20 != 7 {
				continue
			}
			if n, ok := impl.CountReached(c.corners, cut); n != want || ok != (want > 0) {
				t.Error(c.corners, cut, n, ok, "not", want)
			}
		}
	}
	for s, want := range map[string]int{
		"0,0 1,0 0,1":             1,
		"0,0 10,0 0,1":            1,
		"0,0 1,0 1,1 0,1":         2,
		"0,0 2,0 2,2 0,2":         64,
		"5,1 5,2 1,2 0,1 4,1 4,0": 196,
		"3,0 3,2 0,2 0,1 1,1 1,0": 0,
		"0,0 5,0 5,1 0,1":         0,
	} {
		first, _ := impl.FirstCut(pegsOf(s))
		if n, ok := impl.CountReached(pegsOf(s), first); n != want || ok != (want > 0) {
			t.Error(s, n, ok)
		}
	}
}

func TestStrips(t *testing.T) {
	for steps := 1; steps <= 5; steps++ {
		want := []Peg{{}, {X: steps}, {X: steps, Y: 1}, {Y: 1}}
		l, ok := impl.StripPolygon(steps)
		if !slices.Equal(l, want) || !ok {
			t.Error(steps, l, ok)
		}
		fillAll(l)
		if l, ok := impl.StripPolygon(steps); !slices.Equal(l, want) || !ok {
			t.Error(steps, l, ok)
		}
		if n, ok := impl.CountStripCuts(steps); n != choose(2*steps, steps) || n != len(cuttingOf(want).cuts) || !ok {
			t.Error(steps, n, ok)
		}
	}
	for _, steps := range []int{0, 6, -1, -5, 7, 40, math.MaxInt, math.MinInt, 1<<32 + 1, -1<<32 + 1} {
		if l, ok := impl.StripPolygon(steps); len(l) != 0 || ok {
			t.Error(steps, l, ok)
		}
		if n, ok := impl.CountStripCuts(steps); n != 0 || ok {
			t.Error(steps, n, ok)
		}
	}
}

func TestTrianglesAt(t *testing.T) {
	everyCut(func(c cutting, cut [][]Peg) {
		sum := 0
		outside := filtered(pegsOf("-1,0 3,3 40,40 -40,40 7,-7"), func(p Peg) bool { return place(c.corners, p) < 0 })
		for _, p := range append(pegsIn(c.corners), outside...) {
			want := 0
			for _, three := range cut {
				if slices.Contains(three, p) {
					want++
				}
			}
			n, ok := impl.TrianglesAt(c.corners, cut, p)
			if n != want || !ok {
				t.Error(c.corners, cut, p, n, ok)
			}
			sum += n
		}
		if sum != 3*len(cut) {
			t.Error(c.corners, cut, sum)
		}
	})
	for _, p := range notPegs {
		for _, s := range cuttable {
			first, _ := impl.FirstCut(pegsOf(s))
			if n, ok := impl.TrianglesAt(pegsOf(s), first, p); n != 0 || ok {
				t.Error(s, p, n, ok)
			}
		}
	}
}

// onCuttable are all functions of the chapter that take a polygon alone.
func onCuttable() map[string]call {
	return map[string]call{
		"CountCuts":      func(l []Peg) (any, bool) { return pair(impl.CountCuts(l)) },
		"FirstCut":       func(l []Peg) (any, bool) { return pair(impl.FirstCut(l)) },
		"TrianglesOfCut": func(l []Peg) (any, bool) { return pair(impl.TrianglesOfCut(l)) },
		"LinesOfCut":     func(l []Peg) (any, bool) { return pair(impl.LinesOfCut(l)) },
	}
}

func allCuts(l []Peg) (any, bool) { return pair(impl.AllCuts(l)) }

// onCut is a function of the program that takes a polygon, a list of triangles and a line.
type onCut = func(l []Peg, list [][]Peg, line []Peg) (any, bool)

// onCuts are all functions of the chapter that require a cut.
func onCuts() map[string]onCut {
	return map[string]onCut{
		"InnerLines":   func(l []Peg, list [][]Peg, _ []Peg) (any, bool) { return pair(impl.InnerLines(l, list)) },
		"CanExchange":  func(l []Peg, list [][]Peg, line []Peg) (any, bool) { return pair(impl.CanExchange(l, list, line)) },
		"ExchangeLine": func(l []Peg, list [][]Peg, line []Peg) (any, bool) { return pair(impl.ExchangeLine(l, list, line)) },
		"ExchangesOf":  func(l []Peg, list [][]Peg, _ []Peg) (any, bool) { return pair(impl.ExchangesOf(l, list)) },
		"CountReached": func(l []Peg, list [][]Peg, _ []Peg) (any, bool) { return pair(impl.CountReached(l, list)) },
		"TrianglesAt":  func(l []Peg, list [][]Peg, line []Peg) (any, bool) { return pair(impl.TrianglesAt(l, list, line[0])) },
	}
}

func isCut(l []Peg, list [][]Peg, _ []Peg) (any, bool) { return pair(impl.IsCut(l, list)) }

func tooGreatOf() [][]Peg {
	var all [][]Peg
	for _, s := range tooGreat {
		all = append(all, pegsOf(s))
	}
	return all
}

// squareCut is a cut of the square of one step, with its line.
var squareCut = listsOfThree("0,0 0,1 1,1;0,0 1,0 1,1")
var squareLine = pegsOf("0,0 1,1")

func TestNotCuttableFails(t *testing.T) {
	none := slices.Concat(notPolygons, tooGreatOf())
	calls := onCuttable()
	calls["AllCuts"] = allCuts
	cuts := onCuts()
	cuts["IsCut"] = isCut
	for name, on := range cuts {
		calls[name] = func(l []Peg) (any, bool) { return on(l, squareCut, squareLine) }
		calls[name+" of nothing"] = func(l []Peg) (any, bool) { return on(l, nil, squareLine) }
	}
	checkFailing(t, calls, none)
}

// TestTooGreatHasNoCut: lists that would be cuts of polygons that are too great make each call fail.
func TestTooGreatHasNoCut(t *testing.T) {
	var fan11 [][]Peg
	for x := range 11 {
		fan11 = append(fan11, []Peg{{Y: 1}, {X: x}, {X: x + 1}})
	}
	fan11[0] = pegsOf("0,0 0,1 1,0")
	l := pegsOf("0,0 11,0 0,1")
	if !cuttingOf(l).isCut(fan11) {
		t.Fatal(fan11)
	}
	cuts := onCuts()
	cuts["IsCut"] = isCut
	for name, on := range cuts {
		if v, ok := on(l, fan11, pegsOf("0,1 1,0")); ok || !isNothing(v) {
			t.Error(name, v, ok)
		}
	}
	if is, ok := impl.IsCut(pegsOf("0,0 10,0 0,1"), fan11[:10]); !is || !ok {
		t.Error(is, ok)
	}
}

// TestNoCutFails: each call that requires a cut fails for lists that are none.
func TestNoCutFails(t *testing.T) {
	square := pegsOf("0,0 1,0 1,1 0,1")
	none := [][][]Peg{nil, {}, {nil, nil}, squareCut[:1], {squareCut[1], squareCut[0]}, {squareCut[0], squareCut[0]},
		append(slices.Clone(squareCut), squareCut[1]), listsOfThree("0,0 0,1 1,1;0,0 0,1 1,0"),
		listsOfThree("0,0 0,1 1,0;0,0 0,1 1,1"), listsOfThree("0,0 0,1 1,1;1,1 1,0 0,0"), make([][]Peg, 1000)}
	for _, bad := range badTriangles {
		none = append(none, [][]Peg{bad, squareCut[1]}, [][]Peg{squareCut[0], bad}, [][]Peg{bad, bad}, [][]Peg{bad})
	}
	for name, on := range onCuts() {
		for _, list := range none {
			if v, ok := on(square, list, squareLine); ok || !isNothing(v) {
				t.Error(name, list[:min(len(list), 5)], v, ok)
			}
		}
	}
	everyCut(func(c cutting, cut [][]Peg) {
		if len(cut) < 2 {
			return
		}
		backwards := slices.Clone(cut)
		slices.Reverse(backwards)
		for name, on := range onCuts() {
			for _, list := range [][][]Peg{cut[1:], backwards} {
				if v, ok := on(c.corners, list, cut[0][:2]); ok || !isNothing(v) {
					t.Error(name, c.corners, list, v, ok)
				}
			}
		}
	})
}

// TestCuttersEnd fails with a deadlock if a goroutine that sends cuts is left behind by a call.
func TestCuttersEnd(t *testing.T) {
	synctest.Test(t, func(t *testing.T) {
		for _, s := range slices.Concat(cuttable, manyCuts, tooGreat) {
			impl.CountCuts(pegsOf(s))
			impl.FirstCut(pegsOf(s))
			impl.AllCuts(pegsOf(s))
		}
		impl.CountStripCuts(5)
	})
}

// TestCuttableAreKept is promise 11 for polygons.
func TestCuttableAreKept(t *testing.T) {
	checkKept(t, onCuttable(), slices.Concat(cuttable, manyCuts))
	checkKept(t, map[string]call{"AllCuts": allCuts}, cuttable)
}

// roomy copies a list of triangles into memory with something behind each list.
func roomy(list [][]Peg) [][]Peg {
	room := make([][]Peg, 0, len(list)+2)
	for _, t := range list {
		room = append(room, append(slices.Clone(t), Peg{X: 9, Y: 9}, Peg{X: 99})[:len(t)])
	}
	return append(room, pegsOf("8,8 9,9 8,9"), nil)[:len(list)]
}

// wholeRoom copies all of a list, with what is behind it and behind its triangles in memory.
func wholeRoom(list [][]Peg) [][]Peg {
	var all [][]Peg
	for _, t := range list[:cap(list)] {
		all = append(all, slices.Clone(t[:cap(t)]))
	}
	return all
}

// TestCutsAreKept is promise 11 for cuts and lines.
func TestCutsAreKept(t *testing.T) {
	cuts := onCuts()
	cuts["IsCut"] = isCut
	for _, s := range cuttable {
		l := pegsOf(s)
		for _, first := range cuttingOf(l).cuts[:1] {
			line := slices.Concat(first[0][1:], pegsOf("9,9 8,8"))
			for _, inner := range innerBy(first) {
				if can, _ := impl.CanExchange(l, first, inner); can {
					copy(line, inner)
				}
			}
			for name, on := range cuts {
				checkCutKept(t, name, on, l, first, line[:2])
			}
		}
	}
}

func checkCutKept(t *testing.T, name string, on onCut, l []Peg, cut [][]Peg, line []Peg) {
	t.Helper()
	list := roomy(cut)
	kept, keptCorners, keptLine := wholeRoom(list), slices.Clone(l), slices.Clone(line[:cap(line)])
	isKept := func() bool {
		return reflect.DeepEqual(wholeRoom(list), kept) && slices.Equal(l, keptCorners) && slices.Equal(line[:cap(line)], keptLine)
	}
	one, ok := on(l, list, line)
	other, _ := on(l, list, line)
	if can, _ := impl.CanExchange(l, cut, line); ok != (can || name != "ExchangeLine") || !isKept() {
		t.Error(name, l, cut, line, ok)
	}
	again, _ := on(slices.Clone(l), slices.Clone(list), slices.Clone(line))
	if !fillAll(one) || !isKept() || !reflect.DeepEqual(other, again) {
		t.Error(name, l, cut, line, "shares memory")
	}
}
