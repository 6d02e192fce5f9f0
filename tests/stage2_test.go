package tests

import (
	"cmp"
	"math"
	"math/big"
	"reflect"
	"slices"
	"testing"
	"testing/synctest"

	"loop.example/g01259/impl"
)

// triangles are of all sorts: empty and hollow ones, with right, greater and only lesser angles, to both sides, and
// the limits met exactly.
var triangles = []string{
	"0,0 1,0 0,1",
	"0,0 0,1 1,0",
	"5,3 7,4 6,4",
	"0,0 4,0 0,3",
	"0,0 0,3 4,0",
	"4,0 0,3 0,0",
	"0,0 2,0 0,2",
	"0,2 2,0 0,0",
	"0,0 7,0 3,1",
	"-1,-1 1,0 0,1",
	"0,0 6,0 3,5",
	"3,5 6,0 0,0",
	"0,0 9,1 4,2",
	"-7,3 5,-4 2,8",
	"2,8 5,-4 -7,3",
	"-3,-3 3,3 4,-4",
	"-40,-40 40,-40 -40,40",
	"40,40 -40,40 40,-40",
	"-40,-40 40,39 40,40",
	"-40,0 40,1 -39,1",
	"40,40 40,39 39,40",
	"-40,-40 40,-39 -39,40",
	"-40,-40 40,-40 0,40",
}

// notTriangles are lists that are no polygons, and polygons with more corners.
func notTriangles() [][]Peg {
	lists := slices.Clone(notPolygons)
	for _, s := range polygons {
		if l := pegsOf(s); len(l) != 3 {
			lists = append(lists, l)
		}
	}
	return lists
}

// everyTriangle calls f with the named triangles, and with all triangles of a board of 3 by 3 pegs, however they are told.
func everyTriangle(f func([]Peg)) {
	for _, s := range triangles {
		f(pegsOf(s))
	}
	lists(3, func(l []Peg) {
		if polygon(l) {
			f(slices.Clone(l))
		}
	})
}

// everyPeg calls f with all pegs.
func everyPeg(f func(Peg)) {
	for x := -40; x <= 40; x++ {
		for y := -40; y <= 40; y++ {
			f(Peg{X: x, Y: y})
		}
	}
}

// partTriangles are the triangles that p makes with the sides of a triangle, as the document names them.
func partTriangles(l []Peg, p Peg) [][]Peg {
	a, b, c := l[0], l[1], l[2]
	return [][]Peg{{p, b, c}, {a, p, c}, {a, b, p}}
}

// partsOf are twice the areas of these, with their signs.
func partsOf(l []Peg, p Peg) []int {
	var parts []int
	for _, part := range partTriangles(l, p) {
		parts = append(parts, fan(part))
	}
	return parts
}

func size(n int) int { return max(n, -n) }

func TestEmptyAndHollow(t *testing.T) {
	everyTriangle(func(l []Peg) {
		inside := len(placed(l, 1))
		if is, ok := impl.IsEmptyThree(l); is != (inside == 0 && len(placed(l, 0)) == 3) || !ok {
			t.Error(l, "empty", is, ok)
		}
		if is, ok := impl.IsHollowThree(l); is != (inside == 0) || !ok {
			t.Error(l, "hollow", is, ok)
		}
	})
	for _, c := range []struct {
		text          string
		empty, hollow bool
	}{
		{"0,0 1,0 0,1", true, true}, {"0,0 0,1 1,0", true, true}, {"40,40 40,39 39,40", true, true},
		{"0,0 2,0 0,2", false, true}, {"0,0 0,2 2,0", false, true}, {"0,0 7,0 3,1", false, true},
		{"0,0 4,0 0,3", false, false}, {"0,0 0,3 4,0", false, false}, {"-1,-1 1,0 0,1", false, false},
	} {
		if is, ok := impl.IsEmptyThree(pegsOf(c.text)); is != c.empty || !ok {
			t.Error(c.text, "empty", is, ok)
		}
		if is, ok := impl.IsHollowThree(pegsOf(c.text)); is != c.hollow || !ok {
			t.Error(c.text, "hollow", is, ok)
		}
	}
}

func TestSidesAndHeights(t *testing.T) {
	everyTriangle(func(l []Peg) {
		a, b, c := l[0], l[1], l[2]
		sides, ok := impl.SidesOfThree(l)
		want := []int{dot(less(c, b), less(c, b)), dot(less(a, c), less(a, c)), dot(less(b, a), less(b, a))}
		if !slices.Equal(sides, want) || !ok {
			t.Error(l, "sides", sides, ok)
		}
		heights, ok := impl.HeightsOfThree(l)
		if !ok || len(heights) != 3 {
			t.Fatal(l, "heights", heights, ok)
		}
		for i, h := range heights {
			// a Rat is in lowest terms, and its denominator is greater than 0
			square := big.NewRat(int64(fan(l)*fan(l)), int64(want[i]))
			if len(h) != 2 || int64(h[0]) != square.Num().Int64() || int64(h[1]) != square.Denom().Int64() {
				t.Error(l, "height", i, h)
			}
		}
	})
	for _, c := range []struct {
		text    string
		sides   []int
		heights [][]int
	}{
		{"0,0 4,0 0,3", []int{25, 9, 16}, [][]int{{144, 25}, {16, 1}, {9, 1}}},
		{"0,0 0,3 4,0", []int{25, 16, 9}, [][]int{{144, 25}, {9, 1}, {16, 1}}},
		{"4,0 0,3 0,0", []int{9, 16, 25}, [][]int{{16, 1}, {9, 1}, {144, 25}}},
		{"0,0 1,0 0,1", []int{2, 1, 1}, [][]int{{1, 2}, {1, 1}, {1, 1}}},
		{"-40,-40 40,-40 -40,40", []int{12800, 6400, 6400}, [][]int{{3200, 1}, {6400, 1}, {6400, 1}}},
	} {
		if l, ok := impl.SidesOfThree(pegsOf(c.text)); !slices.Equal(l, c.sides) || !ok {
			t.Error(c.text, l, ok)
		}
		if l, ok := impl.HeightsOfThree(pegsOf(c.text)); !reflect.DeepEqual(l, c.heights) || !ok {
			t.Error(c.text, l, ok)
		}
	}
}

func TestAngleKind(t *testing.T) {
	everyTriangle(func(l []Peg) {
		want := 1
		for i, p := range l {
			q, r := l[(i+1)%3], l[(i+2)%3]
			want = min(want, cmp.Compare(dot(less(q, p), less(r, p)), 0))
		}
		if kind, ok := impl.AngleKind(l); kind != want || !ok {
			t.Error(l, kind, ok)
		}
	})
	for text, want := range map[string]int{
		"0,0 4,0 0,3": 0, "0,0 0,3 4,0": 0, "4,0 0,3 0,0": 0, "-3,-3 3,3 4,-4": 1,
		"0,0 6,0 3,5": 1, "3,5 6,0 0,0": 1, "0,0 9,1 4,2": -1, "-40,0 40,1 -39,1": -1, "5,3 7,4 6,4": -1,
	} {
		if kind, ok := impl.AngleKind(pegsOf(text)); kind != want || !ok {
			t.Error(text, kind, ok)
		}
	}
}

func TestCentre(t *testing.T) {
	everyTriangle(func(l []Peg) {
		x, y, ok := impl.ThriceCentre(l)
		if x != l[0].X+l[1].X+l[2].X || y != l[0].Y+l[1].Y+l[2].Y || !ok {
			t.Error(l, x, y, ok)
		}
		if has, ok := impl.HasCentrePeg(l); has != (x%3 == 0 && y%3 == 0) || !ok {
			t.Error(l, has, ok)
		}
	})
	for _, c := range []struct {
		text string
		x, y int
		has  bool
	}{
		{"0,0 4,0 0,3", 4, 3, false}, {"0,0 0,4 3,0", 3, 4, false}, {"0,0 3,0 0,3", 3, 3, true},
		{"-1,-1 1,0 0,1", 0, 0, true}, {"-3,0 -1,-2 1,-1", -3, -3, true}, {"0,0 -1,0 0,-1", -1, -1, false},
		{"40,40 40,39 39,40", 119, 119, false}, {"-40,-40 -40,-39 -37,-38", -117, -117, true},
	} {
		x, y, ok := impl.ThriceCentre(pegsOf(c.text))
		if x != c.x || y != c.y || !ok {
			t.Error(c.text, x, y, ok)
		}
		if has, ok := impl.HasCentrePeg(pegsOf(c.text)); has != c.has || !ok {
			t.Error(c.text, has, ok)
		}
	}
}

func TestCircleOfThree(t *testing.T) {
	everyTriangle(func(l []Peg) {
		x, y, den, ok := impl.CircleOfThree(l)
		if !ok || den <= 0 {
			t.Fatal(l, x, y, den, ok)
		}
		for d := 2; d <= den; d++ {
			if x%d == 0 && y%d == 0 && den%d == 0 {
				t.Error(l, x, y, den, "are not in lowest terms")
				break
			}
		}
		far := func(p Peg) int {
			v := Peg{X: den*p.X - x, Y: den*p.Y - y}
			return dot(v, v)
		}
		if far(l[0]) != far(l[1]) || far(l[1]) != far(l[2]) {
			t.Error(l, x, y, den, "is not as far from all corners")
		}
	})
	for _, c := range []struct {
		text      string
		x, y, den int
	}{
		{"0,0 4,0 0,3", 4, 3, 2}, {"0,0 0,3 4,0", 4, 3, 2}, {"4,0 0,3 0,0", 4, 3, 2},
		{"0,0 2,0 0,2", 1, 1, 1}, {"-1,0 0,-1 1,0", 0, 0, 1}, {"1,0 0,-1 -1,0", 0, 0, 1},
		{"-1,-1 1,0 0,1", -1, -1, 6}, {"-40,-40 40,-40 -40,40", 0, 0, 1}, {"0,0 6,0 3,5", 15, 8, 5},
	} {
		x, y, den, ok := impl.CircleOfThree(pegsOf(c.text))
		if x != c.x || y != c.y || den != c.den || !ok {
			t.Error(c.text, x, y, den, ok)
		}
	}
}

// inCircle is the sign of the determinant that tells points in the circle through three others, made the same for both sides.
func inCircle(l []Peg, p Peg) int {
	var v [3]Peg
	var s [3]int
	for i, q := range l {
		v[i] = less(q, p)
		s[i] = dot(v[i], v[i])
	}
	det := s[0]*cross(v[1], v[2]) + s[1]*cross(v[2], v[0]) + s[2]*cross(v[0], v[1])
	return cmp.Compare(det*cmp.Compare(fan(l), 0), 0)
}

func TestInCircle(t *testing.T) {
	for _, s := range triangles {
		l := pegsOf(s)
		everyPeg(func(p Peg) {
			if in, ok := impl.InCircle(l, p); in != inCircle(l, p) || !ok {
				t.Fatal(s, p, in, ok)
			}
		})
		for _, p := range l {
			if in, ok := impl.InCircle(l, p); in != 0 || !ok {
				t.Error(s, p, in, ok)
			}
		}
		for _, p := range notPegs {
			if in, ok := impl.InCircle(l, p); in != 0 || ok {
				t.Error(s, p, in, ok)
			}
		}
	}
	for text, want := range map[string]int{"4,3": 0, "2,1": 1, "2,-1": 0, "2,4": 0, "2,-2": -1, "5,3": -1, "-1,1": -1, "0,1": 1} {
		for _, s := range []string{"0,0 4,0 0,3", "0,0 0,3 4,0"} {
			if in, ok := impl.InCircle(pegsOf(s), pegsOf(text)[0]); in != want || !ok {
				t.Error(s, text, in, ok)
			}
		}
	}
}

// TestParts is promise 2: parts are the areas of the triangles that a peg makes, and tell the peg again.
func TestParts(t *testing.T) {
	for _, s := range triangles {
		l := pegsOf(s)
		twice := fan(l)
		everyPeg(func(p Peg) {
			parts, ok := impl.PartsOfPeg(l, p)
			if !slices.Equal(parts, partsOf(l, p)) || !ok || parts[0]+parts[1]+parts[2] != twice {
				t.Fatal(s, p, parts, ok)
			}
			signs := parts[0]*twice >= 0 && parts[1]*twice >= 0 && parts[2]*twice >= 0
			if signs != (place(l, p) >= 0) {
				t.Fatal(s, p, parts)
			}
			if q, ok := impl.PegOfParts(l, parts); q != p || !ok {
				t.Fatal(s, p, parts, q, ok)
			}
		})
		for _, p := range notPegs {
			if parts, ok := impl.PartsOfPeg(l, p); len(parts) != 0 || ok {
				t.Error(s, p, parts, ok)
			}
		}
	}
	for _, c := range []struct {
		text, peg string
		parts     []int
	}{
		{"0,0 4,0 0,3", "1,1", []int{5, 3, 4}}, {"0,0 0,3 4,0", "1,1", []int{-5, -4, -3}},
		{"0,0 4,0 0,3", "2,0", []int{6, 6, 0}}, {"0,0 4,0 0,3", "4,0", []int{0, 12, 0}},
		{"0,0 4,0 0,3", "4,3", []int{-12, 12, 12}}, {"0,0 4,0 0,3", "-1,0", []int{15, -3, 0}},
		{"0,0 4,0 0,3", "-40,-40", []int{292, -120, -160}}, {"0,0 4,0 0,3", "40,-40", []int{52, 120, -160}},
	} {
		if parts, ok := impl.PartsOfPeg(pegsOf(c.text), pegsOf(c.peg)[0]); !slices.Equal(parts, c.parts) || !ok {
			t.Error(c.text, c.peg, parts, ok)
		}
		if p, ok := impl.PegOfParts(pegsOf(c.text), c.parts); p != pegsOf(c.peg)[0] || !ok {
			t.Error(c.text, c.parts, p, ok)
		}
	}
}

// TestPegOfAllParts compares with a list of the parts of all pegs.
func TestPegOfAllParts(t *testing.T) {
	for _, s := range []string{"0,0 4,0 0,3", "0,0 0,3 4,0", "5,3 7,4 6,4", "40,40 40,39 39,40", "-3,-3 3,3 4,-4"} {
		l := pegsOf(s)
		pegs := map[[3]int]Peg{}
		everyPeg(func(p Peg) { pegs[[3]int(partsOf(l, p))] = p })
		for a := -60; a <= 60; a++ {
			for b := -60; b <= 60; b++ {
				for more := -1; more <= 1; more++ {
					parts := [3]int{a, b, fan(l) - a - b + more}
					want, has := pegs[parts]
					if p, ok := impl.PegOfParts(l, parts[:]); p != want || ok != has {
						t.Fatal(s, parts, p, ok)
					}
				}
			}
		}
	}
}

func TestPegOfNoParts(t *testing.T) {
	l := pegsOf("0,0 4,0 0,3")
	for _, parts := range [][]int{
		nil, {}, {12}, {6, 6}, {5, 3, 4, 0}, {5, 3, 3}, {5, 3, 5}, {-5, -3, -4}, {0, 0, 0},
		{4, 4, 4},         // those of 4 / 3, 1
		{6, 3, 3},         // those of 1, 3 / 4
		{3, 8, 1},         // those of 8 / 3, 1 / 4
		{135, -123, 0},    // those of -41, 0
		{-152, 0, 164},    // those of 0, 41
		{-115, 123, 4},    // those of 41, 1
		{292, -120, -161}, // those of -40, -40, but the last one
		{1000000, -1000000, 12},
		{-999988, 0, 1000000},
		{1000001, -1000001, 12},
		{-1000001, 1000001, 12},
		{12, 1000001, -1000001},
		// From here on the sum is 12 in 64 bits.
		{math.MaxInt, math.MaxInt, 14},
		{math.MinInt, math.MinInt, 12},
		{math.MaxInt, math.MinInt, 13},
		{5 + 1<<62, 3 + 1<<62, 4 + math.MinInt},
		{5 + 1<<32, 3 - 1<<32, 4},
	} {
		kept := slices.Clone(parts)
		if p, ok := impl.PegOfParts(l, parts); p != (Peg{}) || ok {
			t.Error(parts, p, ok)
		}
		if !slices.Equal(parts, kept) {
			t.Error(kept, "became", parts)
		}
	}
}

// TestPegOfHugeParts has numbers that would make the peg 1, 1 in 64 bits.
func TestPegOfHugeParts(t *testing.T) {
	parts := []int{8 + math.MinInt, 4 + 1<<62, 4 + 1<<62}
	if p, ok := impl.PegOfParts(pegsOf("0,0 4,0 0,4"), parts); p != (Peg{}) || ok {
		t.Error(p, ok)
	}
}

func TestSplitThree(t *testing.T) {
	for _, s := range triangles {
		l := pegsOf(s)
		everyPeg(func(p Peg) {
			split, ok := impl.SplitThree(l, p)
			if place(l, p) != 1 {
				if len(split) != 0 || ok {
					t.Fatal(s, p, split, ok)
				}
				return
			}
			if !reflect.DeepEqual(split, partTriangles(l, p)) || !ok {
				t.Fatal(s, p, split, ok)
			}
			for _, part := range split {
				if !impl.IsPolygon(part) {
					t.Fatal(s, p, part)
				}
			}
		})
		for _, p := range notPegs {
			if split, ok := impl.SplitThree(l, p); len(split) != 0 || ok {
				t.Error(s, p, split, ok)
			}
		}
	}
	want := [][]Peg{pegsOf("1,1 4,0 0,3"), pegsOf("0,0 1,1 0,3"), pegsOf("0,0 4,0 1,1")}
	if split, ok := impl.SplitThree(pegsOf("0,0 4,0 0,3"), Peg{X: 1, Y: 1}); !reflect.DeepEqual(split, want) || !ok {
		t.Error(split, ok)
	}
}

// TestTellersEnd fails with a deadlock if a goroutine that tells parts is left behind by a call.
func TestTellersEnd(t *testing.T) {
	synctest.Test(t, func(t *testing.T) {
		l := pegsOf("0,0 4,0 0,3")
		for _, p := range pegsOf("1,1 0,0 4,0 0,3 2,0 0,2 5,5 -1,1 1,-1 4,3") {
			impl.SplitThree(l, p)
			impl.PartsOfPeg(l, p)
		}
	})
}

// grownOf are the corners of the triangle that is grown, pegs or not.
func grownOf(l []Peg, k int) []Peg {
	var grown []Peg
	for _, p := range l {
		v := less(p, l[0])
		grown = append(grown, Peg{X: l[0].X + k*v.X, Y: l[0].Y + k*v.Y})
	}
	return grown
}

func TestGrowThree(t *testing.T) {
	everyTriangle(func(l []Peg) {
		for k := -2; k <= 22; k++ {
			want := grownOf(l, k)
			does := k >= 1 && k <= 20
			for _, p := range want {
				does = does && size(p.X) <= 40 && size(p.Y) <= 40
			}
			if !does {
				want = nil
			}
			if grown, ok := impl.GrowThree(l, k); !slices.Equal(grown, want) || ok != does {
				t.Error(l, k, grown, ok)
			}
		}
	})
	for _, c := range []struct {
		text string
		k    int
		want string // empty if it fails
	}{
		{"0,0 4,0 0,3", 1, "0,0 4,0 0,3"}, {"0,0 4,0 0,3", 10, "0,0 40,0 0,30"}, {"0,0 4,0 0,3", 11, ""},
		{"4,0 0,3 0,0", 2, "4,0 -4,6 -4,0"}, {"1,1 3,1 1,2", 19, "1,1 39,1 1,20"}, {"1,1 3,1 1,2", 20, ""},
		{"0,0 2,0 0,2", 20, "0,0 40,0 0,40"}, {"0,0 0,-2 -2,0", 20, "0,0 0,-40 -40,0"}, {"0,0 1,0 0,1", 21, ""},
		{"-40,-40 -36,-40 -40,-36", 20, "-40,-40 40,-40 -40,40"}, {"0,0 1,0 0,1", 0, ""}, {"0,0 1,0 0,1", -1, ""},
		{"0,0 1,0 0,1", math.MaxInt, ""}, {"0,0 1,0 0,1", math.MinInt, ""}, {"0,0 4,0 0,3", 1 << 62, ""},
	} {
		grown, ok := impl.GrowThree(pegsOf(c.text), c.k)
		if !slices.Equal(grown, pegsOf(c.want)) || ok != (c.want != "") {
			t.Error(c.text, c.k, grown, ok)
		}
	}
}

// countWithin counts the points of whole numbers inside a triangle or on its lines, pegs or not, row by row.
func countWithin(l []Peg) int {
	lowX, highX := min(l[0].X, l[1].X, l[2].X), max(l[0].X, l[1].X, l[2].X)
	lowY, highY := min(l[0].Y, l[1].Y, l[2].Y), max(l[0].Y, l[1].Y, l[2].Y)
	count := 0
	for x := lowX; x <= highX; x++ {
		for y := lowY; y <= highY; y++ {
			parts := partsOf(l, Peg{X: x, Y: y})
			if min(parts[0], parts[1], parts[2]) >= 0 || max(parts[0], parts[1], parts[2]) <= 0 {
				count++
			}
		}
	}
	return count
}

func TestPegsOfGrown(t *testing.T) {
	for _, s := range []string{
		"0,0 4,0 0,3", "0,0 0,3 4,0", "4,0 0,3 0,0", "5,3 7,4 6,4", "0,0 2,0 0,2", "-1,-1 1,0 0,1",
		"0,0 9,1 4,2", "40,40 40,39 39,40", "-3,-3 3,3 4,-4",
	} {
		l := pegsOf(s)
		for k := 1; k <= 20; k++ {
			if n, ok := impl.PegsOfGrown(l, k); n != countWithin(grownOf(l, k)) || !ok {
				t.Error(s, k, n, ok)
			}
		}
	}
	everyTriangle(func(l []Peg) {
		if n, ok := impl.PegsOfGrown(l, 0); n != 1 || !ok {
			t.Error(l, 0, n, ok)
		}
		if n, ok := impl.PegsOfGrown(l, 1); n != len(placed(l, 0))+len(placed(l, 1)) || !ok {
			t.Error(l, 1, n, ok)
		}
		for _, k := range []int{-1, 21, math.MaxInt, math.MinInt, 1 << 62, 1 << 32} {
			if n, ok := impl.PegsOfGrown(l, k); n != 0 || ok {
				t.Error(l, k, n, ok)
			}
		}
	})
	for _, c := range []struct {
		text    string
		k, want int
	}{
		{"0,0 4,0 0,3", 1, 11}, {"0,0 4,0 0,3", 2, 33}, {"0,0 0,3 4,0", 2, 33}, {"0,0 1,0 0,1", 20, 231},
		{"-40,-40 40,-40 -40,40", 20, 1601 * 1602 / 2}, // 80 times 20 and 1 rows
	} {
		if n, ok := impl.PegsOfGrown(pegsOf(c.text), c.k); n != c.want || !ok {
			t.Error(c.text, c.k, n, ok)
		}
	}
}

func TestMiddleThree(t *testing.T) {
	has := 0
	everyTriangle(func(l []Peg) {
		middles, ok := impl.MiddleThree(l)
		even := true
		for _, p := range l {
			even = even && (p.X-l[0].X)%2 == 0 && (p.Y-l[0].Y)%2 == 0
		}
		if ok != even || !ok && len(middles) != 0 {
			t.Fatal(l, middles, ok)
		}
		if !ok {
			return
		}
		has++
		if len(middles) != 3 {
			t.Fatal(l, middles)
		}
		for i, m := range middles {
			b, c := l[(i+1)%3], l[(i+2)%3]
			if 2*m.X != b.X+c.X || 2*m.Y != b.Y+c.Y {
				t.Error(l, i, middles)
			}
		}
	})
	if has < 20 {
		t.Error(has, "with whole middles")
	}
	for _, c := range []struct{ text, want string }{
		{"0,0 4,0 0,2", "2,1 0,1 2,0"}, {"0,0 0,2 4,0", "2,1 2,0 0,1"}, {"-3,-1 1,-1 -1,-5", "0,-3 -2,-3 -1,-1"},
		{"-40,-40 40,-40 -40,40", "0,0 -40,0 0,-40"}, {"0,0 4,0 0,3", ""}, {"0,0 3,0 0,2", ""}, {"0,0 -3,0 0,-2", ""},
		{"1,0 3,0 0,2", ""}, {"0,1 0,3 2,0", ""}, {"-1,0 -3,0 0,2", ""},
	} {
		if m, ok := impl.MiddleThree(pegsOf(c.text)); !slices.Equal(m, pegsOf(c.want)) || ok != (c.want != "") {
			t.Error(c.text, m, ok)
		}
	}
}

func TestBoxOfThree(t *testing.T) {
	everyTriangle(func(l []Peg) {
		xs, ys := []int{l[0].X, l[1].X, l[2].X}, []int{l[0].Y, l[1].Y, l[2].Y}
		least, greatest, ok := impl.BoxOfThree(l)
		if least != (Peg{X: slices.Min(xs), Y: slices.Min(ys)}) || greatest != (Peg{X: slices.Max(xs), Y: slices.Max(ys)}) || !ok {
			t.Error(l, least, greatest, ok)
		}
	})
	for _, c := range []struct{ text, box string }{
		{"0,0 4,0 0,3", "0,0 4,3"}, {"5,3 7,4 6,4", "5,3 7,4"}, {"-3,-1 1,-1 -1,-5", "-3,-5 1,-1"},
		{"-40,0 40,1 -39,1", "-40,0 40,1"}, {"0,-40 1,40 -1,3", "-1,-40 1,40"},
	} {
		least, greatest, ok := impl.BoxOfThree(pegsOf(c.text))
		if !slices.Equal([]Peg{least, greatest}, pegsOf(c.box)) || !ok {
			t.Error(c.text, least, greatest, ok)
		}
	}
}

// insideOf is a peg inside a triangle, or one that is not if there is none.
func insideOf(l []Peg) Peg {
	return append(placed(l, 1), Peg{})[0]
}

// onTriangles are all functions of the chapter that take a triangle and succeed for each one, with other arguments that are valid.
func onTriangles() map[string]call {
	return map[string]call{
		"IsEmptyThree":   func(l []Peg) (any, bool) { return pair(impl.IsEmptyThree(l)) },
		"IsHollowThree":  func(l []Peg) (any, bool) { return pair(impl.IsHollowThree(l)) },
		"SidesOfThree":   func(l []Peg) (any, bool) { return pair(impl.SidesOfThree(l)) },
		"HeightsOfThree": func(l []Peg) (any, bool) { return pair(impl.HeightsOfThree(l)) },
		"AngleKind":      func(l []Peg) (any, bool) { return pair(impl.AngleKind(l)) },
		"ThriceCentre": func(l []Peg) (any, bool) {
			x, y, ok := impl.ThriceCentre(l)
			return [2]int{x, y}, ok
		},
		"HasCentrePeg": func(l []Peg) (any, bool) { return pair(impl.HasCentrePeg(l)) },
		"CircleOfThree": func(l []Peg) (any, bool) {
			x, y, den, ok := impl.CircleOfThree(l)
			return [3]int{x, y, den}, ok
		},
		"InCircle":    func(l []Peg) (any, bool) { return pair(impl.InCircle(l, Peg{X: 7, Y: -7})) },
		"PartsOfPeg":  func(l []Peg) (any, bool) { return pair(impl.PartsOfPeg(l, Peg{X: 7, Y: -7})) },
		"GrowThree":   func(l []Peg) (any, bool) { return pair(impl.GrowThree(l, 1)) },
		"PegsOfGrown": func(l []Peg) (any, bool) { return pair(impl.PegsOfGrown(l, 3)) },
		"BoxOfThree": func(l []Peg) (any, bool) {
			least, greatest, ok := impl.BoxOfThree(l)
			return [2]Peg{least, greatest}, ok
		},
	}
}

// onSomeTriangles are the others.
func onSomeTriangles() map[string]call {
	return map[string]call{
		"SplitThree": func(l []Peg) (any, bool) {
			if !polygon(l) {
				return pair(impl.SplitThree(l, Peg{X: 1, Y: 1}))
			}
			return pair(impl.SplitThree(l, insideOf(l)))
		},
		"MiddleThree": func(l []Peg) (any, bool) { return pair(impl.MiddleThree(l)) },
		"PegOfParts": func(l []Peg) (any, bool) {
			parts := []int{0, 0, 0}
			if len(l) == 3 {
				parts[2] = fan(l) // c itself
			}
			return pair(impl.PegOfParts(l, parts))
		},
	}
}

func TestNoTriangleFails(t *testing.T) {
	checkFailing(t, onTriangles(), notTriangles())
	checkFailing(t, onSomeTriangles(), notTriangles())
}

// TestTrianglesAreKept is promise 11 for triangles.
func TestTrianglesAreKept(t *testing.T) {
	checkKept(t, onTriangles(), triangles)
	checkKept(t, onSomeTriangles(), []string{"0,0 4,0 0,4", "0,0 0,6 4,-2", "-40,-40 40,-40 -40,40"})
}

func TestPartsAreKept(t *testing.T) {
	room := []int{5, 3, 4, 9, 9}
	if p, ok := impl.PegOfParts(pegsOf("0,0 4,0 0,3"), room[:3]); p != (Peg{X: 1, Y: 1}) || !ok {
		t.Error(p, ok)
	}
	if !slices.Equal(room, []int{5, 3, 4, 9, 9}) {
		t.Error(room)
	}
}
