package tests

import (
	"math"
	"reflect"
	"slices"
	"sync"
	"testing"

	"loop.example/g01259/impl"
)

// long are polygons whose least width is in few directions, some of them with great numbers: thin ones, ones with
// several directions, ones that FlatMove or FlatPolygon can just lay flat, and ones that they just can not.
var long = []string{
	"0,0 2,1 1,1",
	"0,0 5,10 1,1",
	"0,0 0,5 1,0",
	"0,0 -5,10 -1,1",
	"0,0 1,0 10,5 1,1",
	"1,0 2,1 1,2 0,1",
	"0,0 2,0 2,2 0,2",
	"0,0 1,2 2,1",
	"-20,0 20,0 -20,1",
	"-20,0 21,0 -20,1",
	"0,0 2,40 1,19",
	"-1,-20 1,22 0,0",
	"0,0 40,2 1,0",
	"-20,-1 22,1 2,0",
	"-40,20 -36,22 -39,20",
	"-39,21 -35,23 -38,21",
	"40,-20 36,-22 39,-20",
	"40,-21 36,-23 39,-21",
	"-40,-39 40,39 -1,-1",
	"-40,-40 40,39 -39,-39",
	"-40,-40 39,40 -39,-39",
	"-40,40 40,-39 -39,39",
	"-40,-40 40,30 -39,-39",
	"0,0 6,15 2,6 1,4",
	"0,0 26,-10 5,-2",
	"0,0 -4,14 -1,4",
}

// toldDirections are all told directions of a size of at most 200, in order.
var toldDirections = sync.OnceValue(func() [][]int {
	all := [][]int{{0, 1}}
	for u := 1; u <= 200; u++ {
		for v := -200; v <= 200; v++ {
			if isReduced(u, v) {
				all = append(all, []int{u, v})
			}
		}
	}
	return all
})

// isReduced: no steps between 0, 0 and u, v are whole but this one.
func isReduced(u, v int) bool {
	return stepsBy(Peg{}, Peg{X: u, Y: v}) == 1
}

// someDirections are told and not, with small numbers, with 0, and with just MaxDirection.
var someDirections = sync.OnceValue(func() [][]int {
	all := [][]int{{200, 1}, {1, 200}, {200, -1}, {-200, 1}, {-1, -200}, {200, -199}, {199, 200}, {-199, -200},
		{-200, 199}, {-3, 200}, {7, 3}, {-5, 2}, {39, -40}, {-13, -34}, {100, 99}, {60, 7}}
	for u := -3; u <= 3; u++ {
		for v := -3; v <= 3; v++ {
			if isReduced(u, v) {
				all = append(all, []int{u, v})
			}
		}
	}
	return all
})

// noDirections have a common divisor, or are greater than MaxDirection.
var noDirections = [][]int{
	{0, 0}, {2, 0}, {0, 2}, {-2, 0}, {0, -2}, {200, 0}, {0, -200}, {2, 2}, {-2, 2}, {3, -6}, {200, 2}, {200, 200},
	{-200, -200}, {200, -150}, {6, 10}, {-15, 35}, {201, 1}, {1, 201}, {-201, 1}, {1, -201}, {201, 200}, {200, 201},
	{-200, -201}, {201, 0}, {402, 2}, {math.MaxInt, 1}, {1, math.MaxInt}, {math.MinInt, 1}, {1, math.MinInt},
	{math.MinInt, math.MinInt}, {math.MaxInt, math.MaxInt}, {math.MinInt, math.MaxInt}, {math.MinInt, 0},
	{0, math.MinInt}, {-1, math.MinInt}, {math.MinInt, -1}, {1 << 32, 1}, {1, 1 << 32}, {1<<32 + 1, 1}, {-1 << 32, 1},
	{1, 1<<32 + 1}, {1 << 62, 1},
}

// directed is a polygon with the pegs inside and on its lines, and all told directions in which its width is least.
type directed struct {
	corners    []Peg
	pegs       []Peg
	least      int
	directions [][]int
}

func valuesBy(l []Peg, u, v int) []int {
	var values []int
	for _, p := range l {
		values = append(values, dot(p, Peg{X: u, Y: v}))
	}
	return values
}

func widthBy(l []Peg, u, v int) int {
	values := valuesBy(l, u, v)
	return slices.Max(values) - slices.Min(values)
}

// directedBy tries all told directions of a size of at most 200. That is enough: if p and q are two ways from corner
// to corner with the greatest area between them, the width across p is no more than this area, and each direction that
// is as narrow gives p and q values that small, so that by Cramer's rule it is no greater than p and q together, 160.
func directedBy(l []Peg) directed {
	d := directed{corners: l, pegs: pegsIn(l), least: math.MaxInt}
	for _, told := range toldDirections() {
		width := 0
		for _, p := range l {
			width = max(width, size(dot(less(p, l[0]), Peg{X: told[0], Y: told[1]})))
		}
		if width > d.least {
			continue
		}
		switch width = widthBy(l, told[0], told[1]); {
		case width < d.least:
			d.least, d.directions = width, [][]int{told}
		case width == d.least:
			d.directions = append(d.directions, told)
		}
	}
	return d
}

// allDirected are named polygons, what moves make of some, told from whichever corner to whichever side, and small ones.
var allDirected = sync.OnceValue(func() []directed {
	var all []directed
	add := func(l []Peg) { all = append(all, directedBy(l)) }
	named := slices.Concat(long, polygons, triangles, cuttable)
	for _, s := range named {
		add(pegsOf(s))
	}
	for i, m := range moves {
		for k := i % 5; k < len(named); k += 5 {
			if l := bringAll(m, pegsOf(named[k])); areSmall(l) {
				add(tellings(l)[(i+k)%len(l)])
			}
		}
	}
	for n := 3; n <= 5; n++ {
		for i, l := range smallPolygons(n) {
			if n == 3 && i%3 == 0 || i%29 == n {
				add(l)
			}
		}
	}
	return all
})

func TestAllDirected(t *testing.T) {
	count := map[string]int{}
	for _, d := range allDirected() {
		first := d.directions[0]
		for name, is := range map[string]bool{
			"all": true, "thin": d.least == 1, "wide": d.least > 30, "bent": !isRound(d.corners),
			"to the right": fan(d.corners) < 0, "one direction": len(d.directions) == 1, "four": len(d.directions) == 4,
			"C is 0": first[0] == 0, "C is 1": first[0] == 1, "C is 2": first[0] == 2, "C is greater": first[0] > 2,
			"D is less than 0": first[1] < 0, "great": first[0] > 20 || first[1] < -20,
		} {
			if is {
				count[name]++
			}
		}
	}
	if len(count) != 13 || count["all"] < 200 {
		t.Error(count)
	}
	for name, n := range count {
		if n < 5 {
			t.Error(name, n)
		}
	}
}

func TestWidthIn(t *testing.T) {
	for _, d := range allDirected() {
		for _, way := range someDirections() {
			if n, ok := impl.WidthIn(d.corners, way[0], way[1]); n != widthBy(d.corners, way[0], way[1]) || !ok {
				t.Error(d.corners, way, n, ok)
			}
		}
	}
	for _, c := range []struct {
		text       string
		u, v, want int
	}{
		{"0,0 4,0 0,3", 1, 0, 4}, {"0,0 4,0 0,3", 0, 1, 3}, {"0,0 4,0 0,3", 1, 1, 4}, {"0,0 4,0 0,3", -1, -1, 4},
		{"0,0 4,0 0,3", 1, -1, 7}, {"0,0 4,0 0,3", 3, 4, 12}, {"0,0 4,0 0,3", -1, 0, 4}, {"0,0 4,0 0,3", 0, -1, 3},
		{"0,0 4,0 0,3", 200, 1, 800}, {"0,0 4,0 0,3", 1, -200, 604}, {"0,0 2,1 1,1", 1, -2, 1},
		{"0,0 4,0 4,4 2,1 0,4", 0, 1, 4}, {"0,0 4,0 4,4 2,1 0,4", -2, 1, 12},
		{"-40,-40 40,-40 40,40 -40,40", 200, 199, 31920}, {"-40,-40 40,-40 40,40 -40,40", -199, 200, 31920},
		{"-40,-40 40,-40 40,40 -40,40", 1, 0, 80},
	} {
		if n, ok := impl.WidthIn(pegsOf(c.text), c.u, c.v); n != c.want || !ok {
			t.Error(c.text, c.u, c.v, n, ok)
		}
	}
}

// TestLeastWidths also is promise 8: least widths are those of their directions.
func TestLeastWidths(t *testing.T) {
	for _, d := range allDirected() {
		if n, ok := impl.LeastWidth(d.corners); n != d.least || !ok {
			t.Error(d.corners, n, ok, "not", d.least)
		}
		directions, ok := impl.DirectionsOfWidth(d.corners)
		if !reflect.DeepEqual(directions, d.directions) || !ok {
			t.Error(d.corners, directions, ok, "not", d.directions)
		}
		for _, way := range directions {
			if n, ok := impl.WidthIn(d.corners, way[0], way[1]); n != d.least || !ok {
				t.Error(d.corners, way, n, ok)
			}
		}
		if is, ok := impl.IsThin(d.corners); is != (d.least == 1) || !ok {
			t.Error(d.corners, is, ok)
		}
		if n, ok := impl.CountDirections(d.corners, min(d.least, 60)); n != len(d.directions) && d.least <= 60 || !ok {
			t.Error(d.corners, n, ok)
		}
		if n, ok := impl.CountDirections(d.corners, min(d.least-1, 60)); n != 0 || !ok {
			t.Error(d.corners, n, ok)
		}
	}
}

func TestLeastWidthsOfNamed(t *testing.T) {
	for _, c := range []struct {
		text  string
		least int
		want  [][]int
	}{
		{"0,0 4,0 0,3", 3, [][]int{{0, 1}}},
		{"0,0 2,1 1,1", 1, [][]int{{0, 1}, {1, -2}, {1, -1}}},
		{"0,0 1,0 0,1", 1, [][]int{{0, 1}, {1, 0}, {1, 1}}},
		{"0,1 1,0 0,0", 1, [][]int{{0, 1}, {1, 0}, {1, 1}}},
		{"0,0 2,0 0,2", 2, [][]int{{0, 1}, {1, 0}, {1, 1}}},
		{"0,0 1,2 2,1", 2, [][]int{{0, 1}, {1, -1}, {1, 0}}},
		{"0,0 1,0 1,1 0,1", 1, [][]int{{0, 1}, {1, 0}}},
		{"1,0 2,1 1,2 0,1", 2, [][]int{{0, 1}, {1, -1}, {1, 0}, {1, 1}}},
		{"0,0 4,0 4,4 2,1 0,4", 4, [][]int{{0, 1}, {1, 0}}},
		{"0,0 5,10 1,1", 1, [][]int{{2, -1}}},
		{"1,1 5,10 0,0", 1, [][]int{{2, -1}}},
		{"0,0 -5,10 -1,1", 1, [][]int{{2, 1}}},
		{"0,0 0,5 1,0", 1, [][]int{{1, 0}}},
		{"-40,-39 40,39 -1,-1", 1, [][]int{{39, -40}}},
		{"-40,-40 40,39 -39,-39", 1, [][]int{{1, -1}, {78, -79}, {79, -80}}},
		{"-40,-40 39,40 -39,-39", 1, [][]int{{1, -1}, {79, -78}, {80, -79}}},
		{"-40,40 40,-39 -39,39", 1, [][]int{{1, 1}, {78, 79}, {79, 80}}},
		{"-40,-40 40,-40 40,40 -40,40", 80, [][]int{{0, 1}, {1, 0}}},
		{"-40,-40 40,-40 -40,40", 80, [][]int{{0, 1}, {1, 0}, {1, 1}}},
	} {
		if n, ok := impl.LeastWidth(pegsOf(c.text)); n != c.least || !ok {
			t.Error(c.text, n, ok)
		}
		if directions, ok := impl.DirectionsOfWidth(pegsOf(c.text)); !reflect.DeepEqual(directions, c.want) || !ok {
			t.Error(c.text, directions, ok)
		}
		if is, ok := impl.IsThin(pegsOf(c.text)); is != (c.least == 1) || !ok {
			t.Error(c.text, is, ok)
		}
	}
}

// narrowBy tries all told directions of the size that Cramer's rule allows for the ways from the first corner to two
// others, if these directions are not too many.
func narrowBy(l []Peg, most int) (int, bool) {
	a, b := less(l[1], l[0]), less(l[len(l)-1], l[0])
	area := size(cross(a, b))
	greatestU := most * (size(a.Y) + size(b.Y)) / area
	greatestV := most * (size(a.X) + size(b.X)) / area
	if greatestU*greatestV > 15000 {
		return 0, false
	}
	count := 0
	for u := range greatestU + 1 {
		for v := -greatestV; v <= greatestV; v++ {
			if widthBy(l, u, v) <= most && isReduced(u, v) && (u > 0 || v == 1) {
				count++
			}
		}
	}
	return count, true
}

func TestCountDirections(t *testing.T) {
	tried, most60 := 0, 0
	for _, d := range allDirected() {
		for _, most := range []int{0, 1, 2, 3, 7, 20, 59, 60} {
			want, can := narrowBy(d.corners, most)
			if !can {
				continue
			}
			if n, ok := impl.CountDirections(d.corners, most); n != want || !ok {
				t.Error(d.corners, most, n, ok, "not", want)
			}
			tried++
			if most == 60 && want > 0 {
				most60++
			}
		}
	}
	if tried < 1000 || most60 < 50 {
		t.Error(tried, most60)
	}
	for _, c := range []struct {
		text       string
		most, want int
	}{
		{"0,0 4,0 0,3", 0, 0}, {"0,0 4,0 0,3", 2, 0}, {"0,0 4,0 0,3", 3, 1}, {"0,0 4,0 0,3", 4, 3},
		{"0,0 2,1 1,1", 0, 0}, {"0,0 2,1 1,1", 1, 3}, {"0,0 2,1 1,1", 2, 6},
		{"-40,-40 40,-40 40,40 -40,40", 60, 0}, {"-30,-30 30,-30 30,30 -30,30", 60, 2},
		{"-30,-30 30,-30 30,30 -30,30", 59, 0}, {"-30,-30 30,-30 -30,30", 60, 3}, {"0,0 1,0 0,40", 1, 1},
		{"0,0 1,0 0,40", 2, 1}, {"0,0 1,0 0,40", 39, 1}, {"0,0 1,0 0,40", 40, 42},
	} {
		if n, ok := impl.CountDirections(pegsOf(c.text), c.most); n != c.want || !ok {
			t.Error(c.text, c.most, n, ok)
		}
	}
}

// TestCountGreatDirections: for empty triangles, and for parallelograms of two of these, directions of one width are
// three times, or twice, as many as numbers up to it that have no divisor in common with it, however great they are.
func TestCountGreatDirections(t *testing.T) {
	var coprime [61]int // for widths up to each number, together
	for n := 1; n <= 60; n++ {
		coprime[n] = coprime[n-1]
		for k := 1; k <= n; k++ {
			if isReduced(k, n) {
				coprime[n]++
			}
		}
	}
	for _, c := range []struct {
		text  string
		times int
	}{
		{"0,0 1,0 0,1", 3}, {"5,3 7,4 6,4", 3}, {"-40,-40 40,39 -39,-39", 3}, {"40,40 -40,-39 39,39", 3},
		{"-40,40 -39,39 39,-40", 3}, {"-40,-40 -39,40 -40,-39", 3}, {"0,0 1,0 1,1 0,1", 2},
		{"-40,-40 -39,-39 40,39 39,38", 2}, {"40,-40 -39,38 -40,39 39,-39", 2}, {"-40,0 0,1 1,1 -39,0", 2},
	} {
		l := pegsOf(c.text)
		for most := 0; most <= 60; most++ {
			if n, ok := impl.CountDirections(l, most); n != c.times*coprime[most] || !ok {
				t.Error(c.text, most, n, ok)
			}
		}
	}
}

// TestMovedWidths: moves change directions, but not how many have which width.
func TestMovedWidths(t *testing.T) {
	moved := 0
	for _, s := range slices.Concat(long, polygons) {
		l := pegsOf(s)
		least, _ := impl.LeastWidth(l)
		count, _ := impl.CountDirections(l, 60)
		for _, m := range moves {
			brought := bringAll(m, l)
			if !areSmall(brought) {
				continue
			}
			moved++
			if n, ok := impl.LeastWidth(brought); n != least || !ok {
				t.Error(s, m, n, ok)
			}
			if n, ok := impl.CountDirections(brought, 60); n != count || !ok {
				t.Error(s, m, n, ok)
			}
		}
	}
	if moved < 200 {
		t.Error(moved)
	}
}

// linesAcross counts the pegs of each line.
func linesAcross(d directed, u, v int) []int {
	values := valuesBy(d.corners, u, v)
	lines := make([]int, slices.Max(values)-slices.Min(values)+1)
	for _, value := range valuesBy(d.pegs, u, v) {
		lines[value-slices.Min(values)]++
	}
	return lines
}

// TestPegsPerLine also is promise 8: lines across share the pegs.
func TestPegsPerLine(t *testing.T) {
	without, backwards := 0, 0
	for i, d := range allDirected() {
		for k, way := range someDirections() {
			if (i+k)%4 > 0 && len(d.pegs) > 1000 {
				continue
			}
			want := linesAcross(d, way[0], way[1])
			lines, ok := impl.PegsPerLine(d.corners, way[0], way[1])
			if !slices.Equal(lines, want) || !ok {
				t.Error(d.corners, way, lines, ok)
			}
			if most, ok := impl.MostOnLine(d.corners, way[0], way[1]); most != slices.Max(want) || !ok {
				t.Error(d.corners, way, most, ok)
			}
			all, ok := impl.PegsInAll(d.corners)
			if all != len(d.pegs) || sumOf(lines) != all || !ok {
				t.Error(d.corners, way, all, ok)
			}
			if n, _ := impl.WidthIn(d.corners, way[0], way[1]); len(lines) != n+1 {
				t.Error(d.corners, way, n, len(lines))
			}
			if slices.Contains(want, 0) {
				without++
			}
			if way[0] < 0 && want[0] != want[len(want)-1] {
				backwards++
			}
		}
	}
	if without < 100 || backwards < 100 {
		t.Error(without, backwards)
	}
}

func TestPegsPerLineOfNamed(t *testing.T) {
	for _, c := range []struct {
		text string
		u, v int
		want []int
	}{
		{"0,0 4,0 0,3", 0, 1, []int{5, 3, 2, 1}},
		{"0,0 4,0 0,3", 0, -1, []int{1, 2, 3, 5}},
		{"0,0 4,0 0,3", 1, 0, []int{4, 3, 2, 1, 1}},
		{"0,0 4,0 0,3", -1, 0, []int{1, 1, 2, 3, 4}},
		{"0,0 4,0 0,3", 1, 1, []int{1, 2, 3, 4, 1}},
		{"0,0 0,3 4,0", 1, 1, []int{1, 2, 3, 4, 1}},
		{"0,0 1,0 0,1", 3, 2, []int{1, 0, 1, 1}},
		{"0,0 1,0 0,1", -3, -2, []int{1, 1, 0, 1}},
		{"0,0 1,0 0,1", 3, -2, []int{1, 0, 1, 0, 0, 1}},
		{"0,0 4,0 4,4 2,1 0,4", 0, 1, []int{5, 5, 4, 2, 2}},
		{"0,0 4,0 4,4 2,1 0,4", 1, 0, []int{5, 3, 2, 3, 5}},
		{"0,0 1,5 2,0 3,5 4,0 4,7 3,6 2,7 1,6 0,7", 0, 1, []int{3, 3, 3, 3, 3, 5, 5, 3}},
		{"-40,0 40,1 -39,1", 0, 1, []int{1, 80}},
		{"5,3 7,4 6,4", 1, -1, []int{2, 1}},
	} {
		lines, ok := impl.PegsPerLine(pegsOf(c.text), c.u, c.v)
		if !slices.Equal(lines, c.want) || !ok {
			t.Error(c.text, c.u, c.v, lines, ok)
		}
		if most, ok := impl.MostOnLine(pegsOf(c.text), c.u, c.v); most != slices.Max(c.want) || !ok {
			t.Error(c.text, c.u, c.v, most, ok)
		}
		if all, ok := impl.PegsInAll(pegsOf(c.text)); all != sumOf(c.want) || !ok {
			t.Error(c.text, all, ok)
		}
	}
	square := pegsOf("-40,-40 40,-40 40,40 -40,40")
	lines, ok := impl.PegsPerLine(square, 200, 199)
	if len(lines) != 31921 || sumOf(lines) != 6561 || slices.Max(lines) != 1 || !ok {
		t.Error(len(lines), ok)
	}
	if lines, ok := impl.PegsPerLine(square, 1, -1); len(lines) != 161 || lines[0] != 1 || lines[80] != 81 || !ok {
		t.Error(lines, ok)
	}
	if all, ok := impl.PegsInAll(square); all != 6561 || !ok {
		t.Error(all, ok)
	}
}

func TestSupportOf(t *testing.T) {
	count := map[int]int{}
	for _, d := range allDirected() {
		for _, way := range someDirections() {
			greatest := slices.Max(valuesBy(d.corners, way[0], way[1]))
			want := filtered(inOrderBy(d.corners), func(p Peg) bool { return dot(p, Peg{X: way[0], Y: way[1]}) == greatest })
			if support, ok := impl.SupportOf(d.corners, way[0], way[1]); !slices.Equal(support, want) || !ok {
				t.Error(d.corners, way, support, ok)
			}
			count[len(want)]++
		}
	}
	if count[1] < 1000 || count[2] < 100 || count[3] < 3 {
		t.Error(count)
	}
	for _, c := range []struct {
		text string
		u, v int
		want string
	}{
		{"0,0 4,0 0,3", 1, 1, "4,0"}, {"0,0 4,0 0,3", 3, 4, "0,3 4,0"}, {"4,0 0,0 0,3", 3, 4, "0,3 4,0"},
		{"0,0 4,0 0,3", -1, 0, "0,0 0,3"}, {"0,3 0,0 4,0", -1, 0, "0,0 0,3"}, {"0,0 4,0 0,3", 0, -1, "0,0 4,0"},
		{"0,0 4,0 0,3", -200, -1, "0,0"}, {"0,0 4,0 0,3", -1, 200, "0,3"},
		{"0,0 4,0 4,4 2,1 0,4", 0, 1, "0,4 4,4"}, {"0,0 4,0 4,4 2,1 0,4", 0, -1, "0,0 4,0"},
		{"0,0 1,5 2,0 3,5 4,0 4,7 3,6 2,7 1,6 0,7", 0, 1, "0,7 2,7 4,7"},
		{"4,0 4,7 3,6 2,7 1,6 0,7 0,0 1,5 2,0 3,5", 0, -1, "0,0 2,0 4,0"},
	} {
		if support, ok := impl.SupportOf(pegsOf(c.text), c.u, c.v); !slices.Equal(support, pegsOf(c.want)) || !ok {
			t.Error(c.text, c.u, c.v, support, ok)
		}
	}
}

// bySize are 0, 1, -1, 2, -2, up to 200.
var bySize = sync.OnceValue(func() []int {
	all := []int{0}
	for n := 1; n <= 200; n++ {
		all = append(all, n, -n)
	}
	return all
})

// flatBy tries A and B in the order in which the document chooses among them.
func flatBy(t *testing.T, d directed) (Move, bool) {
	m := Move{C: d.directions[0][0], D: d.directions[0][1]}
	for _, m.A = range bySize() {
		for _, m.B = range bySize() {
			if m.A*m.D-m.B*m.C == 1 {
				box := boxOf(bringAll(m, d.corners))
				m.X, m.Y = -box[0].X, -box[0].Y
				return m, isMove(m)
			}
		}
	}
	t.Fatal(d.corners, m)
	return Move{}, false
}

func TestFlat(t *testing.T) {
	count := map[[2]bool]int{}
	for _, d := range allDirected() {
		want, does := flatBy(t, d)
		flat := bringAll(want, d.corners)
		if !does {
			want = Move{}
		}
		if m, ok := impl.FlatMove(d.corners); m != want || ok != does {
			t.Error(d.corners, m, ok, "not", want)
		}
		fits := does && areSmall(flat)
		if !fits {
			flat = nil
		}
		laid, ok := impl.FlatPolygon(d.corners)
		if !slices.Equal(laid, flat) || ok != fits {
			t.Error(d.corners, laid, ok)
		}
		count[[2]bool{does, fits}]++
		if !ok {
			continue
		}
		if n, ok := impl.WidthIn(laid, 0, 1); n != d.least || !ok {
			t.Error(d.corners, laid, n, ok)
		}
		if least, _, ok := impl.BoxOf(laid); least != (Peg{}) || !ok {
			t.Error(d.corners, laid, least, ok)
		}
	}
	if count[[2]bool{true, true}] < 100 || count[[2]bool{true, false}] < 10 || count[[2]bool{false, false}] < 10 {
		t.Error(count)
	}
}

func TestFlatOfNamed(t *testing.T) {
	for _, c := range []struct {
		text string
		want Move   // none if it fails
		flat string // empty if it fails
	}{
		{"0,0 4,0 0,3", still, "0,0 4,0 0,3"},
		{"5,3 7,4 6,4", Move{A: 1, D: 1, X: -5, Y: -3}, "0,0 2,1 1,1"},
		{"-1,-1 0,1 1,0", Move{A: 1, D: 1, X: 1, Y: 1}, "0,0 1,2 2,1"},
		// C is 1, so A is 0.
		{"0,0 0,5 1,0", Move{B: -1, C: 1, X: 5}, "5,0 0,0 5,1"},
		{"0,0 1,0 10,5 1,1", Move{B: -1, C: 1, D: -2, X: 5, Y: 1}, "5,1 5,2 0,1 4,0"},
		// C is 2, so A is 1 or -1.
		{"0,0 5,10 1,1", Move{A: 1, B: -1, C: 2, D: -1, X: 5}, "5,0 0,0 5,1"},
		{"0,0 -5,10 -1,1", Move{A: 1, C: 2, D: 1, X: 5, Y: 1}, "5,1 0,1 4,0"},
		// C is 3 and 5.
		{"0,0 4,-6 1,-2", Move{A: -1, B: -1, C: 3, D: 2, Y: 1}, "0,1 2,1 1,0"},
		{"0,0 4,-10 1,-2", Move{A: -2, B: -1, C: 5, D: 2}, "0,0 2,0 0,1"},
		// All numbers of a move are met exactly, and are too great.
		{"0,0 2,40 1,19", Move{A: -1, C: 20, D: -1, X: 2}, "2,0 0,0 1,1"},
		{"-1,-20 1,22 0,0", Move{}, ""},
		{"0,0 40,2 1,0", Move{B: -1, C: 1, D: -20, X: 2}, "2,0 0,0 2,1"},
		{"-20,-1 22,1 2,0", Move{}, ""},
		{"-40,20 -36,22 -39,20", Move{B: -1, C: 1, D: -2, X: 22, Y: 80}, "2,0 0,0 2,1"},
		{"-39,21 -35,23 -38,21", Move{}, ""},
		{"40,-20 36,-22 39,-20", Move{B: -1, C: 1, D: -2, X: -20, Y: -79}, "0,1 2,1 0,0"},
		{"40,-21 36,-23 39,-21", Move{}, ""},
		// A corner becomes no peg.
		{"-20,0 20,0 -20,1", Move{A: 1, D: 1, X: 20}, "0,0 40,0 0,1"},
		{"-20,0 21,0 -20,1", Move{A: 1, D: 1, X: 20}, ""},
		{"-40,-40 40,-40 40,40 -40,40", Move{A: 1, D: 1, X: 40, Y: 40}, ""},
		{"0,0 40,0 40,40 0,40", still, "0,0 40,0 40,40 0,40"},
	} {
		l := pegsOf(c.text)
		m, ok := impl.FlatMove(l)
		if m != c.want || ok != (c.want != Move{}) {
			t.Error(c.text, m, ok)
		}
		if flat, ok := impl.FlatPolygon(l); !slices.Equal(flat, pegsOf(c.flat)) || ok != (c.flat != "") {
			t.Error(c.text, flat, ok)
		}
	}
}

// farthestBy compares all pairs of corners in order.
func farthestBy(l []Peg) (Peg, Peg, int) {
	var a, b Peg
	everyPair(inOrderBy(l), func(p, q Peg) {
		if far(p, q) > far(a, b) {
			a, b = p, q
		}
	})
	return a, b, far(a, b)
}

func TestFarthestCorners(t *testing.T) {
	for _, d := range allDirected() {
		for _, told := range tellings(d.corners) {
			a, b, square := farthestBy(told)
			if p, q, ok := impl.FarthestCorners(told); p != a || q != b || !ok {
				t.Error(told, p, q, ok)
			}
			if n, ok := impl.FarSquare(told); n != square || !ok {
				t.Error(told, n, ok)
			}
		}
	}
	for _, c := range []struct {
		text   string
		a, b   string
		square int
	}{
		{"0,0 4,0 0,3", "0,3", "4,0", 25},
		{"0,0 1,0 0,1", "0,1", "1,0", 2},
		{"2,2 0,2 0,0 2,0", "0,0", "2,2", 8},      // two pairs as far apart
		{"2,1 1,2 0,1 1,0", "0,1", "2,1", 4},      // the same
		{"0,5 3,4 4,3 5,0", "0,5", "5,0", 50},     // one pair alone
		{"0,0 3,4 4,3", "0,0", "3,4", 25},         // two pairs with one corner in common, the first one
		{"4,3 0,0 5,0", "0,0", "4,3", 25},         // the same
		{"0,3 1,0 5,3 1,6", "1,0", "1,6", 36},     // corners with one X
		{"0,4 3,0 6,4 3,8", "3,0", "3,8", 64},     // the same
		{"5,0 1,3 1,-3", "1,-3", "1,3", 36},       // the lesser one by Y
		{"0,0 4,0 4,4 2,1 0,4", "0,0", "4,4", 32}, // not convex
		{"0,0 0,4 2,1 4,4 4,0", "0,0", "4,4", 32}, // to the right
		{"-5,0 3,4 3,-4", "-5,0", "3,-4", 80},     // two pairs with the first corner
		{"5,0 -3,4 -3,-4", "-3,-4", "5,0", 80},    // two pairs with the last corner
		{"40,40 -40,40 40,-40", "-40,40", "40,-40", 12800},
	} {
		a, b, ok := impl.FarthestCorners(pegsOf(c.text))
		if a != pegsOf(c.a)[0] || b != pegsOf(c.b)[0] || !ok {
			t.Error(c.text, a, b, ok)
		}
		if n, ok := impl.FarSquare(pegsOf(c.text)); n != c.square || !ok {
			t.Error(c.text, n, ok)
		}
	}
}

func TestBoxOf(t *testing.T) {
	for _, d := range allDirected() {
		box := boxOf(d.corners)
		least, greatest, ok := impl.BoxOf(d.corners)
		if least != box[0] || greatest != box[len(box)-1] || !ok {
			t.Error(d.corners, least, greatest, ok)
		}
	}
	for _, c := range []struct{ text, least, greatest string }{
		{"0,0 4,0 0,3", "0,0", "4,3"},
		{"5,3 7,4 6,4", "5,3", "7,4"},
		{"1,0 2,1 1,2 0,1", "0,0", "2,2"},
		{"-40,0 40,1 -39,1", "-40,0", "40,1"},
		{"-3,-2 -1,-7 -9,-4", "-9,-7", "-1,-2"},
	} {
		least, greatest, ok := impl.BoxOf(pegsOf(c.text))
		if least != pegsOf(c.least)[0] || greatest != pegsOf(c.greatest)[0] || !ok {
			t.Error(c.text, least, greatest, ok)
		}
	}
}

// onDirections are all functions of the chapter that take a direction.
func onDirections() map[string]func(l []Peg, u, v int) (any, bool) {
	return map[string]func(l []Peg, u, v int) (any, bool){
		"WidthIn":     func(l []Peg, u, v int) (any, bool) { return pair(impl.WidthIn(l, u, v)) },
		"PegsPerLine": func(l []Peg, u, v int) (any, bool) { return pair(impl.PegsPerLine(l, u, v)) },
		"MostOnLine":  func(l []Peg, u, v int) (any, bool) { return pair(impl.MostOnLine(l, u, v)) },
		"SupportOf":   func(l []Peg, u, v int) (any, bool) { return pair(impl.SupportOf(l, u, v)) },
	}
}

// onWidths are all functions of the chapter that succeed for each polygon, with other arguments that are valid.
func onWidths() map[string]call {
	calls := map[string]call{
		"LeastWidth":        func(l []Peg) (any, bool) { return pair(impl.LeastWidth(l)) },
		"DirectionsOfWidth": func(l []Peg) (any, bool) { return pair(impl.DirectionsOfWidth(l)) },
		"CountDirections":   func(l []Peg) (any, bool) { return pair(impl.CountDirections(l, 60)) },
		"PegsInAll":         func(l []Peg) (any, bool) { return pair(impl.PegsInAll(l)) },
		"FarSquare":         func(l []Peg) (any, bool) { return pair(impl.FarSquare(l)) },
		"IsThin":            func(l []Peg) (any, bool) { return pair(impl.IsThin(l)) },
		"FarthestCorners": func(l []Peg) (any, bool) {
			a, b, ok := impl.FarthestCorners(l)
			return ends{a: a, b: b}, ok
		},
		"BoxOf": func(l []Peg) (any, bool) {
			least, greatest, ok := impl.BoxOf(l)
			return ends{a: least, b: greatest}, ok
		},
	}
	for name, on := range onDirections() {
		calls[name] = func(l []Peg) (any, bool) { return on(l, 1, 0) }
		calls[name+" not told"] = func(l []Peg) (any, bool) { return on(l, -2, 1) }
	}
	return calls
}

// onFlat are those that succeed for some.
func onFlat() map[string]call {
	return map[string]call{
		"FlatMove":    func(l []Peg) (any, bool) { return pair(impl.FlatMove(l)) },
		"FlatPolygon": func(l []Peg) (any, bool) { return pair(impl.FlatPolygon(l)) },
	}
}

func TestNoWidthFails(t *testing.T) {
	checkFailing(t, onWidths(), notPolygons)
	checkFailing(t, onFlat(), notPolygons)
	for name, on := range onDirections() {
		for _, way := range noDirections {
			calls := map[string]call{name: func(l []Peg) (any, bool) { return on(l, way[0], way[1]) }}
			checkFailing(t, calls, [][]Peg{pegsOf("0,0 4,0 0,3"), pegsOf("-40,-40 40,-40 40,40 -40,40"), nil})
		}
	}
	for _, most := range []int{-1, 61, -60, 1 << 32, 1<<32 + 1, -1 << 32, math.MaxInt, math.MinInt} {
		calls := map[string]call{"CountDirections": func(l []Peg) (any, bool) { return pair(impl.CountDirections(l, most)) }}
		checkFailing(t, calls, [][]Peg{pegsOf("0,0 4,0 0,3"), pegsOf("-40,-40 40,-40 40,40 -40,40"), nil})
	}
}

// TestWidePolygonsAreKept is promise 11 for polygons.
func TestWidePolygonsAreKept(t *testing.T) {
	checkKept(t, onWidths(), polygons)
	var flat []string
	for _, s := range slices.Concat(long, polygons) {
		if _, ok := impl.FlatPolygon(pegsOf(s)); ok {
			flat = append(flat, s)
		}
	}
	if len(flat) < 15 {
		t.Error(flat)
	}
	checkKept(t, onFlat(), flat)
}
