package tests

import (
	"math"
	"math/rand/v2"
	"reflect"
	"slices"
	"testing"

	"loop.example/g01259/impl"
)

// round are 30 pegs that are all corners of their band, told from the first one to the left.
const round = "-30,-4 -29,-7 -27,-11 -24,-15 -20,-19 -16,-22 -12,-24 -7,-26 -2,-27 0,-27 5,-26 10,-24 14,-22 " +
	"18,-19 22,-15 25,-11 27,-7 28,-4 28,2 27,6 25,10 21,15 16,19 12,21 7,23 2,24 -12,20 -20,14 -28,4 -30,-2"

// pegLists are valid ones of all sorts: a peg alone, pegs on one straight line, pegs on the band that are no corners,
// more corners than a polygon has, many layers, and the limits met exactly.
var pegLists = []string{
	"0,0",
	"-40,40",
	"3,1 -2,4",
	"0,0 0,-1",
	"0,0 0,7 0,3",
	"6,3 2,1 4,2 -2,-1",
	"-40,-40 40,40 0,0",
	"40,7 -40,7",
	"0,0 4,0 0,4",
	"0,0 4,0 0,4 1,1 2,0",
	"1,0 0,1 0,0 1,1",
	"40,-40 -40,-40 40,40 -40,40",
	"0,0 6,0 6,6 0,6 3,0 6,3 3,6 0,3 3,3",
	"0,0 9,0 9,9 0,9 1,1 8,1 8,8 1,8 2,2 7,2 7,7 2,7 3,3 6,3 6,6 3,6 4,4 5,4 5,5 4,5",
	"1,0 2,0 3,0 4,0 5,0 6,0 7,0 8,0 9,0 10,0 11,0 12,0 13,0 14,0 15,0 16,0 17,0 18,0 19,0 20,0 21,0 22,0 23,0 24,0 25,0 " +
		"26,0 27,0 28,0 29,0 30,0",
	"0,0 1,5 2,0 3,5 4,0 4,7 3,6 2,7 1,6 0,7 2,3 -3,1",
	"-3,0 -2,-2 0,-3 2,-2 3,0 2,2 1,3 0,3 -2,2 -3,1 -1,-3 4,1",
	round,
}

// notPegLists are lists that are none.
func notPegLists() [][]Peg {
	none := [][]Peg{
		nil,
		{},
		pegsOf("0,0 0,0"),
		pegsOf("0,0 1,0 0,1 0,0"),
		pegsOf("0,0 4,0 0,4 1,1 1,1"),
		pegsOf("0,0 4,0 0,4 1,1 4,0 5,5"),
		append(pegsOf(round)[:29], Peg{X: -30, Y: -4}),
		append(pegsOf(round)[:9], Peg{X: -7, Y: -26}),
		append(pegsOf(round), Peg{}),
		append(pegsOf(round), Peg{X: -30, Y: -4}),
		make([]Peg, 31),
		make([]Peg, 1000),
		{{X: math.MinInt, Y: 0}, {X: math.MaxInt, Y: 0}, {X: 0, Y: math.MaxInt}},
		{{X: 1 << 32}, {X: 0}},
	}
	for _, p := range notPegs {
		none = append(none, []Peg{p}, []Peg{{}, p}, []Peg{p, {X: 4}, {Y: 4}, {X: 1, Y: 1}}, []Peg{{}, {X: 4}, {Y: 4}, p})
	}
	return none
}

// everySet calls f with each set of pegs of a board of 3 by 3, in this order or that one.
func everySet(f func([]Peg)) {
	mix := rand.New(rand.NewPCG(4, 11))
	for bits := 1; bits < 512; bits++ {
		var l []Peg
		for k := range 9 {
			if bits>>k%2 == 1 {
				l = append(l, Peg{X: k / 3, Y: k % 3})
			}
		}
		mix.Shuffle(len(l), func(i, k int) { l[i], l[k] = l[k], l[i] })
		f(l)
	}
}

// someLists calls f with lists of each number of pegs up to most, from boards of several sizes.
func someLists(most int, f func([]Peg)) {
	mix := rand.New(rand.NewPCG(5, uint64(most)))
	for n := 1; n <= most; n++ {
		for _, far := range []int{3, 4, 6, 10, 40} {
			l := make([]Peg, 0, n)
			for len(l) < n {
				p := Peg{X: mix.IntN(2*far+1) - far, Y: mix.IntN(2*far+1) - far}
				if !slices.Contains(l, p) {
					l = append(l, p)
				}
			}
			f(l)
		}
	}
}

// allLists calls f with all of these and with those that have names.
func allLists(f func([]Peg)) {
	everySet(f)
	someLists(30, f)
	for _, s := range pegLists {
		f(pegsOf(s))
	}
}

// inThree: p is in the triangle, the line or the peg of the three, which may be the same ones.
func inThree(a, b, c, p Peg) bool {
	if onLine(a, b, p) || onLine(b, c, p) || onLine(c, a, p) {
		return true
	}
	u, v, w := cross(less(a, p), less(b, p)), cross(less(b, p), less(c, p)), cross(less(c, p), less(a, p))
	return u > 0 && v > 0 && w > 0 || u < 0 && v < 0 && w < 0
}

// inSome: p is in a band exactly if it is in a triangle of three of its pegs.
func inSome(l []Peg, p Peg) bool {
	for i, a := range l {
		for k, b := range l[:i+1] {
			for _, c := range l[:k+1] {
				if inThree(a, b, c, p) {
					return true
				}
			}
		}
	}
	return false
}

// isSide: no peg is to the right of the line from a to b.
func isSide(l []Peg, a, b Peg) bool {
	return !slices.ContainsFunc(l, func(p Peg) bool { return cross(less(b, a), less(p, a)) < 0 })
}

// onBand: p is between two pegs that have all others on one side, or the only one.
func onBand(l []Peg, p Peg) bool {
	for _, a := range l {
		for _, b := range l {
			if onLine(a, b, p) && isSide(l, a, b) {
				if a != b || len(l) == 1 {
					return true
				}
			}
		}
	}
	return false
}

// cornersOf are the pegs that are not in the band of the others, in order.
func cornersOf(l []Peg) []Peg {
	var corners []Peg
	for i, p := range l {
		if !inSome(slices.Concat(l[:i], l[i+1:]), p) {
			corners = append(corners, p)
		}
	}
	slices.SortFunc(corners, byOrder)
	return corners
}

// bandBy goes from each corner to the one that has all others on the left.
func bandBy(l []Peg) []Peg {
	corners := cornersOf(l)
	band := corners[:1:1]
	for len(band) < len(corners) {
		from := band[len(band)-1]
		next := slices.IndexFunc(corners, func(p Peg) bool { return p != from && isSide(corners, from, p) })
		band = append(band, corners[next])
	}
	return band
}

func inOrderBy(l []Peg) []Peg {
	return slices.SortedFunc(slices.Values(l), byOrder)
}

func filtered(l []Peg, is func(Peg) bool) []Peg {
	var kept []Peg
	for _, p := range l {
		if is(p) {
			kept = append(kept, p)
		}
	}
	return kept
}

func layersBy(l []Peg) [][]Peg {
	var layers [][]Peg
	for rest := inOrderBy(l); len(rest) > 0; {
		layer := filtered(rest, func(p Peg) bool { return onBand(rest, p) })
		layers = append(layers, layer)
		rest = filtered(rest, func(p Peg) bool { return !slices.Contains(layer, p) })
	}
	return layers
}

func TestAreDifferent(t *testing.T) {
	allLists(func(l []Peg) {
		if !impl.AreDifferent(l) {
			t.Error(l, "are pegs")
		}
	})
	for n := 1; n <= 3; n++ {
		lists(n, func(l []Peg) {
			sorted := slices.Compact(inOrderBy(l))
			if are := impl.AreDifferent(l); are != (len(sorted) == n) {
				t.Error(l, are)
			}
		})
	}
	for _, l := range notPegLists() {
		if impl.AreDifferent(l) {
			t.Error(l, "are no pegs")
		}
	}
}

func TestBandOf(t *testing.T) {
	most := 0
	allLists(func(l []Peg) {
		want := bandBy(l)
		if band, ok := impl.BandOf(l); !slices.Equal(band, want) || !ok {
			t.Error(l, band, ok, want)
		}
		most = max(most, len(want))
	})
	if most != 30 {
		t.Error("at most", most, "corners")
	}
	for _, c := range []struct{ pegs, want string }{
		{"0,0 4,0 0,4 1,1 2,0", "0,0 4,0 0,4"},
		{"7,-3", "7,-3"},
		{"3,1 -2,4", "-2,4 3,1"},
		{"0,7 0,0 0,3", "0,0 0,7"},
		{"6,3 2,1 4,2 -2,-1", "-2,-1 6,3"},
		{"2,2 0,2 2,0 0,0 1,1", "0,0 2,0 2,2 0,2"},
		{"0,4 4,0 0,0", "0,0 4,0 0,4"},
		{"0,0 6,0 6,6 0,6 3,0 6,3 3,6 0,3 3,3", "0,0 6,0 6,6 0,6"},
		{"40,40 40,-40 -40,40 -40,-40", "-40,-40 40,-40 40,40 -40,40"},
	} {
		if band, ok := impl.BandOf(pegsOf(c.pegs)); !slices.Equal(band, pegsOf(c.want)) || !ok {
			t.Error(c.pegs, band, ok)
		}
	}
	back := pegsOf(round)
	slices.Reverse(back)
	if band, ok := impl.BandOf(back); !slices.Equal(band, pegsOf(round)) || !ok {
		t.Error("to the right", band, ok)
	}
}

// TestBandHasAll is promise 4 for bands: they have all pegs, turn to the left alone, and have no corners but pegs.
func TestBandHasAll(t *testing.T) {
	allLists(func(l []Peg) {
		band, ok := impl.BandOf(l)
		n := len(band)
		if !ok || n == 0 || band[0] != inOrderBy(l)[0] || len(filtered(band, func(p Peg) bool { return slices.Contains(l, p) })) != n {
			t.Fatal(l, band, ok)
		}
		for i, a := range band {
			b, c := band[(i+1)%n], band[(i+2)%n]
			if n > 2 && (cross(less(b, a), less(c, b)) <= 0 || !isSide(l, a, b)) {
				t.Error(l, band, "at", b)
			}
		}
		for _, p := range l {
			if in, ok := impl.InBand(l, p); !in || !ok || n < 3 && !onLine(band[0], band[n-1], p) {
				t.Error(l, band, "without", p)
			}
		}
	})
}

func TestPegsOfBand(t *testing.T) {
	more := 0
	allLists(func(l []Peg) {
		want := filtered(inOrderBy(l), func(p Peg) bool { return onBand(l, p) })
		if on, ok := impl.PegsOfBand(l); !slices.Equal(on, want) || !ok {
			t.Error(l, on, ok, want)
		}
		if band, _ := impl.BandOf(l); len(want) > len(band) {
			more++
		}
	})
	if more < 50 {
		t.Error("only", more, "bands have pegs that are no corners")
	}
	for _, c := range []struct{ pegs, want string }{
		{"0,0 4,0 0,4 1,1 2,0", "0,0 0,4 2,0 4,0"},
		{"0,7 0,0 0,3", "0,0 0,3 0,7"},
		{"7,-3", "7,-3"},
		{"2,2 1,1 0,4 0,0 4,0 1,3", "0,0 0,4 1,3 2,2 4,0"},
	} {
		if on, ok := impl.PegsOfBand(pegsOf(c.pegs)); !slices.Equal(on, pegsOf(c.want)) || !ok {
			t.Error(c.pegs, on, ok)
		}
	}
}

// TestLayers is promise 4 for layers: each peg is in one of them.
func TestLayers(t *testing.T) {
	most := 0
	allLists(func(l []Peg) {
		layers, ok := impl.LayersOf(l)
		if want := layersBy(l); !reflect.DeepEqual(layers, want) || !ok {
			t.Error(l, layers, ok, want)
		}
		if all := slices.Concat(layers...); !slices.Equal(inOrderBy(all), inOrderBy(l)) {
			t.Error(l, "are not all of", layers)
		}
		for _, p := range l {
			n, ok := impl.LayerOfPeg(l, p)
			if !ok || n < 1 || n > len(layers) || !slices.Contains(layers[n-1], p) {
				t.Error(l, p, n, ok)
			}
		}
		most = max(most, len(layers))
	})
	if most != 5 {
		t.Error("at most", most, "layers")
	}
	layers, ok := impl.LayersOf(pegsOf("0,0 4,0 0,4 1,1 2,0"))
	if want := [][]Peg{pegsOf("0,0 0,4 2,0 4,0"), pegsOf("1,1")}; !reflect.DeepEqual(layers, want) || !ok {
		t.Error(layers, ok)
	}
	layers, ok = impl.LayersOf(pegsOf("2,2 3,2 1,2 5,5 5,-1 -1,5 -1,-1 2,-1"))
	if want := [][]Peg{pegsOf("-1,-1 -1,5 2,-1 5,-1 5,5"), pegsOf("1,2 2,2 3,2")}; !reflect.DeepEqual(layers, want) || !ok {
		t.Error("the last layer is a line", layers, ok)
	}
}

func TestLayerOfPeg(t *testing.T) {
	l := pegsOf("0,0 4,0 0,4 1,1 2,0")
	for p, want := range map[Peg]int{{}: 1, {X: 4}: 1, {Y: 4}: 1, {X: 2}: 1, {X: 1, Y: 1}: 2} {
		if n, ok := impl.LayerOfPeg(l, p); n != want || !ok {
			t.Error(p, n, ok)
		}
	}
	// in the band, or on it, but not of the list
	for _, p := range append(pegsOf("1,2 1,0 3,0 0,1 5,5 -1,0 40,40"), notPegs...) {
		if n, ok := impl.LayerOfPeg(l, p); n != 0 || ok {
			t.Error(p, n, ok)
		}
	}
	if n, ok := impl.LayerOfPeg(append(l, Peg{X: 41}), Peg{X: 41}); n != 0 || ok {
		t.Error("no peg", n, ok)
	}
	if n, ok := impl.LayerOfPeg(nil, Peg{}); n != 0 || ok {
		t.Error("no pegs", n, ok)
	}
}

func TestInBand(t *testing.T) {
	everySet(func(l []Peg) {
		for x := -1; x <= 3; x++ {
			for y := -1; y <= 3; y++ {
				p := Peg{X: x, Y: y}
				if in, ok := impl.InBand(l, p); in != inSome(l, p) || !ok {
					t.Error(l, p, in, ok)
				}
			}
		}
	})
	someLists(9, func(l []Peg) {
		for _, p := range pegsOf("0,0 1,-2 -3,3 2,5 -7,1 12,9 -40,40 20,-15") {
			if in, ok := impl.InBand(l, p); in != inSome(l, p) || !ok {
				t.Error(l, p, in, ok)
			}
		}
	})
	for _, c := range []struct {
		pegs, peg string
		want      bool
	}{
		{"0,0", "0,0", true}, {"0,0", "0,1", false}, {"0,0", "40,0", false}, {"5,0", "4,0", false},
		{"0,0 4,2", "2,1", true}, {"0,0 4,2", "4,2", true}, {"0,0 4,2", "6,3", false}, {"0,0 4,2", "-2,-1", false},
		{"0,0 4,2", "2,0", false}, {"0,0 4,2", "1,1", false}, {"0,4 0,0 0,2", "0,3", true}, {"0,4 0,0 0,2", "0,5", false},
		{"0,4 0,0 0,2", "1,2", false}, {"4,0 0,0", "2,0", true}, {"4,0 0,0", "5,0", false}, {"4,0 0,0", "-1,0", false},
		{"0,0 4,0 0,4", "2,2", true}, {"0,0 4,0 0,4", "3,2", false}, {"0,0 4,0 0,4", "1,2", true},
		{"0,0 4,0 0,4", "5,0", false}, {"0,0 4,0 0,4", "5,-1", false}, {round, "0,0", true}, {round, "28,4", false},
		{"-40,-40 40,40 -40,40", "0,0", true}, {"-40,-40 40,40 -40,40", "1,0", false},
	} {
		if in, ok := impl.InBand(pegsOf(c.pegs), pegsOf(c.peg)[0]); in != c.want || !ok {
			t.Error(c.pegs, c.peg, in, ok)
		}
	}
	for _, p := range notPegs {
		if in, ok := impl.InBand(pegsOf("-40,-40 40,-40 40,40 -40,40"), p); in || ok {
			t.Error(p, in, ok)
		}
	}
}

// countBy counts the pegs that are to the right of no line of the band.
func countBy(band []Peg) int {
	count := 0
	everyPeg(func(p Peg) {
		in := len(band) > 2 || onLine(band[0], band[len(band)-1], p)
		for i, a := range band {
			in = in && cross(less(band[(i+1)%len(band)], a), less(p, a)) >= 0
		}
		if in {
			count++
		}
	})
	return count
}

func TestAreaAndCountOfBand(t *testing.T) {
	allLists(func(l []Peg) {
		band := bandBy(l)
		if twice, ok := impl.TwiceBand(l); twice != fan(band) || !ok {
			t.Error(l, twice, ok)
		}
		if count, ok := impl.CountInBand(l); count != countBy(band) || !ok {
			t.Error(l, count, ok)
		}
	})
	for _, c := range []struct {
		pegs         string
		twice, count int
	}{
		{"0,0 4,0 0,4 1,1 2,0", 16, 15}, {"7,-3", 0, 1}, {"0,0 1,0", 0, 2}, {"0,0 4,2", 0, 3}, {"0,3 0,-4 0,0", 0, 8},
		{"-40,-40 40,40 0,0", 0, 81}, {"-40,-40 40,39", 0, 2}, {"0,0 1,0 0,1", 1, 3},
		{"40,-40 -40,-40 40,40 -40,40", 12800, 6561}, {"0,0 40,1 39,1", 1, 3},
	} {
		if twice, ok := impl.TwiceBand(pegsOf(c.pegs)); twice != c.twice || !ok {
			t.Error(c.pegs, twice, ok)
		}
		if count, ok := impl.CountInBand(pegsOf(c.pegs)); count != c.count || !ok {
			t.Error(c.pegs, count, ok)
		}
	}
}

func TestJoinBands(t *testing.T) {
	var all [][]Peg
	for _, s := range pegLists {
		all = append(all, pegsOf(s))
	}
	someLists(20, func(l []Peg) { all = append(all, l) })
	fails, common := 0, 0
	for i, p := range all {
		for _, q := range all[:min(len(all), i+20)] {
			joined := slices.Compact(inOrderBy(slices.Concat(p, q)))
			does := len(joined) <= 30
			var want []Peg
			if does {
				want = bandBy(bandBy(joined))
			} else {
				fails++
			}
			if len(joined) < len(p)+len(q) {
				common++
			}
			if band, ok := impl.JoinBands(p, q); !slices.Equal(band, want) || ok != does {
				t.Error(p, q, band, ok, want)
			}
		}
	}
	if fails < 100 || common < 100 {
		t.Error(fails, "fail,", common, "have pegs in common")
	}
}

func TestJoinedBandsMeetLimits(t *testing.T) {
	l := pegsOf(round)
	for _, c := range []struct {
		p, q []Peg
		want bool
	}{
		{l, l, true}, {l, l[:1], true}, {l[7:8], l, true}, {l[:15], l[15:], true}, {l[:29], l[29:], true}, {l[:20], l[10:], true},
		{l, pegsOf("0,0"), false}, {pegsOf("0,0"), l, false}, {l, pegsOf("40,40 -30,-4"), false},
		{l[1:], append(l[20:], Peg{}), true}, {l[1:], append(l[20:], Peg{}, Peg{X: 1}), false},
	} {
		band, ok := impl.JoinBands(c.p, c.q)
		if ok != c.want || !ok && len(band) != 0 || ok && band[0] != inOrderBy(slices.Concat(c.p, c.q))[0] {
			t.Error(c.p, c.q, band, ok)
		}
	}
	if band, ok := impl.JoinBands(l[:15], l[15:]); !slices.Equal(band, l) || !ok {
		t.Error(band, ok)
	}
	for _, c := range []struct{ p, q, want string }{
		{"0,0", "0,0", "0,0"}, {"3,0", "1,0", "1,0 3,0"}, {"0,0 4,0", "2,0", "0,0 4,0"}, {"0,0 4,0", "2,1", "0,0 4,0 2,1"},
		{"0,0 4,0 0,4", "1,1 5,5", "0,0 4,0 5,5 0,4"}, {"1,1 2,1", "0,0 4,0 0,4 1,1", "0,0 4,0 0,4"},
		{"0,0 4,0 0,4 1,1", "0,0 4,0 0,4 1,1", "0,0 4,0 0,4"},
	} {
		if band, ok := impl.JoinBands(pegsOf(c.p), pegsOf(c.q)); !slices.Equal(band, pegsOf(c.want)) || !ok {
			t.Error(c.p, c.q, band, ok)
		}
	}
}

// tangentsBy looks for the corners as the document tells them.
func tangentsBy(l []Peg, p Peg) (Peg, Peg, bool) {
	band := bandBy(l)
	if len(band) < 3 || inSome(band, p) {
		return Peg{}, Peg{}, false
	}
	nearest := func(side int) Peg {
		all := filtered(band, func(c Peg) bool {
			return !slices.ContainsFunc(band, func(q Peg) bool { return side*cross(less(c, p), less(q, p)) < 0 })
		})
		return slices.MinFunc(all, func(c, d Peg) int { return dot(less(c, p), less(c, p)) - dot(less(d, p), less(d, p)) })
	}
	return nearest(1), nearest(-1), true
}

func TestTangentsFrom(t *testing.T) {
	does := 0
	allLists(func(l []Peg) {
		for _, p := range pegsOf("0,3 3,0 -1,0 -1,2 3,3 1,4 4,2 0,0 1,1 2,-1 40,40 -40,40 -40,-40 7,-9 -13,0 0,20 -40,0") {
			c, d, ok := impl.TangentsFrom(l, p)
			if left, right, is := tangentsBy(l, p); c != left || d != right || ok != is {
				t.Error(l, p, c, d, ok, left, right)
			}
			if ok {
				does++
			}
		}
	})
	if does < 1000 {
		t.Error(does)
	}
	for _, c := range []struct{ pegs, peg, want string }{ // want is empty if it fails
		{"0,0 4,0 0,4 1,1 2,0", "5,5", "0,4 4,0"},
		{"0,0 4,0 0,4", "6,0", "0,4 4,0"},
		{"0,0 4,0 0,4", "-3,0", "0,0 0,4"},
		{"0,0 4,0 0,4", "0,-1", "4,0 0,0"},
		{"0,0 4,0 0,4", "0,7", "0,4 4,0"},
		{"0,0 4,0 0,4", "5,-1", "4,0 0,0"},
		{"0,0 4,0 0,4", "6,-1", "0,4 0,0"},
		{"0,0 4,0 4,4 0,4", "8,0", "4,4 4,0"},
		{"0,0 4,0 4,4 0,4", "8,8", "0,4 4,0"},
		{"0,0 4,0 4,4 0,4", "-4,4", "0,0 0,4"},
		{"0,0 4,0 4,4 0,4 2,0 2,4", "6,0", "4,4 4,0"},
		{"0,0 1,0 0,1", "1,1", "0,1 1,0"},
		{"0,0 4,0 0,4", "1,1", ""},
		{"0,0 4,0 0,4", "2,2", ""},
		{"0,0 4,0 0,4", "3,0", ""},
		{"0,0 4,0 0,4", "0,4", ""},
		{"0,0", "1,0", ""},
		{"0,0", "0,0", ""},
		{"0,0 4,0", "2,2", ""},
		{"0,0 4,0 2,0", "5,0", ""},
	} {
		want := append(pegsOf(c.want), Peg{}, Peg{})
		if left, right, ok := impl.TangentsFrom(pegsOf(c.pegs), pegsOf(c.peg)[0]); left != want[0] || right != want[1] || ok != (c.want != "") {
			t.Error(c.pegs, c.peg, left, right, ok)
		}
	}
	for _, p := range notPegs {
		if c, d, ok := impl.TangentsFrom(pegsOf("0,0 4,0 0,4"), p); c != (Peg{}) || d != (Peg{}) || ok {
			t.Error(p, c, d, ok)
		}
	}
}

func TestFarthestApart(t *testing.T) {
	several := 0
	allLists(func(l []Peg) {
		var a, b Peg
		far, pairs := 0, 0
		for _, p := range l {
			for _, q := range l {
				square := dot(less(p, q), less(p, q))
				if byOrder(p, q) >= 0 || square < far {
					continue
				}
				pairs++
				if square > far {
					a, b, far, pairs = p, q, square, 1
				} else if byOrder(p, a) < 0 || p == a && byOrder(q, b) < 0 {
					a, b = p, q
				}
			}
		}
		if pairs > 1 {
			several++
		}
		if p, q, n, ok := impl.FarthestApart(l); p != a || q != b || n != far || ok != (len(l) > 1) {
			t.Error(l, p, q, n, ok)
		}
	})
	if several < 100 {
		t.Error(several)
	}
	for _, c := range []struct {
		pegs, want string
		square     int
	}{
		{"0,0 4,0 0,4 1,1 2,0", "0,4 4,0", 32}, {"3,1 -2,4", "-2,4 3,1", 34}, {"2,2 0,2 2,0 0,0", "0,0 2,2", 8},
		{"0,5 3,4 4,3 0,0", "0,0 0,5", 25}, {"0,0 5,0 3,4 4,3", "0,0 3,4", 25}, {"40,40 -40,40 -40,-40 40,-40", "-40,-40 40,40", 12800},
		{"0,9 0,1 0,4", "0,1 0,9", 64}, {"0,0 1,0 0,1", "0,1 1,0", 2},
	} {
		want := pegsOf(c.want)
		if p, q, n, ok := impl.FarthestApart(pegsOf(c.pegs)); p != want[0] || q != want[1] || n != c.square || !ok {
			t.Error(c.pegs, p, q, n, ok)
		}
	}
}

func TestAreConvex(t *testing.T) {
	does := 0
	allLists(func(l []Peg) {
		want := len(cornersOf(l)) == len(l)
		if are, ok := impl.AreConvex(l); are != want || !ok {
			t.Error(l, are, ok)
		}
		if want {
			does++
		}
	})
	if does < 100 {
		t.Error(does)
	}
	for s, want := range map[string]bool{
		"0,0": true, "0,0 5,5": true, "0,0 1,0 2,0": false, "0,0 1,0 0,1": true, "0,0 4,0 0,4 1,1": false,
		"0,0 4,0 0,4 2,0": false, "0,0 0,4 4,0 4,4": true, round: true,
	} {
		if are, ok := impl.AreConvex(pegsOf(s)); are != want || !ok {
			t.Error(s, are, ok)
		}
	}
}

// setsBy calls f with each set of the pegs, in order, and the sets in lexicographic order.
func setsBy(l []Peg, f func([]Peg)) {
	var set []Peg
	var grow func([]Peg)
	grow = func(rest []Peg) {
		for i, p := range rest {
			set = append(set, p)
			f(set)
			grow(rest[i+1:])
			set = set[:len(set)-1]
		}
	}
	grow(inOrderBy(l))
}

// turnsLeft: a list in this order or another one is the corners of a convex polygon, or less than three pegs.
func turnsLeft(l []Peg) bool {
	sum := Peg{}
	for _, p := range l {
		sum = Peg{X: sum.X + p.X, Y: sum.Y + p.Y}
	}
	// The middle of them is inside, so they go around it.
	angle := func(p Peg) float64 { return math.Atan2(float64(len(l)*p.Y-sum.Y), float64(len(l)*p.X-sum.X)) }
	around := slices.SortedFunc(slices.Values(l), func(p, q Peg) int {
		if angle(p) < angle(q) {
			return -1
		}
		return 1
	})
	for i, a := range around {
		b, c := around[(i+1)%len(l)], around[(i+2)%len(l)]
		if len(l) > 2 && cross(less(b, a), less(c, b)) <= 0 {
			return false
		}
	}
	return true
}

func checkSets(t *testing.T, l []Peg) {
	t.Helper()
	fours := 0
	var most []Peg
	setsBy(l, func(set []Peg) {
		if !turnsLeft(set) {
			return
		}
		if len(set) == 4 {
			fours++
		}
		if len(set) > len(most) {
			most = slices.Clone(set)
		}
	})
	if n, ok := impl.CountConvexFours(l); n != fours || !ok {
		t.Error(l, n, ok, fours)
	}
	if set, ok := impl.MostConvex(l); !slices.Equal(set, most) || !ok {
		t.Error(l, set, ok, most)
	}
}

func TestConvexSets(t *testing.T) {
	everySet(func(l []Peg) { checkSets(t, l) })
	someLists(12, func(l []Peg) { checkSets(t, l) })
	for _, c := range []struct {
		pegs  string
		fours int
		most  string
	}{
		{"0,0 4,0 0,4 1,1 2,0", 1, "0,4 1,1 2,0 4,0"},
		{"7,-3", 0, "7,-3"},
		{"3,1 -2,4", 0, "-2,4 3,1"},
		{"0,7 0,0 0,3", 0, "0,0 0,3"},
		{"1,0 2,0 3,0 4,0 5,0 6,0 7,0 8,0 9,0 10,0 11,0 12,0", 0, "1,0 2,0"},
		{"0,0 1,0 0,1", 0, "0,0 0,1 1,0"},
		{"0,0 0,1 1,0 1,1", 1, "0,0 0,1 1,0 1,1"},
		{"0,0 4,0 0,4 1,1", 0, "0,0 0,4 1,1"},
		{"1,4 3,3 4,1 4,-1 3,-3 1,-4 -1,-4 -3,-3 -4,-1 -4,1 -3,3 -1,4", 495,
			"-4,-1 -4,1 -3,-3 -3,3 -1,-4 -1,4 1,-4 1,4 3,-3 3,3 4,-1 4,1"},
		{"-40,-40 40,-40 40,40 -40,40 0,0", 1, "-40,-40 -40,40 40,-40 40,40"},
	} {
		l := pegsOf(c.pegs)
		if n, ok := impl.CountConvexFours(l); n != c.fours || !ok {
			t.Error(c.pegs, n, ok)
		}
		if set, ok := impl.MostConvex(l); !slices.Equal(set, pegsOf(c.most)) || !ok {
			t.Error(c.pegs, set, ok)
		}
	}
}

// TestTooManyForSets: 12 pegs are the limit, and more fail, though they are pegs.
func TestTooManyForSets(t *testing.T) {
	for n := 1; n <= 30; n++ {
		l := pegsOf(round)[:n]
		fours, four := impl.CountConvexFours(l)
		set, most := impl.MostConvex(l)
		if four != (n <= 12) || most != (n <= 12) {
			t.Error(n, four, most)
		}
		if n > 12 && (fours != 0 || len(set) != 0) {
			t.Error(n, fours, set)
		}
		if n <= 12 && (fours != n*(n-1)*(n-2)*(n-3)/24 || !slices.Equal(set, inOrderBy(l))) {
			t.Error(n, fours, set)
		}
	}
}

// halvingBy tries all threes, and then all lines.
func halvingBy(l []Peg) (int, bool) {
	if len(l)%2 != 0 {
		return 0, false
	}
	sides := map[[2]Peg]int{}
	for _, a := range l {
		for _, b := range l {
			for _, c := range l {
				turn := cross(less(b, a), less(c, a))
				if a != b && b != c && c != a && turn == 0 {
					return 0, false
				}
				if byOrder(a, b) < 0 {
					sides[[2]Peg{a, b}] += max(min(turn, 1), -1)
				}
			}
		}
	}
	lines := 0
	for _, more := range sides {
		if more == 0 {
			lines++
		}
	}
	return lines, true
}

func TestHalvingLines(t *testing.T) {
	does, fails := 0, 0
	check := func(l []Peg) {
		want, is := halvingBy(l)
		if n, ok := impl.HalvingLines(l); n != want || ok != is {
			t.Error(l, n, ok, want)
		}
		if is {
			does++
		} else if len(l)%2 == 0 {
			fails++
		}
	}
	allLists(check)
	for n := 1; n <= 30; n++ {
		check(pegsOf(round)[:n])
		check(pegsOf(round)[30-n:])
	}
	if does < 100 || fails < 100 {
		t.Error(does, fails)
	}
	for _, c := range []struct {
		pegs string
		want int
		is   bool
	}{
		{"0,0 4,1", 1, true}, {"0,0", 0, false}, {"0,0 4,0 0,4", 0, false}, {"0,0 0,1 1,0 1,1", 2, true}, {"0,0 4,0 0,4 1,1", 3, true},
		{"0,0 4,0 0,4 2,0", 0, false}, {"0,0 4,0 0,4 2,2", 0, false}, {"0,0 4,0 0,4 1,1 3,3", 0, false},
		{"0,0 3,0 6,0 9,0", 0, false}, {"0,0 2,-1 4,0 4,3 2,4 0,3", 3, true}, {round, 15, true},
		{"0,0 30,1 14,27 12,7 16,8 14,12", 6, true}, {"40,40 -40,40 40,-40 -40,-40", 2, true},
		{"40,40 -40,40 40,-40 -40,-40 0,0 1,3", 0, false},
	} {
		if n, ok := impl.HalvingLines(pegsOf(c.pegs)); n != c.want || ok != c.is {
			t.Error(c.pegs, n, ok)
		}
	}
}

// starBy sorts the others by their angles.
func starBy(l []Peg) ([]Peg, bool) {
	star := inOrderBy(l)
	first := star[0]
	angle := func(p Peg) float64 { return math.Atan2(float64(p.Y-first.Y), float64(p.X-first.X)) }
	greatest := math.Inf(-1)
	for _, p := range star[1:] {
		greatest = max(greatest, angle(p))
	}
	slices.SortFunc(star[1:], func(p, q Peg) int {
		if angle(p) != angle(q) {
			return int(math.Copysign(1, angle(p)-angle(q)))
		}
		nearer := dot(less(p, first), less(p, first)) - dot(less(q, first), less(q, first))
		if angle(p) == greatest {
			return -nearer
		}
		return nearer
	})
	if !polygon(star) {
		return nil, false
	}
	return star, true
}

func TestStarOf(t *testing.T) {
	does := 0
	check := func(l []Peg) {
		want, is := starBy(l)
		star, ok := impl.StarOf(l)
		if !slices.Equal(star, want) || ok != is {
			t.Error(l, star, ok, want)
		}
		if ok {
			does++
		}
		if twice, _ := impl.TwiceArea(star); ok && (twice <= 0 || !slices.Equal(inOrderBy(star), inOrderBy(l))) {
			t.Error(l, star, twice)
		}
	}
	allLists(check)
	someLists(11, check)
	for n := 1; n <= 12; n++ {
		check(pegsOf(round)[:n])
	}
	if does < 100 {
		t.Error(does)
	}
	for _, c := range []struct{ pegs, want string }{ // want is empty if it fails
		{"0,0 4,0 0,4", "0,0 4,0 0,4"},
		{"0,4 4,0 0,0 1,1", "0,0 4,0 1,1 0,4"},
		{"0,0 4,1 2,2 4,4 1,4", "0,0 4,1 2,2 4,4 1,4"},
		{"0,0 4,1 1,4 2,2 3,3", "0,0 4,1 2,2 3,3 1,4"},
		{"3,3 0,0 3,-3 1,0 5,0", "0,0 3,-3 1,0 5,0 3,3"},
		{"2,2 2,-2 1,2 0,0 1,-2 3,0 0,5", "0,0 1,-2 2,-2 3,0 2,2 1,2 0,5"},
		{"0,0 4,0 4,4 0,4 0,2 1,1", ""}, // 0,2 is straight between 0,4 and 0,0
		{"0,0 4,1 2,8 1,4", ""},         // 1,4 is straight between 2,8 and 0,0
		{"0,0 1,0 2,0 1,1", ""},         // 1,0 is straight between 0,0 and 2,0
		{"0,0 1,0 2,0", ""},             // all on one half line
		{"0,0 1,0", ""},                 // too few
		{"0,0", ""},                     // too few
		{round, ""},                     // too many
	} {
		if star, ok := impl.StarOf(pegsOf(c.pegs)); !slices.Equal(star, pegsOf(c.want)) || ok != (c.want != "") {
			t.Error(c.pegs, star, ok)
		}
	}
}

// oneOf has the first peg of a list, or one that is no peg.
func oneOf(l []Peg) []Peg {
	if len(l) == 0 {
		return []Peg{{X: 41}}
	}
	return []Peg{l[0]}
}

type ends struct {
	a, b   Peg
	square int
}

// onPegs are all functions of the chapter that succeed for each list of pegs, with other arguments that are valid.
func onPegs() map[string]call {
	return map[string]call{
		"BandOf":         func(l []Peg) (any, bool) { return pair(impl.BandOf(l)) },
		"PegsOfBand":     func(l []Peg) (any, bool) { return pair(impl.PegsOfBand(l)) },
		"LayersOf":       func(l []Peg) (any, bool) { return pair(impl.LayersOf(l)) },
		"LayerOfPeg":     func(l []Peg) (any, bool) { return pair(impl.LayerOfPeg(l, oneOf(l)[0])) },
		"InBand":         func(l []Peg) (any, bool) { return pair(impl.InBand(l, Peg{})) },
		"TwiceBand":      func(l []Peg) (any, bool) { return pair(impl.TwiceBand(l)) },
		"CountInBand":    func(l []Peg) (any, bool) { return pair(impl.CountInBand(l)) },
		"AreConvex":      func(l []Peg) (any, bool) { return pair(impl.AreConvex(l)) },
		"JoinBands":      func(l []Peg) (any, bool) { return pair(impl.JoinBands(l, l)) },
		"JoinBands of p": func(l []Peg) (any, bool) { return pair(impl.JoinBands(l, oneOf(l))) },
		"JoinBands of q": func(l []Peg) (any, bool) { return pair(impl.JoinBands(oneOf(l), l)) },
	}
}

// onSomePegs are those that succeed for some.
func onSomePegs() map[string]call {
	return map[string]call{
		"TangentsFrom": func(l []Peg) (any, bool) {
			c, d, ok := impl.TangentsFrom(l, Peg{X: 40, Y: 39})
			return ends{a: c, b: d}, ok
		},
		"FarthestApart": func(l []Peg) (any, bool) {
			a, b, square, ok := impl.FarthestApart(l)
			return ends{a, b, square}, ok
		},
		"CountConvexFours": func(l []Peg) (any, bool) { return pair(impl.CountConvexFours(l)) },
		"MostConvex":       func(l []Peg) (any, bool) { return pair(impl.MostConvex(l)) },
		"HalvingLines":     func(l []Peg) (any, bool) { return pair(impl.HalvingLines(l)) },
		"StarOf":           func(l []Peg) (any, bool) { return pair(impl.StarOf(l)) },
	}
}

func TestNoPegsFail(t *testing.T) {
	checkFailing(t, onPegs(), notPegLists())
	checkFailing(t, onSomePegs(), notPegLists())
	checkFailing(t, map[string]call{"FarthestApart": onSomePegs()["FarthestApart"]}, [][]Peg{{{}}, {{X: 7, Y: -3}}})
	for _, l := range notPegLists() {
		for _, other := range [][]Peg{pegsOf("0,0 4,0 0,4"), pegsOf("1,2"), pegsOf(round)} {
			if band, ok := impl.JoinBands(l, other); len(band) != 0 || ok {
				t.Error(l, band)
			}
			if band, ok := impl.JoinBands(other, l); len(band) != 0 || ok {
				t.Error(l, band)
			}
		}
	}
}

// TestPegListsAreKept is promise 11 for lists of pegs.
func TestPegListsAreKept(t *testing.T) {
	checkKept(t, onPegs(), pegLists)
	checkKept(t, onSomePegs(), []string{"4,4 4,0 0,4 0,0", "0,0 4,0 0,4 1,1", "9,-9 3,1 -2,4 0,0 5,-7 1,6"})
}

// TestJoinedAreKept joins two parts of one list, of which the first one has the second one behind it in memory.
func TestJoinedAreKept(t *testing.T) {
	room := pegsOf("4,0 0,0 1,1 0,4 5,5 9,9 2,0")
	kept := slices.Clone(room)
	for i := 1; i < len(room); i++ {
		band, ok := impl.JoinBands(room[:i], room[i:])
		if !slices.Equal(band, pegsOf("0,0 4,0 9,9 0,4")) || !ok || !slices.Equal(room, kept) {
			t.Error(i, band, ok, room)
		}
		fillAll(band)
		if !slices.Equal(room, kept) {
			t.Error(i, "shares memory")
		}
		if band, ok := impl.JoinBands(room[:2], room[1:2]); !slices.Equal(band, pegsOf("0,0 4,0")) || !ok {
			t.Error(band, ok)
		}
	}
}
