package tests

import (
	"math"
	"slices"
	"testing"

	"loop.example/g01259/impl"
)

func TestIsPeg(t *testing.T) {
	for _, p := range pegsOf("0,0 40,40 -40,40 40,-40 -40,-40 1,-7") {
		if !impl.IsPeg(p) {
			t.Error(p, "is a peg")
		}
	}
	for _, p := range notPegs {
		if impl.IsPeg(p) {
			t.Error(p, "is no peg")
		}
	}
}

func TestPegsOnLine(t *testing.T) {
	for _, c := range []struct {
		ends string
		want int
	}{
		{"0,0 1,0", 2}, {"0,0 0,-1", 2}, {"0,0 4,0", 5}, {"0,3 0,0", 4},
		{"4,0 0,3", 2}, {"-6,4 3,-2", 4}, {"3,-2 -6,4", 4}, {"2,2 6,8", 3},
		{"-40,-40 40,40", 81}, {"40,-40 -40,40", 81}, {"-40,-40 40,39", 2}, {"-40,7 40,7", 81},
	} {
		ends := pegsOf(c.ends)
		if n, ok := impl.PegsOnLine(ends[0], ends[1]); n != c.want || !ok {
			t.Error(c.ends, n, ok)
		}
	}
	for _, p := range notPegs {
		if n, ok := impl.PegsOnLine(p, Peg{}); n != 0 || ok {
			t.Error(p, n, ok)
		}
		if n, ok := impl.PegsOnLine(Peg{}, p); n != 0 || ok {
			t.Error(p, n, ok)
		}
	}
	if n, ok := impl.PegsOnLine(Peg{X: 3, Y: 4}, Peg{X: 3, Y: 4}); n != 0 || ok {
		t.Error("a line of one peg", n, ok)
	}
}

func TestIsOnLine(t *testing.T) {
	lists(3, func(l []Peg) {
		line := l[0] != l[1]
		on, ok := impl.IsOnLine(l[0], l[1], l[2])
		if ok != line || on != (line && onLine(l[0], l[1], l[2])) {
			t.Error(l, on, ok)
		}
	})
	for _, c := range []struct {
		pegs string
		want bool
	}{
		{"-40,-40 40,40 0,0", true}, {"40,-40 -40,40 40,-40", true}, {"-4,2 8,-4 2,-1", true},
		{"-4,2 8,-4 10,-5", false}, {"-4,2 8,-4 2,0", false}, {"0,0 5,0 6,0", false}, {"0,5 0,0 0,-1", false},
	} {
		l := pegsOf(c.pegs)
		if on, ok := impl.IsOnLine(l[0], l[1], l[2]); on != c.want || !ok {
			t.Error(c.pegs, on, ok)
		}
	}
	a, b := Peg{}, Peg{X: 1}
	for _, p := range notPegs {
		for _, l := range [][]Peg{{p, a, a}, {a, p, a}, {a, b, p}, {p, p, p}} {
			if on, ok := impl.IsOnLine(l[0], l[1], l[2]); on || ok {
				t.Error(l, on, ok)
			}
		}
	}
}

func TestDoLinesMeet(t *testing.T) {
	lists(4, func(l []Peg) {
		lines := l[0] != l[1] && l[2] != l[3]
		do, ok := impl.DoLinesMeet(l[0], l[1], l[2], l[3])
		if ok != lines || do != (lines && meet(l[0], l[1], l[2], l[3])) {
			t.Error(l, do, ok)
		}
	})
	for _, c := range []struct {
		pegs string
		want bool
	}{
		{"-40,-40 40,40 -40,40 40,-40", true}, {"0,0 3,0 1,0 2,0", true}, {"1,0 2,0 0,0 3,0", true},
		{"0,0 3,0 3,0 5,0", true}, {"0,0 3,0 4,0 5,0", false}, {"0,0 7,5 7,6 0,1", false},
		{"0,0 4,3 3,2 7,7", true}, {"0,0 4,3 4,2 3,1", false}, {"-40,-40 40,39 -40,-39 40,40", false},
		{"0,0 4,0 2,1 2,5", false}, {"0,0 4,0 2,0 2,5", true},
	} {
		l := pegsOf(c.pegs)
		if do, ok := impl.DoLinesMeet(l[0], l[1], l[2], l[3]); do != c.want || !ok {
			t.Error(c.pegs, do, ok)
		}
	}
	a, b, c := Peg{}, Peg{X: 1}, Peg{Y: 1}
	for _, p := range notPegs {
		for _, l := range [][]Peg{{p, a, b, c}, {a, p, b, c}, {a, b, p, c}, {a, b, c, p}, {p, p, p, p}} {
			if do, ok := impl.DoLinesMeet(l[0], l[1], l[2], l[3]); do || ok {
				t.Error(l, do, ok)
			}
		}
	}
}

func TestIsPolygon(t *testing.T) {
	count := map[int]int{}
	for n := 1; n <= 5; n++ {
		lists(n, func(l []Peg) {
			is := impl.IsPolygon(l)
			if is != polygon(l) {
				t.Error(l, is)
			}
			if is {
				count[n]++
			}
		})
	}
	if count[3] != 6*76 { // 76 triangles on 3 by 3 pegs, each told from 3 corners to 2 sides
		t.Error(count[3], "triangles told")
	}
	for _, s := range polygons {
		if !impl.IsPolygon(pegsOf(s)) || !polygon(pegsOf(s)) {
			t.Error(s, "is a polygon")
		}
	}
	for _, l := range notPolygons {
		if impl.IsPolygon(l) || polygon(l) {
			t.Error(l, "is no polygon")
		}
	}
}

func TestAreasAndPegs(t *testing.T) {
	for _, c := range []struct {
		text              string
		twice, on, inside int
		convex            bool
	}{
		{"0,0 4,0 0,3", 12, 8, 3, true},
		{"0,0 0,3 4,0", -12, 8, 3, true},
		{"0,0 1,0 0,1", 1, 3, 0, true},
		{"0,0 0,1 1,0", -1, 3, 0, true},
		{"0,0 2,0 2,1 0,1", 4, 6, 0, true},
		{"-40,-40 40,-40 40,40 -40,40", 12800, 320, 6241, true},
		{"-40,-40 -40,40 40,40 40,-40", -12800, 320, 6241, true},
		{"0,0 4,0 4,4 2,1 0,4", 20, 14, 4, false},
		{"0,0 2,0 2,1 3,1 3,0 5,0 5,3 0,3", 28, 18, 6, false},
	} {
		l := pegsOf(c.text)
		if n, ok := impl.TwiceArea(l); n != c.twice || !ok {
			t.Error(c.text, "twice", n, ok)
		}
		if n, ok := impl.PegsOn(l); n != c.on || !ok {
			t.Error(c.text, "on", n, ok)
		}
		if n, ok := impl.PegsInside(l); n != c.inside || !ok {
			t.Error(c.text, "inside", n, ok)
		}
		if is, ok := impl.IsConvex(l); is != c.convex || !ok {
			t.Error(c.text, "convex", is, ok)
		}
	}
}

// TestPick is promise 1: the pegs that are counted one by one are those of Pick's rule.
func TestPick(t *testing.T) {
	for _, s := range polygons {
		l := pegsOf(s)
		inside := placed(l, 1)
		list, ok := impl.ListInside(l)
		if !slices.Equal(list, inside) || !ok {
			t.Error(s, list, ok)
		}
		count, ok := impl.PegsInside(l)
		if count != len(inside) || !ok {
			t.Error(s, "inside", count, ok)
		}
		on, ok := impl.PegsOn(l)
		if on != len(placed(l, 0)) || !ok {
			t.Error(s, "on", on, ok)
		}
		twice, ok := impl.TwiceArea(l)
		if twice != fan(l) || !ok || max(twice, -twice) != 2*count+on-2 {
			t.Error(s, "twice", twice, ok)
		}
	}
	if l, ok := impl.ListInside(pegsOf("0,0 4,0 0,3")); !ok || !slices.Equal(l, pegsOf("1,1 1,2 2,1")) {
		t.Error(l, ok)
	}
	if l, ok := impl.ListInside(pegsOf("0,0 0,1 1,0")); !ok || len(l) != 0 {
		t.Error(l, ok)
	}
}

func TestPickOnAllSmallPolygons(t *testing.T) {
	for n := 3; n <= 5; n++ {
		lists(n, func(l []Peg) {
			if !polygon(l) {
				return
			}
			list, ok := impl.ListInside(l)
			count, fine := impl.PegsInside(l)
			on, right := impl.PegsOn(l)
			middle := Peg{X: 1, Y: 1} // the only peg of the board that may be inside
			if !ok || !fine || !right || len(list) != count || slices.Contains(list, middle) != (place(l, middle) == 1) {
				t.Error(l, list, count)
			}
			if twice, ok := impl.TwiceArea(l); !ok || twice != fan(l) || max(twice, -twice) != 2*count+on-2 {
				t.Error(l, twice)
			}
		})
	}
}

func TestWhereIs(t *testing.T) {
	for _, s := range polygons {
		l := pegsOf(s)
		for x := -40; x <= 40; x++ {
			for y := -40; y <= 40; y++ {
				p := Peg{X: x, Y: y}
				if at, ok := impl.WhereIs(l, p); at != place(l, p) || !ok {
					t.Fatal(s, p, at, ok)
				}
			}
		}
		for _, p := range notPegs {
			if at, ok := impl.WhereIs(l, p); at != 0 || ok {
				t.Error(s, p, at, ok)
			}
		}
	}
}

func TestIsConvex(t *testing.T) {
	for _, s := range polygons {
		l := pegsOf(s)
		want := true
		for i, a := range l { // all corners are on one side of each line
			b := l[(i+1)%len(l)]
			for _, c := range l {
				want = want && cross(less(b, a), less(c, a))*fan(l) >= 0
			}
		}
		if is, ok := impl.IsConvex(l); is != want || !ok {
			t.Error(s, is, ok)
		}
	}
}

func TestBackAndFirst(t *testing.T) {
	for _, c := range []struct{ text, back, first string }{
		{"0,0 4,0 0,3", "0,0 0,3 4,0", "0,0 4,0 0,3"},
		{"0,3 4,0 0,0", "0,3 0,0 4,0", "0,0 4,0 0,3"},
		{"4,0 0,3 0,0", "4,0 0,0 0,3", "0,0 4,0 0,3"},
		{"3,-1 3,3 0,-1", "3,-1 0,-1 3,3", "0,-1 3,-1 3,3"},
		{"2,1 0,4 0,0 4,0 4,4", "2,1 4,4 4,0 0,0 0,4", "0,0 4,0 4,4 2,1 0,4"},
		{"4,4 4,0 0,0 0,4 2,1", "4,4 2,1 0,4 0,0 4,0", "0,0 4,0 4,4 2,1 0,4"},
		{"1,-5 2,0 1,5", "1,-5 1,5 2,0", "1,-5 2,0 1,5"},
		{"-1,5 2,0 -1,-5", "-1,5 -1,-5 2,0", "-1,-5 2,0 -1,5"},
	} {
		l := pegsOf(c.text)
		if b, ok := impl.BackPolygon(l); !slices.Equal(b, pegsOf(c.back)) || !ok {
			t.Error(c.text, "back", b, ok)
		}
		if f, ok := impl.TellFirst(l); !slices.Equal(f, pegsOf(c.first)) || !ok {
			t.Error(c.text, "first", f, ok)
		}
	}
}

// TestAllTellings tells each polygon from each corner to each side.
func TestAllTellings(t *testing.T) {
	for _, s := range polygons {
		l := pegsOf(s)
		inside := placed(l, 1)
		first, ok := impl.TellFirst(l)
		if !ok || fan(first) <= 0 || first[0] != slices.MinFunc(l, byOrder) {
			t.Error(s, first, ok)
		}
		for i := range l {
			told := append(slices.Clone(l[i:]), l[:i]...)
			back, ok := impl.BackPolygon(told)
			if !ok || back[0] != told[0] || fan(back) != -fan(told) {
				t.Error(told, back, ok)
			}
			for _, way := range [][]Peg{told, back} {
				if f, ok := impl.TellFirst(way); !slices.Equal(f, first) || !ok {
					t.Error(way, f, ok)
				}
				if in, ok := impl.ListInside(way); !slices.Equal(in, inside) || !ok {
					t.Error(way, in, ok)
				}
			}
			if twice, ok := impl.BackPolygon(back); !slices.Equal(twice, told) || !ok {
				t.Error(told, twice, ok)
			}
		}
	}
}

func byOrder(p, q Peg) int {
	if p.X != q.X {
		return p.X - q.X
	}
	return p.Y - q.Y
}

func TestTurnMirrorMove(t *testing.T) {
	for _, s := range polygons {
		l := pegsOf(s)
		var turned, mirrored []Peg
		for _, p := range l {
			turned = append(turned, Peg{X: -p.Y, Y: p.X})
			mirrored = append(mirrored, Peg{X: -p.X, Y: p.Y})
		}
		if q, ok := impl.TurnPolygon(l); !slices.Equal(q, turned) || !ok {
			t.Error(s, "turned", q, ok)
		}
		if q, ok := impl.MirrorPolygon(l); !slices.Equal(q, mirrored) || !ok {
			t.Error(s, "mirrored", q, ok)
		}
		if q, ok := impl.MovePolygon(l, 0, 0); !slices.Equal(q, l) || !ok {
			t.Error(s, "not moved", q, ok)
		}
	}
	if q, ok := impl.TurnPolygon(pegsOf("0,0 4,0 0,3")); !slices.Equal(q, pegsOf("0,0 0,4 -3,0")) || !ok {
		t.Error(q, ok)
	}
	if q, ok := impl.MirrorPolygon(pegsOf("0,0 4,0 0,3")); !slices.Equal(q, pegsOf("0,0 -4,0 0,3")) || !ok {
		t.Error(q, ok)
	}
}

func TestMovePolygon(t *testing.T) {
	for _, c := range []struct {
		text string
		x, y int
		want string // empty if it fails
	}{
		{"0,0 0,4 -3,0", 3, -1, "3,-1 3,3 0,-1"},
		{"0,0 4,0 0,3", 36, 37, "36,37 40,37 36,40"},
		{"0,0 4,0 0,3", 37, 37, ""},
		{"0,0 4,0 0,3", 36, 38, ""},
		{"0,0 4,0 0,3", -40, -40, "-40,-40 -36,-40 -40,-37"},
		{"0,0 4,0 0,3", -41, 0, ""},
		{"0,0 4,0 0,3", 0, -41, ""},
		{"-40,-40 -39,-40 -40,-39", 79, 79, "39,39 40,39 39,40"},
		{"40,40 39,40 40,39", -79, -79, "-39,-39 -40,-39 -39,-40"},
		{"-40,-40 -39,-40 -40,-39", 80, 0, ""},
		{"-40,-40 -39,-40 -40,-39", 0, 81, ""},
		{"0,0 1,0 0,1", math.MaxInt, 0, ""},
		{"0,0 1,0 0,1", 0, math.MaxInt, ""},
		{"0,0 1,0 0,1", math.MinInt, 0, ""},
		{"0,0 1,0 0,1", 0, math.MinInt, ""},
	} {
		q, ok := impl.MovePolygon(pegsOf(c.text), c.x, c.y)
		if !slices.Equal(q, pegsOf(c.want)) || ok != (c.want != "") {
			t.Error(c.text, c.x, c.y, q, ok)
		}
	}
}

func TestPolygonText(t *testing.T) {
	for _, s := range polygons {
		l := pegsOf(s)
		if text, ok := impl.PolygonText(l); text != s || !ok {
			t.Error(s, text, ok)
		}
		if p, ok := impl.ParsePolygon(s); !slices.Equal(p, l) || !ok {
			t.Error(s, p, ok)
		}
	}
}

func TestParseNoPolygon(t *testing.T) {
	for _, s := range []string{
		"", " ", ",", "0,0", "0,0 1,0", "0,0 1,1 2,2", "0,0 0,0 0,0", "0,0 2,2 2,0 0,2",
		" 0,0 1,0 0,1", "0,0 1,0 0,1 ", "0,0  1,0 0,1", "0,0\t1,0 0,1", "0,0 1,0 0,1\n", "0, 0 1,0 0,1",
		"0,0,1,0 0,1", "0,0 1,0 0,1,", "0,0 1,0 0,", "0,0 1,0 ,1", "0,0 1,0 0", "0,0 1 0,1", "0,0;1,0;0,1",
		"+0,0 1,0 0,1", "0,0 +1,0 0,1", "0,0 01,0 0,1", "-0,0 1,0 0,1", "0,0 1,-0 0,1", "0,0 1_0,0 0,1", "0,0 0x1,0 0,1",
		"0,0 41,0 0,1", "0,0 1,0 0,-41", "0,0 99999999999999999999,0 0,1", "0,0 1,0 0,-9223372036854775808", "0,0 1.0,0 0,1",
		"0,0 a,0 0,1", "0,0 1,0 0,\xff", "0,0 1,0 0,１", "0,0 1,0 0,1\x00", "0,0 --1,0 0,1", "0,0 18446744073709551617,0 0,1",
		"0,0 1,-1 2,0 3,-1 4,0 4,7 3,6 2,7 1,6 0,7 -1,5",
	} {
		if p, ok := impl.ParsePolygon(s); len(p) != 0 || ok {
			t.Errorf("%q %v %v", s, p, ok)
		}
	}
}

// onPolygons are all functions of the chapter that take a polygon, with other arguments that are valid.
func onPolygons() map[string]call {
	return map[string]call{
		"IsPolygon":     func(l []Peg) (any, bool) { return false, impl.IsPolygon(l) },
		"TwiceArea":     func(l []Peg) (any, bool) { return pair(impl.TwiceArea(l)) },
		"PegsOn":        func(l []Peg) (any, bool) { return pair(impl.PegsOn(l)) },
		"PegsInside":    func(l []Peg) (any, bool) { return pair(impl.PegsInside(l)) },
		"ListInside":    func(l []Peg) (any, bool) { return pair(impl.ListInside(l)) },
		"WhereIs":       func(l []Peg) (any, bool) { return pair(impl.WhereIs(l, Peg{X: -40, Y: -40})) },
		"IsConvex":      func(l []Peg) (any, bool) { return pair(impl.IsConvex(l)) },
		"BackPolygon":   func(l []Peg) (any, bool) { return pair(impl.BackPolygon(l)) },
		"TellFirst":     func(l []Peg) (any, bool) { return pair(impl.TellFirst(l)) },
		"TurnPolygon":   func(l []Peg) (any, bool) { return pair(impl.TurnPolygon(l)) },
		"MirrorPolygon": func(l []Peg) (any, bool) { return pair(impl.MirrorPolygon(l)) },
		"MovePolygon":   func(l []Peg) (any, bool) { return pair(impl.MovePolygon(l, 0, 0)) },
		"PolygonText":   func(l []Peg) (any, bool) { return pair(impl.PolygonText(l)) },
	}
}

func TestNoPolygonFails(t *testing.T) {
	checkFailing(t, onPolygons(), notPolygons)
}

// TestArgumentsAreKept is promise 11: neither the corners nor what is behind them in memory change.
func TestArgumentsAreKept(t *testing.T) {
	checkKept(t, onPolygons(), polygons)
}
