package tests

import (
	"math"
	"reflect"
	"slices"
	"testing"

	"loop.example/g01259/impl"
)

type Move = impl.Move

// still is the move that changes nothing.
var still = Move{A: 1, D: 1}

// moves are valid ones of all sorts: one that changes nothing, turned, mirrored, sheared and moved ones, and the
// limits met exactly.
var moves = []Move{
	still,
	{A: -1, D: -1},
	{A: -1, D: 1},
	{A: 1, D: -1},
	{B: 1, C: 1},
	{B: -1, C: 1},
	{B: 1, C: -1, X: 2, Y: 3},
	{A: 1, B: 10, D: 1},
	{A: 1, B: 11, D: 1},
	{A: 1, B: -10, D: 1},
	{A: 1, B: 20, D: 1},
	{A: 1, B: -20, D: -1},
	{A: 1, C: -20, D: 1},
	{A: -1, C: 20, D: 1, Y: 80},
	{A: 2, B: 1, C: 1, D: 1},
	{A: 1, B: 2, C: 1, D: 1},
	{A: 3, B: 5, C: -1, D: -2, X: 7, Y: -9},
	{A: 20, B: 19, C: 19, D: 18},
	{A: -18, B: 19, C: 19, D: -20, X: -80, Y: 80},
	{A: 19, B: 20, C: 18, D: 19, X: 1, Y: 1},
	{A: -19, B: 18, C: 20, D: -19},
	{A: 1, D: 1, X: 80, Y: -80},
	{A: 1, D: 1, X: -80, Y: 80},
	{A: 1, D: 1, X: 40, Y: 1},
	{A: 1, D: 1, X: 41, Y: -1},
	{A: 1, B: 20, D: 1, Y: 4},
	{A: 1, B: 20, D: 1, Y: 5},
	{A: 1, B: 20, D: 1, Y: -4},
}

// notMoves are ones whose side is another one, or with a number that is too great.
var notMoves = []Move{
	{},
	{A: 1},
	{A: 1, D: 2},
	{A: 2, D: 1},
	{A: 1, B: 1, C: 1, D: 1},
	{A: 1, B: 1, C: -1, D: 1},
	{A: 3, B: 1, C: 1, D: 1},
	{A: 20, B: 20, C: 20, D: 20},
	{X: 1, Y: 1},
	{A: 21, B: 20, C: 1, D: 1},
	{A: 20, B: 21, C: 1, D: 1},
	{A: 1, B: 1, C: 21, D: 20},
	{A: 1, B: 1, C: 20, D: 21},
	{A: -21, B: 20, C: -1, D: 1},
	{A: 1, B: 21, D: 1},
	{A: 1, B: -21, D: 1},
	{A: 1, C: 21, D: 1},
	{A: 1, C: -21, D: 1},
	{B: 1, C: -1, D: 21},
	{B: 1, C: -1, D: -21},
	{A: 1, D: 1, X: 81},
	{A: 1, D: 1, X: -81},
	{A: 1, D: 1, Y: 81},
	{A: 1, D: 1, Y: -81},
	{A: 1, B: 20, D: 1, X: 160, Y: 4}, // what undoes it is a move
	{A: 1, D: 1, X: math.MaxInt},
	{A: 1, D: 1, X: math.MinInt},
	{A: 1, D: 1, Y: math.MaxInt},
	{A: 1, D: 1, Y: math.MinInt},
	{A: 1, B: math.MaxInt, D: 1},
	{A: 1, B: math.MinInt, D: 1},
	{A: 1, C: math.MinInt, D: 1},
	{A: math.MinInt, B: math.MinInt, C: math.MinInt, D: math.MinInt, X: math.MinInt, Y: math.MinInt},
	// From here on the side is 1 or -1 in 64 bits.
	{A: 1 << 32, B: 1, C: -1, D: 1 << 32},
	{A: 1, B: 1 << 32, C: 1 << 32, D: -1},
	{A: math.MaxInt, D: math.MaxInt},
	{A: math.MaxInt, D: -math.MaxInt},
	{A: math.MinInt, B: 1, C: -1, D: math.MinInt},
}

// bringTo is where a move brings a point.
func bringTo(m Move, p Peg) Peg {
	return Peg{X: m.A*p.X + m.B*p.Y + m.X, Y: m.C*p.X + m.D*p.Y + m.Y}
}

func bringAll(m Move, l []Peg) []Peg {
	var brought []Peg
	for _, p := range l {
		brought = append(brought, bringTo(m, p))
	}
	return brought
}

func areSmall(l []Peg) bool {
	for _, p := range l {
		if size(p.X) > 40 || size(p.Y) > 40 {
			return false
		}
	}
	return true
}

// isMove takes moves of which the side is 1 or -1.
func isMove(m Move) bool {
	return max(size(m.A), size(m.B), size(m.C), size(m.D)) <= 20 && max(size(m.X), size(m.Y)) <= 80
}

// solve finds by Cramer's rule the move, of whichever size, that brings three points to three others, if it has whole
// numbers and the side 1 or -1.
func solve(from, to []Peg) (Move, bool) {
	u, v := less(from[1], from[0]), less(from[2], from[0])
	r, s := less(to[1], to[0]), less(to[2], to[0])
	den := cross(u, v)
	a, b := r.X*v.Y-s.X*u.Y, u.X*s.X-v.X*r.X
	c, d := r.Y*v.Y-s.Y*u.Y, u.X*s.Y-v.X*r.Y
	if a%den != 0 || b%den != 0 || c%den != 0 || d%den != 0 {
		return Move{}, false
	}
	m := Move{A: a / den, B: b / den, C: c / den, D: d / den}
	shift := less(to[0], bringTo(m, from[0]))
	m.X, m.Y = shift.X, shift.Y
	return m, size(m.A*m.D-m.B*m.C) == 1
}

// tellings are a list around told from each place, in its order and then to the other side.
func tellings[T any](l []T) [][]T {
	var all [][]T
	n := len(l)
	for first := range l {
		var along, against []T
		for i := range l {
			along = append(along, l[(first+i)%n])
			against = append(against, l[(first-i+n)%n])
		}
		all = append(all, along, against)
	}
	return all
}

// between tries all ways to bring corners to corners in the order in which the document chooses among them.
func between(p, q []Peg) (Move, bool) {
	if len(p) != len(q) {
		return Move{}, false
	}
	for _, to := range tellings(q) {
		if m, ok := solve(p, to); ok && slices.Equal(bringAll(m, p), to) {
			return m, true
		}
	}
	return Move{}, false
}

// firstOf tries each place of the third corner for each telling, and returns the first one of all frames.
func firstOf(t *testing.T, l []Peg) []Peg {
	var first []Peg
	for _, told := range tellings(l) {
		line := less(told[1], told[0])
		a := max(size(line.X), size(line.Y))
		for line.X%a != 0 || line.Y%a != 0 {
			a--
		}
		d := size(fan(told[:3])) / a
		frames := 0
		for b := range d {
			m, ok := solve(told, []Peg{{}, {X: a}, {X: b, Y: d}})
			if !ok {
				continue
			}
			frames++
			if f := bringAll(m, told); first == nil || slices.CompareFunc(f, first, byOrder) < 0 {
				first = f
			}
		}
		if frames != 1 {
			t.Fatal(told, "has", frames, "frames")
		}
	}
	return first
}

// smallPolygons are the polygons of n corners of a board of 3 by 3 pegs, each told to both sides, from one corner or
// another.
func smallPolygons(n int) [][]Peg {
	var all [][]Peg
	lists(n, func(l []Peg) {
		if polygon(l) && slices.MinFunc(l, byOrder) == l[0] {
			first := len(all) % n
			all = append(all, slices.Concat(l[first:], l[:first]))
		}
	})
	return all
}

func TestIsMove(t *testing.T) {
	for a := -3; a <= 3; a++ {
		for b := -3; b <= 3; b++ {
			for c := -3; c <= 3; c++ {
				for d := -3; d <= 3; d++ {
					m := Move{A: a, B: b, C: c, D: d, X: a, Y: b}
					if impl.IsMove(m) != (size(a*d-b*c) == 1) {
						t.Error(m)
					}
				}
			}
		}
	}
	for _, m := range moves {
		if !impl.IsMove(m) {
			t.Error(m, "is a move")
		}
	}
	for _, m := range notMoves {
		if impl.IsMove(m) {
			t.Error(m, "is no move")
		}
	}
}

func TestSideOfMove(t *testing.T) {
	count := map[int]int{}
	for _, m := range moves {
		side, ok := impl.SideOfMove(m)
		if side != m.A*m.D-m.B*m.C || !ok {
			t.Error(m, side, ok)
		}
		count[side]++
	}
	if count[1] < 5 || count[-1] < 5 || len(count) != 2 {
		t.Error(count)
	}
	for _, m := range notMoves {
		if side, ok := impl.SideOfMove(m); side != 0 || ok {
			t.Error(m, side, ok)
		}
	}
}

func TestMovePeg(t *testing.T) {
	for _, m := range moves {
		everyPeg(func(p Peg) {
			want := bringTo(m, p)
			does := areSmall([]Peg{want})
			if !does {
				want = Peg{}
			}
			if q, ok := impl.MovePeg(m, p); q != want || ok != does {
				t.Fatal(m, p, q, ok)
			}
		})
		for _, p := range notPegs {
			if q, ok := impl.MovePeg(m, p); q != (Peg{}) || ok {
				t.Error(m, p, q, ok)
			}
		}
	}
	for _, m := range notMoves {
		for _, p := range append(pegsOf("0,0 1,0 0,1 -40,40"), notPegs...) {
			if q, ok := impl.MovePeg(m, p); q != (Peg{}) || ok {
				t.Error(m, p, q, ok)
			}
		}
	}
	for _, c := range []struct {
		m        Move
		peg, out string // out is empty if it fails
	}{
		{Move{A: 1, B: 2, D: 1}, "1,1", "3,1"},
		{Move{A: 1, C: 2, D: 1}, "1,1", "1,3"},
		{Move{A: 1, B: 2, C: 3, D: 5, X: 10, Y: 20}, "4,-1", "12,27"},
		{Move{A: 1, B: 20, D: 1}, "0,2", "40,2"},
		{Move{A: 1, B: 20, D: 1}, "1,2", ""},
		{Move{A: 1, D: 1, X: 80, Y: -80}, "-40,40", "40,-40"},
		{Move{A: 1, D: 1, X: 80, Y: -80}, "-39,40", ""},
		{Move{A: 1, D: 1, X: 80, Y: -80}, "-40,39", ""},
	} {
		q, ok := impl.MovePeg(c.m, pegsOf(c.peg)[0])
		if want := append(pegsOf(c.out), Peg{})[0]; q != want || ok != (c.out != "") {
			t.Error(c.m, c.peg, q, ok)
		}
	}
}

func TestMoveCorners(t *testing.T) {
	does := 0
	for _, m := range moves {
		for _, s := range polygons {
			l := pegsOf(s)
			want := bringAll(m, l)
			if !areSmall(want) {
				want = nil
			}
			got, ok := impl.MoveCorners(m, l)
			if !slices.Equal(got, want) || ok != (want != nil) {
				t.Error(m, s, got, ok)
			}
			if !ok {
				continue
			}
			does++
			if !impl.IsPolygon(got) || fan(got) != fan(l)*(m.A*m.D-m.B*m.C) {
				t.Error(m, s, got)
			}
		}
	}
	if does < 100 {
		t.Error(does, "brought to pegs")
	}
	for _, c := range []struct {
		m         Move
		text, out string // out is empty if it fails
	}{
		{still, "5,3 7,4 6,4", "5,3 7,4 6,4"},
		{Move{A: 1, B: 2, D: 1}, "1,1 4,0 0,3", "3,1 4,0 6,3"},
		{Move{B: 1, C: 1}, "0,0 4,0 0,3", "0,0 0,4 3,0"},
		{Move{A: 1, D: 1, X: 36, Y: 37}, "0,0 4,0 0,3", "36,37 40,37 36,40"},
		{Move{A: 1, D: 1, X: 37, Y: 37}, "0,0 4,0 0,3", ""},
		{Move{A: 1, D: 1, X: 36, Y: 38}, "0,0 4,0 0,3", ""},
		{Move{A: 1, D: -1, X: -40, Y: -37}, "0,0 4,0 0,3", "-40,-37 -36,-37 -40,-40"},
		{Move{A: 1, D: -1, X: -40, Y: -38}, "0,0 4,0 0,3", ""},
		{Move{A: 1, D: -1, X: -41, Y: -37}, "0,0 4,0 0,3", ""},
	} {
		if q, ok := impl.MoveCorners(c.m, pegsOf(c.text)); !slices.Equal(q, pegsOf(c.out)) || ok != (c.out != "") {
			t.Error(c.m, c.text, q, ok)
		}
	}
	for _, m := range notMoves {
		for _, l := range [][]Peg{pegsOf("0,0 1,0 0,1"), nil, notPegs} {
			if q, ok := impl.MoveCorners(m, l); len(q) != 0 || ok {
				t.Error(m, l, q, ok)
			}
		}
	}
}

func TestJoinMoves(t *testing.T) {
	base := pegsOf("0,0 1,0 0,1")
	does := 0
	for _, m := range moves {
		for _, k := range moves {
			want, _ := solve(base, bringAll(m, bringAll(k, base)))
			is := isMove(want)
			if is {
				does++
			} else {
				want = Move{}
			}
			if joined, ok := impl.JoinMoves(m, k); joined != want || ok != is {
				t.Error(m, k, joined, ok)
			}
		}
		for _, k := range notMoves {
			for _, both := range [][2]Move{{m, k}, {k, m}, {k, k}} {
				if joined, ok := impl.JoinMoves(both[0], both[1]); joined != (Move{}) || ok {
					t.Error(both, joined, ok)
				}
			}
		}
	}
	if does < 100 || does > len(moves)*len(moves)-100 {
		t.Error(does, "joined")
	}
	up, right := Move{A: 1, D: 1, Y: 1}, Move{A: 1, B: 2, D: 1}
	for _, c := range []struct{ m, k, want Move }{
		{up, right, Move{A: 1, B: 2, D: 1, Y: 1}},
		{right, up, Move{A: 1, B: 2, D: 1, X: 2, Y: 1}},
		{Move{A: 1, B: 10, D: 1}, Move{A: 1, B: 10, D: 1}, Move{A: 1, B: 20, D: 1}},
		{Move{A: 1, B: 10, D: 1}, Move{A: 1, B: 11, D: 1}, Move{}},
		{Move{A: 1, D: 1, X: 40, Y: 1}, Move{A: 1, D: 1, X: 40, Y: 1}, Move{A: 1, D: 1, X: 80, Y: 2}},
		{Move{A: 1, D: 1, X: 40, Y: 1}, Move{A: 1, D: 1, X: 41, Y: 1}, Move{}},
		{Move{A: 1, D: 1, Y: -40}, Move{A: 1, D: 1, Y: -40}, Move{A: 1, D: 1, Y: -80}},
		{Move{A: 1, D: 1, Y: -41}, Move{A: 1, D: 1, Y: -40}, Move{}},
	} {
		if joined, ok := impl.JoinMoves(c.m, c.k); joined != c.want || ok != (c.want != Move{}) {
			t.Error(c.m, c.k, joined, ok)
		}
	}
}

func TestBackMove(t *testing.T) {
	base := pegsOf("0,0 1,0 0,1")
	does := 0
	for _, m := range moves {
		want, _ := solve(bringAll(m, base), base)
		is := isMove(want)
		if !is {
			want = Move{}
		}
		back, ok := impl.BackMove(m)
		if back != want || ok != is {
			t.Error(m, back, ok)
		}
		if !ok {
			continue
		}
		does++
		if joined, ok := impl.JoinMoves(back, m); joined != still || !ok {
			t.Error(m, back, joined, ok)
		}
		if joined, ok := impl.JoinMoves(m, back); joined != still || !ok {
			t.Error(m, back, joined, ok)
		}
	}
	if does < 10 || does == len(moves) {
		t.Error(does, "undone")
	}
	for _, m := range notMoves {
		if back, ok := impl.BackMove(m); back != (Move{}) || ok {
			t.Error(m, back, ok)
		}
	}
	for _, c := range []struct{ m, want Move }{
		{still, still},
		{Move{A: 1, B: 2, D: 1}, Move{A: 1, B: -2, D: 1}},
		{Move{A: 3, B: 5, C: -1, D: -2, X: 7, Y: -9}, Move{A: 2, B: 5, C: -1, D: -3, X: 31, Y: -20}},
		{Move{B: -1, C: 1, X: 3, Y: 5}, Move{B: 1, C: -1, X: -5, Y: 3}},
		{Move{A: 1, B: 20, D: 1, Y: 4}, Move{A: 1, B: -20, D: 1, X: 80, Y: -4}},
		{Move{A: 1, B: 20, D: 1, Y: 5}, Move{}},
		{Move{A: 1, C: 20, D: 1, X: -4}, Move{A: 1, C: -20, D: 1, X: 4, Y: -80}},
		{Move{A: 1, C: 20, D: 1, X: -5}, Move{}},
		{Move{A: 20, B: 19, C: 19, D: 18}, Move{A: -18, B: 19, C: 19, D: -20}},
	} {
		if back, ok := impl.BackMove(c.m); back != c.want || ok != (c.want != Move{}) {
			t.Error(c.m, back, ok)
		}
	}
}

func TestShearMove(t *testing.T) {
	for k := -22; k <= 22; k++ {
		want := Move{A: 1, B: k, D: 1}
		if size(k) > 20 {
			want = Move{}
		}
		if m, ok := impl.ShearMove(k); m != want || ok != (size(k) <= 20) {
			t.Error(k, m, ok)
		}
	}
	for _, k := range []int{math.MaxInt, math.MinInt, 1 << 32, -1 << 32} {
		if m, ok := impl.ShearMove(k); m != (Move{}) || ok {
			t.Error(k, m, ok)
		}
	}
	m, ok := impl.ShearMove(2)
	if p, fine := impl.MovePeg(m, Peg{X: 1, Y: 1}); p != (Peg{X: 3, Y: 1}) || !ok || !fine {
		t.Error(m, p)
	}
}

// kindBy is the kind of a triangle, in the test's own way.
func kindBy(t *testing.T, l []Peg) []int {
	first := firstOf(t, l)
	return []int{first[1].X, first[2].X, first[2].Y}
}

func TestKindOfTriangle(t *testing.T) {
	everyTriangle(func(l []Peg) {
		kind, ok := impl.KindOfTriangle(l)
		if !slices.Equal(kind, kindBy(t, l)) || !ok || kind[0]*kind[2] != size(fan(l)) {
			t.Error(l, kind, ok)
		}
	})
	for _, c := range []struct {
		text string
		want []int
	}{
		{"0,0 1,0 0,1", []int{1, 0, 1}}, {"5,3 7,4 6,4", []int{1, 0, 1}}, {"5,3 6,4 7,4", []int{1, 0, 1}},
		{"0,0 4,0 0,3", []int{1, 4, 12}}, {"0,3 4,0 0,0", []int{1, 4, 12}}, {"0,-1 3,-1 3,3", []int{1, 4, 12}},
		{"-1,-1 1,0 0,1", []int{1, 2, 3}}, {"0,0 6,0 3,5", []int{1, 12, 30}}, {"0,0 6,0 0,6", []int{6, 0, 6}},
		{"-7,3 5,-4 2,8", []int{1, 27, 123}}, {"-40,-40 40,-40 -40,40", []int{80, 0, 80}},
		{"40,40 40,-40 -40,39", []int{1, 80, 6400}}, {"-40,0 40,1 -39,1", []int{1, 0, 79}},
	} {
		if kind, ok := impl.KindOfTriangle(pegsOf(c.text)); !slices.Equal(kind, c.want) || !ok {
			t.Error(c.text, kind, ok)
		}
	}
}

// TestKindsAreAlike is promise 3: triangles have the same kind exactly if they are alike.
func TestKindsAreAlike(t *testing.T) {
	var all [][]Peg
	for _, s := range triangles {
		all = append(all, pegsOf(s))
	}
	all = append(all, smallPolygons(3)...)
	same := 0
	for _, p := range all {
		kind, ok := impl.KindOfTriangle(p)
		if !ok {
			t.Fatal(p)
		}
		for _, q := range all {
			other, _ := impl.KindOfTriangle(q)
			_, want := between(p, q)
			if slices.Equal(kind, other) != want {
				t.Error(p, q, kind, other)
			}
			if alike, ok := impl.AreAlike(p, q); alike != want || !ok {
				t.Error(p, q, alike, ok)
			}
			if want {
				same++
			}
		}
		// kinds that are no pegs have no triangle
		told, ok := impl.TriangleOfKind(kind)
		if ok != (kind[0] <= 40 && kind[2] <= 40) {
			t.Error(p, kind, told, ok)
		}
		if alike, _ := impl.AreAlike(p, told); ok && !alike {
			t.Error(p, kind, told)
		}
	}
	if same <= len(all) || same == len(all)*len(all) {
		t.Error(same, "pairs alike of", len(all))
	}
}

// kindsBy sorts the triangles 0, 0; a, 0; b, d with twice an area into classes that are alike, and lists the first of
// each: each triangle is alike to one of these triangles.
func kindsBy(twice int) [][]int {
	var kinds [][]int
	var firsts [][]Peg
	for a := 1; a <= twice; a++ {
		for b := 0; twice%a == 0 && b < twice/a; b++ {
			l := []Peg{{}, {X: a}, {X: b, Y: twice / a}}
			isAlike := func(first []Peg) bool {
				_, ok := between(first, l)
				return ok
			}
			if !slices.ContainsFunc(firsts, isAlike) {
				kinds = append(kinds, []int{a, b, twice / a})
				firsts = append(firsts, l)
			}
		}
	}
	return kinds
}

func TestKindsOfArea(t *testing.T) {
	for twice := 1; twice <= 60; twice++ {
		want := kindsBy(twice)
		if kinds, ok := impl.KindsOfArea(twice); !reflect.DeepEqual(kinds, want) || !ok {
			t.Error(twice, kinds, ok)
		}
		if n, ok := impl.CountKinds(twice); n != len(want) || !ok {
			t.Error(twice, n, ok)
		}
	}
	for twice, want := range map[int][][]int{
		1: {{1, 0, 1}}, 2: {{1, 0, 2}}, 3: {{1, 0, 3}, {1, 2, 3}}, 4: {{1, 0, 4}, {1, 2, 4}, {2, 0, 2}},
		6:  {{1, 0, 6}, {1, 2, 6}, {1, 3, 6}},
		12: {{1, 0, 12}, {1, 2, 12}, {1, 3, 12}, {1, 4, 12}, {1, 5, 12}, {1, 6, 12}, {2, 0, 6}, {2, 4, 6}},
	} {
		if kinds, ok := impl.KindsOfArea(twice); !reflect.DeepEqual(kinds, want) || !ok {
			t.Error(twice, kinds, ok)
		}
	}
	for twice, want := range map[int]int{1: 1, 2: 1, 3: 2, 4: 3, 5: 2, 12: 8, 36: 20, 59: 11, 60: 34} {
		if n, ok := impl.CountKinds(twice); n != want || !ok {
			t.Error(twice, n, ok)
		}
	}
	for _, twice := range []int{0, -1, 61, -60, math.MaxInt, math.MinInt, 1 << 32, 1<<32 + 1} {
		if kinds, ok := impl.KindsOfArea(twice); len(kinds) != 0 || ok {
			t.Error(twice, kinds, ok)
		}
		if n, ok := impl.CountKinds(twice); n != 0 || ok {
			t.Error(twice, n, ok)
		}
	}
}

func TestTriangleOfKind(t *testing.T) {
	for a := -1; a <= 9; a++ {
		for b := -2; b <= 12; b++ {
			for d := -1; d <= 12; d++ {
				kind := []int{a, b, d}
				want := []Peg{{}, {X: a}, {X: b, Y: d}}
				is := a > 0 && d > 0 && slices.Equal(kind, kindBy(t, want))
				if !is {
					want = nil
				}
				if l, ok := impl.TriangleOfKind(kind); !slices.Equal(l, want) || ok != is {
					t.Error(kind, l, ok)
				}
			}
		}
	}
	for _, c := range []struct {
		kind []int
		want string
	}{
		{[]int{1, 4, 12}, "0,0 1,0 4,12"}, {[]int{1, 0, 40}, "0,0 1,0 0,40"}, {[]int{1, 2, 39}, "0,0 1,0 2,39"},
		{[]int{40, 0, 40}, "0,0 40,0 0,40"}, {[]int{20, 0, 40}, "0,0 20,0 0,40"}, {[]int{6, 0, 6}, "0,0 6,0 0,6"},
	} {
		if l, ok := impl.TriangleOfKind(c.kind); !slices.Equal(l, pegsOf(c.want)) || !ok {
			t.Error(c.kind, l, ok)
		}
	}
}

func TestTriangleOfNoKind(t *testing.T) {
	for _, kind := range [][]int{
		nil, {}, {1}, {1, 0}, {1, 0, 1, 0}, {1, 0, 1, 0, 0, 0}, {1, 4, 12, 12}, {4, 12}, make([]int, 1000),
		{0, 0, 0}, {0, 0, 1}, {1, 0, 0}, {-1, 0, 1}, {1, 0, -1}, {-1, 0, -1}, {1, -1, 2}, {1, 1, 1}, {1, 2, 1},
		{1, 1, 12},   // 1, 0, 12 comes first
		{3, 0, 4},    // 1, 4, 12 does
		{1, 9, 12},   // 1, 4, 12 does
		{2, 1, 30},   // 1, 2, 60 does, which is no pegs
		{1, 0, 41},   // a kind, but no pegs
		{1, 2, 60},   // the same
		{41, 0, 41},  // the same
		{80, 0, 80},  // the same
		{41, 0, 1},   // neither a kind nor pegs
		{40, 41, 42}, // the same
		{math.MaxInt, 0, math.MaxInt}, {math.MinInt, 0, math.MinInt}, {1, math.MinInt, 1}, {1, 0, math.MaxInt},
		{math.MaxInt, math.MaxInt - 1, math.MaxInt}, {1 << 32, 0, 1 << 32}, {1, 0, 1 << 32}, {1<<32 + 1, 0, 1},
	} {
		if l, ok := impl.TriangleOfKind(slices.Clone(kind)); len(l) != 0 || ok {
			t.Error(kind, l, ok)
		}
	}
}

// checkKind compares a polygon's kind with the first one of its frames, and all tellings of it.
func checkKind(t *testing.T, l []Peg) {
	t.Helper()
	want := firstOf(t, l)
	is := areSmall(want)
	if !is {
		want = nil
	}
	for _, told := range tellings(l) {
		if kind, ok := impl.KindOfPolygon(told); !slices.Equal(kind, want) || ok != is {
			t.Error(told, kind, ok)
		}
	}
}

func TestKindOfPolygon(t *testing.T) {
	for n := 3; n <= 5; n++ {
		for _, l := range smallPolygons(n) {
			checkKind(t, l)
		}
	}
	for _, s := range append(slices.Clone(polygons), triangles...) {
		checkKind(t, pegsOf(s))
	}
	for _, c := range []struct{ text, want string }{ // want is empty if it fails
		{"5,3 7,4 6,4", "0,0 1,0 0,1"},
		{"0,0 4,0 0,3", "0,0 1,0 4,12"},
		{"0,0 2,0 2,1 0,1", "0,0 1,0 1,2 0,2"},
		{"0,0 2,1 1,2 -1,1", "0,0 1,0 0,3 -1,3"},
		{"3,3 -2,3 -2,-1 3,-1", "0,0 4,0 4,5 0,5"},
		{"0,0 4,0 4,4 2,1 0,4", "0,0 1,0 5,8 -3,-4 -7,-12"},
		{"0,0 2,0 2,1 3,1 3,0 5,0 5,3 0,3", "0,0 1,0 0,1 -1,1 -3,3 0,3 5,-2 2,-2"},
		{"0,0 1,5 2,0 3,5 4,0 4,7 3,6 2,7 1,6 0,7", "0,0 1,0 0,2 1,2 -6,9 -1,3 -6,7 -1,1 -6,5 1,-2"},
		{"20,20 -20,20 -20,-20", "0,0 40,0 0,40"},
		{"21,20 -20,20 -20,-21", ""},
		{"-40,-40 40,-40 40,40 -40,40", ""},
		{"0,0 2,0 1,30", ""}, // the first frame is 1, 2, 60, though this is one, too
	} {
		if kind, ok := impl.KindOfPolygon(pegsOf(c.text)); !slices.Equal(kind, pegsOf(c.want)) || ok != (c.want != "") {
			t.Error(c.text, kind, ok)
		}
	}
}

// checkBetween compares what is said of two polygons with all ways to bring corners to corners.
func checkBetween(t *testing.T, p, q []Peg) {
	t.Helper()
	want, alike := between(p, q)
	if is, ok := impl.AreAlike(p, q); is != alike || !ok {
		t.Error(p, q, is, ok)
	}
	does := alike && isMove(want)
	if !does {
		want = Move{}
	}
	m, ok := impl.MoveBetween(p, q)
	if m != want || ok != does {
		t.Error(p, q, m, ok, want)
	}
	if !ok {
		return
	}
	brought, ok := impl.MoveCorners(m, p)
	first, _ := impl.TellFirst(brought)
	if same, _ := impl.TellFirst(q); !ok || !slices.Equal(first, same) {
		t.Error(p, q, m, brought)
	}
}

func TestAlike(t *testing.T) {
	all := slices.Concat(smallPolygons(3), smallPolygons(4))
	for _, s := range polygons {
		all = append(all, pegsOf(s))
	}
	var kinds [][]Peg // empty ones are no pegs
	for _, p := range all {
		kind, _ := impl.KindOfPolygon(p)
		kinds = append(kinds, kind)
	}
	for i, p := range all {
		for k, q := range all {
			checkBetween(t, p, q)
			_, alike := between(p, q)
			if len(kinds[i]) > 0 && len(kinds[k]) > 0 && slices.Equal(kinds[i], kinds[k]) != alike {
				t.Error(p, q, kinds[i], kinds[k])
			}
		}
	}
}

// TestAlikeWhenMoved moves polygons, and tells what becomes of them from each corner to each side.
func TestAlikeWhenMoved(t *testing.T) {
	for _, s := range append(slices.Clone(polygons), triangles...) {
		p := pegsOf(s)
		for _, m := range moves {
			q := bringAll(m, p)
			if !areSmall(q) {
				continue
			}
			for _, told := range tellings(q) {
				checkBetween(t, p, told)
				if is, ok := impl.AreAlike(p, told); !is || !ok {
					t.Error(s, told, is, ok)
				}
			}
		}
	}
}

func TestMoveBetween(t *testing.T) {
	for _, c := range []struct {
		p, q  string
		alike bool
		want  Move
	}{
		{"0,0 1,0 0,1", "5,3 7,4 6,4", true, Move{A: 2, B: 1, C: 1, D: 1, X: 5, Y: 3}},
		{"0,0 1,0 0,1", "0,0 1,0 0,1", true, still},
		// The order is kept if it can be, even to the right.
		{"0,0 1,0 0,1", "0,0 0,1 1,0", true, Move{B: 1, C: 1}},
		{"0,0 0,1 1,0", "3,3 3,4 4,3", true, Move{A: 1, D: 1, X: 3, Y: 3}},
		// It can not be: no other move brings these to each other.
		{"0,0 4,0 0,3", "0,0 0,3 4,0", true, still},
		{"0,0 4,0 0,3", "4,0 0,3 0,0", true, still},
		{"0,0 4,0 0,3", "4,0 0,0 0,3", true, still},
		// The first corner comes to the first corner of q rather than keep the order.
		{"0,0 2,0 1,3", "0,0 1,3 2,0", true, still},
		{"0,0 2,0 1,3", "2,0 1,3 0,0", true, Move{A: -1, D: 1, X: 2}},
		// Corners are brought to corners, but more than the size is other.
		{"0,0 1,0 0,1", "0,0 2,0 0,2", false, Move{}},
		{"0,0 2,0 0,2", "0,0 1,0 0,1", false, Move{}},
		{"0,0 6,0 0,1", "0,0 3,0 0,2", false, Move{}},
		{"0,0 1,0 1,1 0,1", "0,0 2,0 0,1", false, Move{}},
		{"0,0 1,0 1,1 0,1", "0,0 1,0 1,1 0,2", false, Move{}},
		{"0,0 1,0 0,3", "0,0 1,0 2,3", false, Move{}},
		// A is too great, though other corners could be brought to each other.
		{"0,0 1,0 0,1", "0,0 21,1 20,1", true, Move{}},
		{"0,0 1,0 0,1", "20,1 0,0 21,1", true, Move{A: -20, B: 1, C: -1, X: 20, Y: 1}},
		{"0,0 1,0 0,1", "0,0 20,1 19,1", true, Move{A: 20, B: 19, C: 1, D: 1}},
		// B is too great, though the other order could be.
		{"0,0 1,0 5,1", "0,0 5,1 1,0", true, Move{}},
		{"0,0 1,0 4,1", "0,0 4,1 1,0", true, Move{A: 4, B: -15, C: 1, D: -4}},
		// X and Y are met exactly, and are too great.
		{"0,40 1,40 0,39", "0,40 1,40 -2,39", true, Move{A: 1, B: 2, D: 1, X: -80}},
		{"0,40 1,40 0,39", "0,40 1,40 -3,39", true, Move{}},
		{"-40,-40 -39,-40 -40,-39", "40,40 39,40 40,39", true, Move{A: -1, D: -1}},
		{"-40,40 -39,40 -40,39", "40,-40 39,-40 40,-39", true, Move{A: -1, D: -1}},
		{"40,0 40,1 39,0", "0,-40 0,-39 -1,-38", true, Move{A: 1, C: -2, D: 1, X: -40, Y: 40}},
		{"40,0 40,1 39,0", "0,0 0,1 -1,2", true, Move{A: 1, C: -2, D: 1, X: -40, Y: 80}},
		{"40,0 40,1 39,0", "0,1 0,2 -1,3", true, Move{}},
	} {
		p, q := pegsOf(c.p), pegsOf(c.q)
		if is, ok := impl.AreAlike(p, q); is != c.alike || !ok {
			t.Error(c.p, c.q, is, ok)
		}
		if m, ok := impl.MoveBetween(p, q); m != c.want || ok != (c.want != Move{}) {
			t.Error(c.p, c.q, m, ok)
		}
	}
}

// onKinds are all functions of the chapter that take a polygon and succeed for each one, with other arguments that are valid.
func onKinds() map[string]call {
	return map[string]call{
		"MoveCorners": func(l []Peg) (any, bool) { return pair(impl.MoveCorners(Move{A: -1, D: 1}, l)) },
		"AreAlike":    func(l []Peg) (any, bool) { return pair(impl.AreAlike(l, l)) },
		"AreAlike of p": func(l []Peg) (any, bool) {
			return pair(impl.AreAlike(l, pegsOf("0,0 1,0 0,1")))
		},
		"AreAlike of q": func(l []Peg) (any, bool) {
			return pair(impl.AreAlike(pegsOf("0,0 1,0 0,1"), l))
		},
		"MoveBetween": func(l []Peg) (any, bool) { return pair(impl.MoveBetween(l, l)) },
		"MoveBetween to it": func(l []Peg) (any, bool) {
			if !polygon(l) {
				return pair(impl.MoveBetween(pegsOf("0,0 1,0 0,1"), l))
			}
			return pair(impl.MoveBetween(slices.Clone(l), l))
		},
		"MoveBetween from it": func(l []Peg) (any, bool) {
			if !polygon(l) {
				return pair(impl.MoveBetween(l, pegsOf("0,0 1,0 0,1")))
			}
			return pair(impl.MoveBetween(l, slices.Clone(l)))
		},
	}
}

func kindOfTriangle(l []Peg) (any, bool) { return pair(impl.KindOfTriangle(l)) }

func kindOfPolygon(l []Peg) (any, bool) { return pair(impl.KindOfPolygon(l)) }

func TestNoKindFails(t *testing.T) {
	checkFailing(t, onKinds(), notPolygons)
	checkFailing(t, map[string]call{"KindOfPolygon": kindOfPolygon}, notPolygons)
	checkFailing(t, map[string]call{"KindOfTriangle": kindOfTriangle}, notTriangles())
}

// TestMovedAreKept is promise 11 for moves: neither the corners nor what is behind them in memory change.
func TestMovedAreKept(t *testing.T) {
	checkKept(t, onKinds(), polygons)
	checkKept(t, map[string]call{"KindOfTriangle": kindOfTriangle}, triangles)
	var small []string
	for _, s := range polygons {
		if _, ok := impl.KindOfPolygon(pegsOf(s)); ok {
			small = append(small, s)
		}
	}
	if len(small) < 8 {
		t.Error(small)
	}
	checkKept(t, map[string]call{"KindOfPolygon": kindOfPolygon}, small)
}

// TestKindsAreKept is promise 11 for lists that are kinds.
func TestKindsAreKept(t *testing.T) {
	room := []int{1, 4, 12, 9, 9}
	l, ok := impl.TriangleOfKind(room[:3])
	if !slices.Equal(l, pegsOf("0,0 1,0 4,12")) || !ok || !slices.Equal(room, []int{1, 4, 12, 9, 9}) {
		t.Error(l, ok, room)
	}
	l, ok = impl.TriangleOfKind(room[:2])
	if len(l) != 0 || ok {
		t.Error("the room behind a list is read", l)
	}
	for _, twice := range []int{1, 12, 60} {
		one, _ := impl.KindsOfArea(twice)
		other, _ := impl.KindsOfArea(twice)
		if !fillAll(one) || !reflect.DeepEqual(other, kindsBy(twice)) {
			t.Error(twice, "shares memory")
		}
		if again, ok := impl.KindsOfArea(twice); !reflect.DeepEqual(again, other) || !ok {
			t.Error(twice, again, ok)
		}
	}
}
