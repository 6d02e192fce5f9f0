package tests

import (
	"fmt"
	"math"
	"reflect"
	"slices"
	"strings"
	"testing"

	"loop.example/g01259/impl"
)

type Peg = impl.Peg

// pegsOf reads pegs, any number of them and polygon or not, without the program's help.
func pegsOf(text string) []Peg {
	var pegs []Peg
	for _, word := range strings.Fields(text) {
		var p Peg
		if _, err := fmt.Sscanf(word, "%d,%d", &p.X, &p.Y); err != nil {
			panic(word)
		}
		pegs = append(pegs, p)
	}
	return pegs
}

func less(p, q Peg) Peg {
	return Peg{X: p.X - q.X, Y: p.Y - q.Y}
}

func cross(p, q Peg) int {
	return p.X*q.Y - p.Y*q.X
}

func dot(p, q Peg) int {
	return p.X*q.X + p.Y*q.Y
}

// onLine: p sees both ends in opposite directions, or is one of them.
func onLine(a, b, p Peg) bool {
	return cross(less(a, p), less(b, p)) == 0 && dot(less(a, p), less(b, p)) <= 0
}

// meet solves a + t (b - a) = c + u (d - c) in fractions.
func meet(a, b, c, d Peg) bool {
	r, s := less(b, a), less(d, c)
	den := cross(r, s)
	if den == 0 {
		return onLine(a, b, c) || onLine(a, b, d) || onLine(c, d, a)
	}
	t, u := cross(less(c, a), s), cross(less(c, a), r)
	if den < 0 {
		den, t, u = -den, -t, -u
	}
	return 0 <= t && t <= den && 0 <= u && u <= den
}

// polygon is the document's sentence on polygons, line by line.
func polygon(corners []Peg) bool {
	n := len(corners)
	if n < 3 || n > 10 {
		return false
	}
	for i, p := range corners {
		if p.X < -40 || p.X > 40 || p.Y < -40 || p.Y > 40 || slices.Index(corners, p) != i {
			return false
		}
	}
	for i := range n {
		a, b, c := corners[i], corners[(i+1)%n], corners[(i+2)%n]
		if cross(less(b, a), less(c, a)) == 0 {
			return false
		}
		for j := i + 2; j < n; j++ {
			if (j+1)%n != i && meet(a, b, corners[j], corners[(j+1)%n]) {
				return false
			}
		}
	}
	return true
}

// place sends a ray from p that no other peg is on, and counts the lines it meets.
func place(corners []Peg, p Peg) int {
	n := len(corners)
	met := 0
	for i := range n {
		a, b := corners[i], corners[(i+1)%n]
		if onLine(a, b, p) {
			return 0
		}
		if meet(a, b, p, Peg{X: p.X + 1000, Y: p.Y + 1}) {
			met++
		}
	}
	return 2*(met%2) - 1
}

// placed lists all pegs at a place, in order.
func placed(corners []Peg, at int) []Peg {
	var pegs []Peg
	for x := -40; x <= 40; x++ {
		for y := -40; y <= 40; y++ {
			if p := (Peg{X: x, Y: y}); place(corners, p) == at {
				pegs = append(pegs, p)
			}
		}
	}
	return pegs
}

// fan adds the triangles that the first corner makes with each line.
func fan(corners []Peg) int {
	sum := 0
	for i := 2; i < len(corners); i++ {
		sum += cross(less(corners[i-1], corners[0]), less(corners[i], corners[0]))
	}
	return sum
}

// lists calls f with all lists of n pegs of the board 0..2, 0..2, pegs repeated or not.
func lists(n int, f func([]Peg)) {
	listsOf(n, boardPegs(3, 3), f)
}

// listsOf calls f with all lists of n of some values, repeated or not.
func listsOf[T any](n int, values []T, f func([]T)) {
	list := make([]T, n)
	var fill func(int)
	fill = func(i int) {
		if i == n {
			f(list)
			return
		}
		for _, v := range values {
			list[i] = v
			fill(i + 1)
		}
	}
	fill(0)
}

// polygons are valid ones of all sorts: empty ones, to both sides, convex and
// not, with corners on one straight line that are not next to each other, and
// the limits met exactly.
var polygons = []string{
	"0,0 1,0 0,1",
	"0,0 0,1 1,0",
	"0,0 4,0 0,3",
	"0,0 0,3 4,0",
	"5,3 7,4 6,4",
	"-1,-1 1,0 0,1",
	"3,3 -2,3 -2,-1 3,-1",
	"-40,-40 40,-40 40,40 -40,40",
	"40,40 40,39 39,40",
	"0,0 4,0 4,4 2,1 0,4",
	"2,1 0,4 0,0 4,0 4,4",
	"0,0 2,0 2,1 3,1 3,0 5,0 5,3 0,3",
	"0,0 6,0 6,6 2,6 2,3 3,3 3,5 5,5 5,1 0,1",
	"-3,0 -2,-2 0,-3 2,-2 3,0 2,2 1,3 0,3 -2,2 -3,1",
	"0,0 1,5 2,0 3,5 4,0 4,7 3,6 2,7 1,6 0,7",
	"-40,0 40,1 -39,1",
	"-26,10 -27,14 -30,12",
	"10,-26 14,-27 12,-30",
}

// notPolygons are lists that are none.
var notPolygons = [][]Peg{
	nil,
	{},
	pegsOf("0,0"),
	pegsOf("0,0 1,0"),
	pegsOf("0,0 1,1 2,2"),
	pegsOf("0,0 0,0 0,0"),
	pegsOf("0,0 1,0 0,1 0,1"),
	pegsOf("0,0 1,0 0,1 0,0"),
	pegsOf("0,0 2,0 4,0 0,3"),
	pegsOf("2,0 4,0 0,3 0,0"),
	pegsOf("4,0 0,3 0,0 2,0"),
	pegsOf("0,0 4,0 2,0 0,3"),
	pegsOf("0,0 2,2 2,0 0,2"),
	pegsOf("0,0 4,0 4,4 2,0 0,4"),
	pegsOf("2,0 0,4 0,0 4,0 4,4"),
	pegsOf("0,0 4,0 4,4 0,0 2,4 0,4"),
	pegsOf("0,0 6,0 6,2 4,0 2,0 0,2"),
	pegsOf("6,0 6,6 0,6 0,0 5,0 5,5 1,5 1,1 4,1 4,0"),
	pegsOf("0,0 41,0 0,1"),
	pegsOf("0,0 1,0 0,-41"),
	pegsOf("-41,0 1,0 0,1"),
	pegsOf("0,0 1,0 0,41"),
	pegsOf("0,0 1,-1 2,0 3,-1 4,0 4,7 3,6 2,7 1,6 0,7 -1,5"),
	{{X: math.MinInt, Y: 0}, {X: math.MaxInt, Y: 0}, {X: 0, Y: math.MaxInt}},
	{{X: 0, Y: math.MinInt}, {X: 1, Y: math.MinInt}, {X: 0, Y: math.MaxInt}},
	make([]Peg, 1000),
}

// notPegs are points of all sorts of sizes.
var notPegs = []Peg{
	{X: 41}, {X: -41}, {Y: 41}, {Y: -41},
	{X: math.MaxInt}, {X: math.MinInt}, {Y: math.MaxInt}, {Y: math.MinInt},
	{X: math.MinInt, Y: math.MinInt}, {X: 1 << 32}, {Y: -1 << 32},
}

// call is a function of the program that takes corners; any is all of its results but the last one.
type call = func([]Peg) (any, bool)

func pair[T any](v T, ok bool) (any, bool) { return v, ok }

// isNothing holds for zero values and for empty slices.
func isNothing(v any) bool {
	r := reflect.ValueOf(v)
	return r.IsZero() || r.Kind() == reflect.Slice && r.Len() == 0
}

// checkFailing: each call fails for each of the lists, and returns nothing else.
func checkFailing[T any](t *testing.T, calls map[string]func([]T) (any, bool), lists [][]T) {
	t.Helper()
	for name, call := range calls {
		for _, l := range lists {
			if v, ok := call(slices.Clone(l)); ok || !isNothing(v) {
				t.Error(name, l, v, ok)
			}
		}
	}
}

// checkKept: each call succeeds for each of the polygons, and keeps to itself.
func checkKept(t *testing.T, calls map[string]call, texts []string) {
	t.Helper()
	for name, call := range calls {
		for _, s := range texts {
			checkRoom(t, name, call, pegsOf(s), pegsOf("9,9 -9,9 41,0 8,8"))
		}
	}
}

// checkRoom: a call succeeds for a list, changes neither it nor what is behind it in memory, and returns new memory,
// of which no two slices share any.
func checkRoom[T comparable](t *testing.T, name string, call func([]T) (any, bool), l, behind []T) {
	t.Helper()
	room := slices.Concat(l, behind)
	kept := slices.Clone(room)
	l = room[:len(l)]
	one, ok := call(l)
	if !ok || !slices.Equal(room, kept) {
		t.Error(name, kept, room, ok)
		return
	}
	other, _ := call(l)
	again, _ := call(slices.Clone(l))
	if !fillAll(one) || !slices.Equal(room, kept) || !reflect.DeepEqual(other, again) {
		t.Error(name, kept, "shares memory")
	}
}

// fillAll fills each slice of a result with something of its own, up to its capacity, and reports whether each has
// it still when all are filled.
func fillAll(result any) bool {
	all := innerSlices(reflect.ValueOf(result))
	for i, s := range all {
		for k := range s.Len() {
			s.Index(k).Set(filling(s.Type().Elem(), i))
		}
	}
	for i, s := range all {
		for k := range s.Len() {
			if !s.Index(k).Equal(filling(s.Type().Elem(), i)) {
				return false
			}
		}
	}
	return true
}

func filling(of reflect.Type, i int) reflect.Value {
	switch of {
	case reflect.TypeFor[Peg]():
		return reflect.ValueOf(Peg{X: 7777 + i, Y: -7777})
	case reflect.TypeFor[Clue]():
		return reflect.ValueOf(Clue{Kind: 7777 + i, A: -7777})
	}
	return reflect.ValueOf(7777 + i)
}

// innerSlices are the slices of a value that have no slices in them, each up to its capacity.
func innerSlices(v reflect.Value) []reflect.Value {
	if v.Kind() == reflect.Struct {
		var all []reflect.Value
		for i := range v.NumField() {
			all = append(all, innerSlices(v.Field(i))...)
		}
		return all
	}
	if v.Kind() != reflect.Slice {
		return nil
	}
	if v.Type().Elem().Kind() != reflect.Slice {
		return []reflect.Value{v.Slice(0, v.Cap())}
	}
	var all []reflect.Value
	for i := range v.Len() {
		all = append(all, innerSlices(v.Index(i))...)
	}
	return all
}
