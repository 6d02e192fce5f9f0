package tests

import (
	"fmt"
	"math"
	"math/rand/v2"
	"reflect"
	"slices"
	"sync"
	"testing"

	"loop.example/g01259/impl"
)

// ones are polygons that are one inside, of all sorts: with three pegs around, with nine, told to the right and from
// another corner than the first one, their own duals, and long ones up to the limits.
var ones = []string{
	"-1,-1 1,0 0,1",
	"0,1 1,0 -1,-1",
	"1,0 0,1 -1,-1",
	"-2,1 1,-2 1,1",
	"1,1 1,-2 -2,1",
	"-1,0 0,-1 1,0 0,1",
	"1,-1 -1,-1 -1,1 1,1",
	"0,1 1,0 1,-1 0,-1 -1,0 -1,1",
	"-1,-1 0,-1 1,0 1,1 0,1 -1,0",
	"-3,-2 1,0 0,1",
	"-1,-2 1,0 0,1 -1,0",
	"-1,1 -1,-1 1,0 0,1",
	"0,-1 1,0 0,1 -1,1 -1,-1",
	"-2,-1 2,-1 0,1",
	"39,1 -40,-1 1,0",
	"40,1 -1,0 -40,-1 1,0",
	"40,39 -1,-1 -39,-38",
	"-40,-39 1,1 39,38",
}

// otherPolygons are polygons that are not one inside: with a dent, with no point or several points inside, with one
// that is not 0, 0, and with 0, 0 on the lines or outside.
var otherPolygons = []string{
	"-1,2 -1,1 -2,1 1,-1",
	"1,0 -1,-2 0,2 0,1",
	"-2,2 -1,2 1,1 -1,-2 0,1",
	"0,0 1,0 0,1",
	"-1,-1 1,-1 0,0 0,1",
	"0,0 2,1 1,2",
	"1,1 2,3 3,2",
	"-2,-2 0,-1 -1,0",
	"-1,-1 2,-1 -1,2 1,-2",
	"-2,-1 1,0 0,2",
	"-2,-2 2,-2 2,2 -2,2",
	"-40,-40 40,-40 40,40 -40,40",
	"-1,-1 2,-1 2,2 -1,2",
	"-1,0 3,0 0,3",
	"1,-1 2,0 1,1 0,0",
	"39,39 40,39 40,40 39,40",
}

// boxOf lists the points of whole numbers of the upright box around some, in order.
func boxOf(l []Peg) []Peg {
	x0, x1 := l[0].X, l[0].X
	y0, y1 := l[0].Y, l[0].Y
	for _, p := range l {
		x0, x1 = min(x0, p.X), max(x1, p.X)
		y0, y1 = min(y0, p.Y), max(y1, p.Y)
	}
	var box []Peg
	for _, p := range boardPegs(x1-x0+1, y1-y0+1) {
		box = append(box, Peg{X: x0 + p.X, Y: y0 + p.Y})
	}
	return box
}

// isOne is the document's sentence on polygons that are one inside.
func isOne(l []Peg) bool {
	if !polygon(l) || !isRound(l) {
		return false
	}
	inside := filtered(boxOf(l), func(p Peg) bool { return place(l, p) == 1 })
	return slices.Equal(inside, []Peg{{}})
}

// isRound: each corner turns as the first one does.
func isRound(l []Peg) bool {
	for i := range l {
		if turnAt(l, i)*turnAt(l, 0) <= 0 {
			return false
		}
	}
	return true
}

func turnAt(l []Peg, i int) int {
	a, b, c := l[i], l[(i+1)%len(l)], l[(i+2)%len(l)]
	return cross(less(b, a), less(c, b))
}

// leftFirst tells a polygon, of whichever size, from its first corner to the left.
func leftFirst(l []Peg) []Peg {
	for _, told := range tellings(l) {
		if told[0] == slices.MinFunc(l, byOrder) && fan(told) > 0 {
			return told
		}
	}
	return nil
}

// smallOnes are all polygons of the pegs of -2..2, -2..2 that are one inside, from their first corners to the left.
var smallOnes = sync.OnceValue(func() [][]Peg {
	var pegs []Peg
	for _, p := range boardPegs(5, 5) {
		if p != (Peg{X: 2, Y: 2}) {
			pegs = append(pegs, less(p, Peg{X: 2, Y: 2}))
		}
	}
	sortAround(pegs)
	var all [][]Peg
	var choose func(l, rest []Peg)
	choose = func(l, rest []Peg) {
		if len(l) >= 3 && turnAt(l, len(l)-3) <= 0 {
			return
		}
		if len(l) >= 3 && isRound(l) && isOne(l) {
			all = append(all, leftFirst(l))
		}
		for i := 0; i < len(rest) && len(l) < 7; i++ {
			choose(append(slices.Clone(l), rest[i]), rest[i+1:])
		}
	}
	choose(nil, pegs)
	return all
})

// sortAround sorts points as they are seen from 0, 0, to the left.
func sortAround(l []Peg) {
	angle := func(p Peg) float64 { return math.Atan2(float64(p.Y), float64(p.X)) }
	slices.SortFunc(l, func(p, q Peg) int {
		if angle(p) < angle(q) {
			return -1
		}
		return 1
	})
}

// longOnes are named ones and those that moves without a shift make of some small ones.
func longOnes() [][]Peg {
	var all [][]Peg
	for _, s := range ones {
		all = append(all, pegsOf(s))
	}
	for i, m := range moves {
		m.X, m.Y = 0, 0
		for k := i % 5; k < len(smallOnes()); k += 5 {
			if l := bringAll(m, smallOnes()[k]); areSmall(l) {
				all = append(all, tellings(l)[k%len(l)])
			}
		}
	}
	return all
}

// kinds16 are small ones, one of each kind: no move brings two of them to each other.
var kinds16 = sync.OnceValue(func() [][]Peg {
	var kinds [][]Peg
	for _, l := range smallOnes() {
		if !slices.ContainsFunc(kinds, func(k []Peg) bool { return alikeBy(k, l) }) {
			kinds = append(kinds, l)
		}
	}
	return kinds
})

// alikeBy is for polygons of whichever size.
func alikeBy(p, q []Peg) bool {
	_, ok := between(p, q)
	return ok
}

// aroundBy looks for the pegs around in the box of the corners, which may be no pegs.
func aroundBy(l []Peg) []Peg {
	pegs := filtered(boxOf(l), func(p Peg) bool { return place(l, p) == 0 })
	first := pegs[0]
	sortAround(pegs)
	i := slices.Index(pegs, first)
	return slices.Concat(pegs[i:], pegs[:i])
}

// numbersBy tries all numbers for each of some pegs around.
func numbersBy(pegs []Peg) []int {
	var numbers []int
	for i, p := range pegs {
		a, b := pegs[(i+len(pegs)-1)%len(pegs)], pegs[(i+1)%len(pegs)]
		for k := -20; k <= 20; k++ {
			if a.X+b.X == k*p.X && a.Y+b.Y == k*p.Y {
				numbers = append(numbers, k)
			}
		}
	}
	return numbers
}

// dualBy solves u x + v y = 1 for both ends of each line by Cramer's rule, to points of whichever size.
func dualBy(l []Peg) []Peg {
	told := leftFirst(l)
	var dual []Peg
	for i, a := range told {
		b := told[(i+1)%len(told)]
		den := cross(a, b)
		p := Peg{X: (b.Y - a.Y) / den, Y: (a.X - b.X) / den}
		if dot(p, a) != 1 || dot(p, b) != 1 {
			panic(fmt.Sprint(l, " has no dual"))
		}
		dual = append(dual, p)
	}
	return leftFirst(dual)
}

func sumOf(list []int) int {
	sum := 0
	for _, n := range list {
		sum += n
	}
	return sum
}

func TestSixteenKinds(t *testing.T) {
	count := map[int]int{}
	for _, l := range kinds16() {
		count[len(aroundBy(l))]++
	}
	if want := map[int]int{3: 1, 4: 3, 5: 2, 6: 4, 7: 2, 8: 3, 9: 1}; !reflect.DeepEqual(count, want) {
		t.Fatal(count)
	}
}

func TestIsOneInside(t *testing.T) {
	count := map[bool]int{}
	check := func(l []Peg) {
		t.Helper()
		want := isOne(l)
		if is, ok := impl.IsOneInside(l); is != want || !ok {
			t.Error(l, is, ok)
		}
		count[want]++
	}
	for n := 3; n <= 5; n++ {
		for i, l := range smallPolygons(n) {
			check(bringAll(Move{A: 1, D: 1, X: -1, Y: -1}, l))
			check(bringAll(Move{A: 1, D: 1, X: -i % 3, Y: -i % 2}, l))
		}
	}
	for i, l := range smallOnes() {
		check(tellings(l)[i%len(l)])
		check(bringAll(Move{A: 1, D: 1, X: i % 3, Y: 1}, l))
	}
	for _, s := range append(slices.Clone(polygons), triangles...) {
		for _, p := range pegsOf("0,0 -1,-1 1,0 -2,-1 -5,-3") {
			if l := bringAll(Move{A: 1, D: 1, X: p.X, Y: p.Y}, pegsOf(s)); polygon(l) {
				check(l)
			}
		}
	}
	if count[true] < 200 || count[false] < 200 {
		t.Error(count)
	}
	for _, s := range ones {
		for _, told := range tellings(pegsOf(s)) {
			if is, ok := impl.IsOneInside(told); !is || !ok {
				t.Error(told, is, ok)
			}
		}
	}
	for _, s := range otherPolygons {
		for _, told := range tellings(pegsOf(s)) {
			if is, ok := impl.IsOneInside(told); is || ok != polygon(told) {
				t.Error(told, is, ok)
			}
		}
	}
}

// TestAround also is promise 6: numbers around are three times as many less twelve together.
func TestAround(t *testing.T) {
	count := map[int]int{}
	for i, l := range append(longOnes(), smallOnes()...) {
		want := aroundBy(l)
		for k, told := range tellings(l) {
			if k != i%len(l) && i >= len(ones) {
				continue
			}
			if pegs, ok := impl.AroundOf(told); !slices.Equal(pegs, want) || !ok {
				t.Error(told, pegs, ok)
			}
			numbers, ok := impl.NumbersAround(told)
			if !slices.Equal(numbers, numbersBy(want)) || !ok {
				t.Error(told, numbers, ok)
			}
			if sumOf(numbers) != 3*len(numbers)-12 {
				t.Error(told, numbers)
			}
		}
		count[len(want)]++
	}
	for n := 3; n <= 9; n++ {
		if count[n] == 0 {
			t.Error(count)
		}
	}
	for _, c := range []struct {
		text, pegs string
		numbers    []int
	}{
		{"-1,-1 1,0 0,1", "-1,-1 1,0 0,1", []int{-1, -1, -1}},
		{"0,1 1,0 -1,-1", "-1,-1 1,0 0,1", []int{-1, -1, -1}},
		{"-2,1 1,-2 1,1", "-2,1 -1,0 0,-1 1,-2 1,-1 1,0 1,1 0,1 -1,1", []int{1, 2, 2, 1, 2, 2, 1, 2, 2}},
		{"1,1 1,-2 -2,1", "-2,1 -1,0 0,-1 1,-2 1,-1 1,0 1,1 0,1 -1,1", []int{1, 2, 2, 1, 2, 2, 1, 2, 2}},
		{"0,-1 1,0 0,1 -1,0", "-1,0 0,-1 1,0 0,1", []int{0, 0, 0, 0}},
		{"1,1 -1,1 -1,-1 1,-1", "-1,-1 0,-1 1,-1 1,0 1,1 0,1 -1,1 -1,0", []int{1, 2, 1, 2, 1, 2, 1, 2}},
		{"-3,-2 1,0 0,1", "-3,-2 -1,-1 1,0 0,1 -1,0 -2,-1", []int{1, 2, -1, 0, 2, 2}},
		{"40,39 -1,-1 -39,-38", "-39,-38 -1,-1 40,39", []int{-1, -1, -1}},
	} {
		if pegs, ok := impl.AroundOf(pegsOf(c.text)); !slices.Equal(pegs, pegsOf(c.pegs)) || !ok {
			t.Error(c.text, pegs, ok)
		}
		if numbers, ok := impl.NumbersAround(pegsOf(c.text)); c.numbers != nil && !slices.Equal(numbers, c.numbers) || !ok {
			t.Error(c.text, numbers, ok)
		}
	}
}

// TestDualOf also is promise 6: duals of duals come back.
func TestDualOf(t *testing.T) {
	count := map[bool]int{}
	for i, l := range append(longOnes(), smallOnes()...) {
		want := dualBy(l)
		does := areSmall(want)
		count[does]++
		if !does {
			want = nil
		}
		dual, ok := impl.DualOf(tellings(l)[i%len(l)])
		if !slices.Equal(dual, want) || ok != does {
			t.Error(l, dual, ok)
		}
		if !ok {
			continue
		}
		if is, ok := impl.IsOneInside(dual); !is || !ok {
			t.Error(l, dual)
		}
		if back, ok := impl.DualOf(dual); !slices.Equal(back, leftFirst(l)) || !ok {
			t.Error(l, dual, back, ok)
		}
	}
	if count[true] < 200 || count[false] < 10 {
		t.Error(count)
	}
	for _, c := range []struct{ text, want string }{ // want is empty if it fails
		{"-1,-1 1,0 0,1", "-2,1 1,-2 1,1"},
		{"0,1 1,0 -1,-1", "-2,1 1,-2 1,1"},
		{"1,1 1,-2 -2,1", "-1,-1 1,0 0,1"},
		{"-1,0 0,-1 1,0 0,1", "-1,-1 1,-1 1,1 -1,1"},
		{"1,-1 -1,-1 -1,1 1,1", "-1,0 0,-1 1,0 0,1"},
		{"1,0 0,1 -1,1 -1,0 0,-1 1,-1", "-1,-1 0,-1 1,0 1,1 0,1 -1,0"},
		{"1,0 39,1 -1,0 -39,-1", "-1,38 -1,40 1,-38 1,-40"},
		{"1,0 40,1 -1,0 -40,-1", ""},
		{"0,1 1,39 0,-1 -1,-39", "-38,1 -40,1 38,-1 40,-1"},
		{"0,1 1,40 0,-1 -1,-40", ""},
		{"1,0 19,1 -20,-1", "-2,39 1,-21 1,-18"},
		{"1,0 20,1 -21,-1", ""},
		{"39,1 -40,-1 1,0", ""},
	} {
		var want []Peg
		if c.want != "" {
			want = leftFirst(pegsOf(c.want))
		}
		if dual, ok := impl.DualOf(pegsOf(c.text)); !slices.Equal(dual, want) || ok != (want != nil) {
			t.Error(c.text, dual, ok)
		}
	}
}

// TestSumOfBoth also takes polygons whose duals have corners that are no pegs.
func TestSumOfBoth(t *testing.T) {
	far := 0
	for i, l := range append(longOnes(), smallOnes()...) {
		dual := dualBy(l)
		if len(aroundBy(l))+len(aroundBy(dual)) != 12 {
			t.Error(l, dual)
		}
		if n, ok := impl.SumOfBoth(tellings(l)[i%len(l)]); n != 12 || !ok {
			t.Error(l, n, ok)
		}
		if !areSmall(dual) {
			far++
		}
	}
	if far < 10 {
		t.Error(far)
	}
}

func TestIsOwnDual(t *testing.T) {
	count, far := map[bool]int{}, 0
	for i, l := range append(longOnes(), smallOnes()...) {
		dual := dualBy(l)
		want := alikeBy(l, dual)
		if is, ok := impl.IsOwnDual(tellings(l)[i%len(l)]); is != want || !ok {
			t.Error(l, is, ok)
		}
		count[want]++
		if want && !areSmall(dual) {
			far++
		}
	}
	if count[true] < 50 || count[false] < 50 || far == 0 {
		t.Error(count, far)
	}
	own := 0
	for _, l := range kinds16() {
		if is, _ := impl.IsOwnDual(l); is {
			own++
		}
	}
	if own != 4 {
		t.Error(own)
	}
}

func TestAreSameAround(t *testing.T) {
	same := 0
	all := append(longOnes(), smallOnes()...)
	for i, p := range all {
		for k, q := range append(kinds16(), all[(i+1)%len(all)], all[i*7%len(all)]) {
			want := alikeBy(p, q)
			is, ok := impl.AreSameAround(tellings(p)[i%len(p)], tellings(q)[k%len(q)])
			if is != want || !ok {
				t.Error(p, q, is, ok)
			}
			if alike, ok := impl.AreAlike(p, q); alike != is || !ok {
				t.Error(p, q, is, alike)
			}
			if want && k < 16 {
				same++
			}
		}
	}
	if same != len(all) {
		t.Error(same, len(all))
	}
	for _, s := range ones {
		for _, none := range append(slices.Clone(notPolygons), othersOf()...) {
			if is, ok := impl.AreSameAround(pegsOf(s), none); is || ok {
				t.Error(s, none)
			}
			if is, ok := impl.AreSameAround(none, pegsOf(s)); is || ok {
				t.Error(none, s)
			}
		}
	}
}

// madeOf are the polygons that lists around make, for all lists that are around: each polygon that is one inside is
// alike to a small one, and each small one is told from each of its pegs. The keys are the texts of the lists.
var madeOf = sync.OnceValue(func() map[string]made {
	all := map[string]made{}
	for _, l := range smallOnes() {
		pegs := aroundBy(l)
		for i := range pegs {
			told := slices.Concat(pegs[i:], pegs[:i])
			var brought []Peg
			for _, p := range l {
				brought = append(brought, Peg{X: cross(p, told[1]), Y: cross(told[0], p)})
			}
			list := numbersBy(told)
			all[fmt.Sprint(list)] = made{list, leftFirst(brought)}
		}
	}
	return all
})

type made struct {
	list    []int
	corners []Peg
}

// cornersBy is the polygon that a list makes, and whether the list is around.
func cornersBy(list []int) ([]Peg, bool) {
	made, ok := madeOf()[fmt.Sprint(list)]
	return made.corners, ok
}

// listsAround are all lists of n numbers that are around, in order.
func listsAround(n int) [][]int {
	var all [][]int
	for _, made := range madeOf() {
		if len(made.list) == n {
			all = append(all, slices.Clone(made.list))
		}
	}
	slices.SortFunc(all, slices.Compare)
	return all
}

// everyList calls f with all lists of n numbers from least to greatest.
func everyList(n, least, greatest int, f func([]int)) {
	var numbers []int
	for k := least; k <= greatest; k++ {
		numbers = append(numbers, k)
	}
	listsOf(n, numbers, f)
}

// someNumbers calls f with all lists of 3 and 4 numbers, a little too small and too great ones with them, and with
// some of 0 to 11.
func someNumbers(f func([]int)) {
	everyList(3, -8, 4, f)
	everyList(4, -7, 3, f)
	r := rand.New(rand.NewPCG(6, 6))
	for n := range 12 {
		for least := -7; least <= 1; least++ {
			for range 500 {
				list := make([]int, n)
				for i := range list {
					list[i] = least + r.IntN(3-least)
				}
				if n > 0 && r.IntN(20) == 0 {
					list[r.IntN(n)] = 3
				}
				f(list)
			}
		}
	}
	for n := 3; n <= 9; n++ {
		for _, list := range listsAround(n) {
			f(list)
		}
	}
}

// areNumbers: a list is as the document requires of lists of numbers.
func areNumbers(list []int) bool {
	for _, n := range list {
		if n < -6 || n > 2 {
			return false
		}
	}
	return len(list) >= 3 && len(list) <= 9
}

// notNumbers are lists that are too short or too long, or have a number too small or too great, up to the ends of int.
func notNumbers() [][]int {
	none := [][]int{nil, {}, {1}, {-1, -1}, {0, 0}, {1, 2, 2, 1, 2, 2, 1, 2, 2, 1}, make([]int, 12), make([]int, 1000)}
	for n := 3; n <= 9; n++ {
		for _, l := range [][]int{make([]int, n), listsAround(n)[0]} {
			for i := range n {
				for _, number := range []int{-7, 3, math.MinInt, math.MaxInt, 1 << 32, -1 << 32, 1<<32 + 1, math.MinInt + 1} {
					list := slices.Clone(l)
					list[i] = number
					none = append(none, list)
				}
			}
		}
	}
	return none
}

func TestAreAround(t *testing.T) {
	check := func(list []int) {
		t.Helper()
		_, want := cornersBy(list)
		if are, ok := impl.AreAround(list); are != want || ok != areNumbers(list) {
			t.Error(list, are, ok)
		}
	}
	everyList(5, -6, 2, check)
	everyList(6, -3, 2, check)
	everyList(7, -1, 2, check)
	everyList(8, 0, 2, check)
	everyList(9, 0, 2, check)
	someNumbers(check)
	for _, c := range []struct {
		list []int
		want bool
	}{
		{[]int{-1, -1, -1}, true},
		{[]int{0, 0, 0, 0}, true},
		{[]int{2, 0, -2, 0}, true},
		{[]int{1, 1, 1, 0, 0}, true},
		{[]int{1, 1, 1, 1, 1, 1}, true},
		{[]int{2, 1, 2, 2, 1, 2, 2, 1, 2}, true},
		{[]int{-6, 0, 2, 0}, false},
		{[]int{0, 0, 0}, false},
		{[]int{2, 2, 2}, false},
		{[]int{-6, -6, -6}, false},
		{[]int{-3, 0, 0}, false},
		{[]int{0, 0, 1, -1}, false},
		// They come back, but go around twice, three times or more.
		{[]int{-1, -1, -1, -1, -1, -1}, false},
		{[]int{0, 0, 0, 0, 0, 0, 0, 0}, false},
		{[]int{-1, -1, -1, -1, -1, -1, -1, -1, -1}, false},
		{[]int{1, 0, -1, 0, 0, 0, 0, 0}, false},
		{[]int{-2, 0, 2, 0, -2, 0, 2, 0}, false},
		{[]int{-6, -1, 0, -6, 0, 0, 0, 0}, false},
	} {
		if are, ok := impl.AreAround(c.list); are != c.want || !ok {
			t.Error(c.list, are, ok)
		}
	}
}

func TestPolygonOfNumbers(t *testing.T) {
	check := func(list []int) {
		t.Helper()
		want, does := cornersBy(list)
		if l, ok := impl.PolygonOfNumbers(list); !slices.Equal(l, want) || ok != does {
			t.Error(list, l, ok)
		}
	}
	someNumbers(check)
	everyList(5, -2, 2, check)
	for _, c := range []struct {
		list []int
		want string // empty if it fails
	}{
		{[]int{-1, -1, -1}, "-1,-1 1,0 0,1"},
		{[]int{0, 0, 0, 0}, "-1,0 0,-1 1,0 0,1"},
		{[]int{0, -2, 0, 2}, "-1,-2 1,0 0,1"},
		{[]int{-2, 0, 2, 0}, "-2,-1 1,0 0,1"},
		{[]int{1, 2, 2, 1, 2, 2, 1, 2, 2}, "-2,3 1,-3 1,0"},
		{[]int{2, 1, 2, 2, 1, 2, 2, 1, 2}, "-3,1 3,-2 0,1"},
		{[]int{1, 1, 1, 1, 1, 1}, "-1,0 0,-1 1,-1 1,0 0,1 -1,1"},
		{[]int{-1, -1, -1, -1, -1, -1}, ""},
		{[]int{0, 0, 0, 0, 0, 0, 0, 0}, ""},
		{[]int{-6, -6, -6, -6, -6, -6, -6, -6, -6}, ""},
	} {
		if l, ok := impl.PolygonOfNumbers(c.list); !slices.Equal(l, pegsOf(c.want)) || ok != (c.want != "") {
			t.Error(c.list, l, ok)
		}
	}
}

// TestNumbersTellPolygons goes from polygons to numbers, from there to polygons that are alike, and to the numbers again.
func TestNumbersTellPolygons(t *testing.T) {
	for _, l := range smallOnes() {
		numbers, ok := impl.NumbersAround(l)
		if are, fine := impl.AreAround(numbers); !are || !ok || !fine {
			t.Error(l, numbers)
		}
		for i := range numbers {
			turned := slices.Concat(numbers[i:], numbers[:i])
			p, ok := impl.PolygonOfNumbers(turned)
			if same, fine := impl.AreSameAround(l, p); !same || !ok || !fine {
				t.Error(l, turned, p)
			}
			again, _ := impl.NumbersAround(p)
			around, _ := impl.AroundOf(p)
			k := slices.Index(around, Peg{X: 1})
			if k < 0 || !slices.Equal(slices.Concat(again[k:], again[:k]), turned) {
				t.Error(l, turned, p, again)
			}
		}
	}
}

func TestDualNumbers(t *testing.T) {
	check := func(list []int) {
		t.Helper()
		l, does := cornersBy(list)
		var want []int
		if does {
			want = numbersBy(aroundBy(dualBy(l)))
		}
		numbers, ok := impl.DualNumbers(list)
		if !slices.Equal(numbers, want) || ok != does {
			t.Error(list, numbers, ok)
		}
		if ok && len(numbers)+len(list) != 12 {
			t.Error(list, numbers)
		}
	}
	someNumbers(check)
	for _, c := range []struct{ list, want []int }{
		{[]int{-1, -1, -1}, []int{1, 2, 2, 1, 2, 2, 1, 2, 2}},
		{[]int{2, 1, 2, 2, 1, 2, 2, 1, 2}, []int{-1, -1, -1}},
		{[]int{0, 0, 0, 0}, []int{1, 2, 1, 2, 1, 2, 1, 2}},
		{[]int{1, 1, 1, 1, 1, 1}, []int{1, 1, 1, 1, 1, 1}},
		{[]int{-1, 0, 2, 2, 1, 2}, []int{-1, 0, 2, 2, 1, 2}},
		{[]int{-1, -1, -1, -1, -1, -1}, nil},
	} {
		if numbers, ok := impl.DualNumbers(c.list); !slices.Equal(numbers, c.want) || ok != (c.want != nil) {
			t.Error(c.list, numbers, ok)
		}
	}
}

func TestLeastNumbers(t *testing.T) {
	check := func(list []int) {
		t.Helper()
		var want []int
		if areNumbers(list) {
			want = slices.MinFunc(tellings(list), slices.Compare)
		}
		if least, ok := impl.LeastNumbers(list); !slices.Equal(least, want) || ok != areNumbers(list) {
			t.Error(list, least, ok)
		}
	}
	someNumbers(check)
	everyList(5, -2, 3, check)
	for _, c := range []struct{ list, want []int }{
		{[]int{2, 1, 0}, []int{0, 1, 2}},
		{[]int{2, 0, 1}, []int{0, 1, 2}},
		{[]int{0, -6, -6, 2}, []int{-6, -6, 0, 2}},
		{[]int{2, 0, -6, -6}, []int{-6, -6, 0, 2}},
		{[]int{1, 2, 1, 2}, []int{1, 2, 1, 2}},
		{[]int{2, 2, 2, 2, 2, 2, 2, 2, -6}, []int{-6, 2, 2, 2, 2, 2, 2, 2, 2}},
		{[]int{0, 1, 0, 0, 1, 1, 0, 1, 0}, []int{0, 0, 1, 0, 0, 1, 0, 1, 1}},
	} {
		if least, ok := impl.LeastNumbers(c.list); !slices.Equal(least, c.want) || !ok {
			t.Error(c.list, least, ok)
		}
	}
}

func TestAllAround(t *testing.T) {
	for i, count := range []int{1, 3, 2, 4, 2, 3, 1} {
		n := i + 3
		var want [][]int
		for _, list := range listsAround(n) {
			if slices.Equal(list, slices.MinFunc(tellings(list), slices.Compare)) {
				want = append(want, list)
			}
		}
		if all, ok := impl.AllAround(n); !reflect.DeepEqual(all, want) || len(all) != count || !ok {
			t.Error(n, all, ok)
		}
		if k, ok := impl.CountAround(n); k != count || !ok {
			t.Error(n, k, ok)
		}
	}
	for n, want := range map[int][][]int{
		3: {{-1, -1, -1}},
		4: {{-2, 0, 2, 0}, {-1, 0, 1, 0}, {0, 0, 0, 0}},
		5: {{-1, 0, 2, 1, 1}, {0, 0, 1, 1, 1}},
		6: {{-1, 0, 2, 2, 1, 2}, {0, 0, 1, 2, 1, 2}, {0, 1, 1, 2, 1, 1}, {1, 1, 1, 1, 1, 1}},
		7: {{0, 1, 1, 2, 2, 1, 2}, {1, 1, 1, 1, 2, 1, 2}},
		8: {{0, 2, 1, 2, 2, 2, 1, 2}, {1, 1, 2, 1, 2, 2, 1, 2}, {1, 2, 1, 2, 1, 2, 1, 2}},
		9: {{1, 2, 2, 1, 2, 2, 1, 2, 2}},
	} {
		if all, ok := impl.AllAround(n); !reflect.DeepEqual(all, want) || !ok {
			t.Error(n, all, ok)
		}
	}
	for _, n := range []int{2, 1, 0, -1, -3, 10, 11, 12, math.MaxInt, math.MinInt, 1<<32 + 3, -1<<32 + 3} {
		if all, ok := impl.AllAround(n); len(all) != 0 || ok {
			t.Error(n, all, ok)
		}
		if k, ok := impl.CountAround(n); k != 0 || ok {
			t.Error(n, k, ok)
		}
	}
}

// TestAllAroundIsNew: no two lists share memory, and nothing is kept for the next call.
func TestAllAroundIsNew(t *testing.T) {
	for n := 3; n <= 9; n++ {
		one, _ := impl.AllAround(n)
		other, _ := impl.AllAround(n)
		if !fillAll(one) {
			t.Error(n, "shares memory")
		}
		if again, ok := impl.AllAround(n); !reflect.DeepEqual(again, other) || !ok {
			t.Error(n, again, ok)
		}
	}
}

// TestAroundTellsKinds: polygons are alike exactly if their LeastNumbers are the same, and these are listed.
func TestAroundTellsKinds(t *testing.T) {
	found := map[string]bool{}
	for _, l := range kinds16() {
		numbers, _ := impl.NumbersAround(l)
		least, ok := impl.LeastNumbers(numbers)
		all, fine := impl.AllAround(len(least))
		if !slices.ContainsFunc(all, func(list []int) bool { return slices.Equal(list, least) }) || !ok || !fine {
			t.Error(l, least)
		}
		found[fmt.Sprint(least)] = true
	}
	if len(found) != 16 {
		t.Error(found)
	}
}

// putBy turns the list so that the 1 comes first.
func putBy(list []int, at int) ([]int, bool) {
	n := len(list)
	if !areNumbers(list) || at < 0 || at > n || n == 9 {
		return nil, false
	}
	turned := slices.Concat([]int{1}, list[at:], list[:at])
	turned[1]++
	turned[n]++
	put := slices.Concat(turned[n+1-at:], turned[:n+1-at])
	return put, turned[1] <= 2 && turned[n] <= 2
}

// takeBy turns the list so that the 1 comes first.
func takeBy(list []int, at int) ([]int, bool) {
	n := len(list)
	if !areNumbers(list) || n < 4 || at < 0 || at >= n || list[at] != 1 {
		return nil, false
	}
	turned := slices.Concat(list[at+1:], list[:at])
	turned[0]--
	turned[n-2]--
	taken := slices.Concat(turned[n-1-at:], turned[:n-1-at])
	return taken, turned[0] >= -6 && turned[n-2] >= -6
}

// checkPut compares PutPeg or TakePeg at all places, and at some that are none, with the test's own way.
func checkPut(t *testing.T, name string, list []int, does, by func([]int, int) ([]int, bool)) int {
	t.Helper()
	succeeds := 0
	for at := -2; at <= len(list)+2; at++ {
		want, ok := by(list, at)
		if !ok {
			want = nil
		}
		put, fine := does(list, at)
		if !slices.Equal(put, want) || fine != ok {
			t.Error(name, list, at, put, fine)
		}
		if ok {
			succeeds++
		}
	}
	return succeeds
}

func TestPutAndTake(t *testing.T) {
	puts, takes := map[int]int{}, map[int]int{}
	check := func(list []int) {
		t.Helper()
		puts[len(list)] += checkPut(t, "put", list, impl.PutPeg, putBy)
		takes[len(list)] += checkPut(t, "take", list, impl.TakePeg, takeBy)
	}
	someNumbers(check)
	everyList(5, -6, -4, check)
	everyList(5, -1, 2, check)
	everyList(9, 1, 2, check)
	everyList(5, -6, 1, func(list []int) { takes[len(list)] += checkPut(t, "take", list, impl.TakePeg, takeBy) })
	for n := range 12 {
		if (puts[n] > 50) != (n >= 3 && n <= 8) || (takes[n] > 50) != (n >= 4 && n <= 9) {
			t.Error(n, puts[n], takes[n])
		}
	}
}

func TestPutPeg(t *testing.T) {
	for _, c := range []struct {
		list []int
		at   int
		want []int // nil if it fails
	}{
		{[]int{0, 0, 0, 0}, 1, []int{1, 1, 1, 0, 0}},
		{[]int{0, 0, 0, 0}, 0, []int{1, 1, 0, 0, 1}},
		{[]int{0, 0, 0, 0}, 4, []int{1, 0, 0, 1, 1}},
		{[]int{0, 0, 0, 0}, 3, []int{0, 0, 1, 1, 1}},
		{[]int{0, 0, 0, 0}, 5, nil},
		{[]int{0, 0, 0, 0}, -1, nil},
		{[]int{-1, -1, -1}, 0, []int{1, 0, -1, 0}},
		{[]int{-1, -1, -1}, 3, []int{0, -1, 0, 1}},
		{[]int{1, 2, 1}, 0, []int{1, 2, 2, 2}},
		{[]int{1, 2, 1}, 3, []int{2, 2, 2, 1}},
		{[]int{1, 2, 1}, 1, nil},
		{[]int{1, 2, 1}, 2, nil},
		{[]int{2, 0, 0}, 0, nil},
		{[]int{2, 0, 0}, 3, nil},
		{[]int{0, 0, 2}, 0, nil},
		{[]int{0, 0, 2}, 3, nil},
		{[]int{2, 0, 0}, 2, []int{2, 1, 1, 1}},
		{[]int{-6, -6, -6}, 1, []int{-5, 1, -5, -6}},
		{[]int{1, 1, 1, 1, 1, 1, 1, 1}, 8, []int{2, 1, 1, 1, 1, 1, 1, 2, 1}},
		{[]int{1, 1, 1, 1, 1, 1, 1, 1, 1}, 8, nil},
		{[]int{0, 0, 0, 0}, math.MaxInt, nil},
		{[]int{0, 0, 0, 0}, math.MinInt, nil},
		{[]int{0, 0, 0, 0}, 1 << 32, nil},
		{[]int{0, 0}, 1, nil},
	} {
		if put, ok := impl.PutPeg(c.list, c.at); !slices.Equal(put, c.want) || ok != (c.want != nil) {
			t.Error(c.list, c.at, put, ok)
		}
	}
}

func TestTakePeg(t *testing.T) {
	for _, c := range []struct {
		list []int
		at   int
		want []int // nil if it fails
	}{
		{[]int{1, 1, 1, 0, 0}, 1, []int{0, 0, 0, 0}},
		{[]int{1, 1, 1, 0, 0}, 0, []int{0, 1, 0, -1}},
		{[]int{1, 1, 0, 0, 1}, 4, []int{0, 1, 0, -1}},
		{[]int{1, 1, 0, 0, 1}, 0, []int{0, 0, 0, 0}},
		{[]int{1, 1, 1, 0, 0}, 3, nil},
		{[]int{1, 1, 1, 0, 0}, 5, nil},
		{[]int{1, 1, 1, 0, 0}, -1, nil},
		{[]int{1, 2, 2, 2}, 0, []int{1, 2, 1}},
		{[]int{2, 2, 2, 1}, 3, []int{1, 2, 1}},
		{[]int{2, 2, 2, 1}, 2, nil},
		{[]int{1, -6, -6, 0}, 0, nil},
		{[]int{1, 0, -6, -6}, 0, nil},
		{[]int{-6, 0, 0, 1}, 3, nil},
		{[]int{0, 0, -6, 1}, 3, nil},
		{[]int{1, -5, -6, -5}, 0, []int{-6, -6, -6}},
		{[]int{-5, -6, -5, 1}, 3, []int{-6, -6, -6}},
		{[]int{1, 1, 1}, 0, nil},
		{[]int{1, 1, 1}, 2, nil},
		{[]int{1, 1, 1, 1}, 2, []int{1, 0, 0}},
		{[]int{1, 2, 2, 1, 2, 2, 1, 2, 2}, 0, []int{1, 2, 1, 2, 2, 1, 2, 1}},
		{[]int{2, 2, 1, 2, 2, 1, 2, 2, 1}, 8, []int{1, 2, 1, 2, 2, 1, 2, 1}},
		{[]int{1, 1, 1, 0, 0}, math.MaxInt, nil},
		{[]int{1, 1, 1, 0, 0}, math.MinInt, nil},
		{[]int{1, 1, 1, 0, 0}, 1 << 32, nil},
	} {
		if taken, ok := impl.TakePeg(c.list, c.at); !slices.Equal(taken, c.want) || ok != (c.want != nil) {
			t.Error(c.list, c.at, taken, ok)
		}
	}
}

// TestPutPegsAreAround: a 1 put into a list that is around is a peg that is both pegs beside it together, and is taken
// away again.
func TestPutPegsAreAround(t *testing.T) {
	for n := 3; n <= 9; n++ {
		for _, list := range listsAround(n) {
			for at := range n + 1 {
				put, ok := impl.PutPeg(list, at)
				if !ok {
					continue
				}
				if are, _ := impl.AreAround(put); !are {
					t.Error(list, at, put)
				}
				if back, ok := impl.TakePeg(put, at); !slices.Equal(back, list) || !ok {
					t.Error(list, at, put, back)
				}
			}
		}
	}
}

// onOnes are all functions of the chapter that take a polygon that is one inside and succeed for some, with other
// arguments that are valid.
func onOnes() map[string]call {
	return map[string]call{
		"AroundOf":      func(l []Peg) (any, bool) { return pair(impl.AroundOf(l)) },
		"NumbersAround": func(l []Peg) (any, bool) { return pair(impl.NumbersAround(l)) },
		"SumOfBoth":     func(l []Peg) (any, bool) { return pair(impl.SumOfBoth(l)) },
		"IsOwnDual":     func(l []Peg) (any, bool) { return pair(impl.IsOwnDual(l)) },
		"AreSameAround": func(l []Peg) (any, bool) { return pair(impl.AreSameAround(l, l)) },
		"AreSameAround of p": func(l []Peg) (any, bool) {
			return pair(impl.AreSameAround(l, pegsOf("-1,-1 1,0 0,1")))
		},
		"AreSameAround of q": func(l []Peg) (any, bool) {
			return pair(impl.AreSameAround(pegsOf("-1,-1 1,0 0,1"), l))
		},
	}
}

func isOneInside(l []Peg) (any, bool) { return pair(impl.IsOneInside(l)) }

func dualOf(l []Peg) (any, bool) { return pair(impl.DualOf(l)) }

// onNumbers are all functions of the chapter that take a list of numbers and succeed for 1, 1, 1, 1, 1, 1.
func onNumbers() map[string]func([]int) (any, bool) {
	calls := map[string]func([]int) (any, bool){
		"PolygonOfNumbers": func(l []int) (any, bool) { return pair(impl.PolygonOfNumbers(l)) },
		"AreAround":        func(l []int) (any, bool) { return pair(impl.AreAround(l)) },
		"DualNumbers":      func(l []int) (any, bool) { return pair(impl.DualNumbers(l)) },
		"LeastNumbers":     func(l []int) (any, bool) { return pair(impl.LeastNumbers(l)) },
	}
	for at := range 7 {
		calls[fmt.Sprint("PutPeg ", at)] = func(l []int) (any, bool) { return pair(impl.PutPeg(l, at)) }
	}
	for at := range 6 {
		calls[fmt.Sprint("TakePeg ", at)] = func(l []int) (any, bool) { return pair(impl.TakePeg(l, at)) }
	}
	return calls
}

func othersOf() [][]Peg {
	var all [][]Peg
	for _, s := range otherPolygons {
		all = append(all, pegsOf(s))
	}
	return all
}

func TestNotOneInsideFails(t *testing.T) {
	calls := onOnes()
	calls["DualOf"] = dualOf
	checkFailing(t, calls, othersOf())
	calls["IsOneInside"] = isOneInside
	checkFailing(t, calls, notPolygons)
}

func TestNoNumbersFail(t *testing.T) {
	checkFailing(t, onNumbers(), notNumbers())
}

// TestOnesAreKept is promise 11 for polygons that are one inside.
func TestOnesAreKept(t *testing.T) {
	checkKept(t, onOnes(), ones)
	checkKept(t, map[string]call{"IsOneInside": isOneInside}, append(slices.Clone(polygons), ones...))
	var near []string
	for _, s := range ones {
		if areSmall(dualBy(pegsOf(s))) {
			near = append(near, s)
		}
	}
	if len(near) < 10 || len(near) == len(ones) {
		t.Error(near)
	}
	checkKept(t, map[string]call{"DualOf": dualOf}, near)
}

// TestNumbersAreKept is promise 11 for lists of numbers.
func TestNumbersAreKept(t *testing.T) {
	for name, call := range onNumbers() {
		checkRoom(t, name, call, []int{1, 1, 1, 1, 1, 1}, []int{0, 7, 1, math.MaxInt})
	}
	for name, call := range onNumbers() {
		room := []int{1, 1, 1, 1, 1, 1}
		if v, ok := call(room[:2]); ok || !isNothing(v) || !slices.Equal(room, []int{1, 1, 1, 1, 1, 1}) {
			t.Error(name, "the room behind a list is read", v, room)
		}
	}
}
