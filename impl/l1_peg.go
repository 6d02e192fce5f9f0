package impl

import (
	"strconv"
	"strings"
)

const MaxPeg = 40
const MaxCorners = 10

type Peg struct {
	X int
	Y int
}

// corner is a peg of a polygon that knows both corners next to it, so that
// sums around a polygon need no indices.
type corner struct {
	Peg
	before Peg
	behind Peg
}

// IsPeg reports whether p, whose numbers may be any, is a peg.
func IsPeg(p Peg) bool {
	return isOfSize(p.X, MaxPeg) && isOfSize(p.Y, MaxPeg)
}

// PegsOnLine returns how many points of whole numbers are on the line between two pegs, both ends with them.
func PegsOnLine(a Peg, b Peg) (int, bool) {
	if !isLine(a, b) {
		return 0, false
	}
	return a.stepsTo(b) + 1, true
}

// IsOnLine reports whether a peg is on the line between two, its ends with it.
func IsOnLine(a Peg, b Peg, p Peg) (bool, bool) {
	if !isLine(a, b) || !IsPeg(p) {
		return false, false
	}
	return p.isBetween(a, b), true
}

// DoLinesMeet reports whether the lines a b and c d have a point in common.
func DoLinesMeet(a Peg, b Peg, c Peg, d Peg) (bool, bool) {
	if !isLine(a, b) || !isLine(c, d) {
		return false, false
	}
	return linesMeet(a, b, c, d), true
}

// IsPolygon reports whether a list, whose numbers may be any, is a polygon.
func IsPolygon(corners []Peg) bool {
	if len(corners) < 3 || len(corners) > MaxCorners || !arePegs(corners) {
		return false
	}
	around := cornersAround(corners)
	for i, c := range around {
		if c.turn() == 0 {
			return false
		}
		for _, d := range around[:i] {
			if c.Peg == d.Peg || c.isCrossing(d) {
				return false
			}
		}
	}
	return true
}

// TwiceArea returns twice the area: greater than 0 to the left, less than 0 to the right.
func TwiceArea(corners []Peg) (int, bool) {
	if !IsPolygon(corners) {
		return 0, false
	}
	return sumAround(corners, corner.areaPart), true
}

// PegsOn returns how many points of whole numbers are on the lines.
func PegsOn(corners []Peg) (int, bool) {
	if !IsPolygon(corners) {
		return 0, false
	}
	return sumAround(corners, corner.steps), true
}

// PegsInside returns how many are inside, by Pick's rule.
func PegsInside(corners []Peg) (int, bool) {
	if !IsPolygon(corners) {
		return 0, false
	}
	twice := sumAround(corners, corner.areaPart)
	on := sumAround(corners, corner.steps)
	return (max(twice, -twice) + 2 - on) / 2, true
}

// ListInside returns these points, in order.
func ListInside(corners []Peg) ([]Peg, bool) {
	count, ok := PegsInside(corners)
	if !ok {
		return nil, false
	}
	inside := make([]Peg, 0, count)
	visitBox(corners, func(p Peg, place int) {
		if place == 1 {
			inside = append(inside, p)
		}
	})
	return inside, true
}

// WhereIs returns 1 if a peg is inside, 0 if it is on the lines, and -1 otherwise.
func WhereIs(corners []Peg, p Peg) (int, bool) {
	if !IsPolygon(corners) || !IsPeg(p) {
		return 0, false
	}
	return placeIn(corners, p), true
}

// IsConvex reports whether all corners turn to the same side.
func IsConvex(corners []Peg) (bool, bool) {
	if !IsPolygon(corners) {
		return false, false
	}
	around := cornersAround(corners)
	for _, c := range around {
		if (c.turn() > 0) != (around[0].turn() > 0) {
			return false, true
		}
	}
	return true, true
}

// BackPolygon returns the polygon told from the same corner to the other side.
func BackPolygon(corners []Peg) ([]Peg, bool) {
	if !IsPolygon(corners) {
		return nil, false
	}
	return tellFrom(corners, 0, -1), true
}

// TellFirst returns it told from its first corner, in order, to the left.
func TellFirst(corners []Peg) ([]Peg, bool) {
	twice, ok := TwiceArea(corners)
	if !ok {
		return nil, false
	}
	first := 0
	for i, p := range corners {
		if p.isBefore(corners[first]) {
			first = i
		}
	}
	if twice < 0 {
		return tellFrom(corners, first, -1), true
	}
	return tellFrom(corners, first, 1), true
}

// TurnPolygon returns it turned by a quarter to the left around the point 0, 0: x, y becomes -y, x.
func TurnPolygon(corners []Peg) ([]Peg, bool) {
	return bringCorners(corners, Peg.turned)
}

// MirrorPolygon returns it with x replaced by -x.
func MirrorPolygon(corners []Peg) ([]Peg, bool) {
	return bringCorners(corners, Peg.mirrored)
}

// MovePolygon returns it moved by x and y, each of a size of at most 2 MaxPeg.
func MovePolygon(corners []Peg, x int, y int) ([]Peg, bool) {
	if !isOfSize(x, 2*MaxPeg) || !isOfSize(y, 2*MaxPeg) {
		return nil, false
	}
	return bringCorners(corners, func(p Peg) Peg { return Peg{p.X + x, p.Y + y} })
}

// PolygonText returns the corners as X, a comma and Y, with a blank between them.
func PolygonText(corners []Peg) (string, bool) {
	if !IsPolygon(corners) {
		return "", false
	}
	words := make([]string, len(corners))
	for i, p := range corners {
		words[i] = strconv.Itoa(p.X) + "," + strconv.Itoa(p.Y)
	}
	return strings.Join(words, " "), true
}

// ParsePolygon returns the polygon with a PolygonText. It fails if there is none.
func ParsePolygon(s string) ([]Peg, bool) {
	words := strings.Split(s, " ")
	corners := make([]Peg, len(words))
	for i, word := range words {
		p, ok := parsePeg(word)
		if !ok {
			return nil, false
		}
		corners[i] = p
	}
	// Numbers such as +1, 01 and -0 are read too; they are no PolygonText.
	if text, ok := PolygonText(corners); !ok || text != s {
		return nil, false
	}
	return corners, true
}

func parsePeg(word string) (Peg, bool) {
	numbers, ok := parseNumbers(word, ",")
	if !ok || len(numbers) != 2 {
		return Peg{}, false
	}
	return Peg{numbers[0], numbers[1]}, true
}

// parseNumbers takes all numbers that Atoi takes, also those that no text has.
func parseNumbers(text string, separator string) ([]int, bool) {
	words := strings.Split(text, separator)
	numbers := make([]int, len(words))
	for i, word := range words {
		n, err := strconv.Atoi(word)
		if err != nil {
			return nil, false
		}
		numbers[i] = n
	}
	return numbers, true
}

// isOfSize takes no absolute value, as the least int has none.
func isOfSize(n int, most int) bool {
	return -most <= n && n <= most
}

func arePegs(pegs []Peg) bool {
	for _, p := range pegs {
		if !IsPeg(p) {
			return false
		}
	}
	return true
}

func isLine(a Peg, b Peg) bool {
	return IsPeg(a) && IsPeg(b) && a != b
}

func (p Peg) isBefore(q Peg) bool {
	return p.X < q.X || p.X == q.X && p.Y < q.Y
}

func (p Peg) turned() Peg {
	return Peg{-p.Y, p.X}
}

func (p Peg) mirrored() Peg {
	return Peg{-p.X, p.Y}
}

func (p Peg) stepsTo(q Peg) int {
	return greatestDivisor(q.X-p.X, q.Y-p.Y)
}

// greatestDivisor is 0 only if both numbers are.
func greatestDivisor(m int, n int) int {
	for n != 0 {
		m, n = n, m%n
	}
	return max(m, -m)
}

func (p Peg) isBetween(a Peg, b Peg) bool {
	return twiceThree(a, b, p) == 0 &&
		min(a.X, b.X) <= p.X && p.X <= max(a.X, b.X) &&
		min(a.Y, b.Y) <= p.Y && p.Y <= max(a.Y, b.Y)
}

// twiceThree is twice the area of a b c with its sign, so it is greater than 0
// exactly if c is to the left of the line from a to b.
func twiceThree(a Peg, b Peg, c Peg) int {
	return (b.X-a.X)*(c.Y-a.Y) - (c.X-a.X)*(b.Y-a.Y)
}

// linesMeet looks at the ends first: what meets otherwise has the ends of each
// line on different sides of the other one.
func linesMeet(a Peg, b Peg, c Peg, d Peg) bool {
	if a.isBetween(c, d) || b.isBetween(c, d) || c.isBetween(a, b) || d.isBetween(a, b) {
		return true
	}
	return linesCross(a, b, c, d)
}

// linesCross leaves out lines that only touch: those with an end on the other one.
func linesCross(a Peg, b Peg, c Peg, d Peg) bool {
	return twiceThree(a, b, c)*twiceThree(a, b, d) < 0 && twiceThree(c, d, a)*twiceThree(c, d, b) < 0
}

func cornersAround(corners []Peg) []corner {
	n := len(corners)
	around := make([]corner, n)
	for i, p := range corners {
		around[i] = corner{Peg: p, before: corners[(i+n-1)%n], behind: corners[(i+1)%n]}
	}
	return around
}

func sumAround(corners []Peg, part func(corner) int) int {
	sum := 0
	for _, c := range cornersAround(corners) {
		sum += part(c)
	}
	return sum
}

// areaPart is twice the area that the line behind the corner makes with 0, 0.
func (c corner) areaPart() int {
	return c.X*c.behind.Y - c.behind.X*c.Y
}

func (c corner) steps() int {
	return c.stepsTo(c.behind)
}

func (c corner) turn() int {
	return twiceThree(c.before, c.Peg, c.behind)
}

// isCrossing leaves out lines next to each other: they have more than a corner
// in common only if the corner does not turn.
func (c corner) isCrossing(d corner) bool {
	if c.behind == d.Peg || d.behind == c.Peg {
		return false
	}
	return linesMeet(c.Peg, c.behind, d.Peg, d.behind)
}

func boxAround(pegs []Peg) (Peg, Peg) {
	least, greatest := pegs[0], pegs[0]
	for _, p := range pegs {
		least = Peg{min(least.X, p.X), min(least.Y, p.Y)}
		greatest = Peg{max(greatest.X, p.X), max(greatest.Y, p.Y)}
	}
	return least, greatest
}

// visitBox tells, in order, all pegs of the box around a polygon with their
// places: all that are inside or on the lines are among them.
func visitBox(corners []Peg, visit func(p Peg, place int)) {
	least, greatest := boxAround(corners)
	for x := least.X; x <= greatest.X; x++ {
		for y := least.Y; y <= greatest.Y; y++ {
			visit(Peg{x, y}, placeIn(corners, Peg{x, y}))
		}
	}
}

// placeIn counts how often the lines go around p. A line counts with its lower
// end and without its upper one, so that none counts twice at a corner.
func placeIn(corners []Peg, p Peg) int {
	rounds := 0
	for _, c := range cornersAround(corners) {
		if p.isBetween(c.Peg, c.behind) {
			return 0
		}
		side := twiceThree(c.Peg, c.behind, p)
		if c.Y <= p.Y && p.Y < c.behind.Y && side > 0 {
			rounds++
		}
		if c.behind.Y <= p.Y && p.Y < c.Y && side < 0 {
			rounds--
		}
	}
	if rounds == 0 {
		return -1
	}
	return 1
}

func tellFrom[T any](list []T, first int, step int) []T {
	n := len(list)
	told := make([]T, n)
	for i := range told {
		told[i] = list[(first+i*step+n)%n]
	}
	return told
}

// tellings tells a list around from each place on, in its order before it goes
// to the other side, as MoveBetween looks for them.
func tellings[T any](list []T) [][]T {
	told := make([][]T, 0, 2*len(list))
	for first := range list {
		told = append(told, tellFrom(list, first, 1), tellFrom(list, first, -1))
	}
	return told
}

func bringCorners(corners []Peg, bring func(Peg) Peg) ([]Peg, bool) {
	if !IsPolygon(corners) {
		return nil, false
	}
	brought := make([]Peg, len(corners))
	for i, p := range corners {
		brought[i] = bring(p)
	}
	if !arePegs(brought) {
		return nil, false
	}
	return brought, true
}
