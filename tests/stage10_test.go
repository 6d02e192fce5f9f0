package tests

import (
	"fmt"
	"math/rand/v2"
	"reflect"
	"regexp"
	"slices"
	"strconv"
	"strings"
	"testing"

	"loop.example/g01259/impl"
)

type Desk = impl.Desk

// deskOf reads the Corners and, behind a semicolon, the Kept, polygons or not.
func deskOf(text string) Desk {
	corners, kept, _ := strings.Cut(text, ";")
	return Desk{Corners: pegsOf(corners), Kept: pegsOf(kept)}
}

func polygonText(l []Peg) string {
	var words []string
	for _, p := range l {
		words = append(words, fmt.Sprintf("%d,%d", p.X, p.Y))
	}
	return strings.Join(words, " ")
}

func deskText(d Desk) string {
	return polygonText(d.Corners) + ";" + polygonText(d.Kept)
}

// firstDesk is the text of FirstDesk.
const firstDesk = "0,0 1,0 0,1;0,0 1,0 0,1"

// row is a row of the document's table: the lines it is of, and what they do by the calls that it names.
type row struct {
	form *regexp.Regexp
	do   func(d Desk, words []string) (Desk, string, bool)
}

// rowOf takes the form as the table has it. Numbers have no more than six digits.
func rowOf(form string, do func(d Desk, words []string) (Desk, string, bool)) row {
	parts := strings.NewReplacer(
		" P", `((?: [^ ]*){3,})`,
		" I", ` (0|-?[1-9][0-9]{0,5})`, " J", ` (0|-?[1-9][0-9]{0,5})`,
		" N", ` (0|[1-9][0-9]{0,5})`, " K", ` (0|[1-9][0-9]{0,5})`,
	)
	return row{regexp.MustCompile(`^` + parts.Replace(form) + `\z`), do}
}

func effectRow(form string, of func(l []Peg, words []string) ([]Peg, bool)) row {
	return rowOf(form, func(d Desk, words []string) (Desk, string, bool) {
		l, ok := of(d.Corners, words)
		return Desk{Corners: l, Kept: d.Kept}, polygonText(l), ok
	})
}

func bringRow(form string, of func(l []Peg) ([]Peg, bool)) row {
	return effectRow(form, func(l []Peg, _ []string) ([]Peg, bool) { return of(l) })
}

func replyRow[T any](form string, of func(d Desk, words []string) (T, bool)) row {
	return rowOf(form, func(d Desk, words []string) (Desk, string, bool) {
		v, ok := of(d, words)
		return d, fmt.Sprint(v), ok
	})
}

func numberRow(form string, of func(l []Peg) (int, bool)) row {
	return replyRow(form, func(d Desk, _ []string) (int, bool) { return of(d.Corners) })
}

func boardRow(form string, of func(w, h int) (int, bool)) row {
	return replyRow(form, func(_ Desk, words []string) (int, bool) { return of(numberOf(words[0]), numberOf(words[1])) })
}

func numberOf(word string) int {
	n, err := strconv.Atoi(word)
	if err != nil {
		panic(word)
	}
	return n
}

func yesOrNot(is, ok bool) (string, bool) {
	return map[bool]string{true: "yes", false: "not"}[is], ok
}

// effectRows are the upper rows of the table.
func effectRows() []row {
	return []row{
		effectRow("polygon P", func(_ []Peg, words []string) ([]Peg, bool) { return impl.ParsePolygon(words[0][1:]) }),
		effectRow("move I J", func(l []Peg, words []string) ([]Peg, bool) {
			return impl.MovePolygon(l, numberOf(words[0]), numberOf(words[1]))
		}),
		bringRow("turn", impl.TurnPolygon),
		bringRow("mirror", impl.MirrorPolygon),
		bringRow("back", impl.BackPolygon),
		bringRow("first", impl.TellFirst),
		effectRow("shear I", func(l []Peg, words []string) ([]Peg, bool) {
			m, ok := impl.ShearMove(numberOf(words[0]))
			if !ok {
				return nil, false
			}
			return impl.MoveCorners(m, l)
		}),
		bringRow("kind", impl.KindOfPolygon),
		effectRow("strip N", func(_ []Peg, words []string) ([]Peg, bool) { return impl.StripPolygon(numberOf(words[0])) }),
		rowOf("keep", func(d Desk, _ []string) (Desk, string, bool) {
			return Desk{Corners: d.Corners, Kept: d.Corners}, polygonText(d.Corners), true
		}),
		rowOf("swap", func(d Desk, _ []string) (Desk, string, bool) {
			return Desk{Corners: d.Kept, Kept: d.Corners}, polygonText(d.Kept), true
		}),
	}
}

// replyRows are the lower ones, all but the last.
func replyRows() []row {
	return []row{
		replyRow("show", func(d Desk, _ []string) (string, bool) { return impl.PolygonText(d.Corners) }),
		replyRow("corners", func(d Desk, _ []string) (int, bool) { return len(d.Corners), true }),
		numberRow("area", impl.TwiceArea),
		numberRow("on", impl.PegsOn),
		numberRow("inside", impl.PegsInside),
		replyRow("at I J", func(d Desk, words []string) (string, bool) {
			at, ok := impl.WhereIs(d.Corners, Peg{X: numberOf(words[0]), Y: numberOf(words[1])})
			return map[int]string{1: "in", 0: "on", -1: "out"}[at], ok
		}),
		replyRow("convex", func(d Desk, _ []string) (string, bool) { return yesOrNot(impl.IsConvex(d.Corners)) }),
		replyRow("alike", func(d Desk, _ []string) (string, bool) { return yesOrNot(impl.AreAlike(d.Corners, d.Kept)) }),
		replyRow("three", func(d Desk, _ []string) (string, bool) {
			kind, ok := impl.KindOfTriangle(d.Corners)
			return strings.Trim(strings.ReplaceAll(fmt.Sprint(kind), " ", ","), "[]"), ok
		}),
		numberRow("cuts", impl.CountCuts),
		numberRow("lines", impl.LinesOfCut),
		boardRow("squares N K", impl.CountSquares),
		boardRow("straight N K", impl.CountStraight),
	}
}

var allRows = append(effectRows(), replyRows()...)

// lineBy is the document's table put to one line.
func lineBy(d Desk, line string) (Desk, string) {
	for _, r := range allRows {
		if parts := r.form.FindStringSubmatch(line); parts != nil {
			if behind, reply, ok := r.do(d, parts[1:]); ok {
				return behind, reply
			}
			return d, "no"
		}
	}
	return d, "what"
}

var scriptForm = regexp.MustCompile(`^(?:[^\n]*\n){0,50}\z`)

// ran is a text with all that the functions of scripts return for it.
type ran struct {
	isScript bool
	replies  []string
	behind   Desk
	failed   []int
}

func runBy(s string) ran {
	if !scriptForm.MatchString(s) || len(s) > 3000 {
		return ran{}
	}
	r := ran{isScript: true, behind: deskOf(firstDesk)}
	lines := strings.Split(s, "\n")
	for i, line := range lines[:len(lines)-1] {
		behind, reply := lineBy(r.behind, line)
		r.behind, r.replies = behind, append(r.replies, reply)
		if reply == "no" || reply == "what" {
			r.failed = append(r.failed, i+1)
		}
	}
	return r
}

// checkRun: all three functions of scripts do what the table says, or fail together.
func checkRun(t *testing.T, s string) ran {
	t.Helper()
	want := runBy(s)
	if replies, ok := impl.RunScript(s); !slices.Equal(replies, want.replies) || ok != want.isScript {
		t.Errorf("%q replies %q %v not %q", s, replies, ok, want.replies)
	}
	if behind, ok := impl.DeskAfter(s); deskText(behind) != deskText(want.behind) || ok != want.isScript {
		t.Errorf("%q is %v %v behind it", s, behind, ok)
	}
	if failed, ok := impl.FailedLines(s); !slices.Equal(failed, want.failed) || ok != want.isScript {
		t.Errorf("%q fails in %v %v not %v", s, failed, ok, want.failed)
	}
	return want
}

// checkLine: a line does what the table says to a desk.
func checkLine(t *testing.T, d Desk, line string) string {
	t.Helper()
	want, said := lineBy(d, line)
	behind, reply, ok := impl.DeskLine(d, line)
	if deskText(behind) != deskText(want) || reply != said || !ok {
		t.Errorf("%v %q is %v %q %v not %v %q", d, line, behind, reply, ok, want, said)
	}
	return said
}

// desks are desks of all sorts: polygons to both sides, of three corners and of more, alike and not, and with cuts or
// too great for them.
func desks() []Desk {
	var all []Desk
	texts := slices.Concat(polygons, cuttable[:12], manyCuts[3:4], tooGreat[:2])
	for i, s := range texts {
		d := deskOf(s + ";" + texts[(i+4)%len(texts)])
		all = append(all, d, Desk{Corners: d.Kept, Kept: d.Corners}, Desk{Corners: d.Corners, Kept: slices.Clone(d.Corners)})
	}
	return all
}

// lines have each row of the table, with numbers and polygons that do well and that fail.
var lines = []string{
	"polygon 0,0 4,0 0,3", "polygon 0,0 0,3 4,0", "polygon 0,0 4,0 4,4 2,1 0,4", "polygon -40,-40 40,-40 40,40 -40,40", "polygon 0,0 5,0 5,1 0,1",
	"polygon 0,0 1,1 2,2", "polygon 0,0 41,0 0,1", "polygon 0,0 4,0", "polygon 0,0 4,0 0,+3",
	"move 0 0", "move 3 -1", "move -2 5", "move 40 -40", "move 80 80", "move 81 0", "move 0 -81", "move 999999 -999999",
	"turn", "mirror", "back", "first", "kind", "keep", "swap", "show", "corners", "area", "on", "inside", "convex", "alike", "three", "cuts", "lines",
	"shear 0", "shear 1", "shear -1", "shear 3", "shear -20", "shear 21", "shear -21", "shear 999999",
	"strip 0", "strip 1", "strip 2", "strip 3", "strip 4", "strip 5", "strip 6", "strip 999999",
	"at 0 0", "at 1 1", "at 1 2", "at -1 0", "at 3 -40", "at 40 40", "at 41 0", "at 0 -41", "at -999999 999999",
	"squares 0 1", "squares 1 0", "squares 1 1", "squares 3 3", "squares 12 12", "squares 13 12", "squares 12 13", "squares 999999 1",
	"straight 0 1", "straight 1 0", "straight 1 1", "straight 3 3", "straight 12 12", "straight 13 12", "straight 12 13", "straight 1 999999",
	"", " ", "fly", "Turn", "polygon", "move", "shear", "strip", "at", "squares", "straight", "no", "what",
}

// TestDeskLine is promise 10 for single lines: they do what the calls do that they name.
func TestDeskLine(t *testing.T) {
	told := map[string]int{}
	for _, d := range desks() {
		for _, line := range lines {
			told[checkLine(t, d, line)]++
		}
	}
	for _, said := range []string{"no", "what", "yes", "not", "in", "on", "out"} {
		if told[said] < 20 {
			t.Error(said, told[said])
		}
	}
}

// TestEachRowSucceeds: no row is tested with failing lines alone.
func TestEachRowSucceeds(t *testing.T) {
	for _, r := range allRows {
		done := map[bool]int{}
		for _, d := range desks() {
			for _, line := range lines {
				if parts := r.form.FindStringSubmatch(line); parts != nil {
					_, _, ok := r.do(d, parts[1:])
					done[ok]++
				}
			}
		}
		if done[true] < 10 {
			t.Error(r.form, done)
		}
	}
	if len(allRows) != 24 {
		t.Error(len(allRows))
	}
}

// TestDeskLineOfNamed has what was worked out by hand, the desk behind with it; an empty one is the desk as it was.
func TestDeskLineOfNamed(t *testing.T) {
	const leg, legs = "0,0 4,0 0,3;0,0 1,0 0,1", "0,0 0,3 4,0;0,0 1,0 0,1"
	for _, c := range []struct{ desk, line, reply, behind string }{
		{leg, "polygon 5,3 7,4 6,4", "5,3 7,4 6,4", "5,3 7,4 6,4;0,0 1,0 0,1"},
		{leg, "polygon 0,0 0,1 1,0", "0,0 0,1 1,0", "0,0 0,1 1,0;0,0 1,0 0,1"},
		{leg, "polygon 0,0 1,1 2,2", "no", ""},
		{leg, "move 3 -1", "3,-1 7,-1 3,2", "3,-1 7,-1 3,2;0,0 1,0 0,1"},
		{leg, "move 36 37", "36,37 40,37 36,40", "36,37 40,37 36,40;0,0 1,0 0,1"},
		{leg, "move -40 -40", "-40,-40 -36,-40 -40,-37", "-40,-40 -36,-40 -40,-37;0,0 1,0 0,1"},
		{leg, "move 37 0", "no", ""}, {leg, "move 0 38", "no", ""}, {leg, "move -41 0", "no", ""}, {leg, "move 0 -41", "no", ""},
		{"-40,-40 -39,-40 -40,-39;0,0 1,0 0,1", "move 79 79", "39,39 40,39 39,40", "39,39 40,39 39,40;0,0 1,0 0,1"},
		{"-40,-40 -39,-40 -40,-39;0,0 1,0 0,1", "move 80 79", "no", ""},
		{leg, "turn", "0,0 0,4 -3,0", "0,0 0,4 -3,0;0,0 1,0 0,1"},
		{leg, "mirror", "0,0 -4,0 0,3", "0,0 -4,0 0,3;0,0 1,0 0,1"},
		{leg, "back", "0,0 0,3 4,0", "0,0 0,3 4,0;0,0 1,0 0,1"},
		{legs, "first", "0,0 4,0 0,3", leg},
		{"4,0 0,3 0,0;0,0 1,0 0,1", "first", "0,0 4,0 0,3", leg},
		{leg, "shear 2", "0,0 4,0 6,3", "0,0 4,0 6,3;0,0 1,0 0,1"},
		{leg, "shear -2", "0,0 4,0 -6,3", "0,0 4,0 -6,3;0,0 1,0 0,1"},
		{leg, "shear 0", "0,0 4,0 0,3", leg},
		{leg, "shear 13", "0,0 4,0 39,3", "0,0 4,0 39,3;0,0 1,0 0,1"},
		{leg, "shear 14", "no", ""}, {leg, "shear -14", "no", ""},
		{"0,0 1,0 0,1;0,0 1,0 0,1", "shear 20", "0,0 1,0 20,1", "0,0 1,0 20,1;0,0 1,0 0,1"},
		{"0,0 1,0 0,1;0,0 1,0 0,1", "shear 21", "no", ""}, {"0,0 1,0 0,1;0,0 1,0 0,1", "shear -21", "no", ""},
		{leg, "kind", "0,0 1,0 4,12", "0,0 1,0 4,12;0,0 1,0 0,1"},
		{"3,3 -2,3 -2,-1 3,-1;0,0 1,0 0,1", "kind", "0,0 4,0 4,5 0,5", "0,0 4,0 4,5 0,5;0,0 1,0 0,1"},
		{"-40,-40 40,-40 40,40 -40,40;0,0 1,0 0,1", "kind", "no", ""},
		{leg, "strip 1", "0,0 1,0 1,1 0,1", "0,0 1,0 1,1 0,1;0,0 1,0 0,1"},
		{leg, "strip 5", "0,0 5,0 5,1 0,1", "0,0 5,0 5,1 0,1;0,0 1,0 0,1"},
		{leg, "strip 0", "no", ""}, {leg, "strip 6", "no", ""}, {leg, "strip 999999", "no", ""},
		{leg, "strip -1", "what", ""}, {leg, "strip 1000000", "what", ""},
		{leg, "keep", "0,0 4,0 0,3", "0,0 4,0 0,3;0,0 4,0 0,3"},
		{leg, "swap", "0,0 1,0 0,1", "0,0 1,0 0,1;0,0 4,0 0,3"},
		{leg, "show", "0,0 4,0 0,3", leg}, {leg, "corners", "3", leg},
		{leg, "area", "12", leg}, {legs, "area", "-12", legs}, {leg, "on", "8", leg}, {legs, "on", "8", legs}, {leg, "inside", "3", leg}, {legs, "inside", "3", legs},
		{leg, "at 1 2", "in", leg}, {leg, "at 2 1", "in", leg}, {leg, "at 4 0", "on", leg}, {leg, "at 0 2", "on", leg}, {leg, "at 2 2", "out", leg},
		{leg, "at -40 40", "out", leg}, {leg, "at 41 0", "no", leg}, {leg, "at 0 -41", "no", leg}, {leg, "at 999999 -999999", "no", leg}, {leg, "at 1000000 0", "what", leg},
		{leg, "convex", "yes", leg}, {legs, "convex", "yes", legs}, {"0,0 4,0 4,4 2,1 0,4;0,0 1,0 0,1", "convex", "not", ""},
		{leg, "alike", "not", leg}, {"5,3 7,4 6,4;0,0 1,0 0,1", "alike", "yes", ""}, {"0,0 4,0 0,3;3,-1 0,-1 3,3", "alike", "yes", ""},
		{leg, "three", "1,4,12", leg}, {legs, "three", "1,4,12", legs}, {firstDesk, "three", "1,0,1", firstDesk}, {"0,0 1,0 1,1 0,1;0,0 1,0 0,1", "three", "no", ""},
		{firstDesk, "cuts", "1", firstDesk}, {firstDesk, "lines", "3", firstDesk}, {"0,0 2,0 2,2 0,2;0,0 1,0 0,1", "cuts", "64", ""},
		{"0,0 2,0 2,2 0,2;0,0 1,0 0,1", "lines", "16", ""}, {"0,0 5,0 5,1 0,1;0,0 1,0 0,1", "cuts", "252", ""}, {"0,0 0,1 5,1 5,0;0,0 1,0 0,1", "lines", "21", ""},
		{"0,0 10,0 0,1;0,0 1,0 0,1", "cuts", "1", ""}, {"0,0 10,0 0,1;0,0 1,0 0,1", "lines", "21", ""},
		{"0,0 11,0 0,1;0,0 1,0 0,1", "cuts", "no", ""}, {"0,0 11,0 0,1;0,0 1,0 0,1", "lines", "no", ""}, {legs, "cuts", "no", legs}, {legs, "lines", "no", legs},
		{leg, "squares 3 3", "6", leg}, {leg, "squares 1 12", "0", leg}, {leg, "squares 2 3", "2", leg}, {leg, "squares 3 2", "2", leg}, {leg, "squares 12 12", "1716", leg},
		{leg, "squares 13 1", "no", leg}, {leg, "squares 1 13", "no", leg}, {leg, "squares 0 1", "no", leg}, {leg, "squares 999999 0", "no", leg}, {leg, "squares -1 1", "what", leg},
		{leg, "straight 3 3", "20", leg}, {leg, "straight 1 1", "0", leg}, {leg, "straight 1 12", "1", leg}, {leg, "straight 2 3", "11", leg}, {leg, "straight 12 12", "4722", leg},
		{leg, "straight 13 1", "no", leg}, {leg, "straight 1 13", "no", leg}, {leg, "straight 0 0", "no", leg}, {leg, "straight 1 1000000", "what", leg},
		{leg, "", "what", leg}, {leg, "fly", "what", leg}, {leg, "SHOW", "what", leg}, {leg, "sho", "what", leg}, {leg, "shows", "what", leg},
	} {
		behind, reply, ok := impl.DeskLine(deskOf(c.desk), c.line)
		if c.behind == "" {
			c.behind = c.desk
		}
		if reply != c.reply || deskText(behind) != c.behind || !ok {
			t.Errorf("%s: %q is %q %v %v", c.desk, c.line, reply, behind, ok)
		}
	}
}

func TestExample(t *testing.T) {
	replies, ok := impl.RunScript(strings.ReplaceAll(
		"polygon 0,0 4,0 0,3;area;on;inside;at 1 2;turn;move 3 -1;first;three;alike;strip 2;cuts;squares 3 3;polygon 0,0 1,1 2,2;fly;", ";", "\n"))
	want := strings.Split("0,0 4,0 0,3;12;8;3;in;0,0 0,4 -3,0;3,-1 3,3 0,-1;0,-1 3,-1 3,3;1,4,12;not;0,0 2,0 2,1 0,1;6;6;no;what", ";")
	if !slices.Equal(replies, want) || !ok {
		t.Errorf("%q %v", replies, ok)
	}
}

// words are what may stand for a number, with whether it is I or J, and whether it is N or K.
var words = []struct {
	word             string
	isWhole, isCount bool
}{
	{"0", true, true}, {"1", true, true}, {"9", true, true}, {"10", true, true}, {"12", true, true}, {"100", true, true}, {"99999", true, true},
	{"999998", true, true}, {"999999", true, true}, {"123456", true, true},
	{"-1", true, false}, {"-9", true, false}, {"-40", true, false}, {"-10", true, false}, {"-999998", true, false}, {"-999999", true, false},
	{word: "-0"}, {word: "+0"}, {word: "00"}, {word: "000000"}, {word: "-00"}, {word: "01"}, {word: "-01"}, {word: "001"}, {word: "0000001"}, {word: "+1"}, {word: "+-1"},
	{word: "--1"}, {word: "-+1"}, {word: "1000000"}, {word: "-1000000"}, {word: "1000001"}, {word: "9999999"}, {word: "0999999"}, {word: "1-"}, {word: "-"}, {word: "+"},
	{word: ""}, {word: "x"}, {word: "1x"}, {word: "x1"}, {word: "0x1"}, {word: "0b1"}, {word: "1_0"}, {word: "1e1"}, {word: "1.0"}, {word: "1."}, {word: ".1"}, {word: "1,0"}, {word: "0,0"},
	{word: "1\t"}, {word: "\t1"}, {word: "1\r"}, {word: "1\x00"}, {word: "\x001"}, {word: "\xff"}, {word: "\u0661"}, {word: "\uff11"}, {word: "\u22121"}, {word: "1\u00a0"},
	{word: "4294967296"}, {word: "4294967297"}, {word: "-4294967295"}, {word: "9223372036854775807"}, {word: "9223372036854775808"}, {word: "-9223372036854775808"},
	{word: "18446744073709551616"}, {word: "18446744073709551617"}, {word: "-18446744073709551615"}, {word: "100000000000000000000000000"},
	{word: strings.Repeat("0", 500) + "1"}, {word: strings.Repeat("9", 1400)}, {word: "one"}, {word: "I"}, {word: "NaN"}, {word: "Inf"},
}

// TestNumbers: a word that should be a number and is none makes the reply what, and one that is one never does.
func TestNumbers(t *testing.T) {
	d := deskOf(firstDesk)
	check := func(line string, is bool) {
		t.Helper()
		if reply := checkLine(t, d, line); (reply != "what") != is {
			t.Errorf("%q is %q", line, reply)
		}
	}
	for _, w := range words {
		check("shear "+w.word, w.isWhole)
		check("strip "+w.word, w.isCount)
		for _, first := range words {
			for _, name := range []string{"move ", "at "} {
				check(name+first.word+" "+w.word, first.isWhole && w.isWhole)
			}
			for _, name := range []string{"squares ", "straight "} {
				check(name+first.word+" "+w.word, first.isCount && w.isCount)
			}
		}
	}
}

// TestManyNumbers takes all numbers of a few digits where a function takes them, and the ends of those that it takes.
func TestManyNumbers(t *testing.T) {
	d := deskOf("-1,-1 2,0 0,3;0,0 1,0 0,1")
	for n := -110; n <= 110; n++ {
		for _, line := range []string{"shear %d", "strip %d", "move %d 0", "move 0 %d", "at %d 0", "at 0 %d", "squares %d 3", "squares 3 %d", "straight %d 2", "straight 2 %d"} {
			checkLine(t, d, fmt.Sprintf(line, n))
		}
	}
}

// TestWords puts words and blanks ahead of, between and behind those of a line.
func TestWords(t *testing.T) {
	d := deskOf("0,0 4,0 0,3;0,0 1,0 0,1")
	for _, line := range lines {
		for _, more := range []string{
			line + " ", line + "  ", line + " x", line + " 1", line + " 1,1", line + " 0 0", line + " 0 0 0", strings.ReplaceAll(line, " ", "  "),
			line + line, "\t" + line, line + "\t", line + "\r", line + "\x00", line + ";",
		} {
			checkLine(t, d, more)
		}
		for _, more := range []string{" " + line, "  " + line, "x " + line, "0 " + line} {
			if reply := checkLine(t, d, more); reply != "what" {
				t.Errorf("%q is %q", more, reply)
			}
		}
		words := strings.Split(line, " ")
		for i := range words {
			checkLine(t, d, strings.Join(slices.Delete(slices.Clone(words), i, i+1), " "))
			checkLine(t, d, strings.Join(slices.Insert(slices.Clone(words), i, ""), " "))
			checkLine(t, d, strings.Join(slices.Insert(slices.Clone(words), i, "3"), " "))
		}
	}
}

func TestWordsOfNamed(t *testing.T) {
	const desk = "0,0 4,0 0,3;0,0 1,0 0,1"
	for line, want := range map[string]string{
		"polygon": "what", "polygon ": "what", "polygon 0,0": "what", "polygon 0,0 1,0": "what", "polygon  ": "what", "polygon 0,0 ": "what", "polygon x y": "what",
		"polygon   ": "no", "polygon 0,0 1,0 ": "no", "polygon  0,0 1,0": "no", "polygon 0,0  1,0": "no", "polygon x y z": "no", "polygon 0,0 1,0 0,1 ": "no",
		"polygon  0,0 1,0 0,1": "no", "polygon 0,0  1,0 0,1": "no", "polygon 0,0 1,0 0,1 0,1": "no", "polygon 0,0 1,0 0,01": "no", "polygon 0,0 1,0 -0,1": "no",
		"polygon 0,0 1,0 0,1,": "no", "polygon 0,0,1,0,0,1 0 0": "no", "polygon 0 0 1": "no", "polygon 0,0 1,0 2,0": "no", "polygon 0,0 2,2 2,0 0,2": "no", "polygon 0,0 1,0 0,41": "no",
		"polygon 0,0 1,5 2,0 3,5 4,0 4,7 3,6 2,7 1,6 0,7":      "0,0 1,5 2,0 3,5 4,0 4,7 3,6 2,7 1,6 0,7",
		"polygon 0,0 1,5 2,0 3,5 4,0 4,7 3,6 2,7 1,6 0,7 -1,5": "no",
		"polygon" + strings.Repeat(" ", 2993):                  "no", "polygon" + strings.Repeat(" 0,0", 700): "no", strings.Repeat(" ", 3000): "what",
		"Polygon 0,0 1,0 0,1": "what", " polygon 0,0 1,0 0,1": "what", "polygon\t0,0 1,0 0,1": "what", "polygon0,0 1,0 0,1": "what", "0,0 1,0 0,1": "what",
		"turn ": "what", " turn": "what", "turn 1": "what", "turn turn": "what", "mirror ": "what", "mirror 1": "what", "back ": "what", "back 1": "what", "first ": "what",
		"first 1": "what", "kind ": "what", "kind 1": "what", "keep ": "what", "keep 1": "what", "swap ": "what", "swap 1": "what", "show ": "what", "show 1": "what",
		"corners ": "what", "corners 1": "what", "area ": "what", "area 1": "what", "on ": "what", "on 1": "what", "inside ": "what", "inside 1": "what", "convex ": "what",
		"convex 1": "what", "alike ": "what", "alike 1": "what", "three ": "what", "three 1": "what", "cuts ": "what", "cuts 1": "what", "lines ": "what", "lines 1": "what",
		"move": "what", "move ": "what", "move  ": "what", "move 1": "what", "move 1 ": "what", "move  1": "what", "move 1  1": "what", "move 1 1 ": "what", "move 1 1 1": "what",
		"shear": "what", "shear ": "what", "shear  1": "what", "shear 1 ": "what", "shear 1 1": "what", "strip": "what", "strip ": "what", "strip  1": "what", "strip 1 ": "what",
		"strip 1 1": "what", "at": "what", "at ": "what", "at  ": "what", "at 1": "what", "at 1 ": "what", "at  1": "what", "at 1 1 ": "what", "at 1 1 1": "what",
		"squares": "what", "squares ": "what", "squares  ": "what", "squares 1": "what", "squares 1 ": "what", "squares  1": "what", "squares 1 1 ": "what", "squares 1 1 1": "what",
		"straight": "what", "straight ": "what", "straight  ": "what", "straight 1": "what", "straight 1 ": "what", "straight  1": "what", "straight 1 1 ": "what", "straight 1 1 1": "what",
		"move 81 x": "what", "move x 81": "what", "at 41 x": "what", "squares 13 x": "what", "squares x 13": "what", "straight 0 -1": "what", "move 81 0 0": "what", "strip 6 6": "what",
	} {
		behind, reply, ok := impl.DeskLine(deskOf(desk), line)
		after := desk
		if want != "no" && want != "what" {
			after = want + ";0,0 1,0 0,1"
		}
		if reply != want || deskText(behind) != after || !ok {
			t.Errorf("%q is %q %v %v", line, reply, behind, ok)
		}
	}
}

// TestNearlyLines takes lines out of which one byte is taken, into which one is put, or of which one is another, of all
// values but that of a newline.
func TestNearlyLines(t *testing.T) {
	mix := rand.New(rand.NewPCG(10, 11))
	d := deskOf("-3,-1 4,0 0,3;0,0 1,0 0,1")
	for _, line := range lines {
		for at := range len(line) + 1 {
			for _, put := range []byte{" 0123456789-+,x"[mix.IntN(15)], byte(mix.IntN(256)), byte(mix.IntN(256))} {
				if put == '\n' {
					continue
				}
				checkLine(t, d, line[:at]+string([]byte{put})+line[at:])
				if at < len(line) {
					checkLine(t, d, line[:at]+line[at+1:])
					checkLine(t, d, line[:at]+string([]byte{put})+line[at+1:])
				}
			}
		}
	}
}

// TestBytes takes bytes of all values, alone, and where a blank, a number or the end of a line may be.
func TestBytes(t *testing.T) {
	d := deskOf("0,0 4,0 0,3;0,0 1,0 0,1")
	for n := range 256 {
		b := string([]byte{byte(n)})
		for _, line := range []string{b, b + b, "area" + b, b + "area", "at" + b + "1 1", "at 1" + b + "1", "at 1 " + b, "at 1 1" + b, "polygon 0,0 1,0 0" + b + "1", "polygon 0,0" + b + "1,0 0,1 1,1"} {
			checkRun(t, line+"\n")
			if n != '\n' {
				checkLine(t, d, line)
			} else if behind, reply, ok := impl.DeskLine(d, line); !isNothing(behind) || reply != "" || ok {
				t.Errorf("%q %v %q %v", line, behind, reply, ok)
			}
		}
	}
}

func TestFirstDesk(t *testing.T) {
	d := impl.FirstDesk()
	if deskText(d) != firstDesk || !impl.IsDesk(d) {
		t.Error(d)
	}
	if !fillAll(d) || deskText(impl.FirstDesk()) != firstDesk {
		t.Error("shares memory")
	}
}

// notDesks have Corners or Kept, or both, that are no polygon.
func notDesks() []Desk {
	none := []Desk{{}}
	for _, l := range notPolygons {
		none = append(none, Desk{Corners: l, Kept: pegsOf("0,0 1,0 0,1")}, Desk{Corners: pegsOf("0,0 1,0 0,1"), Kept: l}, Desk{Corners: l, Kept: l})
	}
	return none
}

func TestIsDesk(t *testing.T) {
	for _, d := range desks() {
		if !impl.IsDesk(d) {
			t.Error(d)
		}
	}
	for _, d := range notDesks() {
		if impl.IsDesk(d) {
			t.Error(d)
		}
	}
}

// TestNoDeskFails: a line fails for what is no desk, whatever it asks for.
func TestNoDeskFails(t *testing.T) {
	for _, d := range notDesks() {
		for _, line := range lines {
			if behind, reply, ok := impl.DeskLine(d, line); !isNothing(behind) || reply != "" || ok {
				t.Errorf("%v %q is %v %q %v", d, line, behind, reply, ok)
			}
		}
	}
}

// TestNoLineFails: lines with a newline, and those that are too long.
func TestNoLineFails(t *testing.T) {
	d := deskOf(firstDesk)
	long := "polygon 0,0 1,0 0,1" + strings.Repeat(" ", 2981)
	for _, line := range []string{
		"\n", "area\n", "\narea", "area\narea", "\n\n", "polygon 0,0 1,0\n0,1", "polygon 0,0 1,0 0,1\n", "at 1 1\n", "\x00\n", "fly\n", long[:2999] + "\n",
		long + " ", long + "\n", strings.Repeat("x", 3001), strings.Repeat(" ", 3001), strings.Repeat("area ", 100000), strings.Repeat("\xff", 3001),
		"show" + strings.Repeat("\x00", 2997), strings.Repeat("\n", 3001),
	} {
		if behind, reply, ok := impl.DeskLine(d, line); !isNothing(behind) || reply != "" || ok {
			t.Errorf("%q is %v %q %v", line, behind, reply, ok)
		}
	}
	for line, want := range map[string]string{
		long: "no", strings.Repeat("x", 3000): "what", strings.Repeat("\xff", 3000): "what", "strip " + strings.Repeat("0", 2993) + "1": "what",
		"polygon" + strings.Repeat(" 0,0", 748) + " ": "no",
	} {
		if len(line) != 3000 {
			t.Error(len(line))
		}
		if behind, reply, ok := impl.DeskLine(d, line); deskText(behind) != firstDesk || reply != want || !ok {
			t.Errorf("%q is %v %q %v", line, behind, reply, ok)
		}
	}
}

// TestScripts takes scripts that have names, with the numbers of their lines that fail.
func TestScripts(t *testing.T) {
	for _, c := range []struct{ script, replies, behind, failed string }{
		{"", "", firstDesk, "[]"},
		{"/", "what", firstDesk, "[1]"},
		{"///", "what;what;what", firstDesk, "[1 2 3]"},
		{"show/", "0,0 1,0 0,1", firstDesk, "[]"},
		{"/show//", "what;0,0 1,0 0,1;what", firstDesk, "[1 3]"},
		{" /  /show /", "what;what;what", firstDesk, "[1 2 3]"},
		{"no/what/fly/", "what;what;what", firstDesk, "[1 2 3]"},
		{"strip 6/strip x/strip 2/three/cuts/lines/", "no;what;0,0 2,0 2,1 0,1;no;6;9", "0,0 2,0 2,1 0,1;0,0 1,0 0,1", "[1 2 4]"},
		{"polygon 0,0 4,0 0,3/polygon 0,0 1,1 2,2/show/", "0,0 4,0 0,3;no;0,0 4,0 0,3", "0,0 4,0 0,3;0,0 1,0 0,1", "[2]"},
		{"polygon 0,0 0,3 4,0/area/back/area/", "0,0 0,3 4,0;-12;0,0 4,0 0,3;12", "0,0 4,0 0,3;0,0 1,0 0,1", "[]"},
		{"move 40 0/move 39 0/move 1 0/move 0 39/show/", "no;39,0 40,0 39,1;no;39,39 40,39 39,40;39,39 40,39 39,40", "39,39 40,39 39,40;0,0 1,0 0,1", "[1 3]"},
		{"strip 3/keep/strip 1/alike/swap/alike/keep/alike/swap/", "0,0 3,0 3,1 0,1;0,0 3,0 3,1 0,1;0,0 1,0 1,1 0,1;not;0,0 3,0 3,1 0,1;not;0,0 3,0 3,1 0,1;yes;0,0 3,0 3,1 0,1",
			"0,0 3,0 3,1 0,1;0,0 3,0 3,1 0,1", "[]"},
		{"alike/strip 1/alike/keep/alike/shear 5/alike/turn/alike/move 7 -3/mirror/alike/swap/alike/",
			"yes;0,0 1,0 1,1 0,1;not;0,0 1,0 1,1 0,1;yes;0,0 1,0 6,1 5,1;yes;0,0 0,1 -1,6 -1,5;yes;7,-3 7,-2 6,3 6,2;-7,-3 -7,-2 -6,3 -6,2;yes;0,0 1,0 1,1 0,1;yes",
			"0,0 1,0 1,1 0,1;-7,-3 -7,-2 -6,3 -6,2", "[]"},
		{"swap/strip 2/swap/swap/keep/swap/", "0,0 1,0 0,1;0,0 2,0 2,1 0,1;0,0 1,0 0,1;0,0 2,0 2,1 0,1;0,0 2,0 2,1 0,1;0,0 2,0 2,1 0,1", "0,0 2,0 2,1 0,1;0,0 2,0 2,1 0,1", "[]"},
		{"polygon 5,3 7,4 6,4/three/kind/show/", "5,3 7,4 6,4;1,0,1;0,0 1,0 0,1;0,0 1,0 0,1", firstDesk, "[]"},
		{"polygon -40,-40 40,-40 40,40 -40,40/kind/turn/on/inside/", "-40,-40 40,-40 40,40 -40,40;no;40,-40 40,40 -40,40 -40,-40;320;6241",
			"40,-40 40,40 -40,40 -40,-40;0,0 1,0 0,1", "[2]"},
	} {
		s := strings.ReplaceAll(c.script, "/", "\n")
		r := checkRun(t, s)
		if strings.Join(r.replies, ";") != c.replies || deskText(r.behind) != c.behind || fmt.Sprint(r.failed) != c.failed {
			t.Errorf("%q is %q %v %v", c.script, r.replies, r.behind, r.failed)
		}
	}
}

// someScript draws lines of the list, and polygons in between.
func someScript(mix *rand.Rand) string {
	s := ""
	for range mix.IntN(51) {
		line := lines[mix.IntN(len(lines))]
		if mix.IntN(4) == 0 {
			line = "polygon " + polygons[mix.IntN(len(polygons))]
		}
		if mix.IntN(3) == 0 {
			line = []string{"keep", "swap", "alike", "turn", "mirror", "first", "back", "shear -1", "shear 1", "move 1 0", "move -1 -1", "kind"}[mix.IntN(12)]
		}
		if len(s)+len(line) < 3000 {
			s += line + "\n"
		}
	}
	return s
}

// TestManyScripts is promise 10 for scripts: their lines, one behind the other, do what the calls do that they name.
func TestManyScripts(t *testing.T) {
	mix := rand.New(rand.NewPCG(10, 10))
	alike, moved := map[string]int{}, 0
	for range 500 {
		s := someScript(mix)
		r := checkRun(t, s)
		if !r.isScript {
			t.Errorf("%q", s)
		}
		d := impl.FirstDesk()
		for i, line := range strings.Split(strings.TrimSuffix(s, "\n"), "\n") {
			if s == "" {
				break
			}
			behind, reply, ok := impl.DeskLine(d, line)
			if reply != r.replies[i] || !ok {
				t.Errorf("%q line %d: %q is %q %v", s, i+1, line, reply, ok)
			}
			if line == "alike" {
				alike[reply]++
			}
			d = behind
		}
		if deskText(d) != deskText(r.behind) {
			t.Errorf("%q is %v", s, d)
		}
		if deskText(d) != firstDesk {
			moved++
		}
	}
	if alike["yes"] < 50 || alike["not"] < 50 || moved < 300 {
		t.Error(alike, moved)
	}
}

// TestScriptsMeetLimits takes scripts of just MaxLines lines and MaxScript bytes, and of one more.
func TestScriptsMeetLimits(t *testing.T) {
	longLine := func(n int) string { return "polygon 0,0 1,0 0,1" + strings.Repeat(" ", n-20) + "\n" }
	for _, s := range []string{
		"", "\n", strings.Repeat("\n", 50), strings.Repeat("area\n", 50), strings.Repeat("turn\n", 49) + "fly\n", longLine(3000), strings.Repeat("x", 2999) + "\n",
		strings.Repeat(strings.Repeat("y", 59)+"\n", 50), strings.Repeat(longLine(60), 50), strings.Repeat("turn\n", 49) + longLine(2755), "\xff\n",
	} {
		if r := checkRun(t, s); !r.isScript || len(r.replies) != strings.Count(s, "\n") {
			t.Errorf("%q %v", s, r)
		}
	}
	for _, s := range []string{
		" ", "x", "area", "\narea", "area\nturn", "area\n ", "\n\x00", strings.Repeat("\n", 51), strings.Repeat("area\n", 51), strings.Repeat("area\n", 50) + "area",
		strings.Repeat("\n", 50) + " ", longLine(3001), strings.Repeat("x", 3000) + "\n", strings.Repeat("x", 3000), strings.Repeat(strings.Repeat("y", 59)+"\n", 49) + strings.Repeat("y", 60) + "\n",
		strings.Repeat("turn\n", 49) + longLine(2756), strings.Repeat("\n", 3000), strings.Repeat("\n", 3001), strings.Repeat("area\n", 100000), "area\r", "\xff", "area\n\xff",
	} {
		replies, ok := impl.RunScript(s)
		behind, fine := impl.DeskAfter(s)
		failed, done := impl.FailedLines(s)
		if len(replies) > 0 || !isNothing(behind) || len(failed) > 0 || ok || fine || done {
			t.Errorf("%q %v %v %v %v %v %v", s, replies, behind, failed, ok, fine, done)
		}
	}
	if impl.MaxScript != 3000 || impl.MaxLines != 50 {
		t.Error(impl.MaxScript, impl.MaxLines)
	}
}

// TestLongestScripts has the lines that take longest, as many as there may be.
func TestLongestScripts(t *testing.T) {
	checkRun(t, "strip 5\n"+strings.Repeat("cuts\n", 49))
	checkRun(t, strings.Repeat("straight 12 12\n", 50))
	checkRun(t, strings.Repeat("polygon "+polygons[13]+"\nalike\n", 25))
}

// TestDesksAreKept is promise 11 for desks: lines change neither them nor what is behind their corners in memory, and
// share none with them.
func TestDesksAreKept(t *testing.T) {
	behind := pegsOf("9,9 -9,9 41,0 8,8")
	for _, d := range desks() {
		for _, line := range lines {
			said := func(d Desk) (any, bool) {
				got, _, ok := impl.DeskLine(d, line)
				return got, ok
			}
			checkRoom(t, line, func(l []Peg) (any, bool) { return said(Desk{Corners: l, Kept: d.Kept}) }, d.Corners, behind)
			checkRoom(t, line, func(l []Peg) (any, bool) { return said(Desk{Corners: d.Corners, Kept: l}) }, d.Kept, behind)
			checkRoom(t, line, func(l []Peg) (any, bool) { return said(Desk{Corners: l, Kept: l}) }, d.Corners, behind)
		}
	}
	for _, d := range notDesks() {
		corners, kept := slices.Clone(d.Corners), slices.Clone(d.Kept)
		impl.DeskLine(d, "turn")
		if !slices.Equal(d.Corners, corners) || !slices.Equal(d.Kept, kept) {
			t.Error(corners, kept, d)
		}
	}
}

// TestScriptsAreNew: no result of a call is kept for another one, and no desk has one polygon twice in memory.
func TestScriptsAreNew(t *testing.T) {
	for _, s := range []string{"", "keep\n", "swap\n", "strip 3\nkeep\nfly\n", "kind\nkeep\nswap\n", "polygon 0,0 4,0 0,3\nkeep\nturn\nback\nno\n"} {
		behind, _ := impl.DeskAfter(s)
		replies, _ := impl.RunScript(s)
		failed, _ := impl.FailedLines(s)
		if !fillAll(behind) || !fillAll(failed) {
			t.Errorf("%q shares memory", s)
		}
		for i := range replies {
			replies[i] = "filled"
		}
		checkRun(t, s)
	}
	one, other := impl.FirstDesk(), impl.FirstDesk()
	if !fillAll(one) || !reflect.DeepEqual(other, impl.FirstDesk()) {
		t.Error("FirstDesk shares memory")
	}
}
