package gatecode

import (
	"math/rand"
	"reflect"
	"slices"
	"strings"
	"testing"

	"acequia/api"
	"acequia/lex"
)

func cond(v, op, n int) api.Cond { return api.Cond{Var: v, Op: op, N: n} }

func line(set int, l ...api.Cond) api.Line { return api.Line{Conds: l, Set: set} }

func code(l ...api.Line) api.Code { return api.Code{Lines: l} }

const sample = "when level above 9 and age is 0 set 3 ;\nwhen order atleast 2 and position atmost 1 and feed below 4 and level is 7 set 0 ;\nalways set 1099511627776 ;\n"

func sampleCode() api.Code {
	return code(
		line(3, cond(api.LevelV, api.AboveO, 9), cond(api.AgeV, api.IsO, 0)),
		line(0, cond(api.OrderV, api.LeastO, 2), cond(api.PositionV, api.AtmostO, 1), cond(api.FeedV, api.BelowO, 4), cond(api.LevelV, api.IsO, 7)),
		line(1<<40))
}

// P31.1: programs and the first wrong token.
func TestParse(t *testing.T) {
	for src, want := range map[string]api.Code{"": {}, "// nothing": {}, sample: sampleCode(), "always set 0;always set 1;": code(line(0), line(1)), strings.Repeat("always set 0;", 64): code(slices.Repeat([]api.Line{line(0)}, 64)...)} {
		if c, at, e := Parse(src); e != api.OK || at != 0 || !reflect.DeepEqual(c, want) {
			t.Errorf("Parse(%.30q) = %v, %d, %d", src, c, at, e)
		}
	}
	four := "when level is 1 and level is 1 and level is 1 and level is 1 "
	for src, want := range map[string]int{
		"when level above 9 set 3; always set;": 36, "always set 4": 12, "always": 6, "when": 4, "set 3;": 0, "always 3": 7, "always set 4 ; ;": 15, "when level": 10, "when levels is 1": 5, "when level equals 1": 11, "when level is x": 14, "when level is 1 set 2 3;": 22, "when level is 1 or": 16,
		"when level is 1 and set": 20, "when 1": 5, four + "and": 61, "always set -1 ;": 11, strings.Repeat("always set 0;", 64) + "always": 832, strings.Repeat("always set 0;", 64) + "x": 832, "always and": 7, "Always set 1;": 0,
	} {
		if c, at, e := Parse(src); e != api.ErrGate || at != want || c.Lines != nil {
			t.Errorf("Parse(%.40q) = %d, %d, want %d", src, e, at, want)
		}
	}
	if _, at, e := Parse("$"); e != api.ErrText || at != 0 {
		t.Error("a wrong byte")
	}
	if _, at, e := Parse("always 007"); e != api.ErrText || at != 7 {
		t.Error("a wrong number")
	}
	if _, at, e := Parse(strings.Repeat(" ", 65537)); e != api.ErrLimit || at != 0 {
		t.Error("a long text")
	}
}

// P31.2: valid programs, and their text.
func TestCheckAndPrint(t *testing.T) {
	if src, e := Print(sampleCode()); e != api.OK || src != sample {
		t.Errorf("Print = %q, %d", src, e)
	}
	if src, e := Print(api.Code{}); e != api.OK || src != "" {
		t.Error("no lines")
	}
	is := cond(0, api.IsO, 0)
	for i, c := range []api.Code{code(make([]api.Line, 65)...), code(line(0, is, is, is, is, is)), code(line(-1)), code(line(1<<40 + 1)), code(line(0, cond(5, 1, 0))), code(line(0, cond(-1, 1, 0))), code(line(0, cond(0, 0, 0))), code(line(0, cond(0, 6, 0))), code(line(0, cond(0, 1, -1))), code(line(0, cond(0, 1, 1<<40+1)))} {
		src, e := Print(c)
		set, ok, f := Run(c, [5]int{})
		if Check(c) != api.ErrGate || e != api.ErrGate || f != api.ErrGate || src != "" || set != 0 || ok {
			t.Errorf("program %d", i)
		}
	}
	if Check(code(slices.Repeat([]api.Line{line(0, is, is, is, is)}, 64)...)) != api.OK {
		t.Error("the greatest program")
	}
}

// P31.3: the first line that holds.
func TestRun(t *testing.T) {
	for i, x := range []struct {
		c    api.Code
		vars [5]int
		set  int
		ok   bool
	}{
		{api.Code{}, [5]int{}, 0, false}, {sampleCode(), [5]int{10, 0, 0, 0, 0}, 3, true}, {sampleCode(), [5]int{9, 0, 0, 0, 0}, 1 << 40, true}, {sampleCode(), [5]int{7, 1, 2, 1, 3}, 0, true}, {sampleCode(), [5]int{7, 1, 2, 1, 4}, 1 << 40, true},
		{code(line(5, cond(api.FeedV, api.AboveO, 0))), [5]int{-1, -1, -1, -1, 0}, 0, false}, {code(line(5, cond(api.FeedV, api.BelowO, 0))), [5]int{0, 0, 0, 0, -1 << 63}, 5, true}, {code(line(0)), [5]int{}, 0, true},
	} {
		if set, ok, e := Run(x.c, x.vars); set != x.set || ok != x.ok || e != api.OK {
			t.Errorf("case %d: %d, %v, %d", i, set, ok, e)
		}
	}
	for op, want := range map[int][3]bool{api.BelowO: {true, false, false}, api.AtmostO: {true, true, false}, api.IsO: {false, true, false}, api.LeastO: {false, true, true}, api.AboveO: {false, false, true}} {
		for v := range 5 {
			for i, n := range []int{4, 5, 6} {
				var vars [5]int
				vars[v] = n
				if _, ok, _ := Run(code(line(1, cond(v, op, 5))), vars); ok != want[i] {
					t.Errorf("the variable %d with %d, comparison %d", v, n, op)
				}
			}
		}
	}
}

func random(r *rand.Rand) (c api.Code) {
	for range r.Intn(5) {
		x := line(r.Intn(4))
		for range r.Intn(5) {
			x.Conds = append(x.Conds, cond(r.Intn(5), 1+r.Intn(5), r.Intn(4)))
		}
		c.Lines = append(c.Lines, x)
	}
	return c
}

// P31.4: there and back. P31.6: two programs one after the other, and the conditions of a line.
func TestLaws(t *testing.T) {
	r := rand.New(rand.NewSource(31))
	for range 500 {
		a, b := random(r), random(r)
		src, _ := Print(a)
		again, _, e := Parse(strings.ReplaceAll(src, " ", "\t// x\n "))
		if e != api.OK || !reflect.DeepEqual(again, a) {
			t.Fatalf("%q: %d", src, e)
		}
		if twice, _ := Print(again); twice != src {
			t.Fatalf("%q becomes %q", src, twice)
		}
		vars := [5]int{r.Intn(4), r.Intn(4), r.Intn(4), r.Intn(4), r.Intn(4)}
		set, ok, _ := Run(a, vars)
		set2, ok2, _ := Run(b, vars)
		if !ok {
			set, ok = set2, ok2
		}
		if s, k, _ := Run(code(slices.Concat(a.Lines, b.Lines)...), vars); s != set || k != ok {
			t.Fatal("two programs")
		}
		for _, x := range a.Lines {
			_, before, _ := Run(code(x), vars)
			x.Conds = slices.Clone(x.Conds)
			r.Shuffle(len(x.Conds), func(i, k int) { x.Conds[i], x.Conds[k] = x.Conds[k], x.Conds[i] })
			if _, after, _ := Run(code(x), vars); after != before {
				t.Fatal("the order of conditions")
			}
			if len(x.Conds) < 4 {
				x.Conds = append(x.Conds, cond(r.Intn(5), 1+r.Intn(5), 2))
				if _, after, _ := Run(code(x), vars); after && !before {
					t.Fatal("a further condition")
				}
			}
		}
	}
}

// P31.5: what stands before a wrong token is a beginning of a program.
func TestBeginnings(t *testing.T) {
	l, _, _ := lex.Lex(sample)
	for i := range l {
		src, _ := lex.Text(l[:i])
		if _, at, e := Parse(src); e != api.OK && (e != api.ErrGate || at != len(src)) {
			t.Fatalf("%q: %d at %d", src, e, at)
		}
		if _, at, e := Parse(src + " }"); e != api.ErrGate || at != len(src)+1 {
			t.Fatalf("%q with a sign: %d at %d", src, e, at)
		}
	}
}
