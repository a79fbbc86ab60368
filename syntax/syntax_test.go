package syntax

import (
	"math/rand"
	"reflect"
	"strings"
	"testing"

	"acequia/api"
	"acequia/lex"
)

// vega is a source with each construct, as it is printed.
const vega = `district vega ;
season 30 d ;
reservoir 5000 m3 holds ( 2 + 1 ) * 1000 l ;
let q = 40 l / 1 h ;
let k = 2 * ( 3 * 4 ) - 1 / 2 ;
crop vine needs 3 m3 / 10 a ;
reach head delay 2 h capacity 40 m3 / 1 h bank 100 m3 evaporation 0 l to 10 l seepage 0 to 1 / 10 ;
reach low from head delay 0 h capacity q bank 50 m3 siphon 1 l evaporation 0 l to 1 l seepage 1 / 20 to 1 / 10 ;
farm east on head area 20 a crop vine ;
farm tail on low river ;
rotation dula on low rank 2 flow q from 0 h to 10 d {
turn east for 6 h ;
turn tail for 1 h ;
}
rotation rest on head rank 3 flow q from 0 h to 1 d {
}
take t1 of east rank 1 flow 6 l / 1 h from 1 d to 2 d every 12 h for 3 h ;
take t2 of east rank 0 flow 6 l / 1 h from 1 d to 2 d ;
own mine of tail reach low ;
easement way of east reach low from 0 h to 30 d ;
duty clean of east reach head by 5 d ;
`

func num(n, unit int) api.Expr         { return api.Expr{Op: api.NumX, N: n, Unit: unit} }
func letX(name string) api.Expr        { return api.Expr{Op: api.LetX, Let: ref(name)} }
func ref(name string) api.Ref          { return api.Ref{Name: name} }
func op(o int, a, b api.Expr) api.Expr { return api.Expr{Op: o, Args: []api.Expr{a, b}} }

func parse(t *testing.T, src string) api.Source {
	t.Helper()
	s, at, e := Parse(src)
	if e != api.OK || at != 0 {
		t.Fatalf("Parse: %d at %d: %.40q", e, at, src[min(at, len(src)):])
	}
	return s
}

// P16.1: each field of a source.
func TestParse(t *testing.T) {
	s := parse(t, vega)
	flow := op(api.DivX, num(6, api.LitreU), num(1, api.HourU))
	tenth := op(api.DivX, num(1, 0), num(10, 0))
	for i, x := range []struct{ got, want any }{
		{s.Name, "vega"}, {s.Season, num(30, api.DayU)}, {s.Cap, num(5000, api.CubicU)},
		{s.Start, op(api.MulX, op(api.AddX, num(2, 0), num(1, 0)), num(1000, api.LitreU))},
		{s.Lets[1], api.LetDecl{Name: "k", Value: op(api.SubX, op(api.MulX, num(2, 0), op(api.MulX, num(3, 0), num(4, 0))), op(api.DivX, num(1, 0), num(2, 0)))}},
		{s.Crops, []api.CropDecl{{Name: "vine", Need: op(api.DivX, num(3, api.CubicU), num(10, api.AreU))}}},
		{s.Reaches[0].From, api.Ref{}}, {s.Reaches[0].Siphon, api.Expr{}}, {s.Reaches[0].Seep, [2]api.Expr{num(0, 0), tenth}}, {s.Reaches[0].Delay, num(2, api.HourU)},
		{s.Reaches[1], api.ReachDecl{Name: "low", From: ref("head"), Delay: num(0, api.HourU), Cap: letX("q"), Bank: num(50, api.CubicU), Siphon: num(1, api.LitreU),
			Evap: [2]api.Expr{num(0, api.LitreU), num(1, api.LitreU)}, Seep: [2]api.Expr{op(api.DivX, num(1, 0), num(20, 0)), tenth}}},
		{s.Farms, []api.FarmDecl{{Name: "east", On: ref("head"), Area: num(20, api.AreU), Crop: ref("vine")}, {Name: "tail", On: ref("low"), River: true}}},
		{s.Rotations[0], api.Rotation{Name: "dula", On: ref("low"), Rank: 2, Flow: letX("q"), From: num(0, api.HourU), To: num(10, api.DayU),
			Turns: []api.TurnDecl{{Farm: ref("east"), Length: num(6, api.HourU)}, {Farm: ref("tail"), Length: num(1, api.HourU)}}}},
		{len(s.Rotations[1].Turns), 0},
		{s.Rights, []api.RightDecl{
			{Kind: api.TakeR, Name: "t1", Farm: ref("east"), Rank: 1, Flow: flow, From: num(1, api.DayU), To: num(2, api.DayU), Every: num(12, api.HourU), Length: num(3, api.HourU)},
			{Kind: api.TakeR, Name: "t2", Farm: ref("east"), Flow: flow, From: num(1, api.DayU), To: num(2, api.DayU)},
			{Kind: api.OwnR, Name: "mine", Farm: ref("tail"), Reach: ref("low")},
			{Kind: api.EaseR, Name: "way", Farm: ref("east"), Reach: ref("low"), From: num(0, api.HourU), To: num(30, api.DayU)}}},
		{s.Duties, []api.DutyDecl{{Name: "clean", Farm: ref("east"), Reach: ref("head"), Due: num(5, api.DayU)}}},
	} {
		if !reflect.DeepEqual(x.got, x.want) {
			t.Errorf("field %d is %v, want %v", i, x.got, x.want)
		}
	}
}

// letOf returns a source whose only constant has this expression.
func letOf(expr string) string {
	return "district w ; season 1 d ; reservoir 1 l holds 1 l ; let x = " + expr + " ;"
}

// P16.1: the first wrong token.
func TestParseWrong(t *testing.T) {
	for src, want := range map[string]int{
		"": 0, "district": 8, "district bank ;": 9, "district w ; season 9 h + ;": 26, "district w season ;": 11, "district w ; season ;": 20, "district l ;": 9, "  // x": 6, "district m3 ;": 9,
		"district w ; season 1 d h ;": 24, "district 3": 9, "season": 0, "district w ; season bank": 20,
		letOf("1 + 2 + 3"): 66, letOf("1 * 2 * 3"): 66, letOf("( 1"): 64, letOf(")"): 60, letOf("1 l h"): 64, letOf("l"): 60, letOf("q ( 1 )"): 62, letOf("- 1"): 60,
		letOf(strings.Repeat("(", 9) + "1" + strings.Repeat(")", 9)): 68, letOf("1") + "reach": len(letOf("1")) + 5, letOf("1") + "crop c needs 1 ; let y = 1 ;": len(letOf("1")) + 17,
	} {
		if s, at, e := Parse(src); e != api.ErrSyntax || at != want || !reflect.DeepEqual(s, api.Source{}) {
			t.Errorf("Parse(%q) = %d, %d, want %d", src, e, at, want)
		}
	}
	if _, at, e := Parse("district $"); e != api.ErrText || at != 9 {
		t.Errorf("a wrong token: %d, %d", e, at)
	}
	if _, at, e := Parse(strings.Repeat(" ", 65537)); e != api.ErrLimit || at != 0 {
		t.Errorf("a long source: %d, %d", e, at)
	}
	parse(t, letOf(strings.Repeat("(", 8)+"1"+strings.Repeat(")", 8)))
	parse(t, letOf("( ( 1 ) ) + ( ( 2 ) )"))
}

// P16.1 and P16.4: no beginning of a source is refused before its end, and no wrong token is passed over.
func TestBeginnings(t *testing.T) {
	l, _, _ := lex.Lex(vega)
	for i := range l {
		src, _ := lex.Text(l[:i])
		if _, at, e := Parse(src); e == api.OK && i < 13 || e != api.OK && at != len(src) {
			t.Fatalf("%d tokens: %d at %d", i, e, at)
		}
		if _, at, e := Parse(src + " !"); e != api.ErrSyntax || at != len(src)+1 {
			t.Fatalf("a sign after %d tokens: %d at %d", i, e, at)
		}
	}
}

// P16.2: the printed source, and parentheses only where they are needed.
func TestPrint(t *testing.T) {
	if src, e := Print(parse(t, vega)); e != api.OK || src != vega {
		t.Errorf("printed: %d\n%s", e, src)
	}
	for expr, want := range map[string]string{
		"((2 h)+(3 h))*4": "( 2 h + 3 h ) * 4", "2h+(3h*4)": "2 h + 3 h * 4", "(1-2)-(3-4)": "( 1 - 2 ) - ( 3 - 4 )", "(1/2)/(3*x)": "( 1 / 2 ) / ( 3 * x )", "((((7 m3))))": "7 m3", "(1*2)-(3/4)": "1 * 2 - 3 / 4",
	} {
		src, e := Print(parse(t, letOf(expr)))
		if e != api.OK || !strings.Contains(src, "let x = "+want+" ;\n") {
			t.Errorf("%q is printed as %q", expr, src)
		}
	}
	s := parse(t, vega)
	s.Reaches[1].From.N, s.Farms[0].Crop.N, s.Lets[0].Value.Let.N = 5, -1, 3
	if src, e := Print(s); e != api.OK || src != vega {
		t.Error("the N of references")
	}
}

// deep returns sums within sums.
func deep(n int) api.Expr {
	x := num(1, 0)
	for range n {
		x = op(api.AddX, num(1, 0), x)
	}
	return x
}

// P16.2: what is no Source of tokens.
func TestPrintWrong(t *testing.T) {
	bad := []api.Expr{{}, {Op: 7}, {Op: -1}, num(-1, 0), num(1<<40+1, 0), num(1, 6), num(1, -1), letX(""), letX("h"), letX("1"), {Op: api.NumX, Let: ref("x")}, {Op: api.LetX, Let: ref("x"), N: 1}, {Op: api.LetX, Let: ref("x"), Unit: 1},
		{Op: api.AddX}, {Op: api.AddX, Args: []api.Expr{num(1, 0)}}, {Op: api.NumX, Args: []api.Expr{num(1, 0)}}, {Op: api.MulX, N: 1, Args: []api.Expr{num(1, 0), num(1, 0)}}, {Op: api.LetX, Let: ref("x"), Args: []api.Expr{num(1, 0)}},
		op(api.SubX, num(1, 0), api.Expr{}), deep(10), deep(60000), {Op: api.AddX, Let: ref("x"), Args: []api.Expr{num(1, 0), num(1, 0)}}, {Op: api.AddX, Unit: 1, Args: []api.Expr{num(1, 0), num(1, 0)}}}
	var l []func(s *api.Source)
	for _, x := range bad {
		l = append(l, func(s *api.Source) { s.Lets[0].Value = x }, func(s *api.Source) { s.Rights[1].To = x })
	}
	l = append(l,
		func(s *api.Source) { s.Name = "" }, func(s *api.Source) { s.Name = "bank" }, func(s *api.Source) { s.Name = strings.Repeat("a", 33) }, func(s *api.Source) { s.Name = "a b" },
		func(s *api.Source) { s.Season = api.Expr{} }, func(s *api.Source) { s.Farms[1].Area = num(1, 0) }, func(s *api.Source) { s.Farms[1].Crop = ref("vine") }, func(s *api.Source) { s.Farms[0].Crop = ref("") },
		func(s *api.Source) { s.Rotations[0].Rank = -1 }, func(s *api.Source) { s.Rotations[0].Turns[0].Farm = ref("to") }, func(s *api.Source) { s.Rights[0].Every = api.Expr{} }, func(s *api.Source) { s.Rights[1].Length = num(1, 0) },
		func(s *api.Source) { s.Rights[0].Reach = ref("low") }, func(s *api.Source) { s.Rights[2].Rank = 1 }, func(s *api.Source) { s.Rights[2].From = num(1, 0) }, func(s *api.Source) { s.Rights[2].Reach = ref("") },
		func(s *api.Source) { s.Rights[3].Flow = num(1, 0) }, func(s *api.Source) { s.Rights[3].Rank = 1 }, func(s *api.Source) { s.Rights[3].Every = num(1, 0) }, func(s *api.Source) { s.Rights[3].To = api.Expr{} },
		func(s *api.Source) { s.Rights[0].Kind = 4 }, func(s *api.Source) { s.Rights[0].Kind = 0 }, func(s *api.Source) { s.Duties[0].Due = api.Expr{} }, func(s *api.Source) { s.Rights[0].Rank = 1<<40 + 1 }, func(s *api.Source) { s.Reaches[1].From = ref("a b") },
	)
	for i, change := range l {
		s := parse(t, vega)
		change(&s)
		if src, e := Print(s); e != api.ErrSyntax || src != "" {
			t.Errorf("change %d: %d", i, e)
		}
	}
	if src, e := Print(api.Source{}); e != api.ErrSyntax || src != "" {
		t.Error("the zero Source")
	}
}

func randomExpr(r *rand.Rand, deep int) api.Expr {
	switch k := r.Intn(6); {
	case deep == 0 || k == 0:
		return num(r.Intn(1<<r.Intn(41)), r.Intn(6))
	case k == 1:
		return letX("q_" + string(rune('a'+r.Intn(26))))
	}
	return op(api.AddX+r.Intn(4), randomExpr(r, deep-1), randomExpr(r, deep-1))
}

// P16.3: there and back.
func TestThereAndBack(t *testing.T) {
	r := rand.New(rand.NewSource(16))
	for range 500 {
		s := parse(t, vega)
		s.Season, s.Crops[0].Need, s.Reaches[0].Siphon, s.Rights[3].From = randomExpr(r, 8), randomExpr(r, 3), randomExpr(r, 2), randomExpr(r, 4)
		src, e := Print(s)
		if e != api.OK {
			t.Fatalf("Print: %d", e)
		}
		if len(src) > api.MaxSource {
			continue
		}
		again := parse(t, src)
		if !reflect.DeepEqual(again, s) {
			t.Fatalf("%v became %v", s.Season, again.Season)
		}
		if twice, _ := Print(again); twice != src {
			t.Fatal("printed twice")
		}
	}
}

// P16.4: spaces and comments do not matter, and elements can be left out line by line.
func TestLines(t *testing.T) {
	loose := strings.ReplaceAll(vega, " ", " // x ;\n\t")
	if !reflect.DeepEqual(parse(t, loose), parse(t, vega)) {
		t.Error("white space and comments")
	}
	lines := strings.SplitAfter(vega, "\n")
	for i, line := range lines {
		if i < 3 || strings.HasPrefix(line, "rotation") || strings.HasPrefix(line, "}") || line == "" {
			continue
		}
		without := strings.Join(lines[:i], "") + strings.Join(lines[i+1:], "")
		if src, e := Print(parse(t, without)); e != api.OK || src != without {
			t.Errorf("without %q", line)
		}
	}
}
