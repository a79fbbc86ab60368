package console

import (
	"fmt"
	"math/rand"
	"reflect"
	"strings"
	"testing"

	"acequia/api"
	"acequia/claims"
	"acequia/expand"
	"acequia/ledger"
	"acequia/refuse"
	"acequia/reports"
	"acequia/season"
	"acequia/timetable"
)

// vega is the report of a world in which there is something to ask for each question.
const vega = `district vega ;
season 12 h ;
reservoir 300 l holds 40 l ;
let q = 60 l / 1 h ;
reach head delay 1 h capacity q bank 100 l evaporation 1 l to 2 l seepage 0 to 1 / 10 ;
reach low from head delay 1 h capacity 30 l / 1 h bank 100 l evaporation 0 l to 1 l seepage 0 to 0 ;
farm east on head river ;
farm west on low river ;
farm south on low river ;
take t1 of east rank 2 flow 6 l / 1 h from 0 h to 11 h ;
take t2 of west rank 1 flow 12 l / 1 h from 3 h to 9 h every 3 h for 1 h ;
take t3 of south rank 3 flow 5 l / 1 h from 4 h to 6 h ;
duty clean of east reach head by 6 h ;
world 4
done 3 0 7 8
judgement 1 2 2 0 0 0 11 4 0
forecast 5 0 10
stake 5 0 30 2
inflow 5 5 5 5 5 5 5 5 5 5 5 5
loss 500 500 500 500 500 500 500 500 500 500 500 500
loss 0 0 0 0 0 0 0 0 0 0 0 0
leak 1000 0 1000 0 1000 0 1000 0 1000 0 1000 0
leak 0 0 0 0 0 0 0 0 0 0 0 0
offer 1 1 -4 0 10 0 -3
offer 2 2 9 0 10 0 2
offer 3 0 5 20 30 1 1
suspect 1 0 20
suspect 4 0 9
suspect 4 1 3
wave 3 2 3 30 30 10 10 6 6 8 8 0 0 4 4 0 0
fact 1 3 7 2 8 1
fact 2 3 9 3 5 4
slip 0 0 1 5 1 3 7 0
slip 0 1 1 6 2 4 7 0
slip 1 0 1 5 2 2 7 0
sides 0 0 1 1
case 1 2 0 2 0 2 0
suit 4 5 1 2 1 3 1
suit 6 5 1 2 0 2
clause 1 2 3 0
`

// given returns the commands that give a report.
func given(report string) string {
	return ". " + strings.ReplaceAll(strings.TrimSuffix(report, "\n"), "\n", "\n. ") + "\n"
}

func of(kind int, text string, n ...int) api.Command {
	return api.Command{Kind: kind, N: n, Text: text}
}

// P60.1 and P60.3: commands and their lines.
func TestParseAndPrint(t *testing.T) {
	const script = ". \n. a  b\x00\n. . x\norders 0 11 -5\nplay\nfarm 0\nmarket 1099511627776\nexplain\njudge\nknown 3 0 2\nturns\naccount 1 2 3\nsave\ncrash 0\nbranch\nback\n"
	want := []api.Command{
		of(api.LineK, ""), of(api.LineK, "a  b\x00"), of(api.LineK, ". x"), of(api.OrdersK, "", 0, 11, -5), of(api.PlayK, ""), of(api.FarmK, "", 0), of(api.MarketK, "", 1<<40), of(api.ExplainK, ""), of(api.JudgeK, ""),
		of(api.KnownK, "", 3, 0, 2), of(api.TurnsK, ""), of(api.AccountK, "", 1, 2, 3), of(api.SaveK, ""), of(api.CrashK, "", 0), of(api.BranchK, ""), of(api.BackK, ""),
	}
	l, line, e := Parse(script)
	if e != api.OK || line != 0 || !reflect.DeepEqual(l, want) {
		t.Errorf("Parse = %v, %d, %d", l, line, e)
	}
	if src, e := Print(l); e != api.OK || src != script {
		t.Errorf("Print = %q, %d", src, e)
	}
	if l, line, e := Parse(""); e != api.OK || line != 0 || len(l) != 0 {
		t.Error("nothing")
	}
	if src, e := Print(nil); e != api.OK || src != "" {
		t.Error("no commands")
	}
}

// P60.1: scripts that are none, and the first wrong line.
func TestParseErrors(t *testing.T) {
	for src, want := range map[string]int{
		"save": 0, "\n": 1, ".\n": 1, ".a\n": 1, " save\n": 1, "save \n": 1, "Save\n": 1, "save 1\n": 1, ". \nfarm 01\n": 2, "farm\n": 1, "farm 1 2\n": 1, "farm  1\n": 1, "farm x\n": 1, "farm -0\n": 1, "farm +1\n": 1, "farm 1099511627777\n": 1, "farm -1099511627777\n": 1, "farm 99999999999999999999\n": 1, "known 1 2\n": 1, "line 1\n": 1, "save\n\nsave\n": 2, "save\r\n": 1, "crash\n": 1, "x": 0, "save\nx\nsave": 0, "0\n": 1,
	} {
		l, line, e := Parse(src)
		out, at, f := Play(src)
		if e != api.ErrCommand || line != want || l != nil || f != e || at != want || out != "" {
			t.Errorf("Parse(%q) = %d, line %d, want %d", src, e, line, want)
		}
	}
	for i, src := range []string{strings.Repeat("x", 65537), strings.Repeat("x\n", 401)} {
		if _, line, e := Parse(src); e != api.ErrLimit || line != 0 {
			t.Errorf("limit %d: %d, %d", i, e, line)
		}
	}
	if l, _, e := Parse(strings.Repeat("save\n", 400)); e != api.OK || len(l) != 400 {
		t.Error("400 lines")
	}
	if l, _, e := Parse(". " + strings.Repeat("x", 65533) + "\n"); e != api.OK || len(l) != 1 {
		t.Error("65536 bytes")
	}
	for i, l := range [][]api.Command{
		{{}}, {of(15, "")}, {of(-1, "")}, {of(api.SaveK, "", 1)}, {of(api.FarmK, "")}, {of(api.FarmK, "", 1<<40+1)}, {of(api.FarmK, "", -1<<40-1)}, {of(api.FarmK, "x", 1)}, {of(api.LineK, "a\nb")}, {of(api.LineK, "a", 1)}, {of(api.LineK, strings.Repeat("x", 65534))}, make([]api.Command, 401),
	} {
		if src, e := Print(l); e != api.ErrCommand || src != "" {
			t.Errorf("commands %d: %d", i, e)
		}
	}
	many := make([]api.Command, 401)
	for i := range many {
		many[i].Kind = api.SaveK
	}
	if _, e := Print(many); e != api.ErrCommand {
		t.Error("401 commands")
	}
	if src, e := Print(many[1:]); e != api.OK || len(src) != 2000 {
		t.Error("400 commands")
	}
	if _, e := Print([]api.Command{of(api.LineK, strings.Repeat("x", 65533))}); e != api.OK {
		t.Error("65536 bytes")
	}
}

func play(t *testing.T, src string) string {
	t.Helper()
	out, at, e := Play(src)
	if e != api.OK || at != 0 {
		t.Fatalf("Play: %d, line %d", e, at)
	}
	return out
}

// answer returns the lines that a question adds after a report.
func answer(t *testing.T, report, question string) string {
	t.Helper()
	out := play(t, given(report)+question+"\n")
	return strings.TrimPrefix(out, strings.Repeat("ok\n", strings.Count(report, "\n")))
}

func world(t *testing.T) (api.World, api.District) {
	t.Helper()
	w, line, e := reports.Read(vega)
	if e != api.OK {
		t.Fatalf("Read: %d, line %d", e, line)
	}
	d, e := expand.Expand(w.Source)
	if e != api.OK {
		t.Fatalf("Expand: %d", e)
	}
	return w, d
}

// P60.2 and P60.8: what questions print is what the functions return.
func TestSeasonQuestions(t *testing.T) {
	w, d := world(t)
	x := api.Season{District: d, Every: w.Every, Done: w.Done, Judgements: w.Judgements, Forecasts: w.Forecasts, Stakes: w.Stakes, Weather: w.Weather}
	x.Forecasts[0].Seen = []int{0}
	o, e := season.Play(x)
	owed, f := season.Owed(x)
	if e != api.OK || f != api.OK {
		t.Fatalf("season.Play: %d, %d", e, f)
	}
	want := ""
	short := 0
	for _, s := range o.Schemes {
		n := 0
		if s.Short {
			n = 1
			short++
		}
		want += fmt.Sprintln("block", s.Made, s.Free, n)
	}
	for i := range d.Farms {
		want += fmt.Sprintln("farm", i, o.Asked[i], o.Given[i], o.Got[i])
	}
	if got := answer(t, vega, "play"); got != want+fmt.Sprintln("rest", o.Rest) || short == 0 {
		t.Errorf("play: %s, want %s", got, want)
	}
	for farm := range d.Farms {
		want := ""
		for _, s := range o.Schemes {
			for i, c := range s.Served {
				if c.Farm == farm {
					want += fmt.Sprintln("award", s.Made, c.Hour, c.Litres, s.Awards[i])
				}
			}
		}
		if got := answer(t, vega, fmt.Sprint("farm ", farm)); got != want+fmt.Sprintln("owed", owed[farm]) || want == "" {
			t.Errorf("farm: %s, want %s", got, want)
		}
	}
	l, _ := ledger.Of(d, o.Run)
	for _, q := range [][3]int{{1, 1, 5}, {1, 1024, 12}, {1, 0, 11}, {2, 1, 1}} {
		n, _ := ledger.Balance(l, q[0], q[1], q[2])
		if got := answer(t, vega, fmt.Sprint("account ", q[0], " ", q[1], " ", q[2])); got != fmt.Sprintln("balance", n) {
			t.Errorf("account: %s, want %d", got, n)
		}
	}
	for _, q := range []string{"farm 3", "farm -1", "account 3 0 0", "account 1 4096 0"} {
		if got := answer(t, vega, q); got != "error 1\n" {
			t.Errorf("%s: %s", q, got)
		}
	}
}

// P60.2: timetables, and refusals.
func TestOrders(t *testing.T) {
	w, d := world(t)
	c, _ := claims.Of(d, w.Deeds, 8, 9, 3)
	l, ok, _ := timetable.Make(d, c)
	want := ""
	for _, o := range l {
		outlet := 0
		if o.Outlet {
			outlet = 1
		}
		want += fmt.Sprintln("order", o.Hour, o.Index, o.Litres, outlet)
	}
	if got := answer(t, vega, "orders 8 9 3"); got != want || !ok {
		t.Errorf("orders: %s, want %s", got, want)
	}
	r, ok, _ := refuse.Why(d, w.Deeds, 0, 11, 3)
	want = strings.Trim(fmt.Sprintln("refused", r.Rights), "[]\n")
	want = strings.NewReplacer("[", "", "]", "").Replace(want) + "\n" + fmt.Sprintln("limit", r.Kind, r.Reach, r.Hour)
	for _, p := range r.Parcels {
		want += fmt.Sprintln("parcel", p.Reach, p.Hour, p.Litres, p.Wanted)
	}
	if got := answer(t, vega, "orders 0 11 3"); got != want || !ok {
		t.Errorf("orders: %s, want %s", got, want)
	}
	late := strings.Replace(vega, "from 0 h to 11 h", "from 5 h to 11 h", 1)
	if got := answer(t, late, "orders 5 11 3"); !strings.HasPrefix(got, "refused ") || !strings.Contains(got, "\nparcel ") {
		t.Errorf("orders with parcels: %s", got)
	}
	if got := answer(t, vega, "orders 9 8 0"); got != "error 1\n" {
		t.Errorf("orders: %s", got)
	}
}

// P60.2: the other questions.
func TestOtherQuestions(t *testing.T) {
	for question, want := range map[string]string{
		"known 3 4 3": "said 7\n", "known 3 4 4": "said 9\n", "known 3 9 4": "nothing\n", "known 3 4097 4": "error 1\n",
		"turns": "turn 5 2 3 0\nturn 6 2 2\n", "judge": "judged 4 0 1\njudged 6 0 0\n", "explain": "set 0 2\nset 1 2\nnamed 0 1 2\n",
	} {
		if got := answer(t, vega, question); got != want {
			t.Errorf("%s: %q, want %q", question, got, want)
		}
	}
	if got := answer(t, strings.Replace(vega, "reservoir 300 l holds 40 l", "reservoir 3000 l holds 3000 l", 1), "market 5"); got != "best 5\npays 1 -6\npays 2 6\npays 3 0\n" {
		t.Errorf("market: %q", got)
	}
	if got := answer(t, vega, "market 10001"); got != "error 450\n" {
		t.Errorf("market: %q", got)
	}
	none := strings.Replace(vega, "wave 3 2 3 30 30", "wave 3 2 3 90 90", 1)
	if got := answer(t, strings.Replace(none, "suspect 1 0 20\n", "", 1), "explain"); got != "named\n" {
		t.Errorf("explain: %q", got)
	}
	if got := answer(t, strings.Replace(vega, "wave 3", "wave 12", 1), "explain"); got != "error 480\n" {
		t.Errorf("explain: %q", got)
	}
	if got := answer(t, strings.Replace(vega, "season 12 h", "season 12 h / 0", 1), "explain"); got != "error 120\n" {
		t.Errorf("explain: %q", got)
	}
	if got := answer(t, strings.Replace(vega, "season 12 h", "season 12 h / 0", 1), "turns"); got != "turn 5 2 3 0\nturn 6 2 2\n" {
		t.Errorf("turns of a world without a district: %q", got)
	}
	if got := answer(t, strings.Replace(vega, "slip 1 0 1", "slip 1 1 1", 1), "turns"); got != "error 540\n" {
		t.Errorf("turns: %q", got)
	}
	if got := answer(t, strings.Replace(vega, "case 1 2 0", "case 1 2 2", 1), "judge"); got != "error 520\n" {
		t.Errorf("judge: %q", got)
	}
	for _, q := range []string{"orders 0 0 0", "play", "farm 0", "market 0", "explain", "judge", "known 0 0 0", "turns", "account 1 0 0"} {
		if got := play(t, q+"\n"); got != "error 590\n" {
			t.Errorf("%s without a report: %q", q, got)
		}
	}
}

// P60.2 and P60.5: branches.
func TestBranches(t *testing.T) {
	if got := play(t, "back\n"); got != "error 600\n" {
		t.Errorf("back: %q", got)
	}
	src := given(vega) + "known 3 4 3\nbranch\n. fact 9 3 1 4 4 2\nknown 3 4 3\nbranch\n. fact 10 3 2 4 4 3\nknown 3 4 3\nback\nknown 3 4 3\nback\nknown 3 4 3\nback\n"
	want := strings.Repeat("ok\n", strings.Count(vega, "\n")) + "said 7\nok\nok\nsaid 1\nok\nok\nsaid 2\nok\nsaid 1\nok\nsaid 7\nerror 600\n"
	if got := play(t, src); got != want {
		t.Errorf("branches: %q, want %q", got, want)
	}
}

// P60.2 and P60.6: what is saved survives, and nothing else.
func TestCrashes(t *testing.T) {
	for src, want := range map[string]string{
		". a\nsave\n. b\ncrash 0\n":                          "ok\nsaved 1\nok\nopen 1\n",
		". a\nsave\n. b\ncrash 1\n":                          "ok\nsaved 1\nok\nopen 2\n",
		". a\n. b\ncrash -1\n":                               "ok\nok\nopen 2\n",
		". a\n. b\ncrash 0\n":                                "ok\nok\nopen 0\n",
		"crash 0\n":                                          "open 0\n",
		"crash 5\ncrash 0\n":                                 "open 0\nopen 0\n",
		". a\nsave\nbranch\ncrash 0\nback\n":                 "ok\nsaved 1\nok\nopen 1\nerror 600\n",
		". a\nsave\n. b\ncrash 0\n. c\nsave\ncrash 0\n":      "ok\nsaved 1\nok\nopen 1\nok\nsaved 2\nopen 2\n",
		". a\nsave\nbranch\n. b\nsave\nback\n. c\ncrash 0\n": "ok\nsaved 1\nok\nok\nsaved 2\nok\nok\nopen 2\n",
		". a\ncrash 99999999\nsave\n":                        "ok\nopen 1\nsaved 1\n",
	} {
		if got := play(t, src); got != want {
			t.Errorf("%q: %q, want %q", src, got, want)
		}
	}
	long := ". " + strings.Repeat("x", 9000) + "\n"
	if got := play(t, long+"save\nsave\nsave\nsave\n. b\ncrash 999\n"); got != "ok\nsaved 1\nsaved 1\nsaved 1\nerror 2\nok\nopen 1\n" {
		t.Errorf("a full disk: %q", got)
	}
	report := given(vega)
	ok := strings.Repeat("ok\n", strings.Count(vega, "\n"))
	before := play(t, report+"play\n")
	if got := play(t, report+"save\n. x\ncrash 3\nplay\n"); got != ok+"saved 40\nok\nopen 40\n"+strings.TrimPrefix(before, ok) {
		t.Errorf("after a crash: %q", got)
	}
}

// P60.4, P60.7 and P60.8: one after the other, in any order, and questions that change nothing.
func TestLaws(t *testing.T) {
	r := rand.New(rand.NewSource(60))
	questions := []string{"orders 8 9 3", "play", "farm 1", "market 5", "explain", "judge", "known 3 4 4", "turns", "account 1 1 9"}
	lines := strings.Split(strings.TrimSuffix(vega, "\n"), "\n")
	ok := strings.Repeat("ok\n", len(lines))
	want := strings.TrimPrefix(play(t, given(vega)+strings.Join(questions, "\n")+"\n"), ok)
	for range 20 {
		// The lines of one place keep their order.
		var mixed []string
		rest := append([]string(nil), lines...)
		for len(rest) > 0 {
			i := r.Intn(len(rest))
			for k := range i {
				if place(rest[k]) == place(rest[i]) {
					i = k
					break
				}
			}
			mixed = append(mixed, rest[i])
			rest = append(rest[:i:i], rest[i+1:]...)
		}
		src := given(strings.Join(mixed, "\n")+"\n") + strings.Join(questions, "\n") + "\n"
		out := play(t, src)
		if got := strings.TrimPrefix(out, ok); got != want {
			t.Fatalf("in another order: %q", got)
		}
		commands := strings.SplitAfter(src, "\n")
		if beginning := play(t, strings.Join(commands[:r.Intn(len(commands))], "")); !strings.HasPrefix(out, beginning) {
			t.Fatal("a beginning")
		}
	}
	twice := play(t, given(vega)+strings.Repeat(strings.Join(questions, "\n")+"\n", 2))
	if twice != ok+want+want {
		t.Error("questions change something")
	}
}
