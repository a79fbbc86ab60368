package syntax

import (
	"strings"

	"acequia/api"
	"acequia/lex"
	"acequia/words"
)

// writer writes tokens; line has those of the line that has not ended.
type writer struct {
	out  strings.Builder
	line []api.Token
}

// invalid is the panic of a writer: what it shall write is no Source.
type invalid struct{}

// word is a word or a sign of the grammar.
type word string

// Print returns the source of a Source.
func Print(s api.Source) (src string, e api.Errno) {
	defer func() {
		if recover() != nil {
			src, e = "", api.ErrSyntax
		}
	}()
	w := &writer{}
	w.source(s)
	return w.out.String(), api.OK
}

func require(ok bool) {
	if !ok {
		panic(invalid{})
	}
}

// put writes words, names, references, numbers and expressions.
func (w *writer) put(parts ...any) {
	for _, x := range parts {
		switch x := x.(type) {
		case word:
			w.word(string(x))
		case string:
			require(lex.Name(x) && !words.Is(x))
			w.line = append(w.line, api.Token{Kind: api.NameT, Text: x})
		case api.Ref:
			w.put(x.Name)
		case int:
			w.line = append(w.line, api.Token{Kind: api.NumberT, N: x})
		case api.Expr:
			w.expr(x, 0)
		}
	}
}

func (w *writer) word(text string) {
	kind := api.SignT
	if lex.Name(text) {
		kind = api.NameT
	}
	w.line = append(w.line, api.Token{Kind: kind, Text: text})
	if text == ";" || text == "{" || text == "}" {
		w.endLine()
	}
}

func (w *writer) endLine() {
	text, e := lex.Text(w.line)
	require(e == api.OK)
	w.out.WriteString(text + "\n")
	w.line = nil
}

// leaveOut makes sure that what is not written has no value.
func leaveOut(parts ...any) {
	for _, x := range parts {
		switch x := x.(type) {
		case api.Ref:
			require(x.Name == "")
		case int:
			require(x == 0)
		case api.Expr:
			require(isLeftOut(x))
		}
	}
}

func isLeftOut(x api.Expr) bool {
	return x.Op == 0 && x.N == 0 && x.Unit == 0 && x.Let.Name == "" && len(x.Args) == 0
}

// expr writes an expression within so many pairs of parentheses.
func (w *writer) expr(x api.Expr, nest int) {
	switch x.Op {
	case api.NumX:
		leaveOut(x.Let)
		require(len(x.Args) == 0 && x.Unit >= 0 && x.Unit < len(units))
		w.put(x.N)
		if x.Unit != api.NoneU {
			w.word(units[x.Unit])
		}
	case api.LetX:
		leaveOut(x.N, x.Unit)
		require(len(x.Args) == 0)
		w.put(x.Let)
	case api.AddX, api.SubX, api.MulX, api.DivX:
		leaveOut(x.N, x.Unit, x.Let)
		require(len(x.Args) == 2)
		w.arg(x, 0, nest)
		w.word("+-*/"[x.Op-api.AddX : x.Op-api.AddX+1])
		w.arg(x, 1, nest)
	default:
		panic(invalid{})
	}
}

// arg writes an argument of an operator, in parentheses if it needs them.
func (w *writer) arg(x api.Expr, i, nest int) {
	a := x.Args[i]
	product := a.Op == api.MulX || a.Op == api.DivX
	if a.Op != api.AddX && a.Op != api.SubX && !(product && x.Op >= api.MulX) {
		w.expr(a, nest)
		return
	}
	require(nest < api.MaxNest)
	w.word("(")
	w.expr(a, nest+1)
	w.word(")")
}

func (w *writer) source(s api.Source) {
	w.put(word("district"), s.Name, word(";"), word("season"), s.Season, word(";"))
	w.put(word("reservoir"), s.Cap, word("holds"), s.Start, word(";"))
	for _, x := range s.Lets {
		w.put(word("let"), x.Name, word("="), x.Value, word(";"))
	}
	for _, x := range s.Crops {
		w.put(word("crop"), x.Name, word("needs"), x.Need, word(";"))
	}
	for _, x := range s.Reaches {
		w.reach(x)
	}
	for _, x := range s.Farms {
		w.farm(x)
	}
	for _, x := range s.Rotations {
		w.rotation(x)
	}
	for _, x := range s.Rights {
		w.right(x)
	}
	for _, x := range s.Duties {
		w.put(word("duty"), x.Name, word("of"), x.Farm, word("reach"), x.Reach, word("by"), x.Due, word(";"))
	}
}

func (w *writer) reach(x api.ReachDecl) {
	w.put(word("reach"), x.Name)
	if x.From.Name != "" {
		w.put(word("from"), x.From)
	}
	w.put(word("delay"), x.Delay, word("capacity"), x.Cap, word("bank"), x.Bank)
	if !isLeftOut(x.Siphon) {
		w.put(word("siphon"), x.Siphon)
	}
	w.put(word("evaporation"), x.Evap[0], word("to"), x.Evap[1], word("seepage"), x.Seep[0], word("to"), x.Seep[1], word(";"))
}

func (w *writer) farm(x api.FarmDecl) {
	w.put(word("farm"), x.Name, word("on"), x.On)
	if x.River {
		leaveOut(x.Area, x.Crop)
		w.put(word("river"), word(";"))
		return
	}
	w.put(word("area"), x.Area, word("crop"), x.Crop, word(";"))
}

func (w *writer) rotation(x api.Rotation) {
	w.put(word("rotation"), x.Name, word("on"), x.On, word("rank"), x.Rank)
	w.put(word("flow"), x.Flow, word("from"), x.From, word("to"), x.To, word("{"))
	for _, t := range x.Turns {
		w.put(word("turn"), t.Farm, word("for"), t.Length, word(";"))
	}
	w.put(word("}"))
}

func (w *writer) right(x api.RightDecl) {
	switch x.Kind {
	case api.TakeR:
		leaveOut(x.Reach)
		w.put(word("take"), x.Name, word("of"), x.Farm, word("rank"), x.Rank, word("flow"), x.Flow, word("from"), x.From, word("to"), x.To)
		if !isLeftOut(x.Every) || !isLeftOut(x.Length) {
			w.put(word("every"), x.Every, word("for"), x.Length)
		}
	case api.OwnR:
		leaveOut(x.Rank, x.Flow, x.From, x.To, x.Every, x.Length)
		w.put(word("own"), x.Name, word("of"), x.Farm, word("reach"), x.Reach)
	case api.EaseR:
		leaveOut(x.Rank, x.Flow, x.Every, x.Length)
		w.put(word("easement"), x.Name, word("of"), x.Farm, word("reach"), x.Reach, word("from"), x.From, word("to"), x.To)
	default:
		panic(invalid{})
	}
	w.put(word(";"))
}
