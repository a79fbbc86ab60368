// Package console plays commands. See shared/doc/60-console.md.
package console

import (
	"iter"
	"strconv"
	"strings"

	"acequia/api"
)

const (
	mostLines = 400
	lineMark  = ". " // with which lines of the report begin
)

// kind is a kind of commands: its word, how many numbers it has, and what it does.
type kind struct {
	word     string
	numbers  int
	question bool
	do       func(s *session, n []int)
}

func kinds() map[int]kind {
	return map[int]kind{
		api.OrdersK:  {word: "orders", numbers: 3, question: true, do: (*session).orders},
		api.PlayK:    {word: "play", question: true, do: (*session).play},
		api.FarmK:    {word: "farm", numbers: 1, question: true, do: (*session).farm},
		api.MarketK:  {word: "market", numbers: 1, question: true, do: (*session).market},
		api.ExplainK: {word: "explain", question: true, do: (*session).explain},
		api.JudgeK:   {word: "judge", question: true, do: (*session).judge},
		api.KnownK:   {word: "known", numbers: 3, question: true, do: (*session).known},
		api.TurnsK:   {word: "turns", question: true, do: (*session).turns},
		api.AccountK: {word: "account", numbers: 3, question: true, do: (*session).account},
		api.SaveK:    {word: "save", do: (*session).save},
		api.CrashK:   {word: "crash", numbers: 1, do: (*session).crash},
		api.BranchK:  {word: "branch", do: (*session).branch},
		api.BackK:    {word: "back", do: (*session).back},
	}
}

func isNumber(n int) bool { return -api.MaxNum <= n && n <= api.MaxNum }

// words yields what is between the spaces of a line.
func words(line string) iter.Seq[string] { return strings.SplitSeq(line, " ") }

// command returns the command of a line, if it is one.
func command(line string) (c api.Command, ok bool) {
	if text, ok := strings.CutPrefix(line, lineMark); ok {
		return api.Command{Kind: api.LineK, Text: text}, true
	}
	first := true
	for word := range words(line) {
		if first {
			c.Kind, first = kindOf(word), false
			continue
		}
		n, err := strconv.Atoi(word)
		if err != nil || strconv.Itoa(n) != word || !isNumber(n) {
			return api.Command{}, false
		}
		c.N = append(c.N, n)
	}
	if k, ok := kinds()[c.Kind]; !ok || len(c.N) != k.numbers {
		return api.Command{}, false
	}
	return c, true
}

// kindOf returns the kind of commands that begins with a word, 0 if there is none.
func kindOf(word string) int {
	for n, k := range kinds() {
		if k.word == word {
			return n
		}
	}
	return 0
}

// Parse returns the commands of a script.
func Parse(src string) (l []api.Command, line int, e api.Errno) {
	if len(src) > api.MaxSource || strings.Count(src, "\n") > mostLines {
		return nil, 0, api.ErrLimit
	}
	if src == "" {
		return nil, 0, api.OK
	}
	text, ok := strings.CutSuffix(src, "\n")
	if !ok {
		return nil, 0, api.ErrCommand
	}
	for i, s := range strings.Split(text, "\n") {
		c, ok := command(s)
		if !ok {
			return nil, i + 1, api.ErrCommand
		}
		l = append(l, c)
	}
	return l, 0, api.OK
}

// Print returns the script of some commands.
func Print(l []api.Command) (src string, e api.Errno) {
	var out strings.Builder
	for _, c := range l {
		line, ok := text(c)
		if !ok || out.Len()+len(line) >= api.MaxSource {
			return "", api.ErrCommand
		}
		out.WriteString(line + "\n")
	}
	if len(l) > mostLines {
		return "", api.ErrCommand
	}
	return out.String(), api.OK
}

// text returns the line of a command, if it is one.
func text(c api.Command) (line string, ok bool) {
	if c.Kind == api.LineK {
		return lineMark + c.Text, len(c.N) == 0 && !strings.Contains(c.Text, "\n")
	}
	k, ok := kinds()[c.Kind]
	if !ok || len(c.N) != k.numbers || c.Text != "" {
		return "", false
	}
	line = k.word
	for _, n := range c.N {
		line += " " + strconv.Itoa(n)
		ok = ok && isNumber(n)
	}
	return line, ok
}
