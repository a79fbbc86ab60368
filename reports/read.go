package reports

import (
	"iter"
	"strconv"
	"strings"

	"acequia/api"
	"acequia/names"
	"acequia/syntax"
)

// wrong is the panic of a reader: a line is not what it has to be.
type wrong struct{}

func require(ok bool) {
	if !ok {
		panic(wrong{})
	}
}

// lines yields what is before each line feed, with the number of the line.
func lines(src string) iter.Seq2[int, string] {
	return func(yield func(int, string) bool) {
		number := 0
		for line := range strings.Lines(src) {
			if number++; !yield(number, strings.TrimSuffix(line, "\n")) {
				return
			}
		}
	}
}

// Read returns the world of a report.
func Read(src string) (w api.World, line int, e api.Errno) {
	if len(src) > api.MaxSource {
		return w, 0, api.ErrLimit
	}
	if !strings.HasSuffix(src, "\n") {
		return w, 0, api.ErrReport
	}
	first, before := 0, 0 // the line of the world, and how many bytes come before it
	for number, text := range lines(src) {
		if strings.HasPrefix(text, "world ") {
			first = number
			break
		}
		before += len(text) + 1
	}
	if first == 0 {
		return w, 0, api.ErrReport
	}
	r := &reader{}
	if !r.source(src[:before]) {
		return w, 1, api.ErrReport
	}
	for number, text := range lines(src) {
		if number >= first && !r.line(text) {
			return w, number, api.ErrReport
		}
	}
	return r.w, 0, api.OK
}

// reader reads the lines of a report; place is that of the line before.
type reader struct {
	w     api.World
	place int
	*numbers
}

// source reads the source of a world, if it is written as it is printed.
func (r *reader) source(src string) bool {
	s, _, e := syntax.Parse(src)
	if e != api.OK {
		return false
	}
	if r.w.Source, e = names.Resolve(s); e != api.OK {
		return false
	}
	printed, e := syntax.Print(r.w.Source)
	return e == api.OK && printed == src
}

// line reads a line, if it is right and in its place.
func (r *reader) line(text string) (ok bool) {
	defer func() {
		if recover() != nil {
			ok = false
		}
	}()
	words := strings.Split(text, " ")
	f, known := forms()[words[0]]
	require(known && f.place >= r.place && !(f.single && f.place == r.place))
	r.place, r.numbers = f.place, numbersOf(words[1:])
	f.read(r)
	return len(r.rest) == 0
}

// form is a kind of lines: its place among the others, whether there is one such line at most, and how it is read.
type form struct {
	place  int
	single bool
	read   func(r *reader)
}

func forms() map[string]form {
	return map[string]form{
		"world":     {place: 1, single: true, read: (*reader).world},
		"deed":      {place: 2, read: (*reader).deed},
		"done":      {place: 3, read: (*reader).done},
		"judgement": {place: 4, read: (*reader).judgement},
		"forecast":  {place: 5, read: (*reader).forecast},
		"stake":     {place: 6, read: (*reader).stake},
		"inflow":    {place: 7, single: true, read: (*reader).inflow},
		"loss":      {place: 8, read: (*reader).loss},
		"leak":      {place: 9, read: (*reader).leak},
		"offer":     {place: 10, read: (*reader).offer},
		"suspect":   {place: 11, read: (*reader).suspect},
		"wave":      {place: 12, read: (*reader).wave},
		"fact":      {place: 13, read: (*reader).fact},
		"slip":      {place: 14, read: (*reader).slip},
		"sides":     {place: 15, single: true, read: (*reader).sides},
		"case":      {place: 16, read: (*reader).court},
		"suit":      {place: 17, read: (*reader).suit},
		"clause":    {place: 17, read: (*reader).clause},
	}
}

// numbers are what remains of the numbers of a line.
type numbers struct{ rest []int }

func numbersOf(words []string) *numbers {
	x := &numbers{}
	for _, s := range words {
		n, err := strconv.Atoi(s)
		require(err == nil && strconv.Itoa(n) == s && isNumber(n))
		x.rest = append(x.rest, n)
	}
	return x
}

// some takes the next numbers, as many as are wanted.
func (x *numbers) some(many int) []int {
	require(many >= 0 && many <= len(x.rest))
	l := x.rest[:many:many]
	x.rest = x.rest[many:]
	return l
}

func (x *numbers) next() int { return x.some(1)[0] }

// all takes all numbers that remain.
func (x *numbers) all() []int { return x.some(len(x.rest)) }

// more reports whether numbers remain.
func (x *numbers) more() bool { return len(x.rest) > 0 }

func (x *numbers) span() api.Range {
	l := x.some(2)
	return api.Range{Lo: l[0], Hi: l[1]}
}

// spans takes ranges, as many as are wanted.
func (x *numbers) spans(many int) (l []api.Range) {
	require(many >= 0 && many <= len(x.rest)/2)
	for range many {
		l = append(l, x.span())
	}
	return l
}
