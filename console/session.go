package console

import (
	"slices"
	"strconv"
	"strings"

	"acequia/api"
	"acequia/disk"
	"acequia/expand"
	"acequia/journal"
	"acequia/reports"
)

const sectors = 256 // of the disk of a session

// stack is what is remembered, the last one on top.
type stack[T any] struct{ l []T }

func (s *stack[T]) push(x T) { s.l = append(s.l, x) }

func (s *stack[T]) pop() (x T, ok bool) {
	if len(s.l) == 0 {
		return x, false
	}
	x = s.l[len(s.l)-1]
	s.l = s.l[:len(s.l)-1]
	return x, true
}

// session is a script while it is played. Lines of the report are never changed, so states may share memory.
type session struct {
	state      []string
	remembered stack[[]string]
	disk       api.Disk
	journal    api.Journal
	out        []string
}

// Play plays a script.
func Play(src string) (out string, at int, e api.Errno) {
	l, at, e := Parse(src)
	if e != api.OK {
		return "", at, e
	}
	s := &session{}
	s.disk, _ = disk.New(sectors)
	s.journal, _ = journal.Open(s.disk)
	for _, c := range l {
		s.perform(c)
	}
	return strings.Join(s.out, ""), 0, api.OK
}

func (s *session) perform(c api.Command) {
	k := kinds()[c.Kind]
	switch {
	case c.Kind == api.LineK:
		s.state = append(slices.Clip(s.state), c.Text)
		s.print("ok")
	case k.question:
		s.ask(k, c.N)
	default:
		k.do(s, c.N)
	}
}

// ask answers a question; an error takes the place of all its lines.
func (s *session) ask(k kind, n []int) {
	before := len(s.out)
	defer func() {
		if r := recover(); r != nil {
			e, ok := r.(api.Errno)
			if !ok {
				e = api.ErrCommand
			}
			s.out = s.out[:before]
			s.print("error", int(e))
		}
	}()
	k.do(s, n)
}

// require ends a question with an error.
func require(e api.Errno) {
	if e != api.OK {
		panic(e)
	}
}

// print adds a line of words and numbers.
func (s *session) print(word string, parts ...any) {
	line := word
	for _, x := range parts {
		switch x := x.(type) {
		case int:
			line += " " + strconv.Itoa(x)
		case []int:
			for _, n := range x {
				line += " " + strconv.Itoa(n)
			}
		case bool:
			line += [2]string{" 0", " 1"}[bit(x)]
		}
	}
	s.out = append(s.out, line+"\n")
}

func bit(b bool) int {
	if b {
		return 1
	}
	return 0
}

// place returns where a line stands in the report.
func place(line string) int {
	word, _, _ := strings.Cut(line, " ")
	switch word {
	case "clause":
		return 17
	}
	return 1 + slices.Index([]string{
		"world", "deed", "done", "judgement", "forecast", "stake", "inflow", "loss", "leak", "offer", "suspect", "wave", "fact", "slip", "sides", "case", "suit",
	}, word)
}

// world returns the world of the state.
func (s *session) world() api.World {
	lines := slices.Clone(s.state)
	slices.SortStableFunc(lines, func(a, b string) int { return place(a) - place(b) })
	var report strings.Builder
	for _, line := range lines {
		report.WriteString(line + "\n")
	}
	w, _, e := reports.Read(report.String())
	require(e)
	return w
}

// district returns the district of the world.
func (s *session) district() (d api.District, w api.World) {
	w = s.world()
	d, e := expand.Expand(w.Source)
	require(e)
	return d, w
}

// branch remembers the state.
func (s *session) branch([]int) {
	s.remembered.push(s.state)
	s.print("ok")
}

// back returns to the state that was remembered last.
func (s *session) back([]int) {
	state, ok := s.remembered.pop()
	if !ok {
		s.print("error", int(api.ErrCommand))
		return
	}
	s.state = state
	s.print("ok")
}

// record returns what is saved of the state. It is part of a script, so that it can be printed.
func (s *session) record() []byte {
	var l []api.Command
	for _, line := range s.state {
		l = append(l, api.Command{Kind: api.LineK, Text: line})
	}
	src, _ := Print(l)
	return []byte(src)
}

// write appends the state to the journal, and syncs it with a disk; it returns the disk that the sync leaves.
func (s *session) write(d api.Disk) (j api.Journal, after api.Disk, e api.Errno) {
	if j, e = journal.Append(s.journal, s.record()); e != api.OK {
		return j, d, e
	}
	return journal.Sync(j, d)
}

// save saves the state.
func (s *session) save([]int) {
	j, d, e := s.write(s.disk)
	if e != api.OK {
		s.print("error", int(e))
		return
	}
	s.journal, s.disk = j, d
	s.print("saved", len(s.state))
}

// crash saves the state on a disk that stops, and begins again with what is on it.
func (s *session) crash(n []int) {
	d := s.disk
	if x, e := disk.Stop(d, n[0]); e == api.OK {
		d = x
	}
	_, d, _ = s.write(d)
	s.disk = disk.Restart(d)
	s.journal, _ = journal.Open(s.disk)
	s.state, s.remembered = nil, stack[[]string]{}
	if many := len(s.journal.Records); many > 0 {
		l, _, _ := Parse(string(s.journal.Records[many-1]))
		for _, c := range l {
			s.state = append(s.state, c.Text)
		}
	}
	s.print("open", len(s.state))
}
