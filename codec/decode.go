package codec

import "acequia/api"

// reader reads an encoding; rest is what remains of it.
type reader struct{ rest []byte }

// broken is the panic of a reader that meets no encoding.
type broken struct{}

// Decode returns the value of an encoding.
func Decode(b []byte) (v api.Value, e api.Errno) {
	defer func() {
		if recover() != nil {
			v, e = api.Value{}, api.ErrCode
		}
	}()
	r := &reader{rest: b}
	v = r.value(0)
	r.require(len(r.rest) == 0)
	return v, api.OK
}

func (r *reader) require(ok bool) {
	if !ok {
		panic(broken{})
	}
}

// take removes the next n bytes from what remains. Three indices keep appends to them out of the rest.
func (r *reader) take(n uint64) []byte {
	r.require(n <= uint64(len(r.rest)))
	head := r.rest[:n:n]
	r.rest = r.rest[n:]
	return head
}

func (r *reader) numeral() uint64 {
	u := uint64(0)
	for i := range 10 {
		c := r.take(1)[0]
		digit := uint64(c & 127)
		// The tenth digit stands for the bit 63 alone.
		r.require(i < 9 || c <= 1)
		u |= digit << (7 * i)
		if c < 128 {
			r.require(i == 0 || digit != 0)
			return u
		}
	}
	panic(broken{})
}

// value reads a value that is within lists as deep as around says.
func (r *reader) value(around int) api.Value {
	read := [4]func(around int) api.Value{api.IntV: r.integer, api.TextV: r.text, api.ListV: r.list}
	kind := int(r.take(1)[0])
	r.require(kind == api.IntV || kind == api.TextV || kind == api.ListV)
	return read[kind](around)
}

func (r *reader) integer(int) api.Value {
	return api.Value{Kind: api.IntV, N: signed(r.numeral())}
}

func (r *reader) text(int) api.Value {
	return api.Value{Kind: api.TextV, S: string(r.take(r.numeral()))}
}

func (r *reader) list(around int) api.Value {
	r.require(around < api.MaxDepth)
	n := r.numeral()
	// Each element has at least two bytes, so a greater number cannot be read.
	r.require(n <= uint64(len(r.rest))/2)
	v := api.Value{Kind: api.ListV}
	for range n {
		v.L = append(v.L, r.value(around+1))
	}
	return v
}
