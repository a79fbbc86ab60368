// Package codec encodes values canonically. See shared/doc/01-codec.md.
package codec

import (
	"math/bits"

	"acequia/api"
)

// Check validates a value.
func Check(v api.Value) (e api.Errno) {
	if !wellFormed(v) {
		return api.ErrArg
	}
	if depth(v) > api.MaxDepth {
		return api.ErrLimit
	}
	return api.OK
}

// Encode returns the encoding of a value.
func Encode(v api.Value) (b []byte, e api.Errno) {
	if e = Check(v); e != api.OK {
		return nil, e
	}
	return write(nil, v), api.OK
}

// Size returns the length of the encoding of a value.
func Size(v api.Value) (n int, e api.Errno) {
	if e = Check(v); e != api.OK {
		return 0, e
	}
	return size(v), api.OK
}

// Same reports whether two values are equal.
func Same(a, b api.Value) (same bool) {
	if a.Kind != b.Kind || a.N != b.N || a.S != b.S || len(a.L) != len(b.L) {
		return false
	}
	for i := range a.L {
		if !Same(a.L[i], b.L[i]) {
			return false
		}
	}
	return true
}

func wellFormed(v api.Value) bool {
	switch v.Kind {
	case api.IntV:
		return v.S == "" && len(v.L) == 0
	case api.TextV:
		return v.N == 0 && len(v.L) == 0
	case api.ListV:
		if v.N != 0 || v.S != "" {
			return false
		}
		for _, x := range v.L {
			if !wellFormed(x) {
				return false
			}
		}
		return true
	}
	return false
}

func depth(v api.Value) int {
	if v.Kind != api.ListV {
		return 0
	}
	most := 0
	for _, x := range v.L {
		most = max(most, depth(x))
	}
	return most + 1
}

// form is how the values of one kind are written.
type form struct {
	write func(b []byte, v api.Value) []byte
	size  func(v api.Value) int
}

func forms() [4]form {
	return [4]form{
		api.IntV:  {write: writeInt, size: sizeInt},
		api.TextV: {write: writeText, size: sizeText},
		api.ListV: {write: writeList, size: sizeList},
	}
}

// write appends the encoding of a checked value.
func write(b []byte, v api.Value) []byte {
	return forms()[v.Kind].write(append(b, byte(v.Kind)), v)
}

func writeInt(b []byte, v api.Value) []byte { return writeNumeral(b, unsigned(v.N)) }

func writeText(b []byte, v api.Value) []byte {
	return append(writeNumeral(b, uint64(len(v.S))), v.S...)
}

func writeList(b []byte, v api.Value) []byte {
	b = writeNumeral(b, uint64(len(v.L)))
	for _, x := range v.L {
		b = write(b, x)
	}
	return b
}

func writeNumeral(b []byte, u uint64) []byte {
	for u >= 128 {
		b = append(b, byte(u)|128)
		u >>= 7
	}
	return append(b, byte(u))
}

// size counts the bytes of the encoding of a checked value.
func size(v api.Value) int { return 1 + forms()[v.Kind].size(v) }

func sizeInt(v api.Value) int { return sizeNumeral(unsigned(v.N)) }

func sizeText(v api.Value) int { return sizeNumeral(uint64(len(v.S))) + len(v.S) }

func sizeList(v api.Value) int {
	n := sizeNumeral(uint64(len(v.L)))
	for _, x := range v.L {
		n += size(x)
	}
	return n
}

func sizeNumeral(u uint64) int { return max(1, (bits.Len64(u)+6)/7) }

// unsigned returns 2n, or -2n - 1 of a negative n. The shifts do it without leaving 64 bits.
func unsigned(n int) uint64 { return uint64(n)<<1 ^ uint64(n>>63) }

func signed(u uint64) int { return int(u>>1) ^ -int(u&1) }
