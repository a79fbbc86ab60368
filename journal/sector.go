package journal

import "acequia/api"

// Places within a sector.
const (
	checkAt  = 4
	numberAt = 8
	flagsAt  = 10
	countAt  = 11
	dataAt   = 12
	lastAt   = 124 // where the generation stands once more
	piece    = lastAt - dataAt
)

// Flags of a sector.
const (
	begins = 1
	ends   = 2
)

// sector is what a sector of the journal says.
type sector struct {
	generation, number, flags int
	data                      []byte
}

// bytes returns the form of a sector on the disk.
func (s sector) bytes() []byte {
	b := make([]byte, api.SectorSize)
	b[numberAt], b[numberAt+1] = byte(s.number>>8), byte(s.number)
	b[flagsAt] = byte(s.flags)
	b[countAt] = byte(len(s.data))
	copy(b[dataAt:lastAt], s.data)
	generation, sum := word(s.generation), word(checksum(b[numberAt:lastAt]))
	copy(b, generation[:])
	copy(b[checkAt:], sum[:])
	copy(b[lastAt:], generation[:])
	return b
}

// word returns a number as four bytes, the most significant one first.
func word(n int) (b [4]byte) {
	for i := range b {
		b[i] = byte(n >> (24 - 8*i))
	}
	return b
}

func number(b []byte) int {
	n := 0
	for _, c := range b {
		n = n<<8 | int(c)
	}
	return n
}

func checksum(b []byte) int {
	n := uint32(1<<32 - 1)
	for _, c := range b {
		n ^= uint32(c)
		for range 8 {
			bit := n & 1
			n = n>>1 ^ bit*3988292384
		}
	}
	return int(^n)
}

// good returns what the sector k says, if it is good for k.
func good(b []byte, k int) (s sector, ok bool) {
	s = sector{generation: number(b[:checkAt]), number: number(b[numberAt:flagsAt]), flags: int(b[flagsAt])}
	count := int(b[countAt])
	if count > piece || s.generation == 0 || s.generation != number(b[lastAt:]) || s.number != k || s.flags > begins+ends {
		return s, false
	}
	if s.flags&ends == 0 && count != piece || s.flags&begins == 0 && count == 0 {
		return s, false
	}
	s.data = b[dataAt : dataAt+count : dataAt+count]
	for _, c := range b[dataAt+count : lastAt] {
		if c != 0 {
			return s, false
		}
	}
	return s, number(b[checkAt:numberAt]) == checksum(b[numberAt:lastAt])
}
