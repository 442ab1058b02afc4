// Package sum has sums of bytes: see doc/01-sum.md.
package sum

const (
	start   = 7
	factor  = 139
	modulus = 65521
	tail    = 2 // bytes that a sum takes behind what it is of
)

// Of is the sum of b.
func Of(b []byte) int {
	s := start
	for _, x := range b {
		// The rest is taken at each byte, so that no length overflows an int.
		s = (s*factor + int(x) + 1) % modulus
	}
	return s
}

// Seal is b with its sum behind, the upper byte first.
func Seal(b []byte) []byte {
	s := Of(b)
	// Not an append to b: its spare room is the caller's.
	out := make([]byte, len(b), len(b)+tail)
	copy(out, b)
	return append(out, byte(s>>8), byte(s))
}

// Open is what Seal was given, and true, if the sum behind it is right.
func Open(b []byte) ([]byte, bool) {
	if len(b) < tail {
		return nil, false
	}
	ahead, behind := b[:len(b)-tail], b[len(b)-tail:]
	// All of the two bytes counts: a sum written as itself and the modulus more is none.
	if int(behind[0])<<8|int(behind[1]) != Of(ahead) {
		return nil, false
	}
	out := make([]byte, len(ahead))
	copy(out, ahead)
	return out, true
}
