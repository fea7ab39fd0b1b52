package feedback

import (
	"math"
	mathbits "math/bits"
)

// reach is how far behind its Pid a pair tells numbers.
const reach = 16

// Numbers are those of pairs.
func Numbers(l ...Pair) []uint16 {
	var out []uint16
	for _, p := range l {
		out = append(out, p.Pid)
		for k := uint16(1); k <= reach; k++ {
			if p.Blp>>(k-1)&1 == 1 {
				out = append(out, p.Pid+k)
			}
		}
	}
	return out
}

// Pairs are those of numbers.
func Pairs(l ...uint16) []Pair {
	var out []Pair
numbers:
	for _, n := range l {
		if len(out) > 0 {
			last := &out[len(out)-1]
			switch behind := n - last.Pid; {
			case behind == 0:
				continue numbers
			case behind <= reach:
				last.Blp |= 1 << (behind - 1)
				continue numbers
			}
		}
		out = append(out, Pair{Pid: n})
	}
	return out
}

// Rate is a Remb's.
func (m Message) Rate() uint64 {
	if m.Mantissa != 0 && mathbits.Len32(m.Mantissa)+int(m.Exp) > 64 {
		return math.MaxUint64
	}
	return uint64(m.Mantissa) << m.Exp
}

// OfRate is how a rate is told.
func OfRate(rate uint64) (exp uint8, mantissa uint32) {
	n := max(0, mathbits.Len64(rate)-rateDigits)
	return uint8(n), uint32(rate >> n)
}
