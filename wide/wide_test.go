package wide

import (
	"math"
	"math/big"
	"math/rand"
	"testing"

	"easel/api"
)

// wrong are digits that no circle may have.
var wrong = []int{0, -1, -16, -32, 33, 34, 63, 64, 65, 1 << 32, 1<<32 + 16, 1<<62 + 16, math.MaxInt, math.MinInt, math.MinInt + 16}

// of is an extender of a circle that may be.
func of(t *testing.T, digits int) *Extender {
	t.Helper()
	x, e := New(digits)
	if x == nil || e != api.OK {
		t.Fatalf("New(%d): %v, %d", digits, x, e)
	}
	return x
}

// power is 2^digits, by other means than the program's.
func power(digits int) uint64 {
	out := uint64(1)
	for range digits {
		out += out
	}
	return out
}

// plain is the wide number that n is made when the top is told: of all with these lowest digits,
// the one that is nearest to it.
func plain(digits int, top uint64, some bool, n uint32) uint64 {
	size := new(big.Int).SetUint64(power(digits))
	low := new(big.Int).SetUint64(uint64(n))
	low.Mod(low, size)
	if !some {
		return low.Add(low, size).Uint64()
	}
	half := new(big.Int).SetUint64(power(digits - 1))
	from := new(big.Int).SetUint64(top)
	from.Sub(from, half)
	upTo := new(big.Int).SetUint64(top)
	upTo.Add(upTo, half)
	round := new(big.Int).SetUint64(top)
	round.Div(round, size).Sub(round, big.NewInt(2))
	for range 5 {
		w := new(big.Int).Mul(round, size)
		w.Add(w, low)
		if w.Cmp(from) >= 0 && w.Cmp(upTo) < 0 {
			w.And(w, new(big.Int).SetUint64(math.MaxUint64))
			return w.Uint64()
		}
		round.Add(round, big.NewInt(1))
	}
	panic("no number has these digits")
}

// comes lets n come, and checks all that is told of it against what is wanted.
func comes(t *testing.T, x *Extender, n uint32, want uint64, first bool) {
	t.Helper()
	top, some := x.Top()
	if some == first {
		t.Errorf("Top ahead of %d: %d, %v", n, top, some)
	}
	if w := x.Peek(n); w != want {
		t.Errorf("Peek(%d) at %d: %d; want %d", n, top, w, want)
	}
	if again, still := x.Top(); again != top || still != some {
		t.Errorf("Peek(%d) moved the top: %d, %v", n, again, still)
	}
	if w, f := x.Next(n); w != want || f != first {
		t.Errorf("Next(%d) at %d: %d, %v; want %d, %v", n, top, w, f, want, first)
	}
	if now, ok := x.Top(); now != max(top, want) || !ok {
		t.Errorf("Top behind %d: %d, %v; want %d", n, now, ok, max(top, want))
	}
}

func TestExamples(t *testing.T) { // P8.1, P8.3
	x := of(t, 16)
	comes(t, x, 65534, 131070, true)
	comes(t, x, 65535, 131071, false)
	comes(t, x, 1, 131073, false)
	comes(t, x, 0, 131072, false)
	comes(t, x, 32769, 98305, false)
	comes(t, x, 32768, 163840, false)
	if !Ahead(16, 1, 65535) || Between(16, 65535, 1) != 2 {
		t.Errorf("%v, %d", Ahead(16, 1, 65535), Between(16, 65535, 1))
	}
}

func TestNewOfEveryDigits(t *testing.T) { // P8.1
	for digits := 1; digits <= 32; digits++ {
		x := of(t, digits)
		if top, ok := x.Top(); top != 0 || ok {
			t.Errorf("%d: Top %d, %v", digits, top, ok)
		}
		if w := x.Cut(math.MaxUint64); uint64(w) != power(digits)-1 {
			t.Errorf("%d: Cut %d", digits, w)
		}
	}
	for _, digits := range wrong {
		if x, e := New(digits); x != nil || e != api.ErrArg {
			t.Errorf("New(%d): %v, %d", digits, x, e)
		}
	}
}

func TestTheFirstNumber(t *testing.T) { // P8.1
	for digits := 1; digits <= 32; digits++ {
		size := power(digits)
		for _, n := range []uint64{0, 1, size / 2, size - 1} {
			n %= size
			comes(t, of(t, digits), uint32(n), size+n, true)
		}
	}
}

func TestNoMoreDigitsThanTheCircleHasCount(t *testing.T) { // P8.1
	x := of(t, 4)
	comes(t, x, 0xFFFFFFF5, 16+5, true)
	comes(t, x, 0x12, 16+2, false)
	comes(t, x, 0x80000008, 16+8, false)
	for digits := 1; digits < 32; digits++ {
		x := of(t, digits)
		comes(t, x, uint32(power(digits)), power(digits), true)
		comes(t, x, math.MaxUint32, power(digits)-1, false)
	}
}

func TestHalfTheCircle(t *testing.T) { // P8.1: from half below the top on, and less than half above it
	for digits := 1; digits <= 32; digits++ {
		size, half := power(digits), power(digits-1)
		for _, first := range []uint64{0, 1, half - 1, half, size - 1} {
			top := size + first%size
			for _, at := range []uint64{top - half, top - half + 1, top - 1, top, top + 1, top + half - 1} {
				if at < top-half || at >= top+half { // a circle of one digit, or two, has not all of these
					continue
				}
				x := of(t, digits)
				comes(t, x, uint32(first%size), top, true)
				comes(t, x, uint32(at%size), at, false)
			}
		}
	}
}

func TestOneBeyondHalf(t *testing.T) { // P8.1
	for digits := 1; digits <= 32; digits++ {
		size, half := power(digits), power(digits-1)
		x := of(t, digits)
		comes(t, x, 0, size, true)
		comes(t, x, uint32(half), size-half, false) // half above it is half below it
		comes(t, x, uint32(half-1), size+half-1, false)
		x = of(t, digits)
		comes(t, x, 0, size, true)
		comes(t, x, uint32((half+1)%size), size-half+1, false) // that one is a step more than half above it
	}
}

func TestEveryNumberAtEveryTop(t *testing.T) { // P8.1
	for digits := 1; digits <= 6; digits++ {
		size := uint32(power(digits))
		for first := range size {
			for n := range size {
				for again := range size {
					x := of(t, digits)
					comes(t, x, first, plain(digits, 0, false, first), true)
					for _, n := range []uint32{n, again} {
						top, _ := x.Top()
						comes(t, x, n, plain(digits, top, true, n), false)
					}
				}
			}
		}
	}
}

func TestAnyNumbers(t *testing.T) { // P8.1, P8.2, P8.5
	rnd := rand.New(rand.NewSource(1))
	for range 2000 {
		digits := 1 + rnd.Intn(32)
		x := of(t, digits)
		for i := range 30 {
			top, _ := x.Top()
			n := rnd.Uint32()
			switch rnd.Intn(3) {
			case 0:
				n = uint32(top) + uint32(rnd.Intn(9)) - 4
			case 1:
				n = uint32(top+power(digits-1)) + uint32(rnd.Intn(9)) - 4
			}
			want := plain(digits, top, i > 0, n)
			comes(t, x, n, want, i == 0)
			if uint64(x.Cut(want)) != uint64(n)%power(digits) {
				t.Fatalf("%d digits: Cut(%d) is not %d", digits, want, n)
			}
			if now, _ := x.Top(); now < top {
				t.Fatalf("%d digits: the top fell from %d to %d", digits, top, now)
			}
		}
	}
}

func TestWhatIsAbove64DigitsIsLeftOut(t *testing.T) { // P8.1: no row of numbers comes so far; the top is set
	for digits := 2; digits <= 32; digits++ {
		size, half := power(digits), power(digits-1)
		x := of(t, digits)
		x.top, x.some = math.MaxUint64, true
		comes(t, x, uint32(size-1), math.MaxUint64, false)
		comes(t, x, 0, 0, false)
		comes(t, x, uint32(half-2), half-2, false)
		comes(t, x, uint32(half-1), math.MaxUint64-half, false)
		x.top = 0
		comes(t, x, uint32(half), 0-half, false)
		x.top = 1
		comes(t, x, 0, 0, false)
	}
}

func TestNobodysExtender(t *testing.T) { // P8.1, P8.2: nil, and made by hand
	for i, x := range []*Extender{nil, {}} {
		for range 2 {
			for _, n := range []uint32{0, 1, 65535, math.MaxUint32} {
				if w := x.Peek(n); w != 0 {
					t.Errorf("%d: Peek(%d): %d", i, n, w)
				}
				if w, first := x.Next(n); w != 0 || first {
					t.Errorf("%d: Next(%d): %d, %v", i, n, w, first)
				}
				if w := x.Cut(uint64(n)); w != 0 {
					t.Errorf("%d: Cut(%d): %d", i, n, w)
				}
			}
			if w := x.Cut(math.MaxUint64); w != 0 {
				t.Errorf("%d: Cut: %d", i, w)
			}
			if top, ok := x.Top(); top != 0 || ok {
				t.Errorf("%d: Top: %d, %v", i, top, ok)
			}
		}
	}
}

func TestTop(t *testing.T) { // P8.2
	x := of(t, 8)
	for _, n := range []uint32{10, 9, 138, 11} {
		x.Next(n)
	}
	if top, ok := x.Top(); top != 256+11 || !ok {
		t.Errorf("%d, %v", top, ok)
	}
	x = of(t, 1) // whose numbers never go above the first one
	for _, n := range []uint32{1, 0, 1, 0, 0} {
		x.Next(n)
	}
	if top, ok := x.Top(); top != 3 || !ok {
		t.Errorf("%d, %v", top, ok)
	}
}

func TestCut(t *testing.T) { // P8.2
	for i, c := range []struct {
		digits int
		wide   uint64
		want   uint32
	}{
		{1, 0, 0}, {1, 1, 1}, {1, 2, 0}, {1, math.MaxUint64, 1},
		{4, 15, 15}, {4, 16, 0}, {4, 0x12345, 5},
		{16, 65535, 65535}, {16, 65536, 0}, {16, 131073, 1}, {16, 1 << 63, 0},
		{31, 1 << 31, 0}, {31, 1<<32 - 1, 1<<31 - 1},
		{32, 1<<32 - 1, math.MaxUint32}, {32, 1 << 32, 0}, {32, math.MaxUint64, math.MaxUint32}, {32, 0xABCDEF0123456789, 0x23456789},
	} {
		x := of(t, c.digits)
		if n := x.Cut(c.wide); n != c.want {
			t.Errorf("%d: %d; want %d", i, n, c.want)
		}
		x.Next(7) // what came is nothing to it
		if n := x.Cut(c.wide); n != c.want {
			t.Errorf("%d: %d; want %d", i, n, c.want)
		}
	}
}

// walked is how many steps of one it is round the circle, if that is not very far.
func walked(digits int, from, to uint32) uint32 {
	size := power(digits)
	at, n := uint64(from)%size, uint32(0)
	for at != uint64(to)%size {
		at, n = (at+1)%size, n+1
	}
	return n
}

func TestBetweenAndAheadOfAll(t *testing.T) { // P8.3
	for digits := 1; digits <= 7; digits++ {
		size := uint32(power(digits))
		for from := range 2 * size { // with a digit more than the circle has
			for to := range 2 * size {
				want := walked(digits, from, to)
				if n := Between(digits, from, to); n != want {
					t.Errorf("Between(%d, %d, %d): %d; want %d", digits, from, to, n, want)
				}
				ahead := want > 0 && 2*want < size
				if a := Ahead(digits, to, from); a != ahead {
					t.Errorf("Ahead(%d, %d, %d): %v", digits, to, from, a)
				}
			}
		}
	}
}

func TestBetweenAndAheadAtTheEnds(t *testing.T) { // P8.3
	for digits := 1; digits <= 32; digits++ {
		size, half := power(digits), power(digits-1)
		for _, from := range []uint64{0, 1, half - 1, half, size - 1} {
			for _, n := range []uint64{0, 1, 2, half - 1, half, half + 1, size - 1} {
				n %= size
				to := (from + n) % size
				if got := Between(digits, uint32(from), uint32(to)); uint64(got) != n {
					t.Errorf("Between(%d, %d, %d): %d; want %d", digits, from, to, got, n)
				}
				if a := Ahead(digits, uint32(to), uint32(from)); a != (n > 0 && n < half) {
					t.Errorf("Ahead(%d, %d, %d): %v", digits, to, from, a)
				}
			}
		}
	}
	if n := Between(4, 0xFFFFFFF3, 0x25); n != 2 || !Ahead(4, 0x25, 0xFFFFFFF3) || Ahead(4, 0xFFFFFFF3, 0x25) {
		t.Errorf("%d", n)
	}
}

func TestDigitsThatMayNotBe(t *testing.T) { // P8.3
	for _, digits := range wrong {
		for _, a := range []uint32{0, 1, 5, 1 << 31, math.MaxUint32} {
			for _, b := range []uint32{0, 1, 4, 1<<31 - 1, math.MaxUint32} {
				if n := Between(digits, a, b); n != 0 {
					t.Errorf("Between(%d, %d, %d): %d", digits, a, b, n)
				}
				if Ahead(digits, a, b) || Ahead(digits, b, a) {
					t.Errorf("Ahead(%d, %d, %d)", digits, a, b)
				}
			}
		}
	}
}

func TestEachExtenderIsItsOwn(t *testing.T) { // P8.4
	x, y := of(t, 16), of(t, 16)
	if x == y {
		t.Fatal("one extender for two")
	}
	comes(t, x, 500, 65536+500, true)
	comes(t, y, 9, 65536+9, true)
	comes(t, x, 501, 65536+501, false)
	comes(t, y, 65535, 65535, false)
	if top, ok := of(t, 16).Top(); top != 0 || ok {
		t.Errorf("%d, %v", top, ok)
	}
}

func TestRisingNumbers(t *testing.T) { // P8.5
	rnd := rand.New(rand.NewSource(2))
	for digits := 1; digits <= 32; digits++ {
		size, half := power(digits), power(digits-1)
		for range 20 {
			x := of(t, digits)
			at := size + rnd.Uint64()%size
			comes(t, x, uint32(at%size), at, true)
			for range 100 {
				most := half - 1 // less than half the circle
				if most > 5 && rnd.Intn(2) == 0 {
					most = 5
				}
				more := rnd.Uint64() % (most + 1)
				if rnd.Intn(4) == 0 {
					more = most
				}
				at += more
				comes(t, x, uint32(at%size), at, false)
			}
		}
	}
}

func TestNumbersALittleOutOfOrder(t *testing.T) { // P8.5
	rnd := rand.New(rand.NewSource(3))
	for digits := 2; digits <= 32; digits++ {
		size, half := power(digits), power(digits-1)
		for range 20 {
			x := of(t, digits)
			top := size + rnd.Uint64()%size
			comes(t, x, uint32(top%size), top, true)
			for range 100 {
				at := top - half + rnd.Uint64()%size // anywhere within half the circle
				if rnd.Intn(2) == 0 {
					at = top - min(half, 4) + rnd.Uint64()%min(size, 8)
				}
				comes(t, x, uint32(at%size), at, false)
				top = max(top, at)
			}
		}
	}
}
