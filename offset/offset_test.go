package offset

import (
	"math"
	"slices"
	"testing"

	"easel/api"
)

// wrong are digits that no ring may have.
var wrong = []Ring{0, -1, -4, -63, -64, 64, 65, 127, 1 << 32, 1<<32 + 4, 1<<62 + 4, math.MaxInt, math.MinInt, math.MinInt + 4}

// sizes is how many numbers the rings have, by digits from 1 on; by other means than the program's.
func sizes() map[Ring]uint64 {
	out := map[Ring]uint64{}
	size := uint64(1)
	for digits := Ring(1); digits <= 63; digits++ {
		size += size
		out[digits] = size
	}
	return out
}

// of is a mapper of a ring that may be.
func of(t *testing.T, r Ring, first uint64) *Mapper {
	t.Helper()
	m, e := New(r, first)
	if m == nil || e != api.OK {
		t.Fatalf("New(%d, %d): %v, %d", r, first, m, e)
	}
	return m
}

// is holds a number that was answered against the one that is wanted.
func is(t *testing.T, what string, got, want uint64) {
	t.Helper()
	if got != want {
		t.Errorf("%s: %d; want %d", what, got, want)
	}
}

// ahead checks what Ahead tells, both ways.
func ahead(t *testing.T, r Ring, a, b uint64, there, back bool) {
	t.Helper()
	if x, y := r.Ahead(a, b), r.Ahead(b, a); x != there || y != back {
		t.Errorf("of %d digits Ahead of %d and %d: %v, and %v; want %v, and %v", r, a, b, x, y, there, back)
	}
}

// latest checks what Latest tells of numbers.
func latest(t *testing.T, r Ring, want uint64, ok bool, l ...uint64) {
	t.Helper()
	if n, some := r.Latest(l...); n != want || some != ok {
		t.Errorf("of %d digits Latest(%d): %d, %v; want %d, %v", r, l, n, some, want, ok)
	}
}

// last checks what Last tells.
func last(t *testing.T, m *Mapper, want uint64, ok bool) {
	t.Helper()
	if n, some := m.Last(); n != want || some != ok {
		t.Errorf("Last: %d, %v; want %d, %v", n, some, want, ok)
	}
}

// next checks what Next gives, one number behind the other.
func next(t *testing.T, m *Mapper, l ...uint64) {
	t.Helper()
	for _, want := range l {
		is(t, "Next", m.Next(), want)
		last(t, m, want, true)
	}
}

func TestExamples(t *testing.T) { // P15.1 to P15.3
	r := Ring(4)
	is(t, "Far(2, 14)", r.Far(2, 14), 4)
	ahead(t, r, 2, 14, true, false)
	ahead(t, r, 9, 1, false, false)
	m := of(t, 4, 14)
	next(t, m, 14, 15, 0)
	if e := m.Aim(3, 1); e != api.OK {
		t.Error(e)
	}
	is(t, "Map(5)", m.Map(5), 3)
	is(t, "Back(15)", m.Back(15), 1)
}

func TestRight(t *testing.T) { // P15.1
	for r := Ring(1); r <= 63; r++ {
		if !r.Right() {
			t.Errorf("%d digits are right", r)
		}
	}
	for _, r := range wrong {
		if r.Right() {
			t.Errorf("%d digits are not right", r)
		}
	}
}

func TestRingsThatAreNotRight(t *testing.T) { // ahead of P15.1
	l := []uint64{0, 1, 2, 5, 1 << 62, 1 << 63, math.MaxUint64}
	for _, r := range wrong {
		for _, a := range l {
			is(t, "Cut", r.Cut(a), 0)
			latest(t, r, 0, false, a)
			for _, b := range l {
				is(t, "Add", r.Add(a, b), 0)
				is(t, "Far", r.Far(a, b), 0)
				ahead(t, r, a, b, false, false)
				latest(t, r, 0, false, a, b)
			}
		}
		latest(t, r, 0, false)
	}
}

func TestCutAndAdd(t *testing.T) { // P15.1, at each ring's bounds
	for r, size := range sizes() {
		is(t, "Cut(0)", r.Cut(0), 0)
		is(t, "Cut of the greatest one", r.Cut(size-1), size-1)
		is(t, "Cut of one past it", r.Cut(size), 0)
		is(t, "Cut of two past it", r.Cut(size+1), 1)
		is(t, "Cut of all digits", r.Cut(math.MaxUint64), size-1)
		is(t, "Add behind the greatest one", r.Add(size-1, 1), 0)
		is(t, "Add of two greatest ones", r.Add(size-1, size-1), size-2)
		is(t, "Add of nothing", r.Add(size+1, 0), 1)
		is(t, "Add of a round", r.Add(1, size), 1)
		is(t, "Add beyond 64 digits", r.Add(math.MaxUint64, 2), 1)
		is(t, "Add of two with all digits", r.Add(math.MaxUint64, math.MaxUint64), size-2)
	}
	is(t, "Cut", Ring(4).Cut(100), 4)
	is(t, "Add", Ring(4).Add(100, 30), 2)
}

func TestFar(t *testing.T) { // P15.1
	for r, size := range sizes() {
		for _, n := range []uint64{0, 1, size - 1, size, math.MaxUint64} {
			is(t, "Far of itself", r.Far(n, n), 0)
			is(t, "Far of the one behind", r.Far(n+1, n), 1)
			is(t, "Far of the one ahead", r.Far(n, n+1), size-1)
		}
		is(t, "Far from the greatest one", r.Far(0, size-1), 1)
		is(t, "Far of the greatest one", r.Far(size-1, 0), size-1)
		is(t, "Far from all digits", r.Far(0, math.MaxUint64), 1)
		is(t, "Far over rounds", r.Far(size, 0), 0)
	}
	is(t, "Far", Ring(4).Far(14, 2), 12)
	is(t, "Far of numbers that are not cut", Ring(4).Far(18, 62), 4)
}

func TestAheadAtHalfTheRing(t *testing.T) { // P15.1, P15.4
	for r, size := range sizes() {
		half := size / 2
		for _, n := range []uint64{0, 1 % size, half - 1, half, size - 1, size, math.MaxUint64} {
			ahead(t, r, n, n, false, false)
			ahead(t, r, n, n+size, false, false)
			ahead(t, r, n, n+half, false, false) // just half the ring apart: neither
			if half > 1 {
				ahead(t, r, n+1, n, true, false)
				ahead(t, r, n+half-1, n, true, false)
				ahead(t, r, n+half+1, n, false, true)
			}
		}
	}
	ahead(t, 1, 0, 1, false, false) // of one digit none is ahead
}

func TestWhichOneIsLatest(t *testing.T) { // P15.1
	latest(t, 4, 0, false)
	latest(t, 4, 9, true, 9)
	latest(t, 4, 9, true, 25) // cut
	latest(t, 4, 2, true, 14, 15, 2, 1)
	latest(t, 4, 2, true, 2, 14)
	latest(t, 4, 3, true, 3, 3, 19)
	latest(t, 4, 9, true, 9, 1) // neither is ahead: the first one of them
	latest(t, 4, 1, true, 1, 9)
	latest(t, 4, 9, true, 1, 9, 2, 9)  // 2 is ahead of 1, and 9 of 2
	latest(t, 4, 0, true, 0, 6, 12, 0) // one round
	latest(t, 4, 12, true, 0, 6, 12, 5)
	latest(t, 4, 4, true, 33, 18, 20, 60)
	latest(t, 1, 0, true, 0, 1)
	latest(t, 1, 1, true, 1, 0)
	latest(t, 63, 1, true, 1<<63-1, 1, math.MaxUint64)
	latest(t, 63, 1<<62-1, true, 0, 1<<62-1, 1<<62-2)
}

func TestWhatIsHandedInIsNotChanged(t *testing.T) {
	l := []uint64{33, 18, 20, 60, 77, 78}
	latest(t, 4, 4, true, l[:4]...)
	if !slices.Equal(l, []uint64{33, 18, 20, 60, 77, 78}) {
		t.Errorf("%d", l)
	}
}

func TestNew(t *testing.T) { // P15.2, P15.3
	for r, size := range sizes() {
		for _, first := range []uint64{0, 1, size - 1, size, size + 1, math.MaxUint64} {
			m := of(t, r, first)
			if m.Digits() != r {
				t.Errorf("Digits: %d; want %d", m.Digits(), r)
			}
			last(t, m, 0, false)
			for _, n := range []uint64{0, 1, size - 1, size, size + 1, math.MaxUint64} { // it changes nothing
				is(t, "Map", m.Map(n), n%size)
				is(t, "Back", m.Back(n), n%size)
			}
			last(t, m, 0, false)
			next(t, m, first%size, (first%size+1)%size)
		}
	}
	for _, r := range wrong {
		for _, first := range []uint64{0, 5, math.MaxUint64} {
			if m, e := New(r, first); m != nil || e != api.ErrArg {
				t.Errorf("New(%d, %d): %v, %d", r, first, m, e)
			}
		}
	}
}

func TestAim(t *testing.T) { // P15.2, P15.4
	for r, size := range sizes() {
		m := of(t, r, 0)
		for _, from := range []uint64{0, 1, size / 2, size - 1, size, math.MaxUint64} {
			for _, to := range []uint64{size - 1, 0, size/2 - 1, 1, size + 1, math.MaxUint64} {
				if e := m.Aim(from, to); e != api.OK {
					t.Error(e)
				}
				is(t, "Map of what was aimed", m.Map(from), to%size)
				is(t, "Back of where it was aimed", m.Back(to), from%size)
				is(t, "Map of the one behind", m.Map(from+1), (to+1)%size)
				is(t, "Back of the one behind", m.Back(to+1), (from+1)%size)
			}
		}
	}
}

func TestAimTellsOfAllNumbers(t *testing.T) { // P15.2: each one more by the same step, of the last aim alone
	m := of(t, 4, 0)
	m.Aim(7, 3)
	m.Aim(3, 1)
	for n := range uint64(16) {
		is(t, "Map", m.Map(n), (n+14)%16)
		is(t, "Back", m.Back(n), (n+2)%16)
		is(t, "Map of a number that is not cut", m.Map(n+160), (n+14)%16)
		is(t, "Back of a number that is not cut", m.Back(n+160), (n+2)%16)
	}
	m.Aim(9, 9)
	is(t, "Map", m.Map(5), 5)
}

func TestNextAndGive(t *testing.T) { // P15.3
	m := of(t, 4, 30)
	next(t, m, 14, 15, 0, 1)
	is(t, "Give", m.Give(7), 7)
	last(t, m, 7, true)
	next(t, m, 8)
	is(t, "Give of one that is not cut", m.Give(31), 15)
	last(t, m, 15, true)
	next(t, m, 0)
	is(t, "Give of one with all digits", m.Give(math.MaxUint64), 15)
	is(t, "Give of the same", m.Give(15), 15)
	next(t, m, 0)
	is(t, "Give of 0", m.Give(0), 0)
	last(t, m, 0, true) // 0 was given: that is not none
	other := of(t, 4, 9)
	is(t, "Give ahead of all others", other.Give(3), 3)
	last(t, other, 3, true)
	next(t, other, 4) // the first one is forgotten
	none := of(t, 4, 0)
	last(t, none, 0, false)
	next(t, none, 0)
}

func TestToGiveAndToMapAreApart(t *testing.T) { // P15.2, P15.3
	m := of(t, 8, 250)
	m.Aim(0, 100)
	last(t, m, 0, false)
	next(t, m, 250, 251) // as they are: nothing is made of them
	is(t, "Give", m.Give(9), 9)
	is(t, "Map", m.Map(1), 101)
	is(t, "Back", m.Back(101), 1)
	last(t, m, 9, true)
	m.Aim(5, 5)
	last(t, m, 9, true)
	next(t, m, 10)
}

func TestNextGoesRoundTheWholeRing(t *testing.T) { // P15.4
	for r := Ring(1); r <= 10; r++ {
		size := uint64(1) << r
		m := of(t, r, 5)
		came := map[uint64]int{}
		for range 3 * size {
			came[m.Next()]++
		}
		for n := range size {
			if came[n] != 3 {
				t.Errorf("of %d digits %d was given %d times", r, n, came[n])
			}
		}
	}
}

func TestMappersShareNothing(t *testing.T) {
	a, b := of(t, 4, 3), of(t, 4, 3)
	a.Aim(0, 5)
	next(t, a, 3, 4)
	is(t, "Map", b.Map(0), 0)
	last(t, b, 0, false)
	next(t, b, 3)
	last(t, a, 4, true)
}

func TestNoMapper(t *testing.T) { // of a nil mapper, and of one that New did not make
	for _, m := range []*Mapper{nil, {}} {
		for _, n := range []uint64{0, 1, 5, math.MaxUint64} {
			if e := m.Aim(n, n+1); e != api.ErrNil {
				t.Errorf("Aim: %d", e)
			}
			is(t, "Map", m.Map(n), 0)
			is(t, "Back", m.Back(n), 0)
			is(t, "Give", m.Give(n), 0)
			is(t, "Next", m.Next(), 0)
			last(t, m, 0, false)
		}
		if m.Digits() != 0 {
			t.Errorf("Digits: %d", m.Digits())
		}
	}
}
