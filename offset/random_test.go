package offset

import (
	"math/big"
	"math/rand"
	"testing"

	"easel/api"
)

// plain is a ring by other means than the program's: numbers of any size, and remainders of them.
type plain struct{ size *big.Int }

func ringOf(r Ring) plain {
	return plain{new(big.Int).Exp(big.NewInt(2), big.NewInt(int64(r)), nil)}
}

func number(n uint64) *big.Int { return new(big.Int).SetUint64(n) }

// rest is what is left of a number, at least 0.
func (p plain) rest(n *big.Int) uint64 { return new(big.Int).Mod(n, p.size).Uint64() }

func (p plain) cut(n uint64) uint64 { return p.rest(number(n)) }

func (p plain) add(n, by uint64) uint64 { return p.rest(new(big.Int).Add(number(n), number(by))) }

func (p plain) far(a, b uint64) uint64 { return p.rest(new(big.Int).Sub(number(a), number(b))) }

func (p plain) ahead(a, b uint64) bool {
	twice := new(big.Int).Mul(number(p.far(a, b)), big.NewInt(2))
	return twice.Sign() > 0 && twice.Cmp(p.size) < 0
}

func (p plain) latest(l []uint64) uint64 {
	at := 0
	for i := range l {
		if p.ahead(l[i], l[at]) {
			at = i
		}
	}
	return p.cut(l[at])
}

// asks checks all that a ring tells of numbers.
func (p plain) asks(t *testing.T, r Ring, a, b, c uint64) {
	t.Helper()
	is(t, "Cut", r.Cut(a), p.cut(a))
	is(t, "Add", r.Add(a, b), p.add(a, b))
	is(t, "Far", r.Far(a, b), p.far(a, b))
	ahead(t, r, a, b, p.ahead(a, b), p.ahead(b, a))
	latest(t, r, p.latest([]uint64{a, b, c}), true, a, b, c)
	if r.Ahead(a, b) && r.Ahead(b, a) {
		t.Errorf("of %d digits %d and %d are ahead of each other", r, a, b)
	}
}

// counted is a mapper by other means than the program's: what was aimed, and all that was given.
type counted struct {
	plain
	from, to uint64
	first    uint64
	given    []uint64
}

func (c *counted) next() uint64 {
	if len(c.given) == 0 {
		return c.cut(c.first)
	}
	return c.add(c.given[len(c.given)-1], 1)
}

// does one step with both, and holds what they tell against each other.
func (c *counted) does(t *testing.T, m *Mapper, kind int, a, b uint64) {
	t.Helper()
	switch kind % 4 {
	case 0:
		if e := m.Aim(a, b); e != api.OK {
			t.Errorf("Aim: %d", e)
		}
		c.from, c.to = a, b
		is(t, "Map of what was aimed", m.Map(a), c.cut(b))
	case 1:
		n := c.next()
		is(t, "Next", m.Next(), n)
		c.given = append(c.given, n)
	case 2:
		is(t, "Give", m.Give(a), c.cut(a))
		c.given = append(c.given, c.cut(a))
	}
	is(t, "Map", m.Map(a), c.add(c.to, c.far(a, c.from)))
	is(t, "Back", m.Back(a), c.add(c.from, c.far(a, c.to)))
	is(t, "Back of Map", m.Back(m.Map(b)), c.cut(b))
	is(t, "Map of Back", m.Map(m.Back(b)), c.cut(b))
	is(t, "Far of what was made", m.Digits().Far(m.Map(a), m.Map(b)), c.far(a, b))
	if len(c.given) == 0 {
		last(t, m, 0, false)
	} else {
		last(t, m, c.given[len(c.given)-1], true)
	}
}

// somewhere is any number; often one that is near to another one, or to half the ring from there.
func somewhere(rnd *rand.Rand, r Ring, near uint64) uint64 {
	by := uint64(rnd.Intn(7)) - 3
	switch rnd.Intn(4) {
	case 0:
		return rnd.Uint64()
	case 1:
		return near + by
	case 2:
		return near + by + 1<<(r-1)
	}
	return by
}

func TestAnyNumbers(t *testing.T) { // P15.1, P15.4
	rnd := rand.New(rand.NewSource(15))
	for r := Ring(1); r <= 63; r++ {
		p := ringOf(r)
		for range 500 {
			a := rnd.Uint64()
			p.asks(t, r, a, somewhere(rnd, r, a), somewhere(rnd, r, a))
		}
	}
}

func TestAllNumbersOfSmallRings(t *testing.T) { // P15.1, P15.4
	for r := Ring(1); r <= 4; r++ {
		p, size := ringOf(r), uint64(1)<<r
		for a := range size {
			for b := range size {
				for c := range size {
					p.asks(t, r, a, b, c)
				}
			}
		}
	}
}

func TestLongRows(t *testing.T) { // P15.1: gone over one by one
	rnd := rand.New(rand.NewSource(151))
	for range 2000 {
		r := Ring(1 + rnd.Intn(63))
		l := []uint64{rnd.Uint64()}
		for range rnd.Intn(20) {
			l = append(l, somewhere(rnd, r, l[rnd.Intn(len(l))]))
		}
		latest(t, r, ringOf(r).latest(l), true, l...)
	}
}

func TestAnySteps(t *testing.T) { // P15.2 to P15.4
	rnd := rand.New(rand.NewSource(152))
	for range 500 {
		r, first := Ring(1+rnd.Intn(63)), rnd.Uint64()
		m, c := of(t, r, first), &counted{plain: ringOf(r), first: first}
		for range 40 {
			a := rnd.Uint64()
			c.does(t, m, rnd.Intn(4), a, somewhere(rnd, r, a))
		}
	}
}

func FuzzNumbers(f *testing.F) { // P15.1 to P15.4
	f.Add(4, uint64(2), uint64(14), uint64(9))
	f.Add(1, uint64(0), uint64(1), uint64(0))
	f.Add(63, uint64(1)<<63, uint64(1)<<62, ^uint64(0))
	f.Add(64, uint64(1), uint64(2), uint64(3))
	f.Fuzz(func(t *testing.T, digits int, a, b, c uint64) {
		r := Ring(digits)
		m, e := New(r, a)
		if (e == api.OK) != (digits >= 1 && digits <= 63) {
			t.Fatalf("New(%d): %d", digits, e)
		}
		if e != api.OK {
			latest(t, r, 0, false, a, b, c)
			return
		}
		p := ringOf(r)
		p.asks(t, r, a, b, c)
		counts := &counted{plain: p, first: a}
		for kind := range 8 {
			counts.does(t, m, kind, b, c)
		}
	})
}
