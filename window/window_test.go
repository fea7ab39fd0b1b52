package window

import (
	"math"
	"math/rand"
	"slices"
	"testing"

	"easel/api"
)

// sizes are some that may be, both bounds and what lies about a word of digits among them.
var sizes = []int{1, 2, 3, 4, 5, 63, 64, 65, 127, 128, 129, 1000, MaxSize - 1, MaxSize}

// of is a window of a size that may be.
func of(t *testing.T, size int) *Window {
	t.Helper()
	w, e := Of(size)
	if w == nil || e != api.OK {
		t.Fatalf("Of(%d): %v, %d", size, w, e)
	}
	return w
}

// plain is a window by other means than the program's: it keeps all that ever came.
type plain struct {
	size   uint64
	came   map[uint64]struct{}
	top    uint64
	least  uint64
	counts [3]uint64
}

func plainOf(size int) *plain { return &plain{size: uint64(size), came: map[uint64]struct{}{}} }

// within tells whether a number that is not above the top is within reach.
func (p *plain) within(n uint64) bool { return p.top-n < p.size }

func (p *plain) look(n uint64) State {
	if len(p.came) == 0 || n > p.top {
		return New
	}
	if !p.within(n) {
		return Late
	}
	if _, ok := p.came[n]; ok {
		return Twice
	}
	return New
}

func (p *plain) in(n uint64) State {
	s := p.look(n)
	p.counts[s]++
	if s == New {
		if len(p.came) == 0 {
			p.top, p.least = n, n
		}
		p.came[n] = struct{}{}
		p.top, p.least = max(p.top, n), min(p.least, n)
	}
	return s
}

func (p *plain) missing() []uint64 {
	var out []uint64
	for n := p.top; p.within(n) && n > p.least; n-- {
		if _, ok := p.came[n]; !ok {
			out = append(out, n)
		}
	}
	slices.Reverse(out)
	return out
}

// same holds all that a window tells of itself against the plain one.
func (p *plain) same(t *testing.T, w *Window) {
	t.Helper()
	if top, ok := w.Top(); top != p.top || ok != (len(p.came) > 0) {
		t.Fatalf("size %d: Top %d, %v; want %d", p.size, top, ok, p.top)
	}
	if l := w.Missing(); !slices.Equal(l, p.missing()) {
		t.Fatalf("size %d, top %d: Missing %v; want %v", p.size, p.top, l, p.missing())
	}
	for s, n := range p.counts {
		if got := w.Count(State(s)); got != n {
			t.Fatalf("size %d: Count(%d) %d; want %d", p.size, s, got, n)
		}
	}
}

// comes lets n come to both, and holds them against each other.
func (p *plain) comes(t *testing.T, w *Window, n uint64) State {
	t.Helper()
	want := p.look(n)
	if s := w.Look(n); s != want {
		t.Fatalf("size %d, top %d: Look(%d) %s; want %s", p.size, p.top, n, s.Word(), want.Word())
	}
	p.same(t, w) // Look moved nothing
	p.in(n)
	if s := w.In(n); s != want {
		t.Fatalf("size %d, top %d: In(%d) %s; want %s", p.size, p.top, n, s.Word(), want.Word())
	}
	p.same(t, w)
	return want
}

// told lets numbers come to a window, each of which is to have a state.
func told(t *testing.T, w *Window, l []uint64, want ...State) {
	t.Helper()
	for i, n := range l {
		if s := w.Look(n); s != want[i] {
			t.Errorf("%d: Look(%d): %s; want %s", i, n, s.Word(), want[i].Word())
		}
		if s := w.In(n); s != want[i] {
			t.Errorf("%d: In(%d): %s; want %s", i, n, s.Word(), want[i].Word())
		}
	}
}

// missing checks what is missing.
func missing(t *testing.T, w *Window, want ...uint64) {
	t.Helper()
	if l := w.Missing(); !slices.Equal(l, want) {
		t.Errorf("Missing: %v; want %v", l, want)
	}
}

func TestExamples(t *testing.T) { // P9.1, P9.2
	w := of(t, 4)
	told(t, w, []uint64{10, 12, 10, 11}, New, New, Twice, New)
	told(t, w, []uint64{8, 9}, Late, New)
	told(t, w, []uint64{20, 17, 16}, New, New, Late)
	missing(t, w, 18, 19)
	if w.Count(New) != 6 || w.Count(Twice) != 1 || w.Count(Late) != 2 {
		t.Errorf("%d, %d, %d", w.Count(New), w.Count(Twice), w.Count(Late))
	}
}

func TestStates(t *testing.T) { // the numbers that the chapter tells
	if New != 0 || Twice != 1 || Late != 2 || MaxSize != 1024 {
		t.Errorf("%d, %d, %d, %d", New, Twice, Late, MaxSize)
	}
}

func TestOf(t *testing.T) { // P9.1
	for size := 1; size <= 1024; size++ {
		w := of(t, size)
		plainOf(size).same(t, w)
		for _, n := range []uint64{0, 1, uint64(size), math.MaxUint64} {
			if s := w.Look(n); s != New {
				t.Errorf("%d: Look(%d): %s", size, n, s.Word())
			}
		}
	}
	for _, size := range []int{0, -1, -2, -1024, math.MinInt, 1025, 1026, 2048, math.MaxInt, 1<<32 + 4, math.MinInt + 4} {
		if w, e := Of(size); w != nil || e != api.ErrArg {
			t.Errorf("Of(%d): %v, %d", size, w, e)
		}
	}
}

func TestTheReach(t *testing.T) { // P9.1: so many numbers from the top down, and one below them
	for size := 1; size <= MaxSize; size++ {
		const top = 5000
		w, lowest := of(t, size), uint64(top-size+1)
		told(t, w, []uint64{top, lowest - 1, 0}, New, Late, Late)
		if size > 1 {
			told(t, w, []uint64{lowest, lowest}, New, Twice)
		}
		told(t, w, []uint64{top, top + 1}, Twice, New) // and all is a number further now
		told(t, w, []uint64{lowest, lowest - 1}, Late, Late)
		if size > 2 {
			told(t, w, []uint64{lowest + 1, lowest + 1, lowest}, New, Twice, Late)
		}
	}
}

func TestTheReachEndsAtNought(t *testing.T) { // P9.1
	for _, size := range sizes {
		for _, top := range []uint64{0, 1, uint64(size) - 1, uint64(size) / 2} {
			if top >= uint64(size) {
				continue
			}
			w, p := of(t, size), plainOf(size)
			for n := top + 1; n > 0; n-- {
				if s := p.comes(t, w, n-1); s != New {
					t.Errorf("%d, %d: %d is %s", size, top, n-1, s.Word())
				}
			}
			p.comes(t, w, 0)
			p.comes(t, w, math.MaxUint64)
		}
		w := of(t, size)
		told(t, w, []uint64{uint64(size), 0}, New, Late) // just out of reach
	}
}

func TestTheGreatestNumbers(t *testing.T) { // P9.1, P9.2
	for _, size := range sizes {
		w, p := of(t, size), plainOf(size)
		const top = math.MaxUint64
		if s := p.comes(t, w, top); s != New {
			t.Errorf("%d: %s", size, s.Word())
		}
		lowest := top - uint64(size) + 1
		for _, n := range []uint64{top, lowest, lowest - 1, lowest + 1, lowest, top - 1, 0, 1, 1 << 63, lowest / 2} {
			p.comes(t, w, n)
		}
		w, p = of(t, size), plainOf(size)
		for _, n := range []uint64{0, top, 0, top, top - 1, top - 2, top - 1, lowest, lowest - 1} { // the greatest step there is
			p.comes(t, w, n)
		}
	}
}

func TestANumberFarBehindHasNoneOfAnothersDigit(t *testing.T) { // P9.1
	for _, size := range sizes {
		for _, step := range []uint64{1, 2, 63, 64, 65, 1022, 1023, 1024, 1025, 1026, 2047, 2048, 2049, 3 * 1024, 1 << 32, 1<<63 + 1024} {
			w, p := of(t, size), plainOf(size)
			for n := range uint64(2 * size) { // all within reach came
				w.In(n)
				p.in(n)
			}
			top := p.top + step
			p.comes(t, w, top)
			for _, n := range []uint64{top - 1, top - uint64(size) + 1, top - uint64(size), top - step, top - step/2, top - step + 1} {
				p.comes(t, w, n)
			}
		}
	}
}

func TestLookLetsNothingCome(t *testing.T) { // P9.1
	w := of(t, 8)
	for range 3 {
		for _, n := range []uint64{0, 5, math.MaxUint64} {
			if s := w.Look(n); s != New {
				t.Errorf("Look(%d): %s", n, s.Word())
			}
		}
	}
	plainOf(8).same(t, w)
	told(t, w, []uint64{100, 95}, New, New)
	for range 3 {
		for n, want := range map[uint64]State{101: New, 1000: New, 100: Twice, 99: New, 95: Twice, 93: New, 92: Late, 0: Late} {
			if s := w.Look(n); s != want {
				t.Errorf("Look(%d): %s", n, s.Word())
			}
		}
	}
	missing(t, w, 96, 97, 98, 99)
	if w.Count(New) != 2 || w.Count(Twice) != 0 || w.Count(Late) != 0 {
		t.Errorf("%d, %d, %d", w.Count(New), w.Count(Twice), w.Count(Late))
	}
}

func TestTop(t *testing.T) { // P9.2
	w := of(t, 4)
	if top, ok := w.Top(); top != 0 || ok {
		t.Errorf("%d, %v", top, ok)
	}
	for _, x := range [][2]uint64{{0, 0}, {7, 7}, {5, 7}, {7, 7}, {1, 7}, {8, 8}, {1 << 63, 1 << 63}, {9, 1 << 63}, {math.MaxUint64, math.MaxUint64}, {0, math.MaxUint64}} {
		w.In(x[0])
		if top, ok := w.Top(); top != x[1] || !ok {
			t.Errorf("behind %d: %d, %v", x[0], top, ok)
		}
	}
}

func TestMissing(t *testing.T) { // P9.2
	w := of(t, 6)
	missing(t, w)
	w.In(100)
	missing(t, w) // below the first one nothing is missing
	w.In(103)
	missing(t, w, 101, 102)
	w.In(98) // the very least that is within reach: now it is the least
	missing(t, w, 99, 101, 102)
	w.In(104)
	missing(t, w, 99, 101, 102) // 98 came, and is out of reach
	w.In(105)
	missing(t, w, 101, 102) // 99 did not, and is
	w.In(106)
	missing(t, w, 101, 102)
	w.In(102)
	missing(t, w, 101)
	w.In(107)
	missing(t, w) // 101 is not told any more
	w.In(1000)
	missing(t, w, 995, 996, 997, 998, 999) // of what is out of reach nothing came; still one came ever that is less
}

func TestNothingIsMissingInAWindowOfOne(t *testing.T) { // P9.2
	w := of(t, 1)
	for _, n := range []uint64{5, 7, 6, 1000, 1001, 3} {
		w.In(n)
		missing(t, w)
	}
}

func TestWhatIsLateNeverCame(t *testing.T) { // P9.2: the least one stays, whatever is too late
	w := of(t, 8)
	told(t, w, []uint64{100, 50, 92, 0}, New, Late, Late, Late)
	missing(t, w)
	told(t, w, []uint64{97, 92}, New, Late)
	missing(t, w, 98, 99)
	told(t, w, []uint64{93, 92, 92}, New, Late, Late)
	missing(t, w, 94, 95, 96, 98, 99)
}

func TestMissingOfAWholeWindow(t *testing.T) { // P9.2
	for _, size := range sizes {
		w := of(t, size)
		w.In(0)
		w.In(1 << 40)
		l := w.Missing()
		if len(l) != size-1 {
			t.Fatalf("%d: %d missing", size, len(l))
		}
		for i, n := range l {
			if n != 1<<40-uint64(size)+1+uint64(i) {
				t.Fatalf("%d: %d at %d", size, n, i)
			}
		}
	}
}

func TestCount(t *testing.T) { // P9.2
	w := of(t, 4)
	for range 5 {
		for _, n := range []uint64{10, 11, 10, 1} {
			w.In(n)
		}
	}
	if w.Count(New) != 2 || w.Count(Twice) != 13 || w.Count(Late) != 5 {
		t.Errorf("%d, %d, %d", w.Count(New), w.Count(Twice), w.Count(Late))
	}
	for _, s := range []State{-1, 3, 4, -2, math.MaxInt, math.MinInt, 1 << 32, 256} {
		if n := w.Count(s); n != 0 {
			t.Errorf("Count(%d): %d", s, n)
		}
	}
}

func TestWord(t *testing.T) { // P9.2
	if New.Word() != "new" || Twice.Word() != "twice" || Late.Word() != "late" {
		t.Errorf("%s, %s, %s", New.Word(), Twice.Word(), Late.Word())
	}
	for _, s := range []State{-1, 3, 4, -2, math.MaxInt, math.MinInt, 1 << 32, 256} {
		if s.Word() != "" {
			t.Errorf("%d: %s", s, s.Word())
		}
	}
}

func TestNobodysWindow(t *testing.T) { // nil, and made by hand
	for i, w := range []*Window{nil, {}} {
		for range 2 {
			for _, n := range []uint64{0, 1, 1023, 1 << 63, math.MaxUint64} {
				if s := w.Look(n); s != Late {
					t.Errorf("%d: Look(%d): %s", i, n, s.Word())
				}
				if s := w.In(n); s != Late {
					t.Errorf("%d: In(%d): %s", i, n, s.Word())
				}
			}
			if top, ok := w.Top(); top != 0 || ok {
				t.Errorf("%d: Top: %d, %v", i, top, ok)
			}
			if l := w.Missing(); len(l) != 0 {
				t.Errorf("%d: Missing: %v", i, l)
			}
			for s := State(-1); s <= 3; s++ {
				if n := w.Count(s); n != 0 {
					t.Errorf("%d: Count(%d): %d", i, s, n)
				}
			}
		}
	}
}

func TestNewMemory(t *testing.T) { // P9.3
	w := of(t, 16)
	told(t, w, []uint64{1, 10}, New, New)
	l, again := w.Missing(), w.Missing()
	clear(l)
	clear(l[:cap(l)])
	if !slices.Equal(again, []uint64{2, 3, 4, 5, 6, 7, 8, 9}) {
		t.Errorf("%v", again)
	}
	missing(t, w, 2, 3, 4, 5, 6, 7, 8, 9)
	told(t, w, []uint64{5}, New)
	if !slices.Equal(again, []uint64{2, 3, 4, 5, 6, 7, 8, 9}) {
		t.Errorf("%v", again)
	}
}

func TestEachWindowIsItsOwn(t *testing.T) { // P9.3
	w, x := of(t, 16), of(t, 16)
	if w == x {
		t.Fatal("one window for two")
	}
	told(t, w, []uint64{5, 7}, New, New)
	told(t, x, []uint64{7, 900}, New, New)
	told(t, w, []uint64{6, 5}, New, Twice)
	if top, ok := w.Top(); top != 7 || !ok || w.Count(New) != 3 || x.Count(New) != 2 {
		t.Errorf("%d, %v, %d, %d", top, ok, w.Count(New), x.Count(New))
	}
}

func TestAllShortRows(t *testing.T) { // P9.1, P9.2, P9.4: all rows of five numbers, of 0 to 7
	for size := 1; size <= 5; size++ {
		for row := range uint64(1 << 15) {
			w, p := of(t, size), plainOf(size)
			for at := range 5 {
				p.comes(t, w, row>>(3*at)&7)
			}
		}
	}
}

// near is a number that is not far from the top, or from where the reach ends, or anywhere.
func near(rnd *rand.Rand, p *plain) uint64 {
	some := uint64(rnd.Intn(12))
	switch rnd.Intn(12) {
	case 0:
		return rnd.Uint64()
	case 1:
		return p.top - p.size + some - 6
	case 2:
		return p.top + uint64(rnd.Intn(3*MaxSize))
	case 3, 4, 5:
		return p.top - rnd.Uint64()%p.size
	}
	return p.top + some - 8
}

func TestAnyNumbers(t *testing.T) { // P9.1, P9.2, P9.4
	rnd := rand.New(rand.NewSource(1))
	for range 400 {
		size := 1 + rnd.Intn(MaxSize)
		if rnd.Intn(3) > 0 {
			size = 1 + rnd.Intn(70)
		}
		w, p := of(t, size), plainOf(size)
		news := map[uint64]bool{}
		at := uint64(rnd.Intn(3000))
		for n := range uint64(150) {
			if n > 0 {
				at = near(rnd, p)
			}
			if p.comes(t, w, at) == New {
				if news[at] {
					t.Fatalf("size %d: %d is new twice", size, at)
				}
				news[at] = true
			}
			if w.Count(New)+w.Count(Twice)+w.Count(Late) != n+1 {
				t.Fatalf("size %d: %d, %d, %d of %d", size, w.Count(New), w.Count(Twice), w.Count(Late), n+1)
			}
		}
		for n := range news { // all that came, and are within reach
			if top, _ := w.Top(); top-n < uint64(size) && w.Look(n) != Twice {
				t.Fatalf("size %d: %d is %s", size, n, w.Look(n).Word())
			}
		}
	}
}

func TestNumbersWithinASize(t *testing.T) { // P9.4: in whatever order, and however often
	rnd := rand.New(rand.NewSource(2))
	for _, size := range sizes {
		for _, least := range []uint64{0, 1, 1000, 1 << 32, math.MaxUint64 - uint64(size) + 1} {
			w := of(t, size)
			came := map[uint64]bool{}
			for _, i := range append(rnd.Perm(size), rnd.Perm(size)...) {
				for range 1 + rnd.Intn(2) {
					n := least + uint64(i)
					want := New
					if came[n] {
						want = Twice
					}
					if s := w.In(n); s != want {
						t.Fatalf("size %d: %d is %s", size, n, s.Word())
					}
					came[n] = true
				}
			}
			missing(t, w)
			if top, ok := w.Top(); top != least+uint64(size)-1 || !ok || w.Count(New) != uint64(size) || w.Count(Late) != 0 {
				t.Fatalf("size %d: %d, %v, %d, %d", size, top, ok, w.Count(New), w.Count(Late))
			}
		}
	}
}
