package reorder

import (
	"maps"
	"math"
	"math/rand"
	"reflect"
	"slices"
	"testing"

	"easel/api"
	"easel/rtp"
)

// of is a buffer of a size that may be.
func of(t *testing.T, size int, hold uint64) *Buffer {
	t.Helper()
	b, e := New(size, hold)
	if b == nil || e != api.OK {
		t.Fatalf("New(%d, %d): %v, %d", size, hold, b, e)
	}
	return b
}

// packet is one that no other number has; it has every part.
func packet(n uint64) rtp.Packet {
	return rtp.Packet{
		Marker: n%2 == 1, Type: uint8(n % 128), Seq: uint16(n), Time: uint32(n >> 8), Ssrc: uint32(n >> 16),
		Csrc: []uint32{uint32(n), uint32(n >> 32)}, HasExt: true, Profile: uint16(n >> 4),
		Ext: []byte{1, byte(n), byte(n >> 8), 4}, Payload: []byte{byte(n), byte(n >> 48), 7}, Pad: uint8(n % 5),
	}
}

// went is what goes of packets that packet made.
func went(numbers ...uint64) []Out {
	var out []Out
	for _, n := range numbers {
		out = append(out, Out{From: n, To: n, Packet: packet(n)})
	}
	return out
}

func gap(from, to uint64) []Out { return []Out{{Gap: true, From: from, To: to}} }

// blank tells whether a packet is the zero value.
func blank(p rtp.Packet) bool { return reflect.DeepEqual(p, rtp.Packet{}) }

func sameOut(a, b Out) bool {
	return a.Gap == b.Gap && a.From == b.From && a.To == b.To && rtp.Same(a.Packet, b.Packet) && (!a.Gap || blank(a.Packet))
}

// goes checks what goes.
func goes(t *testing.T, got []Out, want ...[]Out) {
	t.Helper()
	if all := slices.Concat(want...); !slices.EqualFunc(got, all, sameOut) {
		t.Fatalf("goes %+v\nwant %+v", got, all)
	}
}

// comes lets the packet of a number come, which is not to be refused, and checks what goes.
func comes(t *testing.T, b *Buffer, n, now uint64, want ...[]Out) {
	t.Helper()
	got, ok := b.In(n, packet(n), now)
	if !ok {
		t.Fatalf("%d is refused", n)
	}
	goes(t, got, want...)
}

// refused lets packets come that are to be refused, and change nothing.
func refused(t *testing.T, b *Buffer, now uint64, numbers ...uint64) {
	t.Helper()
	next, some := b.Next()
	waiting := b.Waiting()
	for _, n := range numbers {
		if got, ok := b.In(n, packet(n+1), now); len(got) != 0 || ok {
			t.Fatalf("%d: %+v, %v", n, got, ok)
		}
	}
	if n, ok := b.Next(); n != next || ok != some || !slices.Equal(b.Waiting(), waiting) {
		t.Fatalf("what is refused changes %d to %d, %v to %v", next, n, waiting, b.Waiting())
	}
}

// holds checks what a buffer tells of itself, when something has come.
func holds(t *testing.T, b *Buffer, next uint64, waiting ...uint64) {
	t.Helper()
	if n, ok := b.Next(); n != next || !ok {
		t.Fatalf("Next: %d, %v; want %d", n, ok, next)
	}
	if l := b.Waiting(); !slices.Equal(l, waiting) {
		t.Fatalf("Waiting: %v; want %v", l, waiting)
	}
}

func TestExamples(t *testing.T) { // P10.1, P10.2
	b := of(t, 2, 5)
	comes(t, b, 7, 0, went(7))
	comes(t, b, 9, 0)
	comes(t, b, 8, 1, went(8, 9))
	comes(t, b, 12, 2)
	comes(t, b, 14, 3)
	comes(t, b, 15, 3, gap(10, 11), went(12))
	holds(t, b, 13, 14, 15)
	goes(t, b.Tick(7))
	goes(t, b.Tick(8), gap(13, 13), went(14, 15))
	refused(t, b, 8, 13)
	holds(t, b, 16)
}

func TestNew(t *testing.T) { // P10.1
	holdsFor := []uint64{0, 1, 5, 1 << 63, math.MaxUint64}
	for size := 1; size <= 256; size++ {
		for _, hold := range holdsFor {
			b := of(t, size, hold)
			if n, ok := b.Next(); n != 0 || ok || len(b.Waiting()) != 0 {
				t.Errorf("%d: %d, %v, %v", size, n, ok, b.Waiting())
			}
			goes(t, b.Tick(0))
			goes(t, b.Tick(math.MaxUint64))
			goes(t, b.Flush())
			if n, ok := b.Next(); n != 0 || ok {
				t.Errorf("%d: %d, %v", size, n, ok)
			}
		}
	}
	for _, size := range []int{0, -1, -2, -256, math.MinInt, 257, 258, 512, math.MaxInt, 1<<32 + 1, 1<<32 + 256, math.MinInt + 4} {
		for _, hold := range holdsFor {
			if b, e := New(size, hold); b != nil || e != api.ErrArg {
				t.Errorf("New(%d, %d): %v, %d", size, hold, b, e)
			}
		}
	}
}

func TestTheFirstNumber(t *testing.T) { // P10.1: whatever it is, it comes next
	for _, n := range []uint64{0, 1, 2, 65535, 1 << 32, 1 << 63, math.MaxUint64 - 1} {
		b := of(t, 4, 5)
		comes(t, b, n, 9, went(n))
		holds(t, b, n+1)
		refused(t, b, 9, n, 0)
		comes(t, b, n+1, 9, went(n+1))
	}
}

func TestRefused(t *testing.T) { // P10.1
	b := of(t, 3, 10)
	comes(t, b, 100, 0, went(100))
	refused(t, b, 0, 100, 99, 1, 0)
	comes(t, b, 103, 1)
	comes(t, b, 105, 2)
	comes(t, b, 104, 2)
	refused(t, b, 9, 103, 104, 105, 100, 0)
	goes(t, b.Tick(10))
	goes(t, b.Tick(11), gap(101, 102), went(103, 104, 105)) // as they came, and when they came
	refused(t, b, 11, 101, 102, 103, 104, 105)
	holds(t, b, 106)
}

func TestWhatComesInOrderGoesAtOnce(t *testing.T) { // P10.1, P10.4
	for _, size := range []int{1, 2, 255, 256} {
		for _, hold := range []uint64{0, 1, math.MaxUint64} {
			b := of(t, size, hold)
			for n := uint64(500); n < 1200; n++ {
				comes(t, b, n, n/3, went(n))
				holds(t, b, n+1)
			}
		}
	}
}

func TestTheSize(t *testing.T) { // P10.1: so many wait, and one more does not
	for size := 1; size <= 256; size++ {
		b := of(t, size, 5)
		comes(t, b, 10, 0, went(10))
		var waiting []uint64
		for i := range size {
			n := uint64(1000 - 2*i) // the last one that comes is the first one that waits
			waiting = append([]uint64{n}, waiting...)
			comes(t, b, n, 0)
			holds(t, b, 11, waiting...)
		}
		comes(t, b, 2000, 0, gap(11, waiting[0]-1), went(waiting[0]))
		waiting = append(waiting[1:], 2000)
		holds(t, b, 1002-2*uint64(size)+1, waiting...)
		goes(t, b.Tick(4))
	}
}

func TestWhatIsTooManyIsTheOneThatComes(t *testing.T) { // P10.1
	b := of(t, 2, 5)
	comes(t, b, 10, 0, went(10))
	comes(t, b, 20, 0)
	comes(t, b, 30, 0)
	comes(t, b, 15, 0, gap(11, 14), went(15))
	holds(t, b, 16, 20, 30)
	comes(t, b, 12+7, 0, gap(16, 18), went(19, 20)) // and what comes next goes too
	holds(t, b, 21, 30)
	comes(t, b, 22, 0)
	comes(t, b, 23, 0, gap(21, 21), went(22, 23)) // the one that comes, behind what was too many
	holds(t, b, 24, 30)
	comes(t, b, 29, 0)
	comes(t, b, 28, 0, gap(24, 27), went(28, 29, 30)) // all goes
	holds(t, b, 31)
}

func TestWhatComesNextGoesAheadOfWhatIsTooMany(t *testing.T) { // P10.1: no gap, where enough go
	b := of(t, 2, 5)
	comes(t, b, 10, 0, went(10))
	comes(t, b, 12, 0)
	comes(t, b, 20, 0)
	comes(t, b, 11, 0, went(11, 12))
	holds(t, b, 13, 20)
	comes(t, b, 15, 0)
	comes(t, b, 13, 0, went(13))
	holds(t, b, 14, 15, 20)
	comes(t, b, 14, 0, went(14, 15))
	holds(t, b, 16, 20)
}

func TestASizeOfOne(t *testing.T) { // P10.1
	b := of(t, 1, 5)
	comes(t, b, 0, 0, went(0))
	comes(t, b, 2, 0)
	comes(t, b, 4, 0, gap(1, 1), went(2))
	holds(t, b, 3, 4)
	comes(t, b, 3, 0, went(3, 4))
	comes(t, b, 8, 0)
	comes(t, b, 7, 0, gap(5, 6), went(7, 8))
	holds(t, b, 9)
}

func TestTick(t *testing.T) { // P10.1
	b := of(t, 8, 10)
	comes(t, b, 100, 0, went(100))
	comes(t, b, 110, 5)
	comes(t, b, 104, 9) // behind 110, and goes ahead of it
	comes(t, b, 111, 9)
	comes(t, b, 112, 14)
	comes(t, b, 114, 14)
	goes(t, b.Tick(0))
	goes(t, b.Tick(14))
	holds(t, b, 101, 104, 110, 111, 112, 114)
	goes(t, b.Tick(15), gap(101, 103), went(104), gap(105, 109), went(110, 111, 112))
	holds(t, b, 113, 114)
	goes(t, b.Tick(23))
	goes(t, b.Tick(24), gap(113, 113), went(114))
	goes(t, b.Tick(24))
	goes(t, b.Tick(math.MaxUint64))
	holds(t, b, 115)
}

func TestTickUpToTheLastThatWaited(t *testing.T) { // P10.1: whatever lies between
	b := of(t, 8, 10)
	comes(t, b, 100, 0, went(100))
	comes(t, b, 102, 0)
	comes(t, b, 104, 7)
	comes(t, b, 106, 1)
	comes(t, b, 108, 7)
	goes(t, b.Tick(10), gap(101, 101), went(102))
	goes(t, b.Tick(11), gap(103, 103), went(104), gap(105, 105), went(106))
	holds(t, b, 107, 108)
	goes(t, b.Tick(100), gap(107, 107), went(108))
}

func TestTheHold(t *testing.T) { // P10.1: one tick less, and just as many
	for _, hold := range []uint64{1, 2, 5, 1000, 1 << 40, 1 << 63, math.MaxUint64} {
		for _, came := range []uint64{0, 1, 77, math.MaxUint64 - hold} {
			if came > math.MaxUint64-hold {
				continue
			}
			b := of(t, 2, hold)
			comes(t, b, 1, 0, went(1))
			comes(t, b, 3, came)
			goes(t, b.Tick(came+hold-1))
			holds(t, b, 2, 3)
			goes(t, b.Tick(came+hold), gap(2, 2), went(3))
			holds(t, b, 4)
		}
	}
}

func TestAHoldOfNought(t *testing.T) { // P10.1: at a tick all goes, but not when it comes
	b := of(t, 4, 0)
	comes(t, b, 5, 9, went(5))
	comes(t, b, 7, 9)
	comes(t, b, 9, 100)
	holds(t, b, 6, 7, 9)
	goes(t, b.Tick(3), gap(6, 6), went(7), gap(8, 8), went(9))
	goes(t, b.Tick(3))
	holds(t, b, 10)
}

func TestATickThatIsLess(t *testing.T) { // P10.1: it counts as the one at which a packet came
	b := of(t, 8, 5)
	comes(t, b, 1, 100, went(1))
	comes(t, b, 3, 100)
	comes(t, b, 5, 50) // ticks may be told as they like
	goes(t, b.Tick(0))
	goes(t, b.Tick(54))
	holds(t, b, 2, 3, 5)
	goes(t, b.Tick(55), gap(2, 2), went(3), gap(4, 4), went(5))
	comes(t, b, 7, math.MaxUint64)
	goes(t, b.Tick(math.MaxUint64-6))
	goes(t, b.Tick(0))
	goes(t, b.Tick(math.MaxUint64))
	holds(t, b, 6, 7)
	comes(t, b, 8, 0)
	goes(t, b.Tick(4))
	goes(t, b.Tick(5), gap(6, 6), went(7, 8))
}

func TestWhatIsRefusedWaitsNoLonger(t *testing.T) { // P10.1: the tick is that of the first one
	b := of(t, 4, 5)
	comes(t, b, 1, 0, went(1))
	comes(t, b, 3, 10)
	refused(t, b, 14, 3)
	refused(t, b, 0, 3)
	goes(t, b.Tick(14))
	goes(t, b.Tick(15), gap(2, 2), went(3))
}

func TestFlush(t *testing.T) { // P10.1
	b := of(t, 4, 5)
	goes(t, b.Flush())
	comes(t, b, 10, 0, went(10))
	goes(t, b.Flush())
	holds(t, b, 11)
	comes(t, b, 13, 0)
	comes(t, b, 14, 0)
	comes(t, b, 20, 0)
	goes(t, b.Flush(), gap(11, 12), went(13, 14), gap(15, 19), went(20))
	holds(t, b, 21)
	goes(t, b.Flush())
	refused(t, b, 0, 11, 13, 20)
	comes(t, b, 21, 0, went(21))
}

func TestGreatGaps(t *testing.T) { // P10.2
	b := of(t, 1, 5)
	comes(t, b, 0, 0, went(0))
	comes(t, b, 1<<63, 0)
	comes(t, b, 1<<63+2, 0, gap(1, 1<<63-1), went(1<<63))
	comes(t, b, math.MaxUint64-1, 0, gap(1<<63+1, 1<<63+1), went(1<<63+2))
	goes(t, b.Flush(), gap(1<<63+3, math.MaxUint64-2), went(math.MaxUint64-1))
	holds(t, b, math.MaxUint64)
}

func TestTheGreatestNumber(t *testing.T) { // P10.1, P10.4: behind it no number goes, so that none goes twice
	for i, reach := range []func(b *Buffer){
		func(b *Buffer) { comes(t, b, math.MaxUint64, 0, went(math.MaxUint64)) },
		func(b *Buffer) {
			comes(t, b, 0, 0, went(0))
			comes(t, b, math.MaxUint64, 0)
			goes(t, b.Tick(5), gap(1, math.MaxUint64-1), went(math.MaxUint64))
		},
		func(b *Buffer) {
			comes(t, b, math.MaxUint64-3, 0, went(math.MaxUint64-3))
			comes(t, b, math.MaxUint64, 0)
			comes(t, b, math.MaxUint64-1, 0, gap(math.MaxUint64-2, math.MaxUint64-2), went(math.MaxUint64-1, math.MaxUint64))
		},
		func(b *Buffer) {
			comes(t, b, math.MaxUint64-2, 0, went(math.MaxUint64-2))
			comes(t, b, math.MaxUint64, 0)
			goes(t, b.Flush(), gap(math.MaxUint64-1, math.MaxUint64-1), went(math.MaxUint64))
		},
	} {
		b := of(t, 1, 5)
		reach(b)
		refused(t, b, 9, math.MaxUint64, math.MaxUint64-1, 0, 1, 1<<63)
		goes(t, b.Tick(math.MaxUint64))
		goes(t, b.Flush())
		if _, ok := b.Next(); !ok || len(b.Waiting()) != 0 {
			t.Errorf("%d: %v, %v", i, ok, b.Waiting())
		}
	}
}

func TestNobodysBuffer(t *testing.T) { // nil, and made by hand
	for i, b := range []*Buffer{nil, {}} {
		for range 2 {
			for _, n := range []uint64{0, 1, 1 << 63, math.MaxUint64} {
				if got, ok := b.In(n, packet(n), n); len(got) != 0 || ok {
					t.Errorf("%d: In(%d): %+v, %v", i, n, got, ok)
				}
				goes(t, b.Tick(n))
			}
			goes(t, b.Flush())
			if n, ok := b.Next(); n != 0 || ok || len(b.Waiting()) != 0 {
				t.Errorf("%d: %d, %v, %v", i, n, ok, b.Waiting())
			}
		}
	}
}

func TestAnyPacketGoesAsItCame(t *testing.T) { // P10.4: such as are not right, too
	for i, p := range []rtp.Packet{
		{},
		{Type: 255, Seq: 65535, Time: math.MaxUint32, Ssrc: math.MaxUint32, Pad: 255},
		{Csrc: make([]uint32, 300), Ext: []byte{1, 2, 3}, Profile: 9},
		{Csrc: []uint32{}, Ext: []byte{}, Payload: []byte{}},
		{Marker: true, Payload: make([]byte, 100000)},
		packet(99),
	} {
		b := of(t, 2, 5)
		first, ok := b.In(7, p, 0)
		if !ok {
			t.Fatalf("%d: refused", i)
		}
		goes(t, first, []Out{{From: 7, To: 7, Packet: p}})
		b.In(9, p, 0)
		goes(t, b.Flush(), gap(8, 8), []Out{{From: 9, To: 9, Packet: p}})
	}
}

// roomy is a packet whose lists have memory behind their lengths, and share some.
func roomy() (p rtp.Packet, memory []byte, numbers []uint32) {
	memory = []byte{1, 2, 3, 4, 5, 6, 7, 8, 9, 10}
	numbers = []uint32{1, 2, 3, 4}
	return rtp.Packet{Csrc: numbers[:2], HasExt: true, Ext: memory[:4], Payload: memory[2:6]}, memory, numbers
}

// spoil writes over all memory of a packet, what lies behind its lengths included.
func spoil(p rtp.Packet) {
	for i := range p.Csrc[:cap(p.Csrc)] {
		p.Csrc[:cap(p.Csrc)][i] = 0xFFFF
	}
	for _, l := range [][]byte{p.Ext, p.Payload} {
		for i := range l[:cap(l)] {
			l[:cap(l)][i] = 0xFF
		}
	}
}

func TestWhatIsHandedInIsOnlyRead(t *testing.T) { // P10.3
	b := of(t, 2, 5)
	p, memory, numbers := roomy()
	_, was, were := roomy()
	var out []Out
	for _, n := range []uint64{1, 3, 3, 2, 9} { // one that goes, two that wait, one that is refused
		got, _ := b.In(n, p, 0)
		out = append(out, got...)
	}
	out = append(out, b.Flush()...)
	for _, o := range out {
		spoil(o.Packet)
	}
	if !slices.Equal(memory, was) || !slices.Equal(numbers, were) {
		t.Errorf("%v, %v", memory, numbers)
	}
}

func TestWhatIsHandedInIsNotKept(t *testing.T) { // P10.3
	for _, last := range []func(b *Buffer) []Out{
		func(b *Buffer) []Out { return b.Flush() },
		func(b *Buffer) []Out { return b.Tick(5) },
		func(b *Buffer) []Out { l, _ := b.In(2, packet(2), 0); return l[1:] },
		func(b *Buffer) []Out { b.In(9, packet(9), 0); l, _ := b.In(8, packet(8), 0); return l[1:2] },
	} {
		b := of(t, 2, 5)
		p, _, _ := roomy()
		first, _ := b.In(1, p, 0)
		b.In(3, p, 0)
		spoil(p)
		want, _, _ := roomy()
		goes(t, first, []Out{{From: 1, To: 1, Packet: want}})
		l := last(b)
		if n := len(l); n == 0 || !sameOut(l[n-1], Out{From: 3, To: 3, Packet: want}) {
			t.Errorf("%+v", l)
		}
	}
}

func TestWhatIsAnsweredSharesNothing(t *testing.T) { // P10.3
	b := of(t, 4, 5)
	p, _, _ := roomy()
	want, _, _ := roomy()
	b.In(1, p, 0)
	for _, n := range []uint64{3, 4, 6} {
		b.In(n, p, 0)
	}
	l, again := b.Waiting(), b.Waiting()
	clear(l[:cap(l)])
	if !slices.Equal(again, []uint64{3, 4, 6}) || !slices.Equal(b.Waiting(), again) {
		t.Errorf("%v, %v", again, b.Waiting())
	}
	got, _ := b.In(2, p, 0) // 2, 3 and 4 go
	for i, o := range got {
		o.Packet.Payload = nil
		spoil(o.Packet)
		for _, other := range got[i+1:] {
			if !rtp.Same(other.Packet, want) {
				t.Fatalf("packets share memory: %+v", other)
			}
		}
		if !slices.Equal(got[i].Packet.Payload, want.Payload) {
			t.Fatalf("lists share memory: %+v", got[i])
		}
	}
	clear(got[:cap(got)])
	holds(t, b, 5, 6)
	goes(t, b.Flush(), gap(5, 5), []Out{{From: 6, To: 6, Packet: want}})
}

func TestEachBufferIsItsOwn(t *testing.T) { // P10.3
	a, b := of(t, 2, 5), of(t, 2, 5)
	if a == b {
		t.Fatal("one buffer for two")
	}
	comes(t, a, 10, 0, went(10))
	comes(t, b, 50, 0, went(50))
	comes(t, a, 12, 0)
	holds(t, a, 11, 12)
	holds(t, b, 51)
	goes(t, b.Flush())
	goes(t, a.Flush(), gap(11, 11), went(12))
}

// plain is a buffer by other means than the program's: it goes as the chapter tells it, step by step.
// Its numbers stay below the greatest one.
type plain struct {
	size int
	hold uint64
	some bool
	next uint64
	came map[uint64]uint64 // of those that wait, the tick
	put  map[uint64]rtp.Packet
}

func plainOf(size int, hold uint64) *plain {
	return &plain{size: size, hold: hold, came: map[uint64]uint64{}, put: map[uint64]rtp.Packet{}}
}

func (p *plain) waiting() []uint64 { return slices.Sorted(maps.Keys(p.came)) }

// goes lets the packet go that waits first, with the gap ahead.
func (p *plain) goes() []Out {
	var out []Out
	n := p.waiting()[0]
	if n > p.next {
		out = gap(p.next, n-1)
	}
	out = append(out, Out{From: n, To: n, Packet: p.put[n]})
	delete(p.came, n)
	p.next = n + 1
	return out
}

// comesNext tells whether there is a packet that waits whose number comes next.
func (p *plain) comesNext() bool {
	_, ok := p.came[p.next]
	return ok
}

func (p *plain) in(n uint64, q rtp.Packet, now uint64) (out []Out, ok bool) {
	if !p.some {
		p.some, p.next = true, n
	}
	if _, waits := p.came[n]; waits || n < p.next {
		return nil, false
	}
	p.came[n], p.put[n] = now, q
	for p.comesNext() || len(p.came) > p.size {
		out = append(out, p.goes()...)
	}
	return out, true
}

func (p *plain) tick(now uint64) (out []Out) {
	var last uint64
	for n, came := range p.came {
		if came+p.hold <= max(now, came) { // the ticks are small here
			last = max(last, n)
		}
	}
	for len(p.came) > 0 && (p.waiting()[0] <= last || p.comesNext()) {
		out = append(out, p.goes()...)
	}
	return out
}

func (p *plain) flush() (out []Out) {
	for len(p.came) > 0 {
		out = append(out, p.goes()...)
	}
	return out
}

// both are a buffer and a plain one, and all that went so far.
type both struct {
	b     *Buffer
	p     *plain
	first uint64
	taken map[uint64]rtp.Packet // what was not refused
	out   []Out
}

func bothOf(t *testing.T, size int, hold uint64) *both {
	t.Helper()
	return &both{b: of(t, size, hold), p: plainOf(size, hold), taken: map[uint64]rtp.Packet{}}
}

func (x *both) same(t *testing.T, got, want []Out) {
	t.Helper()
	goes(t, got, want)
	x.out = append(x.out, got...)
	if n, ok := x.b.Next(); n != x.p.next || ok != x.p.some {
		t.Fatalf("Next: %d, %v; want %d, %v", n, ok, x.p.next, x.p.some)
	}
	if l := x.b.Waiting(); !slices.Equal(l, x.p.waiting()) || len(l) > x.p.size {
		t.Fatalf("Waiting: %v; want %v", l, x.p.waiting())
	}
}

func (x *both) in(t *testing.T, n uint64, q rtp.Packet, now uint64) {
	t.Helper()
	if !x.p.some {
		x.first = n
	}
	want, taken := x.p.in(n, q, now)
	got, ok := x.b.In(n, q, now)
	if ok != taken {
		t.Fatalf("In(%d): %v", n, ok)
	}
	if ok {
		x.taken[n] = q
	}
	x.same(t, got, want)
}

func (x *both) tick(t *testing.T, now uint64) {
	t.Helper()
	x.same(t, x.b.Tick(now), x.p.tick(now))
	for n, came := range x.p.came {
		if max(now, came)-came >= x.p.hold {
			t.Fatalf("behind the tick %d, %d waits yet, from %d on", now, n, came)
		}
	}
}

// whole checks that each number went just once, in order, as a packet or in a gap, and each packet as it came.
func (x *both) whole(t *testing.T) {
	t.Helper()
	x.same(t, x.b.Flush(), x.p.flush())
	next, packets := x.first, 0
	for i, o := range x.out {
		if o.From != next || o.To < o.From || o.Gap && i > 0 && x.out[i-1].Gap {
			t.Fatalf("%+v behind %d", o, next)
		}
		next = o.To + 1
		if !o.Gap {
			packets++
			if q, ok := x.taken[o.From]; !ok || o.From != o.To || !rtp.Same(q, o.Packet) {
				t.Fatalf("%+v; came %+v", o, q)
			}
		}
	}
	if packets != len(x.taken) {
		t.Fatalf("%d packets of %d went", packets, len(x.taken))
	}
}

func TestAllShortRows(t *testing.T) { // P10.1, P10.2, P10.4: all rows of five steps, of numbers 0 to 5 and two ticks
	for size := 1; size <= 3; size++ {
		for row := range 1 << 15 {
			x := bothOf(t, size, 2)
			for at := range 5 {
				now := uint64(at)
				switch step := uint64(row >> (3 * at) & 7); step {
				case 6:
					x.tick(t, now)
				case 7:
					x.tick(t, now/2)
				default:
					x.in(t, step, rtp.Packet{Seq: uint16(at)}, now)
				}
			}
			x.whole(t)
		}
	}
}

// near is a number that is not far from the one that comes next, or from one that waits, or anywhere ahead.
func near(rnd *rand.Rand, p *plain) uint64 {
	some := uint64(rnd.Intn(12))
	l := p.waiting()
	switch rnd.Intn(10) {
	case 0:
		return p.next + uint64(rnd.Intn(600))
	case 1:
		return p.next - min(p.next, some)
	case 2:
		return p.next
	case 3, 4:
		if len(l) > 0 {
			return l[rnd.Intn(len(l))] + some/4
		}
	}
	return p.next + some
}

func TestAnySteps(t *testing.T) { // P10.1, P10.2, P10.4
	rnd := rand.New(rand.NewSource(1))
	for range 300 {
		size := 1 + rnd.Intn(256)
		if rnd.Intn(3) > 0 {
			size = 1 + rnd.Intn(8)
		}
		x := bothOf(t, size, uint64(rnd.Intn(12)))
		now, n := uint64(20), []uint64{0, 1, 1000, 1<<32 - 5, 1 << 63}[rnd.Intn(5)]
		for i := range uint64(250) {
			now += uint64(rnd.Intn(3))
			told := now - uint64(rnd.Intn(2)*rnd.Intn(20)) // ticks need not rise
			switch k := rnd.Intn(20); {
			case k == 0 && rnd.Intn(4) == 0:
				x.same(t, x.b.Flush(), x.p.flush())
			case k < 5:
				x.tick(t, told)
			default:
				if x.p.some {
					n = near(rnd, x.p)
				}
				x.in(t, n, packet(n*1000+i), told)
			}
		}
		x.whole(t)
	}
}

func TestWithinTheSizeNothingIsAGap(t *testing.T) { // P10.4: in whatever order, if the first one comes first
	rnd := rand.New(rand.NewSource(2))
	for _, size := range []int{1, 2, 3, 64, 255, 256} {
		for range 20 {
			b := of(t, size, 1000)
			comes(t, b, 70, 0, went(70))
			var out []Out
			for _, i := range rnd.Perm(size + 1) {
				n := 71 + uint64(i)
				got, ok := b.In(n, packet(n), 5)
				if !ok {
					t.Fatalf("%d is refused", n)
				}
				out = append(out, got...)
				refused(t, b, 6, n, 70)
			}
			for i, o := range out {
				if !sameOut(o, went(71 + uint64(i))[0]) {
					t.Fatalf("%+v at %d", o, i)
				}
			}
			holds(t, b, 72+uint64(size))
		}
	}
}
