package ingress

import (
	"math"
	"math/big"
	"math/rand"
	"slices"
	"testing"

	"easel/frame"
	"easel/reorder"
	"easel/rtcp"
	"easel/rtp"
	"easel/window"
)

// come lets packets come, all at tick 0.
func come(s *Source, numbers ...uint16) {
	for _, n := range numbers {
		s.Take(rtp.Packet{Seq: n}, 0)
	}
}

// counts checks what is counted, but the jitter.
func counts(t *testing.T, s *Source, want Stats) {
	t.Helper()
	got := s.Stats()
	if want.Jitter = got.Jitter; got != want {
		t.Errorf("%+v; want %+v", got, want)
	}
}

func TestStats(t *testing.T) { // P12.2
	const round = 65536
	s := of(t, 4, 4, 5)
	counts(t, s, Stats{})
	come(s, 10)
	counts(t, s, Stats{Received: 1, First: round + 10, Top: round + 10})
	come(s, 10, 10)
	counts(t, s, Stats{Received: 1, Twice: 2, First: round + 10, Top: round + 10})
	come(s, 13, 9, 8, 7, 12, 12)
	counts(t, s, Stats{Received: 3, Twice: 3, Late: 3, First: round + 10, Top: round + 13})
	s.Tick(100)
	s.Flush()
	s.Report(1)
	counts(t, s, Stats{Received: 3, Twice: 3, Late: 3, First: round + 10, Top: round + 13})
	s = of(t, 1024, 4, 5)
	come(s, 0, 65535, 65534, 65535)
	counts(t, s, Stats{Received: 3, Twice: 1, First: round, Top: round}) // what is below the first is New, too
	come(s, 32766, 65534)
	counts(t, s, Stats{Received: 4, Twice: 1, Late: 1, First: round, Top: round + 32766})
	come(s, 65533) // it is above the top by less than half the circle
	counts(t, s, Stats{Received: 5, Twice: 1, Late: 1, First: round, Top: 2*round - 3})
}

func TestTopGoesRound(t *testing.T) { // P12.2
	s := of(t, 64, 4, 5)
	want := uint64(65536 + 65000)
	for range 5000 {
		come(s, uint16(want))
		if x := s.Stats(); x.First != 65536+65000 || x.Top != want {
			t.Fatalf("%+v; want %d", x, want)
		}
		want += 97
	}
}

// arrival is a packet that comes at a tick, of a time; what the jitter is told as, behind it.
type arrival struct {
	now  uint64
	time uint32
	want uint32
}

// jitters checks the jitter, of packets that come in order.
func jitters(t *testing.T, l ...arrival) {
	t.Helper()
	s := of(t, 64, 4, 5)
	for i, x := range l {
		s.Take(rtp.Packet{Seq: uint16(i), Time: x.time}, x.now)
		if got := s.Stats().Jitter; got != x.want {
			t.Errorf("%d: %d; want %d", i, got, x.want)
		}
		if b := s.Report(1); b.Jitter != x.want {
			t.Errorf("%d: reported %d; want %d", i, b.Jitter, x.want)
		}
	}
}

func TestJitter(t *testing.T) { // P12.2
	jitters(t, arrival{0, 0, 0}, arrival{10, 900, 0}, arrival{11, 990, 0}) // 90 in a tick
	jitters(t, arrival{5, 12345, 0}, arrival{5, 12345, 0})                 // of the first one there is nothing to tell
	jitters(t, arrival{0, 1600, 0}, arrival{0, 0, 100}, arrival{0, 0, 93}, arrival{0, 5, 88}, arrival{0, 5, 82})
	jitters(t, arrival{0, 0, 0}, arrival{0, 15, 0}, arrival{0, 0, 1}) // 15; 15 and 15 less 1
	jitters(t, arrival{0, 0, 0}, arrival{0, 16, 1}, arrival{0, 16, 0})
	jitters(t, arrival{0, 0, 0}, arrival{0, 7, 0}, arrival{0, 16, 1})                // 7 and 9: of 15 a 16th is 0
	jitters(t, arrival{0, 0, 0}, arrival{0, 8, 0}, arrival{0, 16, 0})                // 8 and 8 less 1: of 16 it is 1
	jitters(t, arrival{0, 0, 0}, arrival{0, 23, 1}, arrival{0, 32, 1})               // 23 and 9 less 1: 31
	jitters(t, arrival{0, 0, 0}, arrival{0, 23, 1}, arrival{0, 33, 2})               // 32
	jitters(t, arrival{0, 0, 0}, arrival{0, 24, 1}, arrival{0, 33, 1})               // 24 and 9 less 2: 31
	jitters(t, arrival{0, 0, 0}, arrival{1, 0, 5}, arrival{0, 0, 10})                // 90; 90 and 90 less 6; ticks may fall
	jitters(t, arrival{100, 9000, 0}, arrival{101, 9000, 5}, arrival{102, 9180, 10}) // 90; 90 less 6, and 90
}

func TestJitterGoesRound(t *testing.T) { // P12.2: the lesser one of both ways
	const half = 1 << 31
	jitters(t, arrival{0, 0, 0}, arrival{0, math.MaxUint32 - 15, 1})
	jitters(t, arrival{0, math.MaxUint32 - 15, 0}, arrival{0, 0, 1})
	jitters(t, arrival{0, 0, 0}, arrival{0, half, half / 16})
	jitters(t, arrival{0, half, 0}, arrival{0, 0, half / 16})
	jitters(t, arrival{0, 0, 0}, arrival{0, half - 1, half/16 - 1})
	jitters(t, arrival{0, 0, 0}, arrival{0, half + 1, half/16 - 1})
	jitters(t, arrival{0, 0, 0}, arrival{0, half - 15, half/16 - 1})
	jitters(t, arrival{0, 0, 0}, arrival{0, half + 16, half/16 - 1})
	jitters(t, arrival{math.MaxUint64, 0, 0}, arrival{0, 90, 0}, arrival{0, 0, 5})
	jitters(t, arrival{1 << 63, 0, 0}, arrival{0, 0, 0}, arrival{1 << 31, 0, 0}, arrival{1 << 32, 0, 0}, arrival{1<<63 + 1, 90, 0})
}

func TestJitterOfWhatIsNewAlone(t *testing.T) { // P12.2: in the order in which it came
	s := of(t, 2, 4, 5)
	told := func(seq uint16, time, want uint32) {
		t.Helper()
		s.Take(rtp.Packet{Seq: seq, Time: time}, 0)
		if got := s.Stats().Jitter; got != want {
			t.Errorf("%d: %d; want %d", seq, got, want)
		}
	}
	told(10, 0, 0)
	told(10, 16000, 0) // Twice
	told(8, 16000, 0)  // Late
	told(12, 1600, 100)
	told(12, 0, 100)
	told(11, 1600, 93) // it comes behind 12, and goes ahead
	told(13, 1600, 87)
	s = of(t, 64, 4, 5)
	told(10, 0, 0)
	told(9, 1600, 100) // the buffer refuses it, but it is New
}

func TestJitterIsBounded(t *testing.T) { // P12.2: what is told, at most
	s := of(t, 64, 4, 5)
	for i := range 2000 {
		s.Take(rtp.Packet{Seq: uint16(i), Time: uint32(i%2) << 31}, 0)
	}
	if got := s.Stats().Jitter; got != 1<<31-1 { // as great as it gets
		t.Errorf("%d", got)
	}
	for j, want := range map[jitter]uint32{
		0: 0, 15: 0, 16: 1, 1<<36 - 1: math.MaxUint32, 1<<36 - 17: math.MaxUint32 - 1, 1 << 36: math.MaxUint32, math.MaxUint64: math.MaxUint32,
	} {
		if got := j.told(); got != want {
			t.Errorf("%d: %d; want %d", j, got, want)
		}
	}
}

// reports checks a report, and asks for it: it is the last one then.
func reports(t *testing.T, s *Source, lost uint8, total int32, highest uint32) {
	t.Helper()
	want := rtcp.Block{Ssrc: 77, Lost: lost, Total: total, Highest: highest, Jitter: s.Stats().Jitter}
	if got := s.Report(77); got != want {
		t.Errorf("%+v; want %+v", got, want)
	}
}

func TestReport(t *testing.T) { // P12.2
	s := of(t, 64, 4, 5)
	come(s, 1)
	reports(t, s, 0, 0, 1)
	reports(t, s, 0, 0, 1)
	come(s, 3)
	reports(t, s, 128, 1, 3)
	reports(t, s, 0, 1, 3) // nothing was expected since
	come(s, 2)
	reports(t, s, 0, 0, 3) // more was received
	come(s, 6, 7)
	reports(t, s, 128, 2, 7) // 4, of which 2 came
	come(s, 4, 5, 9)
	reports(t, s, 0, 1, 9) // 2, but 3 came
	come(s, 10, 8)
	reports(t, s, 0, 0, 10)
	come(s, 13)
	reports(t, s, 170, 2, 13) // 512 / 3
	come(s, 17, 11)
	reports(t, s, 128, 4, 17) // what came of before counts as well
	come(s, 17, 17, 18)
	reports(t, s, 0, 4, 18) // what comes twice does not
}

func TestReportOfNothing(t *testing.T) { // P12.2
	s := of(t, 64, 4, 5)
	for _, ssrc := range []uint32{0, 1, math.MaxUint32} {
		if got := s.Report(ssrc); got != (rtcp.Block{Ssrc: ssrc}) {
			t.Errorf("%+v", got)
		}
	}
	come(s, 500, 503)
	reports(t, s, 128, 2, 503) // since the beginning
}

func TestReportsSource(t *testing.T) { // P12.2
	s := of(t, 64, 4, 5)
	come(s, 500, 503)
	if b := s.Report(math.MaxUint32); b != (rtcp.Block{Ssrc: math.MaxUint32, Lost: 128, Total: 2, Highest: 503}) {
		t.Errorf("%+v", b)
	}
	if b := s.Report(0); b != (rtcp.Block{Total: 2, Highest: 503}) { // one for all numbers
		t.Errorf("%+v", b)
	}
}

func TestMoreThanExpected(t *testing.T) { // P12.2: numbers below the first one
	s := of(t, 1024, 4, 5)
	come(s, 2000)
	for n := range 1023 {
		come(s, uint16(1999-n))
		if n%100 == 0 {
			reports(t, s, 0, -1-int32(n), 2000)
		}
	}
	reports(t, s, 0, -1023, 2000)
	come(s, 976) // Late
	reports(t, s, 0, -1023, 2000)
	come(s, 2002)
	reports(t, s, 128, -1022, 2002)
}

func TestHighest(t *testing.T) { // P12.2: rounds are counted, mod 2^32
	s := of(t, 4, 1, 5)
	come(s, 65535)
	reports(t, s, 0, 0, 65535)
	come(s, 0)
	reports(t, s, 0, 0, 65536)
	come(s, 65535, 65534)
	reports(t, s, 0, -1, 65536)
	for at := uint64(65536); at < 1<<32+2*65536; at += 32767 {
		come(s, uint16(at))
	}
	top := s.Stats().Top
	if top < 1<<32+65536 {
		t.Fatalf("%d is too low to tell", top)
	}
	if b := s.Report(1); b.Highest != uint32(top-65536) || b.Highest > 1<<17 {
		t.Errorf("%+v", b)
	}
}

func TestTotalsBounds(t *testing.T) { // P12.2
	for _, x := range []struct {
		last uint16
		want int32
	}{{511, 1<<23 - 2}, {512, 1<<23 - 1}, {513, 1<<23 - 1}, {32767, 1<<23 - 1}} {
		s := of(t, 4, 1, 5)
		n := uint16(0)
		come(s, n)
		for range 256 {
			n += 32767
			come(s, n)
		}
		come(s, n+x.last)
		if b := s.Report(1); b.Total != x.want || b.Lost != 255 {
			t.Errorf("%d: %+v; want %d", x.last, b, x.want)
		}
	}
	for _, x := range []struct { // no row of numbers comes so far below
		t    tally
		want int32
	}{
		{tally{1, 1 << 23}, -1<<23 + 1}, {tally{0, 1 << 23}, -1 << 23}, {tally{0, 1<<23 + 1}, -1 << 23}, {tally{5, 1 << 40}, -1 << 23},
		{tally{1<<23 - 1, 0}, 1<<23 - 1}, {tally{1 << 23, 0}, 1<<23 - 1}, {tally{1 << 40, 3}, 1<<23 - 1},
	} {
		if got := x.t.total(); got != x.want {
			t.Errorf("%+v: %d; want %d", x.t, got, x.want)
		}
	}
}

func TestLostsBounds(t *testing.T) { // P12.2
	for _, x := range []struct {
		jump uint16
		want uint8
	}{{1, 0}, {2, 128}, {3, 170}, {255, 254}, {256, 255}, {257, 255}, {32767, 255}} {
		s := of(t, 4, 1, 5)
		come(s, 9)
		reports(t, s, 0, 0, 9)
		come(s, 9+x.jump)
		reports(t, s, x.want, int32(x.jump)-1, 9+uint32(x.jump))
	}
	for _, x := range []struct { // when none came nothing is expected, either
		t    tally
		want uint8
	}{{tally{}, 0}, {tally{1, 0}, 255}, {tally{1000, 0}, 255}, {tally{1000, 1}, 255}, {tally{256, 255}, 1}, {tally{257, 256}, 0}, {tally{0, 9}, 0}, {tally{9, 9}, 0}} {
		if got := x.t.lost(); got != x.want {
			t.Errorf("%+v: %d; want %d", x.t, got, x.want)
		}
	}
}

// plain is a source by other means than the program's: it keeps all that came, and reckons anew each time.
type plain struct {
	reach    uint64
	buffer   *reorder.Buffer
	frames   *frame.Assembler
	fresh    []uint64 // the wide numbers of those that were New, in the order in which they came
	transits []uint64
	twice    uint64
	late     uint64
	expected int64 // as of the last report
	received int64
}

func plainOf(t *testing.T, reach, size int, hold uint64) *plain {
	b, e := reorder.New(size, hold)
	if e != 0 {
		t.Fatal(e)
	}
	return &plain{reach: uint64(reach), buffer: b, frames: frame.New()}
}

// wide is the number that has these lowest digits, and is nearest to the top.
func (p *plain) wide(seq uint16) uint64 {
	if len(p.fresh) == 0 {
		return 65536 + uint64(seq)
	}
	top := slices.Max(p.fresh)
	for n := top - 32768; ; n++ {
		if uint16(n) == seq {
			return n
		}
	}
}

func (p *plain) take(q rtp.Packet, now uint64) ([]frame.Item, window.State) {
	n := p.wide(q.Seq)
	switch {
	case slices.Contains(p.fresh, n) && n+p.reach > slices.Max(p.fresh):
		p.twice++
		return nil, window.Twice
	case len(p.fresh) > 0 && n+p.reach <= slices.Max(p.fresh):
		p.late++
		return nil, window.Late
	}
	p.fresh = append(p.fresh, n)
	p.transits = append(p.transits, (90*(now%(1<<32))+1<<32-uint64(q.Time))%(1<<32))
	out, _ := p.buffer.In(n, q, now)
	return p.frames.In(out...), window.New
}

func (p *plain) jitter() uint32 {
	j := big.NewInt(0)
	for i := range p.transits {
		if i == 0 {
			continue
		}
		a, b := p.transits[i-1], p.transits[i]
		far := max(a, b) - min(a, b)
		far = min(far, 1<<32-far)
		part := new(big.Int).Add(j, big.NewInt(8))
		part.Div(part, big.NewInt(16))
		j.Add(j, new(big.Int).SetUint64(far)).Sub(j, part)
	}
	return uint32(j.Div(j, big.NewInt(16)).Uint64())
}

func (p *plain) stats() Stats {
	if len(p.fresh) == 0 {
		return Stats{}
	}
	return Stats{uint64(len(p.fresh)), p.twice, p.late, p.fresh[0], slices.Max(p.fresh), p.jitter()}
}

func (p *plain) report(ssrc uint32) rtcp.Block {
	if len(p.fresh) == 0 {
		return rtcp.Block{Ssrc: ssrc}
	}
	top := slices.Max(p.fresh)
	expected, received := int64(top-p.fresh[0]+1), int64(len(p.fresh))
	b := rtcp.Block{Ssrc: ssrc, Highest: uint32(top - 65536), Jitter: p.jitter(), Total: int32(expected - received)}
	if lost := expected - p.expected - (received - p.received); lost > 0 {
		b.Lost = uint8(lost * 256 / (expected - p.expected))
	}
	p.expected, p.received = expected, received
	return b
}

// near is a packet whose number is about the top, or anywhere.
func near(rnd *rand.Rand, r row, p *plain) rtp.Packet {
	q := r.packets[rnd.Intn(len(r.packets))]
	q.Time += uint32(rnd.Intn(3))
	if len(p.fresh) > 0 && rnd.Intn(12) > 0 {
		q = r.packet(uint16(slices.Max(p.fresh)) + uint16(rnd.Intn(12)) - 6)
	}
	if rnd.Intn(8) == 0 {
		q.Time = rnd.Uint32()
	}
	if rnd.Intn(40) == 0 {
		q.Payload = nil
	}
	return q
}

func TestAnySteps(t *testing.T) { // P12.1, P12.2, P12.4
	rnd := rand.New(rand.NewSource(4))
	all := rowOf(t, 0, wholeRound(rnd))
	sameItem := func(a, b frame.Item) bool {
		return a.Lost == b.Lost && a.Known == b.Known && a.Tid == b.Tid && a.Drop == b.Drop && frame.Same(a.Frame, b.Frame)
	}
	for range 150 {
		reach, size, hold := 1+rnd.Intn(20), 1+rnd.Intn(6), uint64(rnd.Intn(8))
		s, p := of(t, reach, size, hold), plainOf(t, reach, size, hold)
		now, came := uint64(rnd.Intn(3))<<62, uint64(0)
		for range 100 {
			var got, want []frame.Item
			now += uint64(rnd.Intn(3))
			switch rnd.Intn(8) {
			case 0:
				got, want = s.Tick(now), p.frames.In(p.buffer.Tick(now)...)
			case 1:
				if rnd.Intn(4) == 0 {
					got, want = s.Flush(), p.frames.In(p.buffer.Flush()...)
				} else if a, b := s.Report(uint32(now)), p.report(uint32(now)); a != b {
					t.Fatalf("%+v; want %+v", a, b)
				}
			default:
				var a, b window.State
				q := near(rnd, all, p)
				got, a = s.Take(q, now)
				want, b = p.take(q, now)
				if came++; a != b {
					t.Fatalf("%d is %s; want %s", q.Seq, a.Word(), b.Word())
				}
			}
			if !slices.EqualFunc(got, want, sameItem) {
				t.Fatalf("%+v; want %+v", got, want)
			}
			x := s.Stats()
			if x != p.stats() || x.Received+x.Twice+x.Late != came {
				t.Fatalf("%+v; want %+v, of %d", x, p.stats(), came)
			}
		}
	}
}

// wholeRound are letters of 2^16 packets, of frames of whatever many each.
func wholeRound(rnd *rand.Rand) string {
	b := make([]byte, 1<<16)
	c := byte('A')
	for i := range b {
		if rnd.Intn(3) == 0 {
			c = 'A' + (c-'A'+1)%40
		}
		b[i] = c
	}
	return string(b)
}

func FuzzTake(f *testing.F) { // P12.1, P12.2, P12.4: no bytes panic, and all that comes is counted
	f.Add(4, 4, uint64(5), []byte{1, 2, 3, 4, 0x90, 1}, uint64(9))
	f.Fuzz(func(t *testing.T, reach, size int, hold uint64, b []byte, now uint64) {
		s, _ := New(reach, size, hold)
		came := uint64(0)
		for len(b) >= 4 {
			p := rtp.Packet{Marker: b[0]&1 == 1, Seq: uint16(b[0])<<8 | uint16(b[1]), Time: uint32(b[2]) << 24, Payload: b[3:]}
			s.Take(p, now*uint64(b[2]))
			s.Tick(now - uint64(b[3]))
			b = b[3:]
			came++
		}
		s.Report(1)
		s.Flush()
		if x := s.Stats(); s != nil && x.Received+x.Twice+x.Late != came {
			t.Errorf("%+v of %d", x, came)
		}
	})
}
