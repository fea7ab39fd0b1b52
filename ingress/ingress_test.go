package ingress

import (
	"bytes"
	"math"
	"math/rand"
	"slices"
	"testing"

	"easel/api"
	"easel/frame"
	"easel/rtp"
	"easel/vp8"
	"easel/window"
)

// of is a source of numbers that may be.
func of(t *testing.T, reach, size int, hold uint64) *Source {
	t.Helper()
	s, e := New(reach, size, hold)
	if s == nil || e != api.OK {
		t.Fatalf("New(%d, %d, %d): %v, %d", reach, size, hold, s, e)
	}
	return s
}

// row are packets of frames, of consecutive numbers, and these frames, by their letters.
type row struct {
	first   uint16
	packets []rtp.Packet
	frames  map[byte]frame.Frame
}

// rowOf are packets from a number on. Of each a letter tells the frame: those of one letter, side by side, are one frame.
// The frames of great letters have Drop; all are of layer 2.
func rowOf(t *testing.T, first uint16, letters string) row {
	t.Helper()
	r := row{first: first, frames: map[byte]frame.Frame{}}
	for i := range len(letters) {
		c := letters[i]
		d := vp8.Desc{N: c < 'a', Start: i == 0 || letters[i-1] != c, HasTid: true, Tid: 2}
		rest := []byte{1, c, byte(i)}
		b, e := vp8.Put(d, rest)
		if e != api.OK {
			t.Fatal(e)
		}
		last := i == len(letters)-1 || letters[i+1] != c
		r.packets = append(r.packets, rtp.Packet{Marker: last, Type: 96, Seq: first + uint16(i), Time: uint32(c), Payload: b})
		f := r.frames[c]
		f.Info = frame.Info{Type: 96, Time: uint32(c), Tid: 2, Drop: c < 'a'}
		f.Parts = append(f.Parts, frame.Part{Desc: d, Rest: rest})
		r.frames[c] = f
	}
	return r
}

// packet is the one of a number.
func (r row) packet(seq uint16) rtp.Packet { return r.packets[seq-r.first] }

// told is what items tell, in short: frames that are the row's by their letters, known losses (+ if they have Drop, - if not)
// and others (?). What may not be is !.
func (r row) told(l []frame.Item) string {
	var out []byte
	for _, x := range l {
		c := byte('!')
		f, ok := r.frames[byte(x.Frame.Info.Time)]
		blank := frame.Same(x.Frame, frame.Frame{})
		switch {
		case !x.Lost && !x.Known && x.Tid == 0 && !x.Drop && ok && frame.Same(x.Frame, f):
			c = byte(x.Frame.Info.Time)
		case x.Lost && x.Known && x.Tid == 2 && blank:
			c = '-'
			if x.Drop {
				c = '+'
			}
		case x.Lost && !x.Known && x.Tid == 0 && !x.Drop && blank:
			c = '?'
		}
		out = append(out, c)
	}
	return string(out)
}

// step is a packet that comes, and what is told.
type step struct {
	seq   uint16
	now   uint64
	want  string
	state window.State
}

// takes lets packets of the row come.
func (r row) takes(t *testing.T, s *Source, steps ...step) {
	t.Helper()
	for _, x := range steps {
		l, state := s.Take(r.packet(x.seq), x.now)
		if r.told(l) != x.want || state != x.state {
			t.Errorf("%d at %d: %q, %s; want %q, %s", x.seq, x.now, r.told(l), state.Word(), x.want, x.state.Word())
		}
	}
}

// ticks checks what is told at a tick.
func (r row) ticks(t *testing.T, s *Source, now uint64, want string) {
	t.Helper()
	if got := r.told(s.Tick(now)); got != want {
		t.Errorf("tick %d: %q; want %q", now, got, want)
	}
}

// flushes checks what is told when all goes.
func (r row) flushes(t *testing.T, s *Source, want string) {
	t.Helper()
	if got := r.told(s.Flush()); got != want {
		t.Errorf("flush: %q; want %q", got, want)
	}
}

func TestExamples(t *testing.T) { // P12.1, P12.2
	s, r := of(t, 64, 4, 5), rowOf(t, 1, "aabbccdd")
	r.takes(t, s, step{1, 0, "", window.New}, step{2, 0, "a", window.New}, step{4, 0, "", window.New},
		step{2, 0, "", window.Twice}, step{3, 0, "b", window.New}, step{7, 9, "", window.New})
	r.ticks(t, s, 13, "")
	r.ticks(t, s, 14, "?")
	x := s.Stats()
	if x.Top-x.First+1 != 7 || x.Received != 5 {
		t.Errorf("%+v", x)
	}
	if b := s.Report(9); b.Ssrc != 9 || b.Total != 2 || b.Lost != 73 {
		t.Errorf("%+v", b)
	}
}

func TestNew(t *testing.T) { // P12.1
	for _, reach := range []int{1, 2, 63, 64, 65, 1023, 1024} {
		for _, size := range []int{1, 2, 255, 256} {
			for _, hold := range []uint64{0, 1, math.MaxUint64} {
				s := of(t, reach, size, hold)
				if x := s.Stats(); x != (Stats{}) || len(s.Tick(hold)) != 0 || len(s.Flush()) != 0 {
					t.Errorf("%d, %d: %+v", reach, size, x)
				}
			}
		}
	}
	for _, reach := range []int{math.MinInt, -1, 0, 1, 64, 1024, 1025, 1 << 32, math.MaxInt} {
		for _, size := range []int{math.MinInt, -1, 0, 1, 256, 257, 1 << 32, math.MaxInt} {
			if reach >= 1 && reach <= 1024 && size >= 1 && size <= 256 {
				continue
			}
			if s, e := New(reach, size, 5); s != nil || e != api.ErrArg {
				t.Errorf("New(%d, %d): %v, %d", reach, size, s, e)
			}
		}
	}
}

func TestTake(t *testing.T) { // P12.1: what comes in order, goes at once
	s, r := of(t, 64, 4, 5), rowOf(t, 65533, "aBBcccdde")
	for i, want := range []string{"a", "", "B", "", "", "c", "", "d", "e"} {
		r.takes(t, s, step{65533 + uint16(i), 0, want, window.New})
	}
	for i := range 9 {
		r.takes(t, s, step{65533 + uint16(i), 0, "", window.Twice})
	}
}

func TestTakeAtTheReach(t *testing.T) { // P12.1: a number that is just within reach, and one below
	for _, reach := range []int{1, 2, 3, 63, 64, 65, 1024} {
		s := of(t, reach, 4, 5)
		top := uint16(reach) + 1 // within reach from 2 on
		for i, x := range []struct {
			seq   uint16
			state window.State
		}{{0, window.New}, {1, window.New}, {top, window.New}, {0, window.Late}, {1, window.Late}, {2, window.New}, {2, window.Twice}, {top, window.Twice}} {
			if reach == 1 && i == 5 { // it is the top itself
				x.state = window.Twice
			}
			if l, state := s.Take(rtp.Packet{Seq: x.seq}, 0); state != x.state || state != window.New && len(l) != 0 {
				t.Errorf("reach %d: %d is %s; want %s: %+v", reach, x.seq, state.Word(), x.state.Word(), l)
			}
		}
	}
}

func TestWhatIsLateDoesNotCome(t *testing.T) { // P12.1: to the buffer, which would take it
	s, r := of(t, 2, 8, 5), rowOf(t, 10, "abbccd")
	r.takes(t, s, step{10, 0, "a", window.New}, step{14, 0, "", window.New}, step{12, 0, "", window.Late},
		step{13, 0, "", window.New}, step{11, 0, "", window.Late}, step{13, 0, "", window.Twice}, step{15, 0, "", window.New})
	r.flushes(t, s, "?cd")
}

func TestWhatComesTwiceComesOnce(t *testing.T) { // P12.1: to the buffer, and to the assembler
	s, r := of(t, 64, 8, 5), rowOf(t, 10, "aaabcc")
	r.takes(t, s, step{10, 0, "", window.New}, step{10, 1, "", window.Twice}, step{12, 1, "", window.New},
		step{12, 3, "", window.Twice}, step{14, 3, "", window.New}, step{11, 3, "a", window.New})
	r.takes(t, s, step{12, 3, "", window.Twice}, step{11, 3, "", window.Twice}, step{10, 3, "", window.Twice})
	r.takes(t, s, step{14, 4, "", window.Twice})
	r.ticks(t, s, 7, "")
	r.ticks(t, s, 8, "?") // 14 came at 3
	r.takes(t, s, step{14, 9, "", window.Twice}, step{15, 9, "c", window.New})
}

func TestWhatTheBufferRefusesIsNew(t *testing.T) { // P12.1: the window tells the state, not the buffer
	s, r := of(t, 64, 4, 5), rowOf(t, 100, "aabbccdd")
	r.takes(t, s, step{102, 0, "", window.New}, step{101, 0, "", window.New}, step{100, 0, "", window.New},
		step{103, 0, "b", window.New}, step{101, 0, "", window.Twice}, step{106, 0, "", window.New})
	r.ticks(t, s, 5, "?")
	r.takes(t, s, step{104, 6, "", window.New}, step{105, 6, "", window.New}, step{107, 6, "d", window.New})
	if x := s.Stats(); x.Received != 8 || x.Twice != 1 || x.Late != 0 || x.First != 65536+102 || x.Top != 65536+107 {
		t.Errorf("%+v", x)
	}
}

func TestWhatIsTooMuch(t *testing.T) { // P12.1: for the buffer's size
	s, r := of(t, 64, 2, 5), rowOf(t, 1, "aabBeecd")
	r.takes(t, s, step{1, 0, "", window.New}, step{3, 0, "", window.New}, step{4, 0, "", window.New},
		step{7, 0, "?bB", window.New}, step{8, 0, "", window.New}, step{6, 0, "?cd", window.New})
	r.takes(t, s, step{2, 0, "", window.New}) // the buffer is beyond it
	r.flushes(t, s, "")
}

func TestKnownLosses(t *testing.T) { // P12.1: as the assembler tells them
	s, r := of(t, 64, 4, 5), rowOf(t, 1, "aaaBBBc")
	r.takes(t, s, step{1, 0, "", window.New}, step{3, 0, "", window.New})
	r.ticks(t, s, 4, "")
	r.ticks(t, s, 5, "-")
	r.takes(t, s, step{4, 5, "", window.New}, step{6, 6, "", window.New}, step{7, 6, "", window.New})
	r.flushes(t, s, "+c")
}

func TestTick(t *testing.T) { // P12.1: the patience, and one tick less
	for _, hold := range []uint64{0, 1, 2, 5, 1 << 40} {
		s, r := of(t, 64, 4, hold), rowOf(t, 1, "abbcd")
		r.takes(t, s, step{1, 7, "a", window.New}, step{3, 7, "", window.New}, step{4, 8, "", window.New})
		if hold > 0 {
			r.ticks(t, s, 6+hold, "")
		}
		r.ticks(t, s, 7+hold, "?c") // the one behind it goes too: it comes next
		r.takes(t, s, step{5, 9 + hold, "d", window.New}, step{2, 9 + hold, "", window.New})
		r.ticks(t, s, math.MaxUint64, "")
	}
	s, r := of(t, 64, 4, math.MaxUint64), rowOf(t, 1, "abc")
	r.takes(t, s, step{1, 0, "a", window.New}, step{3, 0, "", window.New})
	r.ticks(t, s, math.MaxUint64-1, "")
	r.ticks(t, s, math.MaxUint64, "?c")
}

func TestFlush(t *testing.T) { // P12.1
	s, r := of(t, 64, 8, 5), rowOf(t, 1, "aabbcddee")
	r.flushes(t, s, "")
	r.takes(t, s, step{1, 0, "", window.New}, step{3, 0, "", window.New}, step{5, 0, "", window.New}, step{8, 0, "", window.New})
	r.flushes(t, s, "??c?") // a, and b, did not go on; then d is lost, and e built
	r.flushes(t, s, "")
	r.takes(t, s, step{9, 0, "e", window.New})
	r.flushes(t, s, "")
}

func TestFlushKeepsTheFrame(t *testing.T) { // P12.1: only what the buffer holds comes to the assembler
	s, r := of(t, 64, 8, 5), rowOf(t, 1, "aaab")
	r.takes(t, s, step{1, 0, "", window.New}, step{2, 0, "", window.New})
	r.flushes(t, s, "")
	r.ticks(t, s, 99, "")
	r.takes(t, s, step{3, 100, "a", window.New}, step{4, 100, "b", window.New})
}

func TestNobodysSource(t *testing.T) { // P12.1, P12.2: nil, and made by hand
	r := rowOf(t, 1, "ab")
	for i, s := range []*Source{nil, {}} {
		for range 2 {
			r.takes(t, s, step{1, 0, "", window.Late}, step{2, math.MaxUint64, "", window.Late})
			r.ticks(t, s, 0, "")
			r.ticks(t, s, math.MaxUint64, "")
			r.flushes(t, s, "")
			if x, b := s.Stats(), s.Report(7); x != (Stats{}) || b != (s.Report(0)) || b.Ssrc != 0 {
				t.Errorf("%d: %+v, %+v", i, x, b)
			}
		}
	}
}

// roomy is a packet whose lists have memory behind their lengths.
func roomy(p rtp.Packet) rtp.Packet {
	p.Csrc = append(make([]uint32, 0, 9), 1, 2)
	p.HasExt, p.Ext = true, append(make([]byte, 0, 9), 1, 2, 3, 4)
	p.Payload = append(make([]byte, 0, len(p.Payload)+9), p.Payload...)
	return p
}

// sameMemory tells whether two packets are the same, behind their lists' lengths, too.
func sameMemory(a, b rtp.Packet) bool {
	return rtp.Same(a, b) && slices.Equal(a.Csrc[:9], b.Csrc[:9]) && bytes.Equal(a.Ext[:9], b.Ext[:9]) &&
		bytes.Equal(a.Payload[:cap(a.Payload)], b.Payload[:cap(b.Payload)])
}

// spoil makes all bytes others, behind their length, too.
func spoil(b []byte) {
	b = b[:cap(b)]
	for i := range b {
		b[i] ^= 0xFF
	}
}

func TestWhatIsHandedInIsOnlyRead(t *testing.T) { // P12.3: nor is it kept
	s, r := of(t, 64, 8, 5), rowOf(t, 1, "abbbbcc")
	for i, seq := range []uint16{1, 3, 2, 7, 5, 5, 4, 1} { // 6 is missing
		p, was := roomy(r.packet(seq)), roomy(r.packet(seq))
		l, _ := s.Take(p, 0)
		if want := []string{"a", "", "", "", "", "", "b", ""}; r.told(l) != want[i] {
			t.Errorf("%d: %q; want %q", i, r.told(l), want[i])
		}
		for _, x := range l { // what is told may be written to
			for _, part := range x.Frame.Parts {
				spoil(part.Rest)
			}
		}
		if !sameMemory(p, was) {
			t.Errorf("%d: %+v; was %+v", i, p, was)
		}
		spoil(p.Payload)
		spoil(p.Ext)
		clear(p.Csrc[:9])
	}
	if got := r.told(s.Tick(5)); got != "?" { // 7 goes on with nothing
		t.Errorf("%q", got)
	}
}

func TestWhatIsAnsweredIsNewMemory(t *testing.T) { // P12.3: nothing of it is in another answer, or in what is kept
	r := rowOf(t, 1, "aabbccdd")
	a, b := of(t, 64, 8, 5), of(t, 64, 8, 5)
	for _, s := range []*Source{a, b} { // first all but 2 and 7
		r.takes(t, s, step{1, 0, "", window.New}, step{3, 0, "", window.New}, step{4, 0, "", window.New},
			step{5, 0, "", window.New}, step{6, 0, "", window.New}, step{8, 0, "", window.New})
	}
	l, _ := a.Take(r.packet(2), 0)
	m, _ := b.Take(r.packet(2), 0)
	if r.told(l) != "abc" || r.told(m) != "abc" {
		t.Fatalf("%q, %q", r.told(l), r.told(m))
	}
	for i := range l {
		for k := range l[i].Frame.Parts {
			spoil(l[i].Frame.Parts[k].Rest)
			l[i].Frame.Parts[k] = frame.Part{}
		}
		l[i] = frame.Item{}
		if r.told(l[i+1:]) != "abc"[i+1:] {
			t.Errorf("items share memory: %q", r.told(l[i+1:]))
		}
	}
	if r.told(m) != "abc" {
		t.Errorf("two sources share memory: %q", r.told(m))
	}
	r.takes(t, a, step{7, 0, "d", window.New})
	r.takes(t, b, step{7, 0, "d", window.New})
	if x, y := a.Stats(), b.Stats(); x != y || a.Report(1) != b.Report(1) {
		t.Errorf("%+v, %+v", x, y)
	}
}

func TestEachSourceIsItsOwn(t *testing.T) { // P12.3
	a, b := of(t, 64, 8, 5), of(t, 64, 8, 5)
	r := rowOf(t, 1, "aabbcc")
	r.takes(t, a, step{1, 0, "", window.New}, step{2, 0, "a", window.New}, step{4, 0, "", window.New})
	r.takes(t, b, step{4, 9, "?", window.New}, step{5, 9, "", window.New}, step{6, 9, "c", window.New})
	r.takes(t, a, step{3, 0, "b", window.New})
	if x, y := a.Stats(), b.Stats(); x.Received != 4 || x.First != 65537 || y.Received != 3 || y.First != 65540 || y.Top != 65542 {
		t.Errorf("%+v, %+v", x, y)
	}
}

// someLetters are those of frames, one behind the other, of whatever many packets each.
func someLetters(rnd *rand.Rand) string {
	var out []byte
	for c := range 40 {
		n := 1 + rnd.Intn(5)
		if rnd.Intn(15) == 0 {
			n = 47 + rnd.Intn(2)
		}
		for range n {
			out = append(out, byte('A'+c))
		}
	}
	return string(out)
}

// sending sends a row's packets in whatever order, within a buffer's size and patience.
type sending struct {
	rnd   *rand.Rand
	r     row
	size  int
	hold  uint64
	now   uint64
	least int            // the first packet that was not sent; all from least to least + size may come
	came  map[int]uint64 // behind the least: the tick at which a packet came
	sent  []int
}

// next is which packet comes next: a new one, or one that came already.
func (x *sending) next() int {
	if len(x.sent) > 0 && x.rnd.Intn(4) == 0 {
		return x.sent[x.rnd.Intn(len(x.sent))]
	}
	i := min(x.least+x.rnd.Intn(x.size+1), len(x.r.packets)-1)
	if _, ok := x.came[i]; ok || len(x.sent) == 0 {
		return x.least
	}
	return i
}

// send has it that a packet comes.
func (x *sending) send(i int) {
	x.sent = append(x.sent, i)
	if _, ok := x.came[i]; !ok && i >= x.least {
		x.came[i] = x.now
	}
	for ; ; x.least++ {
		if _, ok := x.came[x.least]; !ok {
			return
		}
		delete(x.came, x.least)
	}
}

// wait goes a tick further, if none has waited for too long then.
func (x *sending) wait() bool {
	for _, tick := range x.came {
		if x.now+1-tick >= x.hold {
			return false
		}
	}
	x.now++
	return true
}

func TestWhateverTheOrder(t *testing.T) { // P12.4
	rnd := rand.New(rand.NewSource(1))
	for range 300 {
		letters := someLetters(rnd)
		size := []int{1, 2, 4, 16, 256}[rnd.Intn(5)]
		hold := []uint64{1, 2, 10, 1 << 30}[rnd.Intn(4)]
		x := &sending{rnd: rnd, r: rowOf(t, uint16(65436+rnd.Intn(200)), letters), size: size, hold: hold, came: map[int]uint64{}}
		s := of(t, []int{size + 1, 1024}[rnd.Intn(2)], size, hold)
		var got string
		calls := uint64(0)
		for x.least < len(x.r.packets) {
			i := x.next()
			l, state := s.Take(x.r.packets[i], x.now)
			if fresh := !slices.Contains(x.sent, i); fresh != (state == window.New) {
				t.Fatalf("packet %d is %s", i, state.Word())
			}
			calls++
			x.send(i)
			got += x.r.told(l)
			if rnd.Intn(3) == 0 && x.wait() {
				got += x.r.told(s.Tick(x.now))
			}
		}
		if want := string(slices.Compact([]byte(letters))); got != want {
			t.Fatalf("size %d, hold %d: %q; want %q", size, hold, got, want)
		}
		c := s.Stats()
		if c.Received != uint64(len(letters)) || c.Received+c.Twice+c.Late != calls || c.Top-c.First+1 != uint64(len(letters)) {
			t.Fatalf("%+v of %d", c, calls)
		}
	}
}
