package rtcp

import (
	"bytes"
	"encoding/binary"
	"math/big"
	"math/rand"
	"reflect"
	"slices"
	"strings"
	"testing"

	"easel/api"
)

func word32(l ...uint32) (b []byte) {
	for _, n := range l {
		b = binary.BigEndian.AppendUint32(b, n)
	}
	return b
}

// plainBlocks writes blocks as the chapter tells it, by other means than the program's.
func plainBlocks(l []Block) (b []byte) {
	for _, x := range l {
		total, number := make([]byte, 3), big.NewInt(int64(x.Total))
		if x.Total < 0 {
			number.Add(number, big.NewInt(1<<24))
		}
		b = append(b, word32(x.Ssrc)...)
		b = append(append(b, x.Lost), number.FillBytes(total)...)
		b = append(b, word32(x.Highest, x.Jitter, x.Lsr, x.Dlsr)...)
	}
	return b
}

func plainSender(s Sender) Packet {
	b := binary.BigEndian.AppendUint64(word32(s.Ssrc), s.Ntp)
	b = append(b, word32(s.Rtp, s.Packets, s.Octets)...)
	return Packet{Count: uint8(len(s.Blocks)), Kind: 200, Body: append(b, plainBlocks(s.Blocks)...)}
}

func plainReceiver(r Receiver) Packet {
	return Packet{Count: uint8(len(r.Blocks)), Kind: 201, Body: append(word32(r.Ssrc), plainBlocks(r.Blocks)...)}
}

func plainChunks(l []Chunk) Packet {
	p := Packet{Count: uint8(len(l)), Kind: 202}
	for _, c := range l {
		text := string(word32(c.Ssrc))
		if c.Name != "" {
			text += "\x01" + string([]byte{byte(len(c.Name))}) + c.Name
		}
		p.Body = append(p.Body, text+strings.Repeat("\x00", 4-len(text)%4)...)
	}
	return p
}

func plainBye(b Bye) Packet {
	p := Packet{Count: uint8(len(b.Sources)), Kind: 203, Body: word32(b.Sources...)}
	if b.Reason != "" {
		p.Body = append(append(p.Body, byte(len(b.Reason))), b.Reason...)
		for len(p.Body)%4 != 0 {
			p.Body = append(p.Body, 0)
		}
	}
	return p
}

// Told alike: nil and empty lists mean the same.
func sameSender(a, b Sender) bool {
	return slices.Equal(a.Blocks, b.Blocks) && a.Ssrc == b.Ssrc && a.Ntp == b.Ntp && a.Rtp == b.Rtp && a.Packets == b.Packets && a.Octets == b.Octets
}

func sameReceiver(a, b Receiver) bool { return a.Ssrc == b.Ssrc && slices.Equal(a.Blocks, b.Blocks) }

func sameBye(a, b Bye) bool { return a.Reason == b.Reason && slices.Equal(a.Sources, b.Sources) }

func nothing(v any) bool { return reflect.ValueOf(v).IsZero() }

func someBlocks(rnd *rand.Rand, n int) (l []Block) {
	for range n {
		total := []int32{0, 1, -1, 1<<23 - 1, -1 << 23, rnd.Int31n(1<<24) - 1<<23}[rnd.Intn(6)]
		l = append(l, Block{rnd.Uint32(), uint8(rnd.Uint32()), total, rnd.Uint32(), rnd.Uint32(), rnd.Uint32(), rnd.Uint32()})
	}
	return l
}

func someText(rnd *rand.Rand) string {
	return string(someBytes(rnd, []int{0, 1, 2, 3, 4, 5, 255, rnd.Intn(256)}[rnd.Intn(8)]))
}

func someCount(rnd *rand.Rand) int { return []int{0, 1, 2, 31, rnd.Intn(32)}[rnd.Intn(5)] }

func someSender(rnd *rand.Rand) Sender {
	return Sender{rnd.Uint32(), rnd.Uint64(), rnd.Uint32(), rnd.Uint32(), rnd.Uint32(), someBlocks(rnd, someCount(rnd))}
}

func someReceiver(rnd *rand.Rand) Receiver {
	return Receiver{rnd.Uint32(), someBlocks(rnd, someCount(rnd))}
}

func someChunks(rnd *rand.Rand) (l []Chunk) {
	for range someCount(rnd) {
		l = append(l, Chunk{rnd.Uint32(), someText(rnd)})
	}
	return l
}

func someBye(rnd *rand.Rand) Bye {
	b := Bye{Reason: someText(rnd)}
	for range someCount(rnd) {
		b.Sources = append(b.Sources, rnd.Uint32())
	}
	return b
}

// checkPut holds what a call put against the plain packet.
func checkPut(t *testing.T, what any, p Packet, e api.Errno, want Packet) {
	t.Helper()
	if e != api.OK || !Same(p, want) || !Right(p) {
		t.Fatalf("%+v: %+v, %d; want %+v", what, p, e, want)
	}
	if b, e := Join(p); begins(want.Kind) && (e != api.OK || !bytes.Equal(b, plain(want))) {
		t.Fatalf("%+v begins no compound: %d", what, e)
	}
}

func TestWhatIsPutIsTold(t *testing.T) { // P6.3, P6.4, P6.6
	rnd := rand.New(rand.NewSource(3))
	for range 2000 {
		s := someSender(rnd)
		p, e := s.Put()
		checkPut(t, s, p, e, plainSender(s))
		if got, e := OfSender(p); e != api.OK || !sameSender(got, s) {
			t.Fatalf("%+v: %+v, %d", s, got, e)
		}
		r := someReceiver(rnd)
		p, e = r.Put()
		checkPut(t, r, p, e, plainReceiver(r))
		if got, e := OfReceiver(p); e != api.OK || !sameReceiver(got, r) {
			t.Fatalf("%+v: %+v, %d", r, got, e)
		}
		l := someChunks(rnd)
		p, e = PutChunks(l...)
		checkPut(t, l, p, e, plainChunks(l))
		if got, e := OfChunks(p); e != api.OK || !slices.Equal(got, l) {
			t.Fatalf("%+v: %+v, %d", l, got, e)
		}
		b := someBye(rnd)
		p, e = b.Put()
		checkPut(t, b, p, e, plainBye(b))
		if got, e := OfBye(p); e != api.OK || !sameBye(got, b) {
			t.Fatalf("%+v: %+v, %d", b, got, e)
		}
	}
}

func TestPutOfSome(t *testing.T) { // P6.3
	block := Block{Ssrc: 0x01020304, Lost: 5, Total: -2, Highest: 0x06070809, Jitter: 0x0A0B0C0D, Lsr: 0x0E0F1011, Dlsr: 0x12131415}
	const written = "01020304 05FFFFFE 06070809 0A0B0C0D 0E0F1011 12131415"
	s := Sender{Ssrc: 0x21222324, Ntp: 0x3132333435363738, Rtp: 0x41424344, Packets: 0x51525354, Octets: 0x61626364, Blocks: []Block{block, {Total: 1<<23 - 1}}}
	p, e := s.Put()
	checkPut(t, s, p, e, Packet{Count: 2, Kind: SR, Body: unhex(t, "21222324 3132333435363738 41424344 51525354 61626364"+written+"00000000 007FFFFF"+strings.Repeat("00", 16))})
	r := Receiver{Ssrc: 7, Blocks: []Block{block}}
	p, e = r.Put()
	checkPut(t, r, p, e, Packet{Count: 1, Kind: RR, Body: unhex(t, "00000007"+written)})
	p, e = Receiver{}.Put()
	checkPut(t, "none", p, e, Packet{Kind: RR, Body: make([]byte, 4)})
	p, e = Sender{}.Put()
	checkPut(t, "none", p, e, Packet{Kind: SR, Body: make([]byte, 24)})
	p, e = PutChunks()
	checkPut(t, "none", p, e, Packet{Kind: SDES})
	p, e = PutChunks(Chunk{Ssrc: 1}, Chunk{2, "a"}, Chunk{3, "abcde"}, Chunk{4, "abcdef"})
	checkPut(t, "names", p, e, Packet{Count: 4, Kind: SDES, Body: unhex(t, "00000001 00000000 00000002 01016100 00000003 01056162 63646500 00000004 01066162 63646566 00000000")})
	p, e = Bye{}.Put()
	checkPut(t, "none", p, e, Packet{Kind: BYE})
	p, e = Bye{Sources: []uint32{1, 2}}.Put()
	checkPut(t, "no reason", p, e, Packet{Count: 2, Kind: BYE, Body: unhex(t, "00000001 00000002")})
	p, e = Bye{Reason: "abc"}.Put()
	checkPut(t, "no source", p, e, Packet{Kind: BYE, Body: unhex(t, "03616263")})
	p, e = Bye{Sources: []uint32{1}, Reason: "abcd"}.Put()
	checkPut(t, "a reason", p, e, Packet{Count: 1, Kind: BYE, Body: unhex(t, "00000001 04616263 64000000")})
}

func TestPutErrors(t *testing.T) { // P6.3
	name := strings.Repeat("n", 255)
	blocks := func(n int, at int, total int32) []Block {
		l := make([]Block, n)
		l[at].Total = total
		return l
	}
	for what, x := range map[string]struct {
		l    []Block
		want api.Errno
	}{
		"31 blocks":              {blocks(31, 0, 0), api.OK},
		"32 blocks":              {blocks(32, 0, 0), api.ErrArg},
		"33 blocks":              {blocks(33, 0, 0), api.ErrArg},
		"256 blocks":             {blocks(256, 0, 0), api.ErrArg},
		"the greatest total":     {blocks(1, 0, 8388607), api.OK},
		"one more":               {blocks(1, 0, 8388608), api.ErrArg},
		"the greatest number":    {blocks(1, 0, 1<<31-1), api.ErrArg},
		"the least total":        {blocks(1, 0, -8388608), api.OK},
		"one less":               {blocks(1, 0, -8388609), api.ErrArg},
		"the least number":       {blocks(1, 0, -1<<31), api.ErrArg},
		"2^24":                   {blocks(1, 0, 1<<24), api.ErrArg},
		"one more, of the last":  {blocks(31, 30, 8388608), api.ErrArg},
		"the greatest, the last": {blocks(31, 30, 8388607), api.OK},
	} {
		p, e := Sender{Ssrc: 1, Blocks: x.l}.Put()
		q, f := Receiver{Ssrc: 1, Blocks: x.l}.Put()
		if e != x.want || f != x.want || (e != api.OK) != nothing(p) || (f != api.OK) != nothing(q) {
			t.Errorf("%s: %+v, %d, %+v, %d", what, p, e, q, f)
		}
	}
	chunks := make([]Chunk, 32)
	chunks[30].Name = name
	for what, x := range map[string]struct {
		l    []Chunk
		want api.Errno
	}{
		"31 chunks":               {chunks[:31], api.OK},
		"32 chunks":               {chunks, api.ErrArg},
		"a name of 255":           {[]Chunk{{1, name}}, api.OK},
		"a name of 256":           {[]Chunk{{1, name + "n"}}, api.ErrArg},
		"the second's of 256":     {[]Chunk{{}, {1, name + "n"}, {}}, api.ErrArg},
		"a name of 512 and so on": {[]Chunk{{1, name + name + "nn"}}, api.ErrArg},
	} {
		if p, e := PutChunks(x.l...); e != x.want || (e != api.OK) != nothing(p) {
			t.Errorf("%s: %+v, %d", what, p, e)
		}
	}
	for what, x := range map[string]struct {
		b    Bye
		want api.Errno
	}{
		"31 sources":      {Bye{Sources: make([]uint32, 31), Reason: name}, api.OK},
		"32 sources":      {Bye{Sources: make([]uint32, 32)}, api.ErrArg},
		"257 sources":     {Bye{Sources: make([]uint32, 257)}, api.ErrArg},
		"a reason of 255": {Bye{Reason: name}, api.OK},
		"a reason of 256": {Bye{Reason: name + "n"}, api.ErrArg},
		"one of 512":      {Bye{Reason: name + name + "nn"}, api.ErrArg},
	} {
		if p, e := x.b.Put(); e != x.want || (e != api.OK) != nothing(p) {
			t.Errorf("%s: %+v, %d", what, p, e)
		}
	}
}

func TestOfAnotherKind(t *testing.T) { // P6.4: ErrKind ahead of ErrItem
	for kind := range 256 {
		for _, p := range []Packet{{Kind: uint8(kind), Body: make([]byte, 24)}, {Kind: uint8(kind), Count: 9}} {
			s, e := OfSender(p)
			r, f := OfReceiver(p)
			l, g := OfChunks(p)
			b, h := OfBye(p)
			for i, x := range []struct {
				kind uint8
				e    api.Errno
				zero bool
			}{{SR, e, nothing(s)}, {RR, f, nothing(r)}, {SDES, g, len(l) == 0}, {BYE, h, nothing(b)}} {
				if (uint8(kind) != x.kind) != (x.e == api.ErrKind) || x.e != api.OK && !x.zero {
					t.Errorf("kind %d, call %d: %d", kind, i, x.e)
				}
			}
		}
	}
}

func TestOfBlocks(t *testing.T) { // P6.4
	rnd := rand.New(rand.NewSource(4))
	for _, n := range []int{0, 1, 2, 31, 32, 255} { // a count that may not be is taken as it is
		blocks := someBlocks(rnd, n)
		s := Sender{1, 2, 3, 4, 5, blocks}
		r := Receiver{6, blocks}
		p, q := plainSender(s), plainReceiver(r)
		for _, more := range []int{0, 1, 3, 4, 24, 1000} { // what stands behind is left out
			p, q := p, q
			p.Body, q.Body = append(slices.Clone(p.Body), someBytes(rnd, more)...), append(slices.Clone(q.Body), someBytes(rnd, more)...)
			p.Pad, q.Pad = 3, 252
			if got, e := OfSender(p); e != api.OK || !sameSender(got, s) {
				t.Errorf("%d blocks, %d more: %+v, %d", n, more, got, e)
			}
			if got, e := OfReceiver(q); e != api.OK || !sameReceiver(got, r) {
				t.Errorf("%d blocks, %d more: %+v, %d", n, more, got, e)
			}
		}
		for _, few := range []int{1, 2, 3, 4, 5, 24, 25} { // and what is too short tells nothing
			if len(q.Body) < few {
				continue
			}
			p, q := p, q
			p.Body, q.Body = p.Body[:max(0, len(p.Body)-few)], q.Body[:len(q.Body)-few]
			if got, e := OfSender(p); e != api.ErrItem || !nothing(got) {
				t.Errorf("%d blocks, %d fewer: %+v, %d", n, few, got, e)
			}
			if got, e := OfReceiver(q); e != api.ErrItem || !nothing(got) {
				t.Errorf("%d blocks, %d fewer: %+v, %d", n, few, got, e)
			}
		}
	}
	for _, p := range []Packet{{Kind: SR}, {Kind: SR, Body: make([]byte, 23)}, {Kind: SR, Count: 255, Body: make([]byte, 24+24*254)}} {
		if s, e := OfSender(p); e != api.ErrItem || !nothing(s) {
			t.Errorf("%+v, %d", s, e)
		}
	}
	for _, p := range []Packet{{Kind: RR}, {Kind: RR, Body: make([]byte, 3)}, {Kind: RR, Count: 1, Body: make([]byte, 27)}} {
		if r, e := OfReceiver(p); e != api.ErrItem || !nothing(r) {
			t.Errorf("%+v, %d", r, e)
		}
	}
}

func TestOfTotals(t *testing.T) { // P6.4: two's complement
	for text, want := range map[string]Block{
		"00000000": {}, "FF000001": {Lost: 255, Total: 1}, "007FFFFF": {Total: 8388607}, "80800000": {Lost: 128, Total: -8388608}, "01FFFFFF": {Lost: 1, Total: -1}, "02FF0000": {Lost: 2, Total: -65536},
	} {
		body := slices.Concat(make([]byte, 8), unhex(t, text), make([]byte, 16))
		r, e := OfReceiver(Packet{Count: 1, Kind: RR, Body: body})
		if e != api.OK || !slices.Equal(r.Blocks, []Block{want}) {
			t.Errorf("%s: %+v, %d", text, r, e)
		}
	}
}

func TestOfChunks(t *testing.T) { // P6.4
	for _, x := range []struct {
		name  string
		count uint8
		text  string
		want  []Chunk
		e     api.Errno
	}{
		{"none", 0, "", nil, api.OK},
		{"none, and a word", 0, "00000000", nil, api.ErrItem},
		{"none, and a byte", 0, "00", nil, api.ErrItem},
		{"no name", 1, "00000001 00000000", []Chunk{{1, ""}}, api.OK},
		{"noughts that are none", 1, "00000001 00FFFFFF", []Chunk{{1, ""}}, api.OK},
		{"a name", 1, "00000001 01016100", []Chunk{{1, "a"}}, api.OK},
		{"a name of a whole word", 1, "00000001 01026162 00000000", []Chunk{{1, "ab"}}, api.OK},
		{"and noughts that are none", 1, "00000001 01026162 00010203", []Chunk{{1, "ab"}}, api.OK},
		{"an empty name", 1, "00000001 01000000", []Chunk{{1, ""}}, api.OK},
		{"an empty name is the first", 1, "00000001 01000101 61000000", []Chunk{{1, ""}}, api.OK},
		{"two names", 1, "00000001 01016101 01620000", []Chunk{{1, "a"}}, api.OK},
		{"three names", 1, "00000001 01016101 01620101 63000000", []Chunk{{1, "a"}}, api.OK},
		{"a name behind others", 1, "00000001 02017A03 00010161 00000000", []Chunk{{1, "a"}}, api.OK},
		{"others alone", 1, "00000001 02017A08 017A0000", []Chunk{{1, ""}}, api.OK},
		{"sort 255", 1, "00000001 FF016100", []Chunk{{1, ""}}, api.OK},
		{"a name of noughts", 1, "00000001 01020000 00000000", []Chunk{{1, "\x00\x00"}}, api.OK},
		{"two chunks", 2, "00000001 00000000 00000002 01016100", []Chunk{{1, ""}, {2, "a"}}, api.OK},
		{"the same source twice", 2, "00000001 01016100 00000001 01016200", []Chunk{{1, "a"}, {1, "b"}}, api.OK},
		{"two chunks, told as one", 1, "00000001 00000000 00000002 01016100", nil, api.ErrItem},
		{"one chunk, told as two", 2, "00000001 01016100", nil, api.ErrItem},
		{"a chunk, told as 255", 255, "00000001 01016100", nil, api.ErrItem},
		{"a word behind", 1, "00000001 01016100 00000000", nil, api.ErrItem},
		{"a byte behind", 1, "00000001 01016100 00", nil, api.ErrItem},
		{"no source", 1, "", nil, api.ErrItem},
		{"a source of 3 bytes", 1, "000000", nil, api.ErrItem},
		{"a source alone", 1, "00000001", nil, api.ErrItem},
		{"no end", 1, "00000001 01026162", nil, api.ErrItem},
		{"no length", 1, "00000001 01016101", nil, api.ErrItem},
		{"a name too long", 1, "00000001 01026100", []Chunk{}, api.ErrItem},
		{"a name of 255 in 2", 1, "00000001 01FF6100", nil, api.ErrItem},
		{"a name that takes the next source", 2, "00000001 01056100 00000002 00000000", nil, api.ErrItem},
		{"noughts are missing", 1, "00000001 00", nil, api.ErrItem},
		{"a nought is missing", 1, "00000001 000000", nil, api.ErrItem},
	} {
		l, e := OfChunks(Packet{Count: x.count, Kind: SDES, Body: unhex(t, x.text), Pad: 7})
		if e != x.e || !slices.Equal(l, x.want) {
			t.Errorf("%s: %+v, %d; want %+v, %d", x.name, l, e, x.want, x.e)
		}
	}
	l, e := OfChunks(Packet{Count: 255, Kind: SDES, Body: make([]byte, 8*255)})
	if e != api.OK || !slices.Equal(l, make([]Chunk, 255)) {
		t.Errorf("%d chunks, %d", len(l), e)
	}
}

func TestOfBye(t *testing.T) { // P6.4
	reason := func(n int) string { return strings.Repeat("61", n) }
	for _, x := range []struct {
		name  string
		count uint8
		text  string
		want  Bye
		e     api.Errno
	}{
		{"none", 0, "", Bye{}, api.OK},
		{"a source", 1, "00000001", Bye{Sources: []uint32{1}}, api.OK},
		{"two sources", 2, "00000001 00000002", Bye{Sources: []uint32{1, 2}}, api.OK},
		{"a source of none", 1, "", Bye{}, api.ErrItem},
		{"a source of 3 bytes", 1, "000000", Bye{}, api.ErrItem},
		{"the second is missing", 2, "00000001", Bye{}, api.ErrItem},
		{"the second has 3 bytes", 2, "00000001 000000", Bye{}, api.ErrItem},
		{"255 told, 1 there", 255, "00000001", Bye{}, api.ErrItem},
		{"a reason", 1, "00000001 03616263", Bye{[]uint32{1}, "abc"}, api.OK},
		{"a reason, no source", 0, "03616263", Bye{Reason: "abc"}, api.OK},
		{"a reason, and noughts", 0, "04616263 64000000", Bye{Reason: "abcd"}, api.OK},
		{"a reason, and noughts that are none", 0, "01610102", Bye{Reason: "a"}, api.OK},
		{"an empty reason", 1, "00000001 00000000", Bye{Sources: []uint32{1}}, api.OK},
		{"an empty reason, and noughts that are none", 1, "00000001 00FFFFFF", Bye{Sources: []uint32{1}}, api.OK},
		{"a reason that is too long", 0, "04616263", Bye{}, api.ErrItem},
		{"a reason of 1 in none", 0, "01", Bye{}, api.ErrItem},
		{"a reason of 255", 0, "FF" + reason(255), Bye{Reason: strings.Repeat("a", 255)}, api.OK},
		{"a reason of 255 in 254", 0, "FF" + reason(254), Bye{}, api.ErrItem},
		{"a word behind a reason", 0, "03616263 00000000", Bye{}, api.ErrItem},
		{"a byte behind a reason", 0, "03616263 00", Bye{}, api.ErrItem},
		{"a word behind noughts", 0, "01610000 00000000", Bye{}, api.ErrItem},
		{"a byte behind noughts", 0, "01610000 00", Bye{}, api.ErrItem},
		{"a word behind an empty reason", 1, "00000001 00000000 00000000", Bye{}, api.ErrItem},
		{"a reason of two sources, told as one's", 1, "00000001 00000002 03616263", Bye{}, api.ErrItem},
		{"the noughts are missing", 0, "0161", Bye{}, api.ErrItem},
		{"the noughts are missing, behind a source", 1, "00000001 0161", Bye{}, api.ErrItem},
		{"a nought is missing", 1, "00000001 016100", Bye{}, api.ErrItem},
		{"all noughts of a word are missing", 1, "00000001 04616263 64", Bye{}, api.ErrItem},
		{"one of a word's is missing", 1, "00000001 04616263 640000", Bye{}, api.ErrItem},
		{"a length alone", 1, "00000001 00", Bye{}, api.ErrItem},
		{"a length alone, no source", 0, "00", Bye{}, api.ErrItem},
		{"an empty reason, a nought is missing", 1, "00000001 000000", Bye{}, api.ErrItem},
		{"a reason of 254, and a nought", 0, "FE" + reason(254) + "00", Bye{Reason: strings.Repeat("a", 254)}, api.OK},
		{"a reason of 254, and none", 0, "FE" + reason(254), Bye{}, api.ErrItem},
		{"a reason of 252, a nought is missing", 0, "FC" + reason(252) + "0000", Bye{}, api.ErrItem},
	} {
		b, e := OfBye(Packet{Count: x.count, Kind: BYE, Body: unhex(t, x.text), Pad: 7})
		if e != x.e || !sameBye(b, x.want) || e != api.OK && !nothing(b) {
			t.Errorf("%s: %+v, %d; want %+v, %d", x.name, b, e, x.want, x.e)
		}
	}
	b, e := OfBye(Packet{Count: 255, Kind: BYE, Body: make([]byte, 4*255)})
	if e != api.OK || !slices.Equal(b.Sources, make([]uint32, 255)) {
		t.Errorf("%d sources, %d", len(b.Sources), e)
	}
}

// plainItems reads a chunk's items up to the nought behind them, by other means than the program's.
func plainItems(b []byte) (name string, behind []byte, ok bool) {
	if len(b) == 0 {
		return "", nil, false
	}
	if b[0] == 0 {
		return "", b[1:], true
	}
	if len(b) < 2 || len(b) < 2+int(b[1]) {
		return "", nil, false
	}
	next, behind, ok := plainItems(b[2+int(b[1]):])
	if b[0] == 1 {
		next = string(b[2 : 2+int(b[1])])
	}
	return next, behind, ok
}

func plainOfChunks(count int, body []byte) ([]Chunk, bool) {
	if count == 0 {
		return nil, len(body) == 0
	}
	if len(body) < 4 {
		return nil, false
	}
	name, behind, ok := plainItems(body[4:])
	used := len(body) - len(behind)
	for used%4 != 0 {
		used++
	}
	if !ok || used > len(body) {
		return nil, false
	}
	l, ok := plainOfChunks(count-1, body[used:])
	return append([]Chunk{{binary.BigEndian.Uint32(body), name}}, l...), ok
}

func TestOfAnyChunks(t *testing.T) { // P6.4
	rnd := rand.New(rand.NewSource(5))
	told := 0
	for range 200000 {
		body := someBytes(rnd, rnd.Intn(33))
		for i := range body {
			if rnd.Intn(4) > 0 {
				body[i] = byte(rnd.Intn(3))
			}
		}
		p := Packet{Count: uint8(rnd.Intn(3)), Kind: SDES, Body: body}
		want, ok := plainOfChunks(int(p.Count), body)
		if !ok {
			want = nil
		}
		l, e := OfChunks(p)
		if !slices.Equal(l, want) || ok != (e == api.OK) || !ok && e != api.ErrItem {
			t.Fatalf("%+v: %+v, %d; want %+v, %v", p, l, e, want, ok)
		}
		if ok && p.Count > 0 {
			told++
		}
	}
	if told < 1000 {
		t.Errorf("%d told: too few to tell", told)
	}
}

// plainOfBye reads a BYE's body by other means than the program's: it is whole words, and there is no other way to end.
func plainOfBye(count int, body []byte) (b Bye, ok bool) {
	if len(body)%4 != 0 || len(body) < 4*count {
		return Bye{}, false
	}
	for i := range count {
		b.Sources = append(b.Sources, binary.BigEndian.Uint32(body[4*i:]))
	}
	behind := body[4*count:]
	if len(behind) == 0 {
		return b, true
	}
	words := 1
	for 4*words < 1+int(behind[0]) {
		words++
	}
	if len(behind) != 4*words {
		return Bye{}, false
	}
	b.Reason = string(behind[1 : 1+int(behind[0])])
	return b, true
}

func TestOfAnyBye(t *testing.T) { // P6.4
	rnd := rand.New(rand.NewSource(7))
	told, broken := 0, 0
	for range 200000 {
		count := rnd.Intn(4)
		body := someBytes(rnd, rnd.Intn(4*count+16))
		if len(body) > 4*count {
			body[4*count] = byte(rnd.Intn(12))
		}
		p := Packet{Count: uint8(count), Kind: BYE, Body: body}
		want, ok := plainOfBye(count, body)
		b, e := OfBye(p)
		if !sameBye(b, want) || ok != (e == api.OK) || !ok && (e != api.ErrItem || !nothing(b)) {
			t.Fatalf("%+v: %+v, %d; want %+v, %v", p, b, e, want, ok)
		}
		if ok && want.Reason != "" {
			told++
		}
		if len(body) > 4*count && len(body)%4 != 0 {
			broken++
		}
	}
	if told < 1000 || broken < 1000 {
		t.Errorf("%d told, %d no whole words: too few to tell", told, broken)
	}
}

func TestTellersOnlyRead(t *testing.T) { // P6.5
	rnd := rand.New(rand.NewSource(6))
	s, r, b := someSender(rnd), someReceiver(rnd), Bye{[]uint32{1, 2, 3}, "abc"}
	s.Blocks, r.Blocks = someBlocks(rnd, 3), someBlocks(rnd, 3)
	chunks := []Chunk{{1, "a"}, {2, "bc"}, {3, "def"}}
	blocks, more, sources, names := slices.Clone(s.Blocks), slices.Clone(r.Blocks), slices.Clone(b.Sources), slices.Clone(chunks)
	s.Blocks, r.Blocks, b.Sources = s.Blocks[:2], r.Blocks[:2], b.Sources[:2]
	for range 2 { // a second time, when the first one's answers are spoilt
		for i, put := range []func() (Packet, api.Errno){s.Put, r.Put, b.Put, func() (Packet, api.Errno) { return PutChunks(chunks[:2]...) }} {
			p, e := put()
			if want := []Packet{plainSender(s), plainReceiver(r), plainBye(b), plainChunks(chunks[:2])}[i]; e != api.OK || !Same(p, want) {
				t.Fatalf("%d: %+v, %d", i, p, e)
			}
			spoil(p.Body)
		}
	}
	if !slices.Equal(s.Blocks[:3], blocks) || !slices.Equal(r.Blocks[:3], more) || !slices.Equal(b.Sources[:3], sources) || !slices.Equal(chunks, names) {
		t.Errorf("%+v, %+v, %+v, %+v", s.Blocks[:3], r.Blocks[:3], b.Sources[:3], chunks)
	}
	for i, p := range []Packet{plainSender(s), plainReceiver(r), plainChunks(chunks), plainBye(b)} {
		memory := append(slices.Clone(p.Body), 0, 0, 0, 0)
		was := slices.Clone(memory)
		p.Body = memory[:len(p.Body)]
		gotS, _ := OfSender(p)
		gotR, _ := OfReceiver(p)
		gotL, _ := OfChunks(p)
		gotB, _ := OfBye(p)
		if !bytes.Equal(memory, was) {
			t.Errorf("%d: %x", i, memory)
		}
		spoil(memory)
		ok := []bool{sameSender(gotS, s), sameReceiver(gotR, r), slices.Equal(gotL, chunks), sameBye(gotB, b)}
		if !ok[i] {
			t.Errorf("%d: what was told changes with the bytes: %+v, %+v, %+v, %+v", i, gotS, gotR, gotL, gotB)
		}
	}
}

func FuzzTellers(f *testing.F) { // P6.4, P6.6: no packet panics, and what is told without an error may be put, but for counts
	f.Add(uint8(1), uint8(200), []byte{1, 2, 3})
	f.Add(uint8(1), uint8(202), []byte{0, 0, 0, 1, 1, 1, 'a', 0})
	f.Fuzz(func(t *testing.T, count, kind uint8, body []byte) {
		p := Packet{Count: count, Kind: kind, Body: body}
		if s, e := OfSender(p); e == api.OK {
			if q, e := s.Put(); (e == api.OK) != (count < 32) || e == api.OK && !bytes.HasPrefix(body, q.Body) {
				t.Errorf("%+v, %+v, %d", s, q, e)
			}
		}
		if r, e := OfReceiver(p); e == api.OK {
			if q, e := r.Put(); (e == api.OK) != (count < 32) || e == api.OK && !bytes.HasPrefix(body, q.Body) {
				t.Errorf("%+v, %+v, %d", r, q, e)
			}
		}
		if l, e := OfChunks(p); e == api.OK {
			if q, e := PutChunks(l...); (e == api.OK) != (count < 32) || len(q.Body) > len(body) {
				t.Errorf("%+v, %+v, %d", l, q, e)
			}
		}
		if b, e := OfBye(p); e == api.OK {
			if q, e := b.Put(); (e == api.OK) != (count < 32) || len(q.Body) > len(body) || len(body)%4 != 0 {
				t.Errorf("%+v, %+v, %d", b, q, e)
			}
		}
	})
}
