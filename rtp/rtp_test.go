package rtp

import (
	"bytes"
	"encoding/binary"
	"encoding/hex"
	"maps"
	"math/rand"
	"reflect"
	"slices"
	"strings"
	"testing"

	"easel/api"
)

// unhex tells the bytes that a text such as "80 E0" writes.
func unhex(t *testing.T, text string) []byte {
	t.Helper()
	b, err := hex.DecodeString(strings.ReplaceAll(text, " ", ""))
	if err != nil {
		t.Fatal(err)
	}
	return b
}

func someBytes(rnd *rand.Rand, n int) []byte {
	b := make([]byte, n)
	rnd.Read(b)
	return b
}

// plain writes a packet as the chapter tells it, by other means than the program's.
func plain(p Packet) []byte {
	first := byte(0x80) + byte(len(p.Csrc))
	if p.Pad != 0 {
		first += 0x20
	}
	if p.HasExt {
		first += 0x10
	}
	second := p.Type
	if p.Marker {
		second += 0x80
	}
	b := []byte{first, second}
	b = binary.BigEndian.AppendUint16(b, p.Seq)
	b = binary.BigEndian.AppendUint32(b, p.Time)
	b = binary.BigEndian.AppendUint32(b, p.Ssrc)
	for _, c := range p.Csrc {
		b = binary.BigEndian.AppendUint32(b, c)
	}
	if p.HasExt {
		b = binary.BigEndian.AppendUint16(b, p.Profile)
		b = binary.BigEndian.AppendUint16(b, uint16(len(p.Ext)/4))
		b = append(b, p.Ext...)
	}
	b = append(b, p.Payload...)
	for i := 1; i <= int(p.Pad); i++ {
		if i < int(p.Pad) {
			b = append(b, 0)
		} else {
			b = append(b, p.Pad)
		}
	}
	return b
}

// somePacket is a right packet; its edges come often.
func somePacket(rnd *rand.Rand) Packet {
	p := Packet{
		Marker: rnd.Intn(2) == 1, Type: uint8(rnd.Intn(128)), Seq: uint16(rnd.Uint32()),
		Time: rnd.Uint32(), Ssrc: rnd.Uint32(), Payload: someBytes(rnd, rnd.Intn(20)),
	}
	for range []int{0, 15, rnd.Intn(16)}[rnd.Intn(3)] {
		p.Csrc = append(p.Csrc, rnd.Uint32())
	}
	if rnd.Intn(2) == 1 {
		p.HasExt, p.Profile, p.Ext = true, uint16(rnd.Uint32()), someBytes(rnd, 4*rnd.Intn(4))
	}
	if rnd.Intn(2) == 1 {
		p.Pad = []uint8{1, 2, 255, uint8(rnd.Uint32())}[rnd.Intn(4)]
	}
	return p
}

// full is a packet that has every part.
func full() Packet {
	return Packet{
		Marker: true, Type: 96, Seq: 0x0102, Time: 0x03040506, Ssrc: 0x0708090A, Csrc: []uint32{0x0B0C0D0E, 0x0F101112},
		HasExt: true, Profile: 0xBEDE, Ext: []byte{1, 2, 3, 4}, Payload: []byte{9, 8, 7}, Pad: 3,
	}
}

// nothing tells whether a packet is the zero value.
func nothing(p Packet) bool { return reflect.DeepEqual(p, Packet{}) }

func examples(t *testing.T) (packets []Packet, written [][]byte) {
	return []Packet{
		{Type: 96, Marker: true, Seq: 258, Time: 1, Ssrc: 2, Payload: []byte{9}},
		{Type: 96, Seq: 258, Time: 1, Ssrc: 2, Csrc: []uint32{3}, Payload: []byte{9}, Pad: 2},
		full(),
		{},
	}, [][]byte{
		unhex(t, "80 E0 01 02 00 00 00 01 00 00 00 02 09"),
		unhex(t, "A1 60 01 02 00 00 00 01 00 00 00 02 00 00 00 03 09 00 02"),
		unhex(t, "B2 E0 01 02 03 04 05 06 07 08 09 0A 0B 0C 0D 0E 0F 10 11 12 BE DE 00 01 01 02 03 04 09 08 07 00 00 03"),
		unhex(t, "80 00 00 00 00 00 00 00 00 00 00 00"),
	}
}

func TestPutExamples(t *testing.T) { // P2.1
	packets, written := examples(t)
	for i, p := range packets {
		b, e := Put(p)
		if e != api.OK || !bytes.Equal(b, written[i]) || !Right(p) || Size(p) != len(written[i]) {
			t.Errorf("%d: %x, %d, size %d", i, b, e, Size(p))
		}
	}
}

// rightOnes are packets at each edge, still right.
func rightOnes() map[string]Packet {
	return map[string]Packet{
		"nothing in it":           {},
		"greatest numbers":        {Marker: true, Type: 127, Seq: 65535, Time: 1<<32 - 1, Ssrc: 1<<32 - 1},
		"15 contributors":         {Csrc: make([]uint32, 15)},
		"empty lists":             {Csrc: []uint32{}, Ext: []byte{}, Payload: []byte{}},
		"an extension of 0 bytes": {HasExt: true},
		"its profile alone":       {HasExt: true, Profile: 65535},
		"an extension of 4":       {HasExt: true, Ext: []byte{1, 2, 3, 4}},
		"the longest extension":   {HasExt: true, Profile: 1, Ext: bytes.Repeat([]byte{0xAB}, 262140), Payload: []byte{5}},
		"padding of 1":            {Pad: 1},
		"padding of 255":          {Pad: 255, Payload: []byte{255}},
		"a long payload":          {Payload: bytes.Repeat([]byte{7}, 70000)},
		"all at once":             {Marker: true, Type: 127, Csrc: make([]uint32, 15), HasExt: true, Ext: make([]byte, 262140), Payload: []byte{1}, Pad: 255},
	}
}

func TestRightAtTheEdges(t *testing.T) { // P2.1
	for name, p := range rightOnes() {
		b, e := Put(p)
		if !Right(p) || e != api.OK || !bytes.Equal(b, plain(p)) || Size(p) != len(b) {
			t.Errorf("%s: %v, %d, %d bytes, size %d", name, Right(p), e, len(b), Size(p))
		}
	}
}

func TestWhatIsNotRight(t *testing.T) { // P2.1
	for name, x := range map[string]struct {
		p    Packet
		size int
	}{
		"type 128":                    {Packet{Type: 128}, 12},
		"type 255":                    {Packet{Type: 255, Pad: 3}, 15},
		"type 224, a marker":          {Packet{Type: 224, Marker: true}, 12},
		"16 contributors":             {Packet{Csrc: make([]uint32, 16)}, 12 + 64},
		"17 contributors":             {Packet{Csrc: make([]uint32, 17)}, 12 + 68},
		"300 contributors, a payload": {Packet{Csrc: make([]uint32, 300), Payload: []byte{1}}, 12 + 1200 + 1},
		"an extension of 1":           {Packet{HasExt: true, Ext: make([]byte, 1)}, 12 + 4 + 1},
		"an extension of 2":           {Packet{HasExt: true, Ext: make([]byte, 2)}, 12 + 4 + 2},
		"an extension of 3":           {Packet{HasExt: true, Ext: make([]byte, 3)}, 12 + 4 + 3},
		"an extension of 5":           {Packet{HasExt: true, Ext: make([]byte, 5)}, 12 + 4 + 5},
		"an extension of 262139":      {Packet{HasExt: true, Ext: make([]byte, 262139)}, 12 + 4 + 262139},
		"an extension of 262144":      {Packet{HasExt: true, Ext: make([]byte, 262144)}, 12 + 4 + 262144},
		"an extension of 524284":      {Packet{HasExt: true, Ext: make([]byte, 524284)}, 12 + 4 + 524284},
		"a profile, no extension":     {Packet{Profile: 1, Payload: []byte{1, 2}}, 14},
		"bytes, no extension":         {Packet{Ext: make([]byte, 4)}, 12},
		"3 bytes, no extension":       {Packet{Ext: make([]byte, 3), Pad: 1}, 13},
		"both, no extension":          {Packet{Profile: 0xBEDE, Ext: make([]byte, 8)}, 12},
	} {
		b, e := Put(x.p)
		if Right(x.p) || e != api.ErrArg || len(b) != 0 || Size(x.p) != x.size {
			t.Errorf("%s: %v, %d, %d bytes, size %d", name, Right(x.p), e, len(b), Size(x.p))
		}
	}
}

func TestSame(t *testing.T) { // P2.1
	if !Same(full(), full()) || !Same(Packet{}, Packet{}) {
		t.Error("the same is another")
	}
	if !Same(Packet{}, Packet{Csrc: []uint32{}, Ext: []byte{}, Payload: []byte{}}) {
		t.Error("nil and empty lists mean the same")
	}
	for i, change := range []func(p *Packet){
		func(p *Packet) { p.Marker = false },
		func(p *Packet) { p.Type++ },
		func(p *Packet) { p.Type += 128 },
		func(p *Packet) { p.Seq++ },
		func(p *Packet) { p.Seq += 256 },
		func(p *Packet) { p.Time++ },
		func(p *Packet) { p.Time += 1 << 24 },
		func(p *Packet) { p.Ssrc++ },
		func(p *Packet) { p.Ssrc += 1 << 24 },
		func(p *Packet) { p.Csrc = nil },
		func(p *Packet) { p.Csrc[1]++ },
		func(p *Packet) { p.Csrc = p.Csrc[:1] },
		func(p *Packet) { p.Csrc[0], p.Csrc[1] = p.Csrc[1], p.Csrc[0] },
		func(p *Packet) { p.HasExt = false },
		func(p *Packet) { p.Profile++ },
		func(p *Packet) { p.Ext = nil },
		func(p *Packet) { p.Ext[3]++ },
		func(p *Packet) { p.Payload = nil },
		func(p *Packet) { p.Payload[0]++ },
		func(p *Packet) { p.Payload = append(p.Payload, 0) },
		func(p *Packet) { p.Pad = 0 },
		func(p *Packet) { p.Pad++ },
	} {
		p := full()
		change(&p)
		if Same(p, full()) || Same(full(), p) || !Same(p, p) {
			t.Errorf("change %d", i)
		}
	}
}

func TestParseExamples(t *testing.T) { // P2.2
	packets, written := examples(t)
	for i, b := range written {
		p, e := Parse(b)
		if e != api.OK || !Same(p, packets[i]) {
			t.Errorf("%d: %+v, %d", i, p, e)
		}
	}
}

// headed are bytes that begin with that one and 11 noughts.
func headed(t *testing.T, first byte, behind string) []byte {
	t.Helper()
	return append(append([]byte{first}, make([]byte, 11)...), unhex(t, behind)...)
}

func TestParseErrors(t *testing.T) { // P2.2
	noughts := func(n int) string { return strings.Repeat("00", n) }
	for _, x := range []struct {
		name string
		b    []byte
		want api.Errno
	}{
		{"nothing", nil, api.ErrShort},
		{"1 byte", []byte{0x80}, api.ErrShort},
		{"11 bytes", headed(t, 0x80, "")[:11], api.ErrShort},
		{"11 bytes of another version", headed(t, 0, "")[:11], api.ErrShort},
		{"12 noughts", headed(t, 0, ""), api.ErrVersion},
		{"version 1", headed(t, 0x40, "00"), api.ErrVersion},
		{"version 3", headed(t, 0xC0, "00"), api.ErrVersion},
		{"version 3, and nothing fits", headed(t, 0xFF, ""), api.ErrVersion},
		{"12 bytes", headed(t, 0x80, ""), api.OK},
		{"no contributor of 1", headed(t, 0x81, ""), api.ErrShort},
		{"a contributor of 3 bytes", headed(t, 0x81, "000000"), api.ErrShort},
		{"a contributor", headed(t, 0x81, "00000000"), api.OK},
		{"15 contributors, a byte too few", headed(t, 0x8F, noughts(59)), api.ErrShort},
		{"15 contributors", headed(t, 0x8F, noughts(60)), api.OK},
		{"no extension", headed(t, 0x90, ""), api.ErrShort},
		{"an extension of 3 bytes in all", headed(t, 0x90, "BEDE00"), api.ErrShort},
		{"an extension of 0 bytes", headed(t, 0x90, "BEDE0000"), api.OK},
		{"an extension of 4, a byte too few", headed(t, 0x90, "BEDE0001000000"), api.ErrShort},
		{"an extension of 4", headed(t, 0x90, "BEDE000100000000"), api.OK},
		{"an extension of 1024, a byte too few", headed(t, 0x90, "BEDE0100"+noughts(1023)), api.ErrShort},
		{"the longest extension, a byte too few", headed(t, 0x90, "BEDEFFFF"+noughts(262139)), api.ErrShort},
		{"the longest extension", headed(t, 0x90, "BEDEFFFF"+noughts(262140)), api.OK},
		{"no byte of padding", headed(t, 0xA0, ""), api.ErrPad},
		{"padding of 0", headed(t, 0xA0, "00"), api.ErrPad},
		{"padding of 0 behind a payload", headed(t, 0xA0, "010100"), api.ErrPad},
		{"padding of 1", headed(t, 0xA0, "01"), api.OK},
		{"padding of 2 in 1", headed(t, 0xA0, "02"), api.ErrPad},
		{"padding of 3 in 3", headed(t, 0xA0, "090903"), api.OK},
		{"padding of 4 in 3", headed(t, 0xA0, "090904"), api.ErrPad},
		{"padding of 255 in 255", headed(t, 0xA0, noughts(254)+"FF"), api.OK},
		{"padding of 255 in 254", headed(t, 0xA0, noughts(253)+"FF"), api.ErrPad},
		{"a contributor is no padding", headed(t, 0xA1, "00000001"), api.ErrPad},
		{"padding into contributors", headed(t, 0xA1, "0000000102"), api.ErrPad},
		{"an extension is no padding", headed(t, 0xB0, "BEDE000100000001"), api.ErrPad},
		{"padding into an extension", headed(t, 0xB0, "BEDE00010000000002"), api.ErrPad},
		{"contributors ahead of padding", headed(t, 0xA1, "000000"), api.ErrShort},
		{"an extension ahead of padding", headed(t, 0xB0, "BEDE0001000000"), api.ErrShort},
		{"contributors, and no extension", headed(t, 0x91, "00000000"), api.ErrShort},
		{"all of it", headed(t, 0xB1, "00000003BEDE0001010101010001"), api.OK},
	} {
		p, e := Parse(x.b)
		if e != x.want || e != api.OK && !nothing(p) {
			t.Errorf("%s: %d, %+v; want %d", x.name, e, p, x.want)
		}
	}
}

func TestParseWhateverThePaddingIs(t *testing.T) { // P2.2
	b := unhex(t, "A0 60 01 02 00 00 00 01 00 00 00 02 09 FF 01 00 80 05")
	p, e := Parse(b)
	if e != api.OK || !Same(p, Packet{Type: 96, Seq: 258, Time: 1, Ssrc: 2, Payload: []byte{9}, Pad: 5}) {
		t.Errorf("%+v, %d", p, e)
	}
}

func TestParseThatIsCut(t *testing.T) { // P2.2: bytes that end anywhere
	p := full()
	b, _ := Put(p)
	heads := fixed + 4*len(p.Csrc) + 4 + len(p.Ext)
	for n := range b {
		want := api.ErrShort
		if n >= heads { // 09 08 07 00 00, of which each tells too much, or 0
			want = api.ErrPad
		}
		if q, e := Parse(b[:n]); e != want || !nothing(q) {
			t.Errorf("%d bytes: %d, %+v", n, e, q)
		}
	}
	p.Pad = 0
	b, _ = Put(p)
	for n := heads; n <= len(b); n++ {
		q, e := Parse(b[:n])
		p.Payload = b[heads:n]
		if e != api.OK || !Same(p, q) {
			t.Errorf("%d bytes: %d, %+v", n, e, q)
		}
	}
}

func TestIsRtcp(t *testing.T) { // P2.3
	for second := range 256 {
		want := second >= 192 && second <= 223
		for _, b := range [][]byte{{0, byte(second)}, {200, byte(second)}, {0x80, byte(second), 0, 0}} {
			if IsRtcp(b) != want {
				t.Errorf("%x", b)
			}
		}
		if IsRtcp([]byte{byte(second)}) {
			t.Errorf("one byte %x", second)
		}
	}
	if IsRtcp(nil) || IsRtcp([]byte{}) {
		t.Error("nothing is no RTCP")
	}
}

// roomy is a full packet whose lists have memory behind their lengths.
func roomy() (p Packet, memory []byte, numbers []uint32) {
	memory = []byte{1, 2, 3, 4, 5, 6, 7, 8, 9, 10, 11, 12}
	numbers = []uint32{1, 2, 3, 4}
	return Packet{Csrc: numbers[:2], HasExt: true, Ext: memory[:4], Payload: memory[6:8], Pad: 4}, memory, numbers
}

func TestPutOnlyReads(t *testing.T) { // P2.4
	p, memory, numbers := roomy()
	b, _ := Put(p)
	Size(p)
	Right(p)
	Same(p, p)
	for i := range b[:cap(b)] {
		b[:cap(b)][i] = 0xFF
	}
	if _, was, were := roomy(); !bytes.Equal(memory, was) || !slices.Equal(numbers, were) {
		t.Errorf("%d, %d", memory, numbers)
	}
	if a, _ := Put(p); !bytes.Equal(a, plain(p)) {
		t.Errorf("%x", a)
	}
}

func TestParseOnlyReads(t *testing.T) { // P2.4
	b, _ := Put(full())
	memory := append(slices.Clone(b), 0xAA, 0xAA, 0xAA, 0xAA)
	was := slices.Clone(memory)
	p, _ := Parse(memory[:len(b)])
	q, _ := Parse(memory[:len(b)])
	IsRtcp(memory[:len(b)])
	spoil := func(b []byte) {
		for i := range b[:cap(b)] {
			b[:cap(b)][i] = 0xFF
		}
	}
	spoil(p.Ext)
	if !bytes.Equal(p.Payload, []byte{9, 8, 7}) {
		t.Errorf("Ext and Payload share memory: %x", p.Payload)
	}
	spoil(p.Payload)
	for i := range p.Csrc[:cap(p.Csrc)] {
		p.Csrc[:cap(p.Csrc)][i] = 0xFF
	}
	if !bytes.Equal(memory, was) || !Same(q, full()) {
		t.Errorf("%x, %+v", memory, q)
	}
	spoil(memory)
	if !Same(q, full()) {
		t.Errorf("what was parsed changes with the bytes: %+v", q)
	}
}

func TestWhatIsWrittenIsParsed(t *testing.T) { // P2.5
	rnd := rand.New(rand.NewSource(1))
	packets := slices.Collect(maps.Values(rightOnes()))
	for range 3000 {
		packets = append(packets, somePacket(rnd))
	}
	for _, p := range packets {
		b, e := Put(p)
		if e != api.OK || len(b) != Size(p) || !bytes.Equal(b, plain(p)) {
			t.Fatalf("%+v: %d, %d bytes, size %d", p, e, len(b), Size(p))
		}
		q, e := Parse(b)
		if e != api.OK || !Same(p, q) {
			t.Fatalf("%+v: %d, %+v", p, e, q)
		}
	}
}

func TestWhatIsParsedIsWritten(t *testing.T) { // P2.5
	rnd := rand.New(rand.NewSource(2))
	parsed := 0
	for range 20000 {
		b := someBytes(rnd, rnd.Intn(120))
		if len(b) > 0 {
			b[0] = b[0]&0x3F | 0x80
		}
		if len(b) > 12 && rnd.Intn(2) == 1 {
			b[len(b)-1] = byte(1 + rnd.Intn(4))
		}
		p, e := Parse(b)
		if e != api.OK {
			continue
		}
		parsed++
		if (b[0]&0x20 != 0) != (p.Pad > 0) {
			t.Fatalf("%x: padding of %d", b, p.Pad)
		}
		for i := 1; i < int(p.Pad); i++ {
			b[len(b)-1-i] = 0
		}
		c, e := Put(p)
		if !Right(p) || Size(p) != len(b) || e != api.OK || !bytes.Equal(b, c) {
			t.Fatalf("%x: %+v, %d, %x", b, p, e, c)
		}
	}
	if parsed < 1000 {
		t.Errorf("%d parsed: too few to tell", parsed)
	}
}

func FuzzParse(f *testing.F) { // P2.2, P2.5: no bytes panic
	b, _ := Put(full())
	f.Add(b)
	f.Fuzz(func(t *testing.T, b []byte) {
		p, e := Parse(b)
		if e != api.OK {
			if !nothing(p) {
				t.Errorf("%d, and %+v", e, p)
			}
			return
		}
		if c, e := Put(p); e != api.OK || len(c) != len(b) || Size(p) != len(b) {
			t.Errorf("%d, %d bytes of %d", e, len(c), len(b))
		}
	})
}
