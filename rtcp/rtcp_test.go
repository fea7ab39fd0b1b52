package rtcp

import (
	"bytes"
	"encoding/binary"
	"encoding/hex"
	"math/rand"
	"reflect"
	"slices"
	"strings"
	"testing"

	"easel/api"
)

// unhex tells the bytes that a text such as "80 C9" writes.
func unhex(t testing.TB, text string) []byte {
	t.Helper()
	b, err := hex.DecodeString(strings.ReplaceAll(text, " ", ""))
	if err != nil {
		t.Fatal(err)
	}
	return b
}

func someBytes(rnd *rand.Rand, n int) []byte {
	b := make([]byte, n)
	rnd.Read(b)
	return b
}

// plain writes packets as the chapter tells it, by other means than the program's.
func plain(l ...Packet) []byte {
	var b []byte
	for _, p := range l {
		b = append(b, 128+p.Count, p.Kind)
		if p.Pad != 0 {
			b[len(b)-2] += 32
		}
		b = binary.BigEndian.AppendUint16(b, uint16((len(p.Body)+int(p.Pad))/4))
		b = append(b, p.Body...)
		for i := 1; i <= int(p.Pad); i++ {
			if i < int(p.Pad) {
				b = append(b, 0)
			} else {
				b = append(b, p.Pad)
			}
		}
	}
	return b
}

func sameAll(a, b []Packet) bool { return slices.EqualFunc(a, b, Same) }

// spoil overwrites all memory of a list, that behind its length too.
func spoil(b []byte) {
	for i := range b[:cap(b)] {
		b[:cap(b)][i] = 0xFF
	}
}

// somePackets may be joined; edges come often.
func somePackets(rnd *rand.Rand) []Packet {
	var l []Packet
	for range 1 + rnd.Intn(4) {
		p := Packet{Count: uint8(rnd.Intn(32)), Kind: []uint8{SR, RR, SDES, BYE, uint8(rnd.Uint32())}[rnd.Intn(5)]}
		p.Body = someBytes(rnd, 4*[]int{0, 1, rnd.Intn(8), rnd.Intn(300)}[rnd.Intn(4)])
		l = append(l, p)
	}
	l[0].Kind = []uint8{SR, RR}[rnd.Intn(2)]
	l[len(l)-1].Pad = []uint8{0, 0, 4, 252, uint8(4 * rnd.Intn(64))}[rnd.Intn(5)]
	return l
}

func TestExamples(t *testing.T) { // P6.1, P6.2, P6.3
	p, e := Receiver{Ssrc: 1}.Put()
	q, f := PutChunks(Chunk{Ssrc: 2, Name: "ab"})
	if e != api.OK || f != api.OK {
		t.Fatal(e, f)
	}
	b, e := Join(p)
	if e != api.OK || !bytes.Equal(b, unhex(t, "80 C9 00 01 00 00 00 01")) {
		t.Errorf("%x, %d", b, e)
	}
	b, e = Join(p, q)
	if e != api.OK || !bytes.Equal(b, unhex(t, "80 C9 00 01 00 00 00 01 81 CA 00 03 00 00 00 02 01 02 61 62 00 00 00 00")) {
		t.Errorf("%x, %d", b, e)
	}
	for text, want := range map[string]api.Errno{"80 C8 00 05": api.ErrWords, "80 CA 00 00": api.ErrFirst, "40 C9 00 00": api.ErrVersion} {
		if l, e := Split(unhex(t, text)); len(l) != 0 || e != want {
			t.Errorf("%s: %+v, %d", text, l, e)
		}
	}
}

func TestRight(t *testing.T) { // P6.1
	for name, x := range map[string]struct {
		p    Packet
		want bool
	}{
		"nothing in it":                    {Packet{}, true},
		"an empty body":                    {Packet{Body: []byte{}}, true},
		"count 31":                         {Packet{Count: 31}, true},
		"count 32":                         {Packet{Count: 32}, false},
		"count 33":                         {Packet{Count: 33}, false},
		"count 255":                        {Packet{Count: 255}, false},
		"kind 255":                         {Packet{Kind: 255}, true},
		"a body of 1":                      {Packet{Body: make([]byte, 1)}, false},
		"a body of 2":                      {Packet{Body: make([]byte, 2)}, false},
		"a body of 3":                      {Packet{Body: make([]byte, 3)}, false},
		"a body of 4":                      {Packet{Body: make([]byte, 4)}, true},
		"a body of 5":                      {Packet{Body: make([]byte, 5)}, false},
		"a body of 65535 words":            {Packet{Body: make([]byte, 262140)}, true},
		"a body of 65536 words":            {Packet{Body: make([]byte, 262144)}, false},
		"a body of 131072 words":           {Packet{Body: make([]byte, 524288)}, false},
		"a body of 262139":                 {Packet{Body: make([]byte, 262139)}, false},
		"padding of 1":                     {Packet{Pad: 1}, false},
		"padding of 2":                     {Packet{Pad: 2}, false},
		"padding of 3":                     {Packet{Pad: 3}, false},
		"padding of 4":                     {Packet{Pad: 4}, true},
		"padding of 252":                   {Packet{Pad: 252}, true},
		"padding of 253":                   {Packet{Pad: 253}, false},
		"padding of 255":                   {Packet{Pad: 255}, false},
		"65534 words, padding of 1 word":   {Packet{Body: make([]byte, 262136), Pad: 4}, true},
		"65535 words, padding of 1 word":   {Packet{Body: make([]byte, 262140), Pad: 4}, false},
		"65472 words, padding of 63 words": {Packet{Body: make([]byte, 261888), Pad: 252}, true},
		"65473 words, padding of 63 words": {Packet{Body: make([]byte, 261892), Pad: 252}, false},
		"bytes that fit with the padding":  {Packet{Body: make([]byte, 2), Pad: 2}, false},
	} {
		p := x.p
		if Right(p) != x.want {
			t.Errorf("%s: %v", name, !x.want)
		}
		p.Kind = RR
		b, e := Join(p)
		if x.want && (e != api.OK || !bytes.Equal(b, plain(p))) || !x.want && (e != api.ErrArg || len(b) != 0) {
			t.Errorf("%s: %d bytes, %d", name, len(b), e)
		}
	}
}

func TestJoinErrors(t *testing.T) { // P6.1
	rr, sr, padded, wrong := Packet{Kind: RR}, Packet{Kind: SR}, Packet{Kind: RR, Pad: 4}, Packet{Kind: RR, Count: 32}
	for name, x := range map[string]struct {
		l    []Packet
		want api.Errno
	}{
		"none":                             {nil, api.ErrArg},
		"an empty list":                    {[]Packet{}, api.ErrArg},
		"an SR":                            {[]Packet{sr}, api.OK},
		"an RR":                            {[]Packet{rr}, api.OK},
		"kind 199":                         {[]Packet{{Kind: 199}}, api.ErrFirst},
		"an SDES":                          {[]Packet{{Kind: SDES}}, api.ErrFirst},
		"a BYE":                            {[]Packet{{Kind: BYE}}, api.ErrFirst},
		"kind 0":                           {[]Packet{{}}, api.ErrFirst},
		"an SDES ahead of an RR":           {[]Packet{{Kind: SDES}, rr}, api.ErrFirst},
		"an RR ahead of kind 0":            {[]Packet{rr, {}}, api.OK},
		"two RR, and a BYE":                {[]Packet{rr, rr, {Kind: BYE}}, api.OK},
		"the first is wrong":               {[]Packet{wrong, rr}, api.ErrArg},
		"the last is wrong":                {[]Packet{rr, wrong}, api.ErrArg},
		"one between is wrong":             {[]Packet{rr, wrong, rr}, api.ErrArg},
		"an SDES, and a wrong one":         {[]Packet{{Kind: SDES}, wrong}, api.ErrArg},
		"an SDES, and padding ahead":       {[]Packet{{Kind: SDES}, padded, rr}, api.ErrArg},
		"a wrong SDES":                     {[]Packet{{Kind: SDES, Count: 32}}, api.ErrArg},
		"the only one has padding":         {[]Packet{padded}, api.OK},
		"the last has padding":             {[]Packet{rr, padded}, api.OK},
		"the first has padding":            {[]Packet{padded, rr}, api.ErrArg},
		"one between has padding":          {[]Packet{rr, padded, rr}, api.ErrArg},
		"both have padding":                {[]Packet{padded, padded}, api.ErrArg},
		"the only one's padding is wrong":  {[]Packet{{Kind: RR, Pad: 5}}, api.ErrArg},
		"the last is too long":             {[]Packet{rr, {Body: make([]byte, 262144)}}, api.ErrArg},
		"the last is too long by padding":  {[]Packet{rr, {Body: make([]byte, 262140), Pad: 4}}, api.ErrArg},
		"the last is as long as it may be": {[]Packet{rr, {Body: make([]byte, 262136), Pad: 4}}, api.OK},
	} {
		b, e := Join(x.l...)
		if e != x.want || e != api.OK && len(b) != 0 || e == api.OK && !bytes.Equal(b, plain(x.l...)) {
			t.Errorf("%s: %d bytes, %d; want %d", name, len(b), e, x.want)
		}
	}
}

func TestSame(t *testing.T) { // P6.1
	full := func() Packet { return Packet{Count: 1, Kind: RR, Body: []byte{1, 2, 3, 4}, Pad: 8} }
	if !Same(full(), full()) || !Same(Packet{}, Packet{Body: []byte{}}) || !Same(Packet{Count: 99, Pad: 3}, Packet{Count: 99, Pad: 3}) {
		t.Error("the same is another")
	}
	for i, change := range []func(p *Packet){
		func(p *Packet) { p.Count = 2 },
		func(p *Packet) { p.Count += 32 },
		func(p *Packet) { p.Kind = SR },
		func(p *Packet) { p.Body = nil },
		func(p *Packet) { p.Body[3]++ },
		func(p *Packet) { p.Body = p.Body[:3] },
		func(p *Packet) { p.Body = append(p.Body, 0) },
		func(p *Packet) { p.Pad = 0 },
		func(p *Packet) { p.Pad = 12 },
	} {
		p := full()
		change(&p)
		if Same(p, full()) || Same(full(), p) || !Same(p, p) {
			t.Errorf("change %d", i)
		}
	}
}

func TestSplitErrors(t *testing.T) { // P6.2
	noughts := func(n int) string { return strings.Repeat("00", n) }
	const rr = "80C90000"
	for _, x := range []struct {
		name, text string
		want       api.Errno
	}{
		{"nothing", "", api.ErrShort},
		{"1 byte", "80", api.ErrShort},
		{"3 bytes", "80C900", api.ErrShort},
		{"3 bytes of another version", "000000", api.ErrShort},
		{"version 0", "00C90000", api.ErrVersion},
		{"version 1", "40C90000", api.ErrVersion},
		{"version 3", "C0C90000", api.ErrVersion},
		{"version 1, of another kind", "40CA0000", api.ErrVersion},
		{"version 3, and nothing fits", "FFFFFFFF", api.ErrVersion},
		{"an RR", rr, api.OK},
		{"an SR", "80C80000", api.OK},
		{"kind 199", "80C70000", api.ErrFirst},
		{"an SDES", "80CA0000", api.ErrFirst},
		{"a BYE", "80CB0000", api.ErrFirst},
		{"kind 0", "80000000", api.ErrFirst},
		{"an SDES, too short", "80CA0001", api.ErrFirst},
		{"an SDES, of bad padding", "A0CA0000", api.ErrFirst},
		{"1 word of none", "80C90001", api.ErrWords},
		{"1 word, a byte too few", "80C90001000000", api.ErrWords},
		{"1 word", "80C9000100000000", api.OK},
		{"256 words, a byte too few", "80C90100" + noughts(1023), api.ErrWords},
		{"256 words", "80C90100" + noughts(1024), api.OK},
		{"65535 words, a byte too few", "80C9FFFF" + noughts(262139), api.ErrWords},
		{"65535 words", "80C9FFFF" + noughts(262140), api.OK},
		{"words ahead of padding", "A0C90001000000", api.ErrWords},
		{"no byte of padding", "A0C90000", api.ErrPad},
		{"padding of 0", "A0C9000100000000", api.ErrPad},
		{"padding of 1", "A0C9000100000001", api.ErrPad},
		{"padding of 2", "A0C9000100000002", api.ErrPad},
		{"padding of 3", "A0C9000100000003", api.ErrPad},
		{"padding of 4", "A0C9000100000004", api.OK},
		{"padding of 5 in 8", "A0C900020000000000000005", api.ErrPad},
		{"padding of 8 in 4", "A0C9000100000008", api.ErrPad},
		{"padding of 8 in 8", "A0C900020000000000000008", api.OK},
		{"padding of 12 in 8", "A0C90002000000000000000C", api.ErrPad},
		{"padding of 252", "A0C9003F" + noughts(251) + "FC", api.OK},
		{"padding of 252 in 248", "A0C9003E" + noughts(247) + "FC", api.ErrPad},
		{"padding of 253", "A0C90040" + noughts(255) + "FD", api.ErrPad},
		{"padding of 255", "A0C90040" + noughts(255) + "FF", api.ErrPad},
		{"padding that is no nought", "A0C90001FFFFFF04", api.OK},
		{"padding ahead", "A0C9000100000004" + rr, api.ErrPad},
		{"padding ahead of a byte", "A0C900010000000400", api.ErrPad},
		{"padding ahead of bad bytes", "A0C9000100000004" + "00000000", api.ErrPad},
		{"the second's padding", rr + "A0CA000100000004", api.OK},
		{"the second's padding ahead", rr + "A0CA000100000004" + rr, api.ErrPad},
		{"the second's padding tells the first's bytes", "80C9000100000000" + "A0CA000100000008", api.ErrPad},
		{"the second is short", rr + "80CA00", api.ErrShort},
		{"a byte behind", rr + "80", api.ErrShort},
		{"the second's version", rr + "00CA0000", api.ErrVersion},
		{"the second's kind", rr + "80CA0000", api.OK},
		{"the second's kind is 0", rr + "80000000", api.OK},
		{"the second's words", rr + "80CA0001", api.ErrWords},
		{"the second's pad", rr + "A0CA0000", api.ErrPad},
		{"the third is short", rr + "80CA0000" + "8000", api.ErrShort},
		{"the third's version", rr + rr + "40C90000", api.ErrVersion},
		{"the first's words, the second's version", "80C90002" + "00CA0000", api.ErrWords},
		{"the first's kind, the second's version", "80CA0000" + "00CA0000", api.ErrFirst},
	} {
		b := unhex(t, x.text)
		l, e := Split(b)
		if e != x.want || e != api.OK && len(l) != 0 || e == api.OK && len(l) == 0 {
			t.Errorf("%s: %d packets, %d; want %d", x.name, len(l), e, x.want)
		}
	}
}

func TestSplitOfSome(t *testing.T) { // P6.2
	for text, want := range map[string][]Packet{
		"80C90000":                           {{Kind: RR}},
		"9FC8000101020304":                   {{Count: 31, Kind: SR, Body: []byte{1, 2, 3, 4}}},
		"80C9000180CA0000":                   {{Kind: RR, Body: []byte{0x80, 0xCA, 0, 0}}},
		"81C90000 82CB0000 83FF0000":         {{Count: 1, Kind: RR}, {Count: 2, Kind: BYE}, {Count: 3, Kind: 255}},
		"A5C9000201020304 09090904":          {{Count: 5, Kind: RR, Body: []byte{1, 2, 3, 4}, Pad: 4}},
		"A5C9000201020304 09090908":          {{Count: 5, Kind: RR, Pad: 8}},
		"80C80000 BF000003 0102030405060708": nil,
	} {
		l, e := Split(unhex(t, text))
		if want == nil && e != api.ErrWords || want != nil && e != api.OK || !sameAll(l, want) {
			t.Errorf("%s: %+v, %d", text, l, e)
		}
	}
	if l, e := Split(nil); len(l) != 0 || e != api.ErrShort {
		t.Errorf("%+v, %d", l, e)
	}
}

func TestSplitThatIsCut(t *testing.T) { // P6.2: bytes that end anywhere
	l := []Packet{{Kind: SR, Body: make([]byte, 8)}, {Kind: SDES}, {Kind: BYE, Count: 1, Body: []byte{1, 2, 3, 4}}}
	b, _ := Join(l...)
	ends := map[int]int{12: 1, 16: 2}
	for n := range b {
		got, e := Split(b[:n])
		switch start := []int{0, 12, 16}; {
		case ends[n] > 0:
			if e != api.OK || !sameAll(got, l[:ends[n]]) {
				t.Errorf("%d bytes: %+v, %d", n, got, e)
			}
		case slices.ContainsFunc(start, func(s int) bool { return n >= s && n < s+4 }):
			if e != api.ErrShort || len(got) != 0 {
				t.Errorf("%d bytes: %+v, %d", n, got, e)
			}
		default:
			if e != api.ErrWords || len(got) != 0 {
				t.Errorf("%d bytes: %+v, %d", n, got, e)
			}
		}
	}
}

func TestJoinOnlyReads(t *testing.T) { // P6.5
	memory := []byte{1, 2, 3, 4, 5, 6, 7, 8, 9, 10, 11, 12, 13, 14, 15, 16}
	was := slices.Clone(memory)
	l := []Packet{{Kind: RR, Body: memory[:4]}, {Kind: BYE, Body: memory[6:10], Pad: 4}, {Kind: 7}}
	before := slices.Clone(l)
	b, e := Join(l[:2]...)
	if e != api.OK || !bytes.Equal(b, plain(l[:2]...)) {
		t.Fatalf("%x, %d", b, e)
	}
	Right(l[1])
	Same(l[0], l[1])
	spoil(b)
	if !bytes.Equal(memory, was) || !reflect.DeepEqual(l, before) {
		t.Errorf("%d, %+v", memory, l)
	}
	if a, _ := Join(l[:2]...); !bytes.Equal(a, plain(l[:2]...)) {
		t.Errorf("%x", a)
	}
}

func TestSplitOnlyReads(t *testing.T) { // P6.5
	l := []Packet{{Kind: RR, Body: []byte{1, 2, 3, 4}}, {Kind: SDES, Body: []byte{5, 6, 7, 8}}, {Kind: BYE, Body: []byte{9, 9, 9, 9}, Pad: 8}}
	b, _ := Join(l...)
	memory := append(slices.Clone(b), 0xAA, 0xAA, 0xAA, 0xAA)
	was := slices.Clone(memory)
	p, e := Split(memory[:len(b)])
	q, f := Split(memory[:len(b)])
	if e != api.OK || f != api.OK || !sameAll(p, l) || !bytes.Equal(memory, was) {
		t.Fatalf("%+v, %d, %d, %x", p, e, f, memory)
	}
	for i := range p {
		spoil(p[i].Body)
		if !sameAll(p[i+1:], l[i+1:]) {
			t.Errorf("bodies share memory: %+v", p)
		}
	}
	if !bytes.Equal(memory, was) || !sameAll(q, l) {
		t.Errorf("%x, %+v", memory, q)
	}
	spoil(memory)
	if !sameAll(q, l) {
		t.Errorf("what was split changes with the bytes: %+v", q)
	}
}

func TestWhatIsJoinedIsSplit(t *testing.T) { // P6.6
	rnd := rand.New(rand.NewSource(1))
	for range 3000 {
		l := somePackets(rnd)
		b, e := Join(l...)
		if e != api.OK || !bytes.Equal(b, plain(l...)) {
			t.Fatalf("%+v: %d, %x", l, e, b)
		}
		got, e := Split(b)
		if e != api.OK || !sameAll(got, l) {
			t.Fatalf("%+v: %d, %+v", l, e, got)
		}
		end := len(b) - 1
		for i := 1; i < int(l[len(l)-1].Pad); i++ { // padding may be anything
			b[end-i] = byte(rnd.Uint32())
		}
		got, e = Split(b)
		if e != api.OK || !sameAll(got, l) {
			t.Fatalf("%+v: %d, %+v", l, e, got)
		}
	}
}

func TestWhatIsSplitIsJoined(t *testing.T) { // P6.6
	rnd := rand.New(rand.NewSource(2))
	done := map[api.Errno]int{}
	for range 60000 {
		b := someBytes(rnd, rnd.Intn(40))
		for at := 0; at+4 <= len(b); at += 4 + 4*int(b[at+3]) {
			b[at] = b[at]&0x1F | []byte{0x80, 0x80, 0x80, 0x80, 0x80, 0xA0, 0x40}[rnd.Intn(7)]
			b[at+1] = []byte{SR, RR, RR, b[at+1]}[rnd.Intn(4)]
			b[at+2], b[at+3] = 0, byte(rnd.Intn(5))
			if rnd.Intn(3) == 0 {
				b[at+3] = byte((len(b) - at - 4) / 4)
			}
		}
		if len(b) > 0 && rnd.Intn(2) == 1 {
			b[len(b)-1] = byte(4 * rnd.Intn(4))
		}
		l, e := Split(b)
		done[e]++
		if e != api.OK {
			if len(l) != 0 {
				t.Fatalf("%x: %+v, %d", b, l, e)
			}
			continue
		}
		for i := 1; i < int(l[len(l)-1].Pad); i++ {
			b[len(b)-1-i] = 0
		}
		c, e := Join(l...)
		if e != api.OK || !bytes.Equal(b, c) {
			t.Fatalf("%x: %+v, %d, %x", b, l, e, c)
		}
	}
	for _, e := range []api.Errno{api.OK, api.ErrShort, api.ErrVersion, api.ErrFirst, api.ErrWords, api.ErrPad} {
		if done[e] < 500 {
			t.Errorf("%d of %d: too few to tell", done[e], e)
		}
	}
}

func FuzzSplit(f *testing.F) { // P6.2, P6.4, P6.6: no bytes panic
	f.Add(plain(Packet{Kind: SR, Count: 1, Body: make([]byte, 48)}, Packet{Kind: SDES, Count: 1, Body: make([]byte, 8), Pad: 4}))
	f.Fuzz(func(t *testing.T, b []byte) {
		l, e := Split(b)
		if e != api.OK {
			if len(l) != 0 {
				t.Errorf("%d, and %+v", e, l)
			}
			return
		}
		c, e := Join(l...)
		if e != api.OK || len(c) != len(b) {
			t.Errorf("%d, %d bytes of %d", e, len(c), len(b))
		}
		for _, p := range l {
			OfSender(p)
			OfReceiver(p)
			OfChunks(p)
			OfBye(p)
		}
	})
}
