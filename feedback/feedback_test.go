package feedback

import (
	"bytes"
	"encoding/binary"
	"encoding/hex"
	"math/rand"
	"reflect"
	"slices"
	"strings"
	"testing"

	"easel/api"
	"easel/rtcp"
)

// unhex tells the bytes that a text such as "80 C9" writes.
func unhex(t testing.TB, text string) []byte {
	t.Helper()
	b, err := hex.DecodeString(strings.ReplaceAll(text, " ", ""))
	if err != nil {
		t.Fatal(err)
	}
	return b
}

func someBytes(rnd *rand.Rand, n int) []byte {
	b := make([]byte, n)
	rnd.Read(b)
	return b
}

// some makes a list of n things.
func some[T any](n int, one func() T) (l []T) {
	for range n {
		l = append(l, one())
	}
	return l
}

// someMessage is a right one; edges come often.
func someMessage(rnd *rand.Rand) Message {
	m := Message{Sort: uint8(1 + rnd.Intn(4)), Sender: rnd.Uint32(), Media: rnd.Uint32()}
	n := []int{1, 2, 1 + rnd.Intn(9), 1 + rnd.Intn(60)}[rnd.Intn(4)]
	switch m.Sort {
	case Nack:
		m.Pairs = some(n, func() Pair { return Pair{uint16(rnd.Uint32()), uint16(rnd.Uint32())} })
	case Fir:
		m.Orders = some(n, func() Order { return Order{rnd.Uint32(), uint8(rnd.Uint32())} })
	case Remb:
		m.Exp = []uint8{0, 63, uint8(rnd.Intn(64))}[rnd.Intn(3)]
		m.Mantissa = []uint32{0, 1<<18 - 1, uint32(rnd.Intn(1 << 18))}[rnd.Intn(3)]
		m.Sources = some([]int{0, 255, n}[rnd.Intn(3)], rnd.Uint32)
	}
	return m
}

// kindAndCount are those of the chapter's table.
func kindAndCount(sort uint8) (kind, count uint8) {
	switch sort {
	case Nack:
		return 205, 1
	case Pli:
		return 206, 1
	case Fir:
		return 206, 4
	}
	return 206, 15
}

// plain tells a right message's packet, by other means than the program's.
func plain(m Message) rtcp.Packet {
	p := rtcp.Packet{}
	p.Kind, p.Count = kindAndCount(m.Sort)
	b := binary.BigEndian.AppendUint32(nil, m.Sender)
	b = binary.BigEndian.AppendUint32(b, m.Media)
	for _, x := range m.Pairs {
		b = append(b, byte(x.Pid/256), byte(x.Pid%256), byte(x.Blp/256), byte(x.Blp%256))
	}
	for _, x := range m.Orders {
		b = append(binary.BigEndian.AppendUint32(b, x.Ssrc), x.No, 0, 0, 0)
	}
	if m.Sort == Remb {
		b = append(b, "REMB"...)
		b = append(b, byte(len(m.Sources)), m.Exp*4+byte(m.Mantissa/65536), byte(m.Mantissa/256%256), byte(m.Mantissa%256))
	}
	for _, x := range m.Sources {
		b = binary.BigEndian.AppendUint32(b, x)
	}
	p.Body = b
	return p
}

// plainParse reads a body of so few words that a packet may have them, by other means than the program's.
func plainParse(sort uint8, b []byte) (m Message, ok bool) {
	word := func(i int) uint32 { return binary.BigEndian.Uint32(b[4*i:]) }
	words := len(b) / 4
	if len(b)%4 != 0 || words < 2 {
		return Message{}, false
	}
	m = Message{Sort: sort, Sender: word(0), Media: word(1)}
	switch sort {
	case Nack:
		for i := 2; i < words; i++ {
			m.Pairs = append(m.Pairs, Pair{uint16(word(i) / 65536), uint16(word(i) % 65536)})
		}
		ok = words > 2
	case Pli:
		ok = words == 2
	case Fir:
		for i := 2; i+1 < words; i += 2 {
			m.Orders = append(m.Orders, Order{word(i), b[4*i+4]})
		}
		ok = words > 2 && words%2 == 0
	case Remb:
		if words < 4 || string(b[8:12]) != "REMB" || words != 4+int(b[12]) {
			return Message{}, false
		}
		m.Exp, m.Mantissa = b[13]/4, word(3)%(1<<18)
		for i := 4; i < words; i++ {
			m.Sources = append(m.Sources, word(i))
		}
		ok = true
	}
	if !ok {
		return Message{}, false
	}
	return m, true
}

func nothing(v any) bool { return reflect.ValueOf(v).IsZero() }

// spoil overwrites all memory of a list, that behind its length too.
func spoil[T any](l []T, x T) {
	for i := range l[:cap(l)] {
		l[:cap(l)][i] = x
	}
}

func spoilMessage(m Message) {
	spoil(m.Pairs, Pair{0xFFFF, 0xFFFF})
	spoil(m.Orders, Order{0xFFFFFFFF, 0xFF})
	spoil(m.Sources, 0xFFFFFFFF)
}

func cloned(m Message) Message {
	m.Pairs, m.Orders, m.Sources = slices.Clone(m.Pairs), slices.Clone(m.Orders), slices.Clone(m.Sources)
	return m
}

func TestPutExamples(t *testing.T) { // P7.1, P7.2
	for name, x := range map[string]struct {
		m           Message
		kind, count uint8
		body        string
	}{
		"a Pli":            {Message{Sort: Pli, Sender: 1, Media: 2}, 206, 1, "00000001 00000002"},
		"a Nack":           {Message{Sort: Nack, Sender: 1, Media: 0x0A0B0C0D, Pairs: []Pair{{10, 0x8001}}}, 205, 1, "00000001 0A0B0C0D 000A8001"},
		"a Nack of two":    {Message{Sort: Nack, Pairs: []Pair{{0xFFFE, 1}, {0, 0xFFFF}}}, 205, 1, "00000000 00000000 FFFE0001 0000FFFF"},
		"a Fir":            {Message{Sort: Fir, Sender: 0xFFFFFFFF, Orders: []Order{{0x01020304, 9}}}, 206, 4, "FFFFFFFF 00000000 01020304 09000000"},
		"a Fir of two":     {Message{Sort: Fir, Media: 7, Orders: []Order{{1, 255}, {2, 0}}}, 206, 4, "00000000 00000007 00000001 FF000000 00000002 00000000"},
		"a Remb":           {Message{Sort: Remb, Sender: 3, Exp: 1, Mantissa: 1 << 17, Sources: []uint32{5, 6}}, 206, 15, "00000003 00000000 52454D42 02060000 00000005 00000006"},
		"a Remb of no one": {Message{Sort: Remb, Sender: 3, Media: 4, Exp: 63, Mantissa: 1}, 206, 15, "00000003 00000004 52454D42 00FC0001"},
		"a full Remb":      {Message{Sort: Remb, Exp: 63, Mantissa: 1<<18 - 1}, 206, 15, "00000000 00000000 52454D42 00FFFFFF"},
	} {
		want := rtcp.Packet{Kind: x.kind, Count: x.count, Body: unhex(t, x.body)}
		if p, e := Put(x.m); e != api.OK || !rtcp.Same(p, want) || !Right(x.m) {
			t.Errorf("%s: %+v, %d", name, p, e)
		}
		if m, e := Parse(want); e != api.OK || !Same(m, x.m) || !Is(want) {
			t.Errorf("%s, parsed: %+v, %d", name, m, e)
		}
	}
}

func TestRight(t *testing.T) { // P7.1: at each bound, one past it, and what the sort does not name
	pair, order := make([]Pair, 1), make([]Order, 1)
	for name, x := range map[string]struct {
		m    Message
		want bool
	}{
		"nothing in it":               {Message{}, false},
		"sort 0, with a pair":         {Message{Pairs: pair}, false},
		"sort 5":                      {Message{Sort: 5}, false},
		"sort 5, with a pair":         {Message{Sort: 5, Pairs: pair}, false},
		"sort 255":                    {Message{Sort: 255}, false},
		"a Nack of none":              {Message{Sort: Nack}, false},
		"a Nack of an empty list":     {Message{Sort: Nack, Pairs: []Pair{}}, false},
		"a Nack of one":               {Message{Sort: Nack, Pairs: pair}, true},
		"a Nack of 65533":             {Message{Sort: Nack, Pairs: make([]Pair, 65533)}, true},
		"a Nack of 65534":             {Message{Sort: Nack, Pairs: make([]Pair, 65534)}, false},
		"a Nack of 131069":            {Message{Sort: Nack, Pairs: make([]Pair, 131069)}, false},
		"a Nack with an order":        {Message{Sort: Nack, Pairs: pair, Orders: order}, false},
		"a Nack with an Exp":          {Message{Sort: Nack, Pairs: pair, Exp: 1}, false},
		"a Nack with a Mantissa":      {Message{Sort: Nack, Pairs: pair, Mantissa: 1}, false},
		"a Nack with a source":        {Message{Sort: Nack, Pairs: pair, Sources: []uint32{0}}, false},
		"a Nack with empty lists":     {Message{Sort: Nack, Pairs: pair, Orders: []Order{}, Sources: []uint32{}}, true},
		"a Nack with orders alone":    {Message{Sort: Nack, Orders: order}, false},
		"a Pli":                       {Message{Sort: Pli}, true},
		"a Pli of two":                {Message{Sort: Pli, Sender: 0xFFFFFFFF, Media: 0xFFFFFFFF}, true},
		"a Pli with empty lists":      {Message{Sort: Pli, Pairs: []Pair{}, Orders: []Order{}, Sources: []uint32{}}, true},
		"a Pli with a pair":           {Message{Sort: Pli, Pairs: pair}, false},
		"a Pli with an order":         {Message{Sort: Pli, Orders: order}, false},
		"a Pli with an Exp":           {Message{Sort: Pli, Exp: 1}, false},
		"a Pli with a Mantissa":       {Message{Sort: Pli, Mantissa: 1}, false},
		"a Pli with a source":         {Message{Sort: Pli, Sources: []uint32{0}}, false},
		"a Fir of none":               {Message{Sort: Fir}, false},
		"a Fir of an empty list":      {Message{Sort: Fir, Orders: []Order{}}, false},
		"a Fir of one":                {Message{Sort: Fir, Orders: order}, true},
		"a Fir of 32766":              {Message{Sort: Fir, Orders: make([]Order, 32766)}, true},
		"a Fir of 32767":              {Message{Sort: Fir, Orders: make([]Order, 32767)}, false},
		"a Fir of 65533":              {Message{Sort: Fir, Orders: make([]Order, 65533)}, false},
		"a Fir with a pair":           {Message{Sort: Fir, Orders: order, Pairs: pair}, false},
		"a Fir with an Exp":           {Message{Sort: Fir, Orders: order, Exp: 1}, false},
		"a Fir with a Mantissa":       {Message{Sort: Fir, Orders: order, Mantissa: 1}, false},
		"a Fir with a source":         {Message{Sort: Fir, Orders: order, Sources: []uint32{0}}, false},
		"a Fir with pairs alone":      {Message{Sort: Fir, Pairs: pair}, false},
		"a Remb":                      {Message{Sort: Remb}, true},
		"a Remb of Exp 63":            {Message{Sort: Remb, Exp: 63}, true},
		"a Remb of Exp 64":            {Message{Sort: Remb, Exp: 64}, false},
		"a Remb of Exp 255":           {Message{Sort: Remb, Exp: 255}, false},
		"a Remb of Mantissa 2^18 - 1": {Message{Sort: Remb, Mantissa: 1<<18 - 1}, true},
		"a Remb of Mantissa 2^18":     {Message{Sort: Remb, Mantissa: 1 << 18}, false},
		"a Remb of Mantissa 2^31":     {Message{Sort: Remb, Mantissa: 1 << 31}, false},
		"a Remb of Mantissa 2^32 - 1": {Message{Sort: Remb, Mantissa: 1<<32 - 1}, false},
		"a Remb of 255":               {Message{Sort: Remb, Sources: make([]uint32, 255)}, true},
		"a Remb of 256":               {Message{Sort: Remb, Sources: make([]uint32, 256)}, false},
		"a Remb of 512":               {Message{Sort: Remb, Sources: make([]uint32, 512)}, false},
		"a Remb with a pair":          {Message{Sort: Remb, Pairs: pair}, false},
		"a Remb with an order":        {Message{Sort: Remb, Orders: order}, false},
	} {
		if Right(x.m) != x.want {
			t.Errorf("%s: %v", name, !x.want)
		}
		p, e := Put(x.m)
		if x.want && (e != api.OK || !rtcp.Same(p, plain(x.m)) || !rtcp.Right(p)) {
			t.Errorf("%s: kind %d, count %d, %d bytes, %d", name, p.Kind, p.Count, len(p.Body), e)
		}
		if !x.want && (e != api.ErrArg || !nothing(p)) {
			t.Errorf("%s: %d bytes, %d", name, len(p.Body), e)
		}
	}
}

func TestSame(t *testing.T) { // P7.1
	full := func() Message { // no part is left out, whether it is right or not
		return Message{7, 1, 2, []Pair{{3, 4}, {5, 6}}, []Order{{7, 8}, {9, 10}}, 11, 12, []uint32{13, 14}}
	}
	if !Same(full(), full()) || !Same(Message{}, Message{Pairs: []Pair{}, Orders: []Order{}, Sources: []uint32{}}) {
		t.Error("the same is another")
	}
	for i, change := range []func(m *Message){
		func(m *Message) { m.Sort++ },
		func(m *Message) { m.Sender++ },
		func(m *Message) { m.Media++ },
		func(m *Message) { m.Sender, m.Media = m.Media, m.Sender },
		func(m *Message) { m.Exp++ },
		func(m *Message) { m.Mantissa++ },
		func(m *Message) { m.Pairs[1].Pid++ },
		func(m *Message) { m.Pairs[0].Blp++ },
		func(m *Message) { m.Pairs = m.Pairs[:1] },
		func(m *Message) { m.Pairs = append(m.Pairs, Pair{}) },
		func(m *Message) { m.Pairs = nil },
		func(m *Message) { slices.Reverse(m.Pairs) },
		func(m *Message) { m.Orders[1].Ssrc++ },
		func(m *Message) { m.Orders[0].No++ },
		func(m *Message) { m.Orders = m.Orders[:1] },
		func(m *Message) { m.Orders = append(m.Orders, Order{}) },
		func(m *Message) { m.Orders = nil },
		func(m *Message) { slices.Reverse(m.Orders) },
		func(m *Message) { m.Sources[1]++ },
		func(m *Message) { m.Sources = m.Sources[:1] },
		func(m *Message) { m.Sources = append(m.Sources, 0) },
		func(m *Message) { m.Sources = nil },
		func(m *Message) { slices.Reverse(m.Sources) },
	} {
		m := full()
		change(&m)
		if Same(m, full()) || Same(full(), m) || !Same(m, m) {
			t.Errorf("change %d", i)
		}
	}
}

func TestIs(t *testing.T) { // P7.2: of all kinds and counts, and whatever the body is
	for kind := range 256 {
		for count := range 256 {
			want := kind == 205 && count == 1 || kind == 206 && (count == 1 || count == 4 || count == 15)
			p := rtcp.Packet{Kind: uint8(kind), Count: uint8(count)}
			if Is(p) != want {
				t.Errorf("%d, %d: %v", kind, count, !want)
			}
			wanted := api.ErrKind
			if want {
				wanted = api.ErrItem
			}
			if m, e := Parse(p); e != wanted || !nothing(m) {
				t.Errorf("%d, %d: %+v, %d; want %d", kind, count, m, e, wanted)
			}
			p.Body, p.Pad = []byte{1, 2, 3, 4, 5, 6, 7, 8, 9}, 3
			if Is(p) != want {
				t.Errorf("%d, %d, of some body: %v", kind, count, !want)
			}
		}
	}
}

func TestParse(t *testing.T) { // P7.2
	const both, remb = "00000001 00000002", "00000001 00000002 52454D42"
	message := func(sort uint8) Message { return Message{Sort: sort, Sender: 1, Media: 2} }
	nack, fir, rate := message(Nack), message(Fir), message(Remb)
	nack.Pairs = []Pair{{3, 4}}
	fir.Orders = []Order{{3, 4}}
	rate.Exp, rate.Mantissa, rate.Sources = 2, 0x20003, []uint32{7}
	for _, x := range []struct {
		name, text string
		sort       uint8
		want       Message
		e          api.Errno
	}{
		{"a Nack", both + "00030004", Nack, nack, api.OK},
		{"a Nack of none", both, Nack, Message{}, api.ErrItem},
		{"a Nack of a Pid", both + "0003", Nack, Message{}, api.ErrItem},
		{"a Nack, a byte is missing", both + "000300", Nack, Message{}, api.ErrItem},
		{"a Nack, a byte behind", both + "0003000400", Nack, Message{}, api.ErrItem},
		{"a Nack, a pair's half behind", both + "000300040000", Nack, Message{}, api.ErrItem},
		{"a Pli", both, Pli, message(Pli), api.OK},
		{"a Pli of nothing", "", Pli, Message{}, api.ErrItem},
		{"a Pli of 1 byte", "00", Pli, Message{}, api.ErrItem},
		{"a Pli of 4 bytes", "00000001", Pli, Message{}, api.ErrItem},
		{"a Pli of 7 bytes", "00000001000000", Pli, Message{}, api.ErrItem},
		{"a Pli of 9 bytes", both + "00", Pli, Message{}, api.ErrItem},
		{"a Pli of 12 bytes", both + "00000000", Pli, Message{}, api.ErrItem},
		{"a Fir", both + "00000003 04000000", Fir, fir, api.OK},
		{"a Fir, of any 3 bytes", both + "00000003 04FFFEFD", Fir, fir, api.OK},
		{"a Fir of none", both, Fir, Message{}, api.ErrItem},
		{"a Fir of a source", both + "00000003", Fir, Message{}, api.ErrItem},
		{"a Fir of a number", both + "00000003 04", Fir, Message{}, api.ErrItem},
		{"a Fir, a byte is missing", both + "00000003 040000", Fir, Message{}, api.ErrItem},
		{"a Fir, a byte behind", both + "00000003 04000000 00", Fir, Message{}, api.ErrItem},
		{"a Fir, a word behind", both + "00000003 04000000 00000003", Fir, Message{}, api.ErrItem},
		{"a Remb", remb + "010A0003 00000007", Remb, rate, api.OK},
		{"a Remb of no rate", remb, Remb, Message{}, api.ErrItem},
		{"a Remb of a part of it", remb + "010A00", Remb, Message{}, api.ErrItem},
		{"a Remb of nothing more", both, Remb, Message{}, api.ErrItem},
		{"a Remb of a part of its name", both + "52454D", Remb, Message{}, api.ErrItem},
		{"a Remb, a source is missing", remb + "010A0003", Remb, Message{}, api.ErrItem},
		{"a Remb, a byte is missing", remb + "010A0003 000000", Remb, Message{}, api.ErrItem},
		{"a Remb, a byte behind", remb + "010A0003 00000007 00", Remb, Message{}, api.ErrItem},
		{"a Remb, a source behind", remb + "010A0003 00000007 00000008", Remb, Message{}, api.ErrItem},
		{"a Remb, a source of none", remb + "000A0003 00000007", Remb, Message{}, api.ErrItem},
		{"a Remb, of 255 told", remb + "FF0A0003 00000007", Remb, Message{}, api.ErrItem},
		{"a Remb, another's 1st byte", both + "53454D42 010A0003 00000007", Remb, Message{}, api.ErrItem},
		{"a Remb, another's 4th byte", both + "52454D43 010A0003 00000007", Remb, Message{}, api.ErrItem},
		{"a Remb, of small letters", both + "72656D62 010A0003 00000007", Remb, Message{}, api.ErrItem},
		{"a Remb, of 7 bytes", "00000001000000", Remb, Message{}, api.ErrItem},
	} {
		p := rtcp.Packet{Body: unhex(t, x.text)}
		p.Kind, p.Count = kindAndCount(x.sort)
		for _, pad := range []uint8{0, 4, 3} { // padding is left out, whatever it is
			p.Pad = pad
			if m, e := Parse(p); e != x.e || !Same(m, x.want) || e != api.OK && !nothing(m) {
				t.Errorf("%s: %+v, %d; want %+v, %d", x.name, m, e, x.want, x.e)
			}
		}
	}
}

func TestParseFullBodies(t *testing.T) { // P7.2, P7.6: what is parsed is right, so bytes past a packet's words are left over
	for _, x := range []struct {
		name  string
		sort  uint8
		words int
		e     api.Errno
	}{
		{"a Nack of 65533", Nack, 65535, api.OK},
		{"a Nack of 65534", Nack, 65536, api.ErrItem},
		{"a Fir of 32766", Fir, 65534, api.OK},
		{"a Fir of 32766, and a word", Fir, 65535, api.ErrItem},
		{"a Fir of 32767", Fir, 65536, api.ErrItem},
	} {
		p := rtcp.Packet{Body: make([]byte, 4*x.words)}
		p.Kind, p.Count = kindAndCount(x.sort)
		m, e := Parse(p)
		if e != x.e || e != api.OK && !nothing(m) || e == api.OK && !Right(m) {
			t.Errorf("%s: %d pairs, %d orders, %d", x.name, len(m.Pairs), len(m.Orders), e)
		}
		if q, f := Put(m); e == api.OK && (f != api.OK || !rtcp.Same(p, q)) {
			t.Errorf("%s: put anew, %d bytes, %d", x.name, len(q.Body), f)
		}
	}
	for n := range 256 {
		b := append(unhex(t, "00000001 00000002 52454D42"), byte(n), 0, 0, 0)
		for behind := -1; behind <= 1; behind++ {
			p := rtcp.Packet{Kind: 206, Count: 15, Body: append(slices.Clone(b), make([]byte, max(0, 4*(n+behind)))...)}
			m, e := Parse(p)
			if ok := len(p.Body) == 16+4*n; ok != (e == api.OK) || ok && len(m.Sources) != n || !ok && (e != api.ErrItem || !nothing(m)) {
				t.Errorf("%d sources, and %d: %d, %d", n, behind, len(m.Sources), e)
			}
		}
	}
}

func TestParseAnything(t *testing.T) { // P7.2, P7.6
	rnd := rand.New(rand.NewSource(1))
	told := map[uint8]int{}
	for range 200000 {
		sort := uint8(1 + rnd.Intn(4))
		b := someBytes(rnd, rnd.Intn(40))
		if sort == Remb && rnd.Intn(8) > 0 && len(b) > 12 {
			copy(b[8:], "REMB")
			b[12] = byte(rnd.Intn(7))
		}
		if rnd.Intn(3) > 0 {
			b = b[:len(b)/4*4]
		}
		p := rtcp.Packet{Body: b}
		p.Kind, p.Count = kindAndCount(sort)
		want, ok := plainParse(sort, b)
		m, e := Parse(p)
		if !Same(m, want) || ok != (e == api.OK) || !ok && (e != api.ErrItem || !nothing(m)) {
			t.Fatalf("%+v: %+v, %d; want %+v, %v", p, m, e, want, ok)
		}
		if !ok {
			continue
		}
		told[sort]++
		if sort == Fir {
			for i := 12; i < len(b); i += 8 {
				b[i+1], b[i+2], b[i+3] = 0, 0, 0
			}
		}
		if q, e := Put(m); !Right(m) || e != api.OK || !rtcp.Same(q, p) {
			t.Fatalf("%+v, put anew: %+v, %d", m, q, e)
		}
	}
	for sort := Nack; sort <= Remb; sort++ {
		if told[sort] < 1000 {
			t.Errorf("%d told of sort %d: too few to tell", told[sort], sort)
		}
	}
}

func TestWhatIsPutIsParsed(t *testing.T) { // P7.1, P7.6
	rnd := rand.New(rand.NewSource(2))
	for range 20000 {
		m := someMessage(rnd)
		p, e := Put(m)
		if e != api.OK || !rtcp.Same(p, plain(m)) || !Right(m) || !Is(p) || !rtcp.Right(p) {
			t.Fatalf("%+v: %+v, %d", m, p, e)
		}
		p.Pad = uint8(4 * rnd.Intn(64))
		if got, e := Parse(p); e != api.OK || !Same(got, m) {
			t.Fatalf("%+v, parsed: %+v, %d", m, got, e)
		}
	}
}

func TestMessagesInACompound(t *testing.T) { // P7.6: what is put goes through a compound's bytes as it was
	rnd := rand.New(rand.NewSource(3))
	for range 2000 {
		m := someMessage(rnd)
		p, e := Put(m)
		b, f := rtcp.Join(rtcp.Packet{Kind: rtcp.RR, Body: make([]byte, 4)}, p)
		if e != api.OK || f != api.OK {
			t.Fatal(e, f)
		}
		l, e := rtcp.Split(b)
		if e != api.OK || len(l) != 2 {
			t.Fatalf("%+v, %d", l, e)
		}
		if got, e := Parse(l[1]); e != api.OK || !Same(got, m) || Is(l[0]) {
			t.Fatalf("%+v: %+v, %d", m, got, e)
		}
	}
}

func TestPutAndParseOnlyRead(t *testing.T) { // P7.5
	rnd := rand.New(rand.NewSource(4))
	for range 2000 {
		m := someMessage(rnd)
		was, want := cloned(m), plain(m)
		m.Pairs, m.Orders, m.Sources = append(m.Pairs, Pair{8, 9}), append(m.Orders, Order{8, 9}), append(m.Sources, 8)
		handed := m
		handed.Pairs, handed.Orders, handed.Sources = m.Pairs[:len(was.Pairs)], m.Orders[:len(was.Orders)], m.Sources[:len(was.Sources)]
		for range 2 { // a second time, when the first one's answer is spoilt
			p, e := Put(handed)
			if e != api.OK || !rtcp.Same(p, want) || !Same(handed, was) {
				t.Fatalf("%+v: %+v, %d", was, p, e)
			}
			spoil(p.Body, 0xFF)
		}
		if m.Pairs[len(was.Pairs)] != (Pair{8, 9}) || m.Orders[len(was.Orders)] != (Order{8, 9}) || m.Sources[len(was.Sources)] != 8 {
			t.Fatalf("what lies behind: %+v", m)
		}
		memory := append(slices.Clone(want.Body), 1, 2, 3, 4)
		p := rtcp.Packet{Count: want.Count, Kind: want.Kind, Body: memory[:len(want.Body)]}
		first, _ := Parse(p)
		second, _ := Parse(p)
		if !bytes.Equal(memory, append(slices.Clone(want.Body), 1, 2, 3, 4)) {
			t.Fatalf("%x", memory)
		}
		spoilMessage(first)
		spoil(memory, 0xFF)
		if !Same(second, was) {
			t.Fatalf("%+v, and not %+v: what was told changes with the bytes, or with another answer", second, was)
		}
	}
}

func FuzzParse(f *testing.F) { // P7.2, P7.6: no packet panics, and what is parsed is right, and put as it was
	f.Add(uint8(1), uint8(205), uint8(0), []byte{0, 0, 0, 1, 0, 0, 0, 2, 0, 3, 0, 4})
	f.Add(uint8(1), uint8(206), uint8(4), []byte{0, 0, 0, 1, 0, 0, 0, 2})
	f.Add(uint8(4), uint8(206), uint8(1), []byte{0, 0, 0, 1, 0, 0, 0, 2, 0, 0, 0, 3, 4, 0, 0, 0})
	f.Add(uint8(15), uint8(206), uint8(0), []byte("\x00\x00\x00\x01\x00\x00\x00\x02REMB\x01\x0A\x00\x03\x00\x00\x00\x07"))
	f.Fuzz(func(t *testing.T, count, kind, pad uint8, body []byte) {
		p := rtcp.Packet{Count: count, Kind: kind, Body: body, Pad: pad}
		m, e := Parse(p)
		m.Rate()
		if (e == api.ErrKind) == Is(p) || e != api.OK && !nothing(m) {
			t.Errorf("%+v: %+v, %d", p, m, e)
		}
		if e != api.OK {
			return
		}
		q, e := Put(m)
		again, _ := Parse(q)
		if e != api.OK || !Right(m) || q.Kind != kind || q.Count != count || len(q.Body) != len(body) || !Same(m, again) {
			t.Errorf("%+v: %+v, %+v, %d", p, m, q, e)
		}
	})
}
