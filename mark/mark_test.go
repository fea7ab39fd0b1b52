package mark

import (
	"bytes"
	"encoding/hex"
	"math/rand"
	"reflect"
	"slices"
	"strconv"
	"strings"
	"testing"

	"easel/api"
	"easel/ext"
	"easel/rtp"
)

// unhex tells the bytes that a text such as "6A 01 07" writes.
func unhex(t *testing.T, text string) []byte {
	t.Helper()
	b, err := hex.DecodeString(strings.ReplaceAll(text, " ", ""))
	if err != nil {
		t.Fatal(err)
	}
	return b
}

func someBytes(rnd *rand.Rand, n int) []byte {
	b := make([]byte, n)
	rnd.Read(b)
	return b
}

// plainRight tells what the chapter calls right, part by part.
func plainRight(m Mark) bool {
	if m.Tid > 7 {
		return false
	}
	if m.Long {
		return true
	}
	return !m.Base && m.Tid == 0 && m.Lid == 0 && m.Tl0 == 0
}

// plain writes a marking that is right, digit by digit.
func plain(t *testing.T, m Mark) []byte {
	t.Helper()
	var s strings.Builder
	digit := func(x bool) {
		if x {
			s.WriteByte('1')
		} else {
			s.WriteByte('0')
		}
	}
	for _, x := range []bool{m.Start, m.End, m.Indep, m.Drop, m.Base, m.Tid&4 != 0, m.Tid&2 != 0, m.Tid&1 != 0} {
		digit(x)
	}
	first, err := strconv.ParseUint(s.String(), 2, 8)
	if err != nil {
		t.Fatal(err)
	}
	if m.Long {
		return []byte{byte(first), m.Lid, m.Tl0}
	}
	return []byte{byte(first)}
}

// marks are all markings of some numbers, right ones and others, the edges and one past them among them.
func marks(each func(m Mark)) {
	numbers := []uint8{0, 1, 127, 128, 255}
	for flags := range 64 {
		for _, tid := range []uint8{0, 1, 2, 3, 4, 5, 6, 7, 8, 9, 15, 16, 128, 255} {
			for _, lid := range numbers {
				for _, tl0 := range numbers {
					each(Mark{
						Start: flags&1 != 0, End: flags&2 != 0, Indep: flags&4 != 0, Drop: flags&8 != 0,
						Long: flags&16 != 0, Base: flags&32 != 0, Tid: tid, Lid: lid, Tl0: tl0,
					})
				}
			}
		}
	}
}

// someMark is one that is right.
func someMark(rnd *rand.Rand) Mark {
	flag := func() bool { return rnd.Intn(2) == 1 }
	m := Mark{Start: flag(), End: flag(), Indep: flag(), Drop: flag()}
	if flag() {
		m.Long, m.Base, m.Tid = true, flag(), uint8(rnd.Intn(8))
		m.Lid, m.Tl0 = uint8(rnd.Uint32()), uint8(rnd.Uint32())
	}
	return m
}

// somePacket is one that has often an extension, of whatever bytes.
func somePacket(rnd *rand.Rand) rtp.Packet {
	p := rtp.Packet{
		Marker: rnd.Intn(2) == 1, Type: uint8(rnd.Intn(128)), Seq: uint16(rnd.Uint32()), Time: rnd.Uint32(),
		Ssrc: rnd.Uint32(), Payload: someBytes(rnd, rnd.Intn(20)), Pad: uint8(rnd.Intn(4)),
	}
	for range rnd.Intn(16) {
		p.Csrc = append(p.Csrc, rnd.Uint32())
	}
	if rnd.Intn(2) == 1 {
		p.HasExt, p.Profile, p.Ext = true, []uint16{0xBEDE, 0x1000, uint16(rnd.Uint32())}[rnd.Intn(3)], someBytes(rnd, 4*rnd.Intn(4))
	}
	return p
}

// with is a packet of an extension.
func with(t *testing.T, profile uint16, text string) rtp.Packet {
	t.Helper()
	return rtp.Packet{Type: 96, Seq: 7, HasExt: true, Profile: profile, Ext: unhex(t, text), Payload: []byte{1, 2}}
}

// full is a packet that has every part; its lists have memory behind their lengths.
func full() rtp.Packet {
	contributors, memory := []uint32{3, 4, 5}, []byte{0x12, 1, 2, 3, 0xAA, 9, 8, 7}
	return rtp.Packet{
		Marker: true, Type: 96, Seq: 258, Time: 1, Ssrc: 2, Csrc: contributors[:2],
		HasExt: true, Profile: 0xBEDE, Ext: memory[:4:5], Payload: memory[5:7], Pad: 3,
	}
}

func examples(t *testing.T) (l []Mark, written [][]byte) {
	return []Mark{
		{Start: true, Drop: true},
		{End: true, Indep: true, Long: true, Base: true, Tid: 2, Lid: 1, Tl0: 7},
		{},
		{Long: true},
		{Start: true, End: true, Indep: true, Drop: true},
		{Start: true, End: true, Indep: true, Drop: true, Long: true, Base: true, Tid: 7, Lid: 255, Tl0: 255},
	}, [][]byte{unhex(t, "90"), unhex(t, "6A 01 07"), unhex(t, "00"), unhex(t, "00 00 00"), unhex(t, "F0"), unhex(t, "FF FF FF")}
}

func TestExamples(t *testing.T) { // P4.1
	l, written := examples(t)
	for i, m := range l {
		if b, e := Put(m); e != api.OK || !bytes.Equal(b, written[i]) || !Right(m) {
			t.Errorf("%d: %x, %d", i, b, e)
		}
		if got, e := Parse(written[i]); e != api.OK || got != m {
			t.Errorf("%d, read: %v, %d", i, got, e)
		}
	}
}

func TestEachFlagHasItsDigit(t *testing.T) { // P4.1
	for i, x := range []struct {
		m Mark
		b string
	}{
		{Mark{Start: true}, "80"},
		{Mark{End: true}, "40"},
		{Mark{Indep: true}, "20"},
		{Mark{Drop: true}, "10"},
		{Mark{Long: true, Start: true}, "80 00 00"},
		{Mark{Long: true, End: true}, "40 00 00"},
		{Mark{Long: true, Indep: true}, "20 00 00"},
		{Mark{Long: true, Drop: true}, "10 00 00"},
		{Mark{Long: true, Base: true}, "08 00 00"},
		{Mark{Long: true, Tid: 4}, "04 00 00"},
		{Mark{Long: true, Tid: 1}, "01 00 00"},
		{Mark{Long: true, Lid: 129}, "00 81 00"},
		{Mark{Long: true, Tl0: 129}, "00 00 81"},
	} {
		if b, e := Put(x.m); e != api.OK || !bytes.Equal(b, unhex(t, x.b)) {
			t.Errorf("%d: %x, %d", i, b, e)
		}
		if m, e := Parse(unhex(t, x.b)); e != api.OK || m != x.m {
			t.Errorf("%d, read: %v, %d", i, m, e)
		}
	}
}

func TestRight(t *testing.T) { // P4.1
	for i, x := range []struct {
		m    Mark
		want bool
	}{
		{Mark{}, true},
		{Mark{Start: true, End: true, Indep: true, Drop: true}, true},
		{Mark{Base: true}, false},
		{Mark{Tid: 1}, false},
		{Mark{Tid: 7}, false},
		{Mark{Tid: 8}, false},
		{Mark{Lid: 1}, false},
		{Mark{Tl0: 1}, false},
		{Mark{Long: true}, true},
		{Mark{Long: true, Tid: 7}, true},
		{Mark{Long: true, Tid: 8}, false},
		{Mark{Long: true, Tid: 255}, false},
		{Mark{Long: true, Base: true, Lid: 255, Tl0: 255}, true},
	} {
		if Right(x.m) != x.want {
			t.Errorf("%d: %v", i, x.m)
		}
		if b, e := Put(x.m); (e == api.OK) != x.want || !x.want && (e != api.ErrMark || len(b) != 0) {
			t.Errorf("%d: %v: %x, %d", i, x.m, b, e)
		}
	}
}

func TestPutAll(t *testing.T) { // P4.1, P4.5
	right, wrong := 0, 0
	marks(func(m Mark) {
		b, e := Put(m)
		if Right(m) != plainRight(m) {
			t.Fatalf("%v: right %v", m, Right(m))
		}
		if !plainRight(m) {
			wrong++
			if e != api.ErrMark || len(b) != 0 {
				t.Fatalf("%v: %x, %d", m, b, e)
			}
			return
		}
		right++
		if e != api.OK || !bytes.Equal(b, plain(t, m)) {
			t.Fatalf("%v: %x, %d", m, b, e)
		}
		if got, e := Parse(b); e != api.OK || got != m {
			t.Fatalf("%x: %v, %d; want %v", b, got, e, m)
		}
	})
	if right < 1000 || wrong < 1000 {
		t.Errorf("%d right, %d wrong: too few to tell", right, wrong)
	}
}

func TestParseOfOneByte(t *testing.T) { // P4.1, P4.5: each byte
	for c := range 256 {
		b := []byte{byte(c)}
		m, e := Parse(b)
		if c%16 != 0 {
			if e != api.ErrMark || m != (Mark{}) {
				t.Errorf("%x: %v, %d", b, m, e)
			}
			continue
		}
		if e != api.OK || m.Long || !plainRight(m) || !bytes.Equal(plain(t, m), b) {
			t.Errorf("%x: %v, %d", b, m, e)
		}
		if again, e := Put(m); e != api.OK || !bytes.Equal(again, b) {
			t.Errorf("%x: written %x, %d", b, again, e)
		}
	}
}

func TestParseOfThreeBytes(t *testing.T) { // P4.1, P4.5: each first byte
	for c := range 256 {
		for _, rest := range [][2]byte{{0, 0}, {1, 0}, {0, 1}, {255, 254}, {0x81, 0x7F}} {
			b := []byte{byte(c), rest[0], rest[1]}
			m, e := Parse(b)
			if e != api.OK || !m.Long || !plainRight(m) || !bytes.Equal(plain(t, m), b) {
				t.Errorf("%x: %v, %d", b, m, e)
			}
			if again, e := Put(m); e != api.OK || !bytes.Equal(again, b) {
				t.Errorf("%x: written %x, %d", b, again, e)
			}
		}
	}
}

func TestParseErrors(t *testing.T) { // P4.1
	for _, text := range []string{
		"", "81", "01", "08", "0F", "F1", "F8", "FF",
		"00 00", "90 00", "6A 01", "81 00", "00 00 00 00", "6A 01 07 00", "90 00 00 00 00",
	} {
		if m, e := Parse(unhex(t, text)); e != api.ErrMark || m != (Mark{}) {
			t.Errorf("%s: %v, %d", text, m, e)
		}
	}
	for n := range 300 {
		if _, e := Parse(make([]byte, n)); (e == api.OK) != (n == 1 || n == 3) {
			t.Errorf("%d bytes: %d", n, e)
		}
	}
	if m, e := Parse(nil); e != api.ErrMark || m != (Mark{}) {
		t.Errorf("nil: %v, %d", m, e)
	}
}

func TestOf(t *testing.T) { // P4.2
	short, long := Mark{Start: true, Drop: true}, Mark{End: true, Indep: true, Long: true, Base: true, Tid: 2, Lid: 1, Tl0: 7}
	for _, x := range []struct {
		name    string
		profile uint16
		ext     string
		id      uint8
		want    Mark
	}{
		{"a short one", 0xBEDE, "10 90 00 00", 1, short},
		{"a long one", 0xBEDE, "12 6A 01 07", 1, long},
		{"the last id of one byte", 0xBEDE, "E2 6A 01 07", 14, long},
		{"of noughts", 0xBEDE, "10 00 00 00", 1, Mark{}},
		{"of noughts, a long one", 0xBEDE, "12 00 00 00", 1, Mark{Long: true}},
		{"behind another one", 0xBEDE, "21 AA BB 10 90 00 00 00", 1, short},
		{"ahead of another one", 0xBEDE, "12 6A 01 07 23 AA BB CC DD 00 00 00", 1, long},
		{"behind padding", 0xBEDE, "00 00 10 90", 1, short},
		{"ahead of the end of all", 0xBEDE, "10 90 F0 1F", 1, short},
		{"the first of two", 0xBEDE, "10 90 12 6A 01 07 00 00", 1, short},
		{"the first of two, the other about", 0xBEDE, "12 6A 01 07 10 90 00 00", 1, long},
		{"the first, though the second is none", 0xBEDE, "10 90 10 81", 1, short},
		{"one that is none, of another id", 0xBEDE, "10 81 20 90", 2, short},
		{"in two bytes", 0x1000, "01 01 90 00", 1, short},
		{"in two bytes, a long one", 0x1000, "01 03 6A 01 07 00 00 00", 1, long},
		{"id 15 in two bytes", 0x1005, "0F 01 90 00", 15, short},
		{"the last id and profile of two bytes", 0x100F, "FF 03 6A 01 07 00 00 00", 255, long},
	} {
		p := with(t, x.profile, x.ext)
		if m, ok := Of(p, x.id); !ok || m != x.want {
			t.Errorf("%s: %v, %v", x.name, m, ok)
		}
		p.HasExt = false
		if m, ok := Of(p, x.id); ok || m != (Mark{}) {
			t.Errorf("%s, in no extension: %v, %v", x.name, m, ok)
		}
	}
}

func TestOfNone(t *testing.T) { // P4.2
	for _, x := range []struct {
		name    string
		profile uint16
		ext     string
		id      uint8
	}{
		{"nothing in it", 0xBEDE, "", 1},
		{"padding alone", 0xBEDE, "00 00 00 00", 0},
		{"another id", 0xBEDE, "10 90 00 00", 2},
		{"id 0", 0xBEDE, "10 90 00 00", 0},
		{"id 15 ends all", 0xBEDE, "F0 90 00 00", 15},
		{"behind the end of all", 0xBEDE, "F0 00 10 90", 1},
		{"no marking of 1 byte", 0xBEDE, "10 91 00 00", 1},
		{"no marking of 2 bytes", 0xBEDE, "11 90 00 00", 1},
		{"no marking of 4 bytes", 0xBEDE, "13 90 00 00 00 00 00 00", 1},
		{"no marking, though the second one is", 0xBEDE, "10 81 10 90", 1},
		{"no data", 0x1000, "01 00 00 00", 1},
		{"no data, and then some", 0x1000, "01 00 00 01 01 90 00 00", 1},
		{"no profile", 0, "10 90 00 00", 1},
		{"one past a profile", 0xBEDF, "10 90 00 00", 1},
		{"one past the other ones", 0x1010, "01 01 90 00", 1},
		{"one below the other ones", 0x0FFF, "01 01 90 00", 1},
		{"no multiple of 4", 0xBEDE, "10 90", 1},
		{"one too many", 0xBEDE, "12 6A 01 07 00", 1},
		{"an element that may not be behind it", 0xBEDE, "10 90 01 00", 1},
		{"data that end too early behind it", 0xBEDE, "10 90 00 10", 1},
		{"its data end too early", 0xBEDE, "00 00 00 10", 1},
		{"a number that is not there behind it", 0x1000, "01 01 90 01", 1},
		{"of one byte, read in two", 0x1000, "10 90 00 00", 1},
		{"of two bytes, read in one", 0xBEDE, "02 01 90 00", 2},
	} {
		if m, ok := Of(with(t, x.profile, x.ext), x.id); ok || m != (Mark{}) {
			t.Errorf("%s: %v, %v", x.name, m, ok)
		}
	}
	if m, ok := Of(rtp.Packet{}, 0); ok || m != (Mark{}) {
		t.Errorf("no packet: %v, %v", m, ok)
	}
}

func TestOfMadeByHand(t *testing.T) { // P4.2: a packet need not be right, its extension alone is asked
	p := with(t, 0xBEDE, "10 90 00 00")
	p.Type, p.Csrc = 255, make([]uint32, 16)
	if m, ok := Of(p, 1); !ok || m != (Mark{Start: true, Drop: true}) {
		t.Errorf("%v, %v", m, ok)
	}
}

func TestWithExamples(t *testing.T) { // P4.3
	short, long := Mark{Start: true, Drop: true}, Mark{End: true, Indep: true, Long: true, Base: true, Tid: 2, Lid: 1, Tl0: 7}
	for _, x := range []struct {
		id      uint8
		m       Mark
		profile uint16
		ext     string
	}{
		{1, short, 0xBEDE, "10 90 00 00"},
		{1, long, 0xBEDE, "12 6A 01 07"},
		{14, short, 0xBEDE, "E0 90 00 00"},
		{14, long, 0xBEDE, "E2 6A 01 07"},
		{15, short, 0x1000, "0F 01 90 00"},
		{15, long, 0x1000, "0F 03 6A 01 07 00 00 00"},
		{255, short, 0x1000, "FF 01 90 00"},
		{255, long, 0x1000, "FF 03 6A 01 07 00 00 00"},
	} {
		for i, p := range []rtp.Packet{{}, full(), with(t, 0x1234, "01 02 03 04"), with(t, 0x100F, "07 01 AA 00 01 01 F0 00")} {
			want := p
			want.HasExt, want.Profile, want.Ext = true, x.profile, unhex(t, x.ext)
			if got, e := With(p, x.id, x.m); e != api.OK || !rtp.Same(got, want) {
				t.Errorf("%d, %v, %d: %v, %d", x.id, x.m, i, got, e)
			}
		}
	}
}

func TestWithErrors(t *testing.T) { // P4.3
	short, wrong := Mark{Start: true}, Mark{Long: true, Tid: 8}
	for _, x := range []struct {
		id uint8
		m  Mark
	}{{0, short}, {0, Mark{Long: true}}, {0, wrong}, {1, wrong}, {1, Mark{Base: true}}, {15, Mark{Tl0: 1}}, {255, Mark{Lid: 1}}, {14, Mark{Tid: 1}}} {
		for i, p := range []rtp.Packet{{}, full(), {Type: 200, Csrc: make([]uint32, 17), Profile: 9, Ext: []byte{1}}} {
			if got, e := With(p, x.id, x.m); e != api.ErrMark || !rtp.Same(got, p) {
				t.Errorf("%d, %v, %d: %v, %d", x.id, x.m, i, got, e)
			}
		}
	}
}

func TestWithEveryId(t *testing.T) { // P4.3, P4.5
	for id := range 256 {
		for _, m := range []Mark{{}, {End: true, Drop: true}, {Long: true}, {Start: true, Long: true, Base: true, Tid: 7, Lid: 200, Tl0: 255}} {
			p, e := With(full(), uint8(id), m)
			if id == 0 {
				if e != api.ErrMark || !rtp.Same(p, full()) {
					t.Errorf("0: %v, %d", p, e)
				}
				continue
			}
			profile := uint16(0xBEDE)
			if id > 14 {
				profile = 0x1000
			}
			l, fail := ext.Parse(p.Profile, p.Ext)
			if e != api.OK || fail != api.OK || p.Profile != profile || len(l) != 1 || int(l[0].Id) != id || !bytes.Equal(l[0].Data, plain(t, m)) {
				t.Errorf("%d: %v, %d, %v, %d", id, p, e, l, fail)
			}
		}
	}
}

func TestWithMadeByHand(t *testing.T) { // P4.3: what is not right but for its extension is given one that is
	p := rtp.Packet{Seq: 5, Profile: 77, Ext: []byte{1, 2, 3}}
	got, e := With(p, 3, Mark{End: true})
	if e != api.OK || !rtp.Same(got, rtp.Packet{Seq: 5, HasExt: true, Profile: 0xBEDE, Ext: []byte{0x30, 0x40, 0, 0}}) || !rtp.Right(got) {
		t.Errorf("%v, %d", got, e)
	}
}

// memoryOf are the lists of a packet, with what lies behind their lengths.
func memoryOf(p rtp.Packet) ([]uint32, []byte, []byte) {
	return p.Csrc[:cap(p.Csrc)], p.Ext[:cap(p.Ext)], p.Payload[:cap(p.Payload)]
}

// spoil changes all memory of a packet, that behind its lengths too.
func spoil(p rtp.Packet) {
	contributors, e, payload := memoryOf(p)
	for i := range contributors {
		contributors[i] = 0xFFFFFFFF
	}
	for _, b := range [][]byte{e, payload} {
		for i := range b {
			b[i] = 0xFF
		}
	}
}

// unspoilt tells whether all memory of full() is as it was made.
func unspoilt(p rtp.Packet) bool {
	a, b, c := memoryOf(p)
	x, y, z := memoryOf(full())
	return rtp.Same(p, full()) && slices.Equal(a, x) && bytes.Equal(b, y) && bytes.Equal(c, z)
}

func TestPacketsAreOnlyRead(t *testing.T) { // P4.4
	for i, x := range []struct {
		id uint8
		m  Mark
		e  api.Errno
	}{{1, Mark{Start: true}, api.OK}, {1, Mark{Long: true, Tid: 3}, api.OK}, {200, Mark{Long: true}, api.OK}, {0, Mark{}, api.ErrMark}, {1, Mark{Tid: 8}, api.ErrMark}} {
		p := full()
		got, e := With(p, x.id, x.m)
		again, _ := With(p, x.id, x.m)
		if e != x.e || !rtp.Same(got, again) {
			t.Errorf("%d: %d, %v, %v", i, e, got, again)
		}
		want, _ := With(full(), x.id, x.m)
		spoil(got)
		if !unspoilt(p) || !rtp.Same(again, want) {
			t.Errorf("%d: shares memory: %v, %v", i, p, again)
		}
		spoil(p)
		if !rtp.Same(again, want) {
			t.Errorf("%d: changes with what was handed in: %v", i, again)
		}
	}
	p := full()
	if m, ok := Of(p, 1); !ok || m != (Mark{Long: true, Tid: 1, Lid: 2, Tl0: 3}) || !unspoilt(p) {
		t.Errorf("%v, %v, %v", m, ok, p)
	}
}

func TestListsOfOneAnswerShareNone(t *testing.T) { // P4.4: what was handed in may share, an answer not
	memory := []byte{0x10, 0x90, 0, 0, 5, 6}
	p := rtp.Packet{HasExt: true, Profile: 0xBEDE, Ext: memory[:4], Payload: memory}
	for _, id := range []uint8{0, 1} {
		got, _ := With(p, id, Mark{})
		was := slices.Clone(got.Ext)
		for i := range got.Payload {
			got.Payload[i] = 0xFF
		}
		if !bytes.Equal(got.Ext, was) || !bytes.Equal(memory, []byte{0x10, 0x90, 0, 0, 5, 6}) {
			t.Errorf("%d: %x, %x", id, got.Ext, memory)
		}
	}
}

func TestBytesAreOnlyRead(t *testing.T) { // P4.4
	memory := []byte{0x6A, 1, 7, 9, 9}
	for _, n := range []int{0, 1, 2, 3, 4} {
		Parse(memory[:n])
		if !bytes.Equal(memory, []byte{0x6A, 1, 7, 9, 9}) {
			t.Errorf("%d: %x", n, memory)
		}
	}
	m := Mark{Long: true, Lid: 5, Tl0: 6}
	a, _ := Put(m)
	b, _ := Put(m)
	for i := range a[:cap(a)] {
		a[:cap(a)][i] = 0xFF
	}
	if !bytes.Equal(b, []byte{0, 5, 6}) {
		t.Errorf("two answers share memory: %x", b)
	}
}

func TestWhatAPacketWasGivenItHas(t *testing.T) { // P4.5
	rnd := rand.New(rand.NewSource(1))
	for range 20000 {
		p, m, id := somePacket(rnd), someMark(rnd), uint8(1+rnd.Intn(255))
		if rnd.Intn(2) == 0 {
			id = uint8(1 + rnd.Intn(20))
		}
		got, e := With(p, id, m)
		if e != api.OK || !rtp.Right(got) {
			t.Fatalf("%v, %d, %v: %v, %d", p, id, m, got, e)
		}
		if has, ok := Of(got, id); !ok || has != m {
			t.Fatalf("%v: %v, %v; want %v", got, has, ok, m)
		}
		if has, ok := Of(got, id+1); ok || has != (Mark{}) {
			t.Fatalf("%v: another id has %v", got, has)
		}
		bare, was := got, p
		bare.HasExt, bare.Profile, bare.Ext = false, 0, nil
		was.HasExt, was.Profile, was.Ext = false, 0, nil
		if !rtp.Same(bare, was) {
			t.Fatalf("%v, %v: not the same but for the extension", got, p)
		}
		b, e := rtp.Put(got)
		read, fail := rtp.Parse(b)
		if has, ok := Of(read, id); e != api.OK || fail != api.OK || !ok || has != m {
			t.Fatalf("%x: %v, %v, %d, %d", b, has, ok, e, fail)
		}
	}
}

func TestWithOfNoPacket(t *testing.T) { // P4.3: nothing comes up but the extension
	got, e := With(rtp.Packet{}, 0, Mark{})
	if e != api.ErrMark || !reflect.DeepEqual(got, rtp.Packet{}) {
		t.Errorf("%v, %d", got, e)
	}
	got, e = With(rtp.Packet{}, 1, Mark{})
	if e != api.OK || !reflect.DeepEqual(got, rtp.Packet{HasExt: true, Profile: 0xBEDE, Ext: []byte{0x10, 0, 0, 0}}) {
		t.Errorf("%v, %d", got, e)
	}
}

func FuzzParse(f *testing.F) { // P4.1, P4.5: no bytes panic
	f.Add([]byte{0x90})
	f.Add([]byte{0x6A, 1, 7})
	f.Add([]byte{0x81})
	f.Fuzz(func(t *testing.T, b []byte) {
		m, e := Parse(b)
		may := len(b) == 3 || len(b) == 1 && b[0]%16 == 0
		if may != (e == api.OK) || !may && (e != api.ErrMark || m != (Mark{})) {
			t.Fatalf("%x: %v, %d", b, m, e)
		}
		if again, e := Put(m); may && (e != api.OK || !bytes.Equal(again, b)) {
			t.Fatalf("%x: written %x, %d", b, again, e)
		}
	})
}

func FuzzOf(f *testing.F) { // P4.2, P4.3, P4.5: no extension panics
	f.Add(uint16(0xBEDE), []byte{0x10, 0x90, 0, 0}, uint8(1), uint8(1))
	f.Add(uint16(0x1000), []byte{1, 3, 0x6A, 1, 7, 0, 0, 0}, uint8(1), uint8(99))
	f.Fuzz(func(t *testing.T, profile uint16, b []byte, id, other uint8) {
		p := rtp.Packet{HasExt: true, Profile: profile, Ext: b}
		m, ok := Of(p, id)
		l, e := ext.Parse(profile, b)
		i := slices.IndexFunc(l, func(x ext.Element) bool { return x.Id == id })
		var want Mark
		may := false
		if e == api.OK && i >= 0 {
			want, e = Parse(l[i].Data)
			may = e == api.OK
		}
		if ok != may || m != want {
			t.Fatalf("%v, %v; want %v, %v", m, ok, want, may)
		}
		got, e := With(p, other, m)
		if has, ok := Of(got, other); other > 0 && (e != api.OK || !ok || has != m) {
			t.Fatalf("%v: %v, %v, %d", got, has, ok, e)
		}
	})
}
