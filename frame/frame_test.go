package frame

import (
	"bytes"
	"encoding/hex"
	"math/rand"
	"reflect"
	"strings"
	"testing"

	"easel/api"
	"easel/mark"
	"easel/rtp"
	"easel/vp8"
)

// unhex tells the bytes that a text such as "90 80 05" writes.
func unhex(t *testing.T, text string) []byte {
	t.Helper()
	b, err := hex.DecodeString(strings.ReplaceAll(text, " ", ""))
	if err != nil {
		t.Fatal(err)
	}
	return b
}

func someBytes(rnd *rand.Rand, n int) []byte {
	b := make([]byte, n)
	rnd.Read(b)
	return b
}

// spoil changes each byte.
func spoil(b []byte) {
	for i := range b {
		b[i] ^= 0xFF
	}
}

// payload is a descriptor that is right, and its rest.
func payload(t *testing.T, d vp8.Desc, rest ...byte) []byte {
	t.Helper()
	b, e := vp8.Put(d, rest)
	if e != api.OK {
		t.Fatalf("%+v: %d", d, e)
	}
	return b
}

// marked is a packet with a marking, as the element 1.
func marked(t *testing.T, p rtp.Packet, m mark.Mark) rtp.Packet {
	t.Helper()
	p, e := mark.With(p, 1, m)
	if e != api.OK {
		t.Fatalf("%+v: %d", m, e)
	}
	return p
}

// tells checks what a packet tells.
func tells(t *testing.T, name string, p rtp.Packet, i Info, d vp8.Desc, rest ...byte) {
	t.Helper()
	got, part, ok := Tell(p)
	if !ok || got != i || part.Desc != d || !bytes.Equal(part.Rest, rest) {
		t.Errorf("%s: %+v, %+v, %v\nwant %+v, %+v, %x", name, got, part, ok, i, d, rest)
	}
}

// tellsNothing checks that a packet tells nothing.
func tellsNothing(t *testing.T, name string, p rtp.Packet) {
	t.Helper()
	if i, part, ok := Tell(p); ok || i != (Info{}) || part.Desc != (vp8.Desc{}) || len(part.Rest) != 0 {
		t.Errorf("%s: %+v, %+v, %v", name, i, part, ok)
	}
}

func TestTellOfADescriptor(t *testing.T) { // P11.1
	for _, x := range []struct {
		text string
		want Info
		rest string
	}{
		{"00", Info{}, ""},
		{"00 00 01", Info{}, "00 01"},
		{"10 01", Info{}, "01"},
		{"20 05", Info{Drop: true}, "05"},
		{"07", Info{}, ""},
		{"80 80 7F 09", Info{HasPic: true, Pic: 127}, "09"},
		{"80 80 00", Info{HasPic: true}, ""},
		{"80 80 FF FF 09 08", Info{HasPic: true, Pic: 32767}, "09 08"},
		{"80 40 81", Info{HasTl0: true, Tl0: 129}, ""},
		{"80 40 00 00", Info{HasTl0: true}, "00"},
		{"80 20 00", Info{}, ""},
		{"80 20 40", Info{Tid: 1}, ""},
		{"80 20 C0", Info{Tid: 3}, ""},
		{"80 20 20", Info{Sync: true}, ""},
		{"80 10 1F 07", Info{}, "07"},
		{"B0 F0 81 23 07 60", Info{HasPic: true, Pic: 0x123, HasTl0: true, Tl0: 7, Tid: 1, Sync: true, Drop: true}, ""},
		{"B0 F0 81 23 07 A0 03", Info{HasPic: true, Pic: 0x123, HasTl0: true, Tl0: 7, Tid: 2, Sync: true, Drop: true}, "03"},
	} {
		b := unhex(t, x.text)
		d, rest, e := vp8.Parse(b)
		if e != api.OK || !bytes.Equal(rest, unhex(t, x.rest)) {
			t.Fatalf("%s: %x, %d", x.text, rest, e)
		}
		tells(t, x.text, rtp.Packet{Payload: b}, x.want, d, rest...)
		want := x.want
		want.Type, want.Time = 96, 0xFFFFFFFE
		p := rtp.Packet{Marker: true, Type: 96, Seq: 5, Time: 0xFFFFFFFE, Ssrc: 7, Csrc: []uint32{1}, Payload: b, Pad: 3}
		tells(t, x.text+", with a type and a time", p, want, d, rest...)
	}
}

func TestTellCutsTheType(t *testing.T) { // P11.1
	for n := range 256 {
		tells(t, "type", rtp.Packet{Type: uint8(n), Payload: []byte{0}}, Info{Type: uint8(n % 128)}, vp8.Desc{})
	}
}

func TestTellNothing(t *testing.T) { // P11.1
	for _, text := range []string{"", "80", "90", "FF", "80 80", "90 80 85", "80 40", "80 20", "80 10", "B0 F0 81 23 07", "B0 F0 01 07"} {
		p := rtp.Packet{Marker: true, Type: 96, Time: 5, Payload: unhex(t, text)}
		tellsNothing(t, text, p)
		tellsNothing(t, text+", marked", marked(t, p, mark.Mark{Start: true, Drop: true, Long: true, Tid: 2, Tl0: 3}))
		p.Payload = append(p.Payload, 0x80, 0, 0, 0, 0)[:len(p.Payload)]
		tellsNothing(t, text+", with memory behind it", p)
	}
	tellsNothing(t, "nothing at all", rtp.Packet{})
	tellsNothing(t, "an empty payload", rtp.Packet{Payload: []byte{}})
}

func TestTellOfAMarking(t *testing.T) { // P11.1
	long := mark.Mark{Long: true, Base: true, Tid: 2, Lid: 9, Tl0: 77}
	for _, x := range []struct {
		name string
		d    vp8.Desc
		m    mark.Mark
		want Info
	}{
		{"long", vp8.Desc{}, long, Info{HasTl0: true, Tl0: 77, Tid: 2, Sync: true}},
		{"long, of noughts", vp8.Desc{}, mark.Mark{Long: true}, Info{HasTl0: true}},
		{"long, and no Base", vp8.Desc{}, mark.Mark{Long: true, Tid: 1, Tl0: 255}, Info{HasTl0: true, Tl0: 255, Tid: 1}},
		{"Tid 3", vp8.Desc{}, mark.Mark{Long: true, Tid: 3}, Info{HasTl0: true, Tid: 3}},
		{"Tid 4", vp8.Desc{}, mark.Mark{Long: true, Tid: 4}, Info{HasTl0: true, Tid: 3}},
		{"Tid 7", vp8.Desc{}, mark.Mark{Long: true, Tid: 7}, Info{HasTl0: true, Tid: 3}},
		{"a Tl0 of its own", vp8.Desc{HasTl0: true, Tl0: 5}, long, Info{HasTl0: true, Tl0: 5, Tid: 2, Sync: true}},
		{"a Tl0 of its own, of 0", vp8.Desc{HasTl0: true}, long, Info{HasTl0: true, Tid: 2, Sync: true}},
		{"a Tid of its own", vp8.Desc{HasTid: true, Tid: 1}, long, Info{Tid: 1}},
		{"a Tid of its own, of 0", vp8.Desc{HasTid: true}, long, Info{}},
		{"a Tid, and Y", vp8.Desc{HasTid: true, Tid: 3, Sync: true}, mark.Mark{Long: true, Tid: 1}, Info{Tid: 3, Sync: true}},
		{"a Tid, and a Tl0", vp8.Desc{HasTl0: true, Tl0: 4, HasTid: true, Tid: 3}, long, Info{HasTl0: true, Tl0: 4, Tid: 3}},
		{"a KEYIDX is no Tid", vp8.Desc{HasKey: true, KeyIdx: 31}, long, Info{HasTl0: true, Tl0: 77, Tid: 2, Sync: true}},
		{"a PictureID stays", vp8.Desc{HasPic: true, Pic: 9}, long, Info{HasPic: true, Pic: 9, HasTl0: true, Tl0: 77, Tid: 2, Sync: true}},
		{"short", vp8.Desc{}, mark.Mark{Start: true, End: true, Indep: true}, Info{}},
		{"short, Drop", vp8.Desc{}, mark.Mark{Drop: true}, Info{Drop: true}},
		{"long, Drop", vp8.Desc{}, mark.Mark{Drop: true, Long: true}, Info{HasTl0: true, Drop: true}},
		{"short, Drop, and a Tid of its own", vp8.Desc{HasTid: true, Tid: 2}, mark.Mark{Drop: true}, Info{Tid: 2, Drop: true}},
		{"long, Drop, and a Tid of its own", vp8.Desc{HasTid: true, Tid: 2}, mark.Mark{Drop: true, Long: true, Tid: 1}, Info{Tid: 2, Drop: true}},
		{"N, and no Drop", vp8.Desc{N: true}, mark.Mark{Long: true}, Info{HasTl0: true, Drop: true}},
		{"N, and short", vp8.Desc{N: true}, mark.Mark{}, Info{Drop: true}},
		{"Start and Indep of a marking tell nothing", vp8.Desc{}, mark.Mark{Start: true, Indep: true, Long: true}, Info{HasTl0: true}},
	} {
		p := marked(t, rtp.Packet{Payload: payload(t, x.d, 1)}, x.m)
		tells(t, x.name, p, x.want, x.d, 1)
	}
}

func TestTellOfNoMarking(t *testing.T) { // P11.1: an extension that holds none
	for _, x := range []struct {
		name    string
		profile uint16
		ext     string
	}{
		{"another element", 0xBEDE, "22 92 01 07"},
		{"one of two bytes", 0xBEDE, "11 90 02 00"},
		{"one that is not right", 0xBEDE, "10 91 00 00"},
		{"no form", 0x1234, "12 92 01 07"},
		{"one that ends too early", 0xBEDE, "12 92 01 07 1F 00 00 00"},
		{"the second one with that id", 0xBEDE, "11 90 02 12 92 01 07 00"},
		{"nothing", 0xBEDE, ""},
	} {
		p := rtp.Packet{Payload: []byte{0}, HasExt: true, Profile: x.profile, Ext: unhex(t, x.ext)}
		tells(t, x.name, p, Info{}, vp8.Desc{})
	}
	p := marked(t, rtp.Packet{Payload: []byte{0}}, mark.Mark{Drop: true, Long: true, Tid: 2})
	tells(t, "a marking", p, Info{HasTl0: true, Tid: 2, Drop: true}, vp8.Desc{})
	p.HasExt = false
	tells(t, "no extension", p, Info{}, vp8.Desc{})
	p = rtp.Packet{Payload: []byte{0}, HasExt: true, Profile: 0xBEDE, Ext: unhex(t, "22 00 00 00 12 92 01 07")}
	tells(t, "a marking behind another element", p, Info{HasTl0: true, Tl0: 7, Tid: 2, Drop: true}, vp8.Desc{})
	p = rtp.Packet{Payload: []byte{0}, HasExt: true, Profile: 0x1005, Ext: unhex(t, "01 01 10 00")}
	tells(t, "a marking in the other form", p, Info{Drop: true}, vp8.Desc{})
}

func TestTellOfAKeyFrame(t *testing.T) { // P11.1: its Tid is 0, and Sync true
	long := mark.Mark{Long: true, Tid: 2, Tl0: 9}
	for _, x := range []struct {
		name string
		d    vp8.Desc
		rest []byte
		key  bool
	}{
		{"a key frame", vp8.Desc{Start: true, HasTid: true, Tid: 3}, []byte{0}, true},
		{"another first byte", vp8.Desc{Start: true, HasTid: true, Tid: 3}, []byte{0xFE, 1}, true},
		{"an odd byte", vp8.Desc{Start: true, HasTid: true, Tid: 3}, []byte{1}, false},
		{"no rest", vp8.Desc{Start: true, HasTid: true, Tid: 3}, nil, false},
		{"no Start", vp8.Desc{HasTid: true, Tid: 3}, []byte{0}, false},
		{"another part", vp8.Desc{Start: true, Part: 1, HasTid: true, Tid: 3}, []byte{0}, false},
	} {
		p := rtp.Packet{Payload: payload(t, x.d, x.rest...)}
		want := Info{Tid: 3}
		if x.key {
			want = Info{Sync: true}
		}
		tells(t, x.name, p, want, x.d, x.rest...)
		if _, part, _ := Tell(p); part.Desc.Tid != 3 || part.Desc.Sync {
			t.Errorf("%s: the part tells %+v", x.name, part.Desc)
		}
		x.d.HasTid, x.d.Tid = false, 0
		want = Info{HasTl0: true, Tl0: 9, Tid: 2}
		if x.key {
			want.Tid, want.Sync = 0, true
		}
		tells(t, x.name+", marked", marked(t, rtp.Packet{Payload: payload(t, x.d, x.rest...)}, long), want, x.d, x.rest...)
	}
	d := vp8.Desc{N: true, Start: true, HasPic: true, Pic: 5, HasTl0: true, Tl0: 6}
	tells(t, "all else stays", rtp.Packet{Type: 97, Time: 8, Payload: payload(t, d, 4)},
		Info{Type: 97, Time: 8, HasPic: true, Pic: 5, HasTl0: true, Tl0: 6, Sync: true, Drop: true}, d, 4)
}

// digit is one binary digit of a number.
func digit(n, at int) bool { return n>>at&1 == 1 }

func TestTellAll(t *testing.T) { // P11.1: each part of a descriptor with each marking
	for n := range 1 << 9 {
		d := vp8.Desc{N: digit(n, 0), Start: digit(n, 1), Part: uint8(n >> 2 & 1), HasTl0: digit(n, 3), HasTid: digit(n, 4), HasPic: digit(n, 5)}
		if d.HasTl0 {
			d.Tl0 = 200
		}
		if d.HasTid {
			d.Tid, d.Sync = uint8(n>>6&3), digit(n, 8)
		}
		if d.HasPic {
			d.Long, d.Pic = true, 300
		}
		for first := range 2 {
			p := rtp.Packet{Type: 100, Time: 4, Payload: payload(t, d, byte(first))}
			tells(t, "plain", p, plainTold(d, first, false, mark.Mark{}), d, byte(first))
			for k := range 1 << 6 {
				m := mark.Mark{Drop: digit(k, 0), Long: digit(k, 1)}
				if m.Long {
					m.Base, m.Tid, m.Tl0 = digit(k, 2), uint8(k>>3), 99
				}
				tells(t, "marked", marked(t, p, m), plainTold(d, first, true, m), d, byte(first))
			}
		}
	}
}

// plainTold is what the chapter says of a packet of type 100 and time 4, of that descriptor, first byte and marking.
func plainTold(d vp8.Desc, first int, has bool, m mark.Mark) Info {
	want := Info{Type: 100, Time: 4, HasPic: d.HasPic, Pic: d.Pic, HasTl0: d.HasTl0, Tl0: d.Tl0}
	want.Tid, want.Sync, want.Drop = d.Tid, d.Sync, d.N
	if has && m.Drop {
		want.Drop = true
	}
	if has && m.Long && !d.HasTid {
		want.Tid, want.Sync = []uint8{0, 1, 2, 3, 3, 3, 3, 3}[m.Tid], m.Base
		if !d.HasTl0 {
			want.HasTl0, want.Tl0 = true, m.Tl0
		}
	}
	if d.Start && d.Part == 0 && first == 0 {
		want.Tid, want.Sync = 0, true
	}
	return want
}

func TestTellIsOnlyReading(t *testing.T) { // P11.4
	memory := append(payload(t, vp8.Desc{Start: true, HasPic: true, Pic: 3}, 1, 2, 3), 0xAA, 0xBB)
	p := marked(t, rtp.Packet{Csrc: []uint32{8}}, mark.Mark{Long: true, Tid: 1, Tl0: 4})
	p.Payload = memory[:len(memory)-2]
	was, ext := bytes.Clone(memory), bytes.Clone(p.Ext)
	_, part, _ := Tell(p)
	_, again, _ := Tell(p)
	spoil(part.Rest)
	if !bytes.Equal(memory, was) || !bytes.Equal(p.Ext, ext) || !bytes.Equal(again.Rest, []byte{1, 2, 3}) {
		t.Errorf("%x, %x, %x", memory, p.Ext, again.Rest)
	}
	part.Rest = append(part.Rest, 9, 9, 9)
	if !bytes.Equal(memory, was) {
		t.Errorf("behind the payload: %x", memory)
	}
	spoil(memory)
	if !bytes.Equal(again.Rest, []byte{1, 2, 3}) {
		t.Errorf("what was told changes with the packet: %x", again.Rest)
	}
}

// someFrame is one made by hand, right or not.
func someFrame(rnd *rand.Rand) Frame {
	f := Frame{
		Info: Info{Type: uint8(rnd.Uint32()), Time: rnd.Uint32(), HasPic: rnd.Intn(2) == 1, Pic: uint16(rnd.Uint32()), Tid: uint8(rnd.Uint32())},
		Key:  rnd.Intn(2) == 1,
	}
	for range rnd.Intn(60) {
		f.Parts = append(f.Parts, Part{Desc: vp8.Desc{Start: rnd.Intn(2) == 1, Part: uint8(rnd.Uint32())}, Rest: someBytes(rnd, rnd.Intn(5))})
	}
	return f
}

func TestBytes(t *testing.T) { // P11.3
	long := make([]byte, 1<<20)
	for _, x := range []struct {
		f    Frame
		want int
	}{
		{Frame{}, 0},
		{Frame{Parts: []Part{}}, 0},
		{Frame{Parts: []Part{{}}}, 0},
		{Frame{Parts: []Part{{Desc: vp8.Desc{HasPic: true, Pic: 5}, Rest: []byte{}}}}, 0},
		{Frame{Parts: []Part{{Rest: []byte{1}}}}, 1},
		{Frame{Parts: []Part{{Rest: []byte{1, 2}}, {}, {Rest: []byte{3, 4, 5, 6}[:3]}}}, 5},
		{Frame{Parts: []Part{{Rest: long}, {Rest: long[:5]}, {Rest: long}}}, 2<<20 + 5}, // the same memory counts as often as it is there
	} {
		if got := x.f.Bytes(); got != x.want {
			t.Errorf("%d bytes; want %d", got, x.want)
		}
	}
	rnd := rand.New(rand.NewSource(1))
	for range 200 {
		f, want := someFrame(rnd), 0
		for _, p := range f.Parts {
			want += len(p.Rest)
		}
		if f.Bytes() != want {
			t.Errorf("%d bytes; want %d", f.Bytes(), want)
		}
	}
}

// whole is a frame that has every part; its lists have memory behind their lengths.
func whole() Frame {
	memory := []byte{1, 2, 3, 4, 5, 6}
	parts := []Part{{Desc: vp8.Desc{Start: true, HasPic: true, Pic: 5}, Rest: memory[:2]}, {Rest: memory[2:4]}, {Rest: memory[5:]}}
	return Frame{
		Info:  Info{Type: 96, Time: 1000, HasPic: true, Pic: 5, HasTl0: true, Tl0: 6, Tid: 1, Sync: true, Drop: true},
		Parts: parts[:2],
	}
}

func TestSame(t *testing.T) { // P11.3
	if !Same(whole(), whole()) || !Same(Frame{}, Frame{Parts: []Part{}}) {
		t.Error("the same")
	}
	a, b := Frame{Parts: []Part{{Rest: nil}}}, Frame{Parts: []Part{{Rest: []byte{}}}}
	if !Same(a, b) || !Same(b, a) {
		t.Error("nil and empty rests are the same")
	}
	for name, change := range map[string]func(f *Frame){
		"type":            func(f *Frame) { f.Info.Type++ },
		"time":            func(f *Frame) { f.Info.Time++ },
		"has a picture":   func(f *Frame) { f.Info.HasPic = false },
		"picture":         func(f *Frame) { f.Info.Pic++ },
		"has a base":      func(f *Frame) { f.Info.HasTl0 = false },
		"base":            func(f *Frame) { f.Info.Tl0++ },
		"layer":           func(f *Frame) { f.Info.Tid++ },
		"sync":            func(f *Frame) { f.Info.Sync = false },
		"drop":            func(f *Frame) { f.Info.Drop = false },
		"key":             func(f *Frame) { f.Key = true },
		"no parts":        func(f *Frame) { f.Parts = nil },
		"a part less":     func(f *Frame) { f.Parts = f.Parts[:1] },
		"a part more":     func(f *Frame) { f.Parts = append(f.Parts, Part{}) },
		"parts' order":    func(f *Frame) { f.Parts[0], f.Parts[1] = f.Parts[1], f.Parts[0] },
		"a descriptor":    func(f *Frame) { f.Parts[1].Desc.KeyIdx = 1 },
		"a first one's":   func(f *Frame) { f.Parts[0].Desc.Long = true },
		"a byte":          func(f *Frame) { f.Parts[1].Rest[1]++ },
		"a byte less":     func(f *Frame) { f.Parts[1].Rest = f.Parts[1].Rest[:1] },
		"a byte more":     func(f *Frame) { f.Parts[0].Rest = append(f.Parts[0].Rest, 0) },
		"bytes elsewhere": func(f *Frame) { f.Parts[0].Rest, f.Parts[1].Rest = f.Parts[0].Rest[:1], []byte{2, 3, 4} },
	} {
		f := whole()
		change(&f)
		if Same(f, whole()) || Same(whole(), f) || !Same(f, f) {
			t.Errorf("%s: the same", name)
		}
	}
}

func TestCopy(t *testing.T) { // P11.3, P11.4
	rnd := rand.New(rand.NewSource(2))
	frames := []Frame{{}, {Parts: []Part{}}, {Parts: []Part{{}}}, {Key: true, Parts: []Part{{Rest: []byte{}}}}, whole()}
	for range 200 {
		frames = append(frames, someFrame(rnd))
	}
	for i, f := range frames {
		c, again := Copy(f), Copy(f)
		if !Same(c, f) || !Same(again, f) {
			t.Fatalf("%d: %+v of %+v", i, c, f)
		}
		for k := range c.Parts {
			spoil(c.Parts[k].Rest)
			c.Parts[k].Rest = append(c.Parts[k].Rest, 9)
			c.Parts[k].Desc.Pic++
		}
		c.Parts = append(c.Parts, Part{})
		if !Same(again, f) {
			t.Fatalf("%d: a copy shares memory: %+v, %+v", i, again, f)
		}
	}
	f := whole()
	c := Copy(f)
	c.Parts = append(c.Parts, Part{})
	c.Parts[0].Rest = append(c.Parts[0].Rest, 9)
	c.Parts[1].Rest = append(c.Parts[1].Rest, 9)
	if behind := f.Parts[:3][2]; !reflect.DeepEqual(f, whole()) || len(behind.Rest) != 1 || behind.Rest[0] != 6 {
		t.Errorf("what lies behind the lists: %+v, %+v", f, behind)
	}
	spoil(f.Parts[0].Rest[:6])
	f.Parts[0].Desc.Pic = 77
	if want := whole(); !bytes.Equal(c.Parts[0].Rest[:2], want.Parts[0].Rest) || c.Parts[0].Desc != want.Parts[0].Desc {
		t.Errorf("a copy changes with the frame: %+v", c)
	}
}

func TestCopySharesNothingWithinItself(t *testing.T) { // P11.4
	memory := []byte{1, 2, 3}
	c := Copy(Frame{Parts: []Part{{Rest: memory}, {Rest: memory}, {Rest: memory[1:]}}})
	c.Parts[0].Rest = append(c.Parts[0].Rest[:0], 7, 8, 9)
	if !bytes.Equal(c.Parts[1].Rest, []byte{1, 2, 3}) || !bytes.Equal(c.Parts[2].Rest, []byte{2, 3}) || !bytes.Equal(memory, []byte{1, 2, 3}) {
		t.Errorf("%+v, %x", c, memory)
	}
}
