package frame

import (
	"bytes"
	"math/rand"
	"reflect"
	"slices"
	"strings"
	"testing"

	"easel/mark"
	"easel/reorder"
	"easel/rtp"
	"easel/vp8"
)

// gap is one, of whatever numbers.
func gap() reorder.Out { return reorder.Out{Gap: true, From: 5, To: 6} }

func packetOut(p rtp.Packet) reorder.Out { return reorder.Out{From: 9, To: 9, Packet: p} }

// letter is what comes, told by a letter, of frames of layer 2 that have Drop (b, g, o), or of key frames (k):
//
//	b a packet that begins a frame, k one that begins a key frame, g one that goes on,
//	o one of another time, n one that tells nothing, . a gap; B, K, G, O and N have a marker.
func letter(c byte) reorder.Out {
	p := rtp.Packet{Type: 96, Time: 1000, Marker: c >= 'A' && c <= 'Z'}
	switch c {
	case '.':
		return gap()
	case 'b', 'B':
		p.Payload = []byte{0xB0, 0x20, 0x80, 1}
	case 'k', 'K':
		p.Payload = []byte{0xB0, 0x20, 0x80, 0}
	case 'g', 'G':
		p.Payload = []byte{0xA0, 0x20, 0x80, 2}
	case 'o', 'O':
		p.Time, p.Payload = 1001, []byte{0xA0, 0x20, 0x80, 2}
	case 'n', 'N':
		p.Payload = []byte{0x80}
	}
	return packetOut(p)
}

// lettersOf is what comes, told by letters.
func lettersOf(letters string) []reorder.Out {
	var out []reorder.Out
	for i := range len(letters) {
		out = append(out, letter(letters[i]))
	}
	return out
}

// told1 is what an item tells, in short: a frame's parts (begun by k, if it is a key frame), known losses by their
// layers, and other ones by a question mark. What may not be is !.
func told1(x Item) string {
	f := x.Frame
	if x.Lost {
		switch {
		case !reflect.DeepEqual(f, Frame{}):
			return "!"
		case !x.Known && x.Tid == 0 && !x.Drop:
			return "?"
		case x.Known && x.Drop:
			return "-" + string('0'+rune(x.Tid))
		}
		return "!"
	}
	want := Info{Type: 96, Time: 1000, Tid: 2, Drop: true}
	s := "b"
	if f.Key {
		want.Tid, want.Sync, s = 0, true, "k"
	}
	if x.Known || x.Tid != 0 || x.Drop || f.Info != want || len(f.Parts) == 0 || !sameParts(f) {
		return "!"
	}
	return s + strings.Repeat("g", len(f.Parts)-1)
}

// sameParts tells whether a frame's parts are those of the letters b or k, and g.
func sameParts(f Frame) bool {
	for i, p := range f.Parts {
		want := Part{Desc: vp8.Desc{N: true, Start: i == 0, HasTid: true, Tid: 2}, Rest: []byte{2}}
		if i == 0 {
			want.Rest = []byte{1}
		}
		if i == 0 && f.Key {
			want.Rest = []byte{0}
		}
		if !samePart(p, want) {
			return false
		}
	}
	return true
}

// short is what items tell, in short.
func short(l []Item) string {
	var out []string
	for _, x := range l {
		out = append(out, told1(x))
	}
	return strings.Join(out, " ")
}

// comes checks what an assembler tells of what comes, and how many parts it builds behind that.
func comes(t *testing.T, letters, want string, parts int) {
	t.Helper()
	a := New()
	if got := short(a.In(lettersOf(letters)...)); got != want || a.Building() != parts {
		t.Errorf("%s: %q, building %d; want %q, %d", letters, got, a.Building(), want, parts)
	}
}

func TestExamples(t *testing.T) { // P11.2
	packet := func(marker bool, text string) reorder.Out {
		return packetOut(rtp.Packet{Marker: marker, Type: 96, Time: 7, Payload: unhex(t, text)})
	}
	begins, goesOn := packet(false, "10 01 05"), packet(false, "00 06 07")
	i := Info{Type: 96, Time: 7}
	first, second := Part{Desc: vp8.Desc{Start: true}, Rest: []byte{1, 5}}, Part{Rest: []byte{6, 7}}
	end := Part{Rest: []byte{8}}
	for _, x := range []struct {
		name string
		l    []reorder.Out
		want []Item
	}{
		{"one part", []reorder.Out{packet(true, "10 01 05")}, []Item{{Frame: Frame{Info: i, Parts: []Part{first}}}}},
		{"three parts", []reorder.Out{begins, goesOn, packet(true, "00 08")}, []Item{{Frame: Frame{Info: i, Parts: []Part{first, second, end}}}}},
		{"known", []reorder.Out{begins, gap(), packet(true, "00 08")}, []Item{{Lost: true, Known: true}}},
		{"not known", []reorder.Out{begins, gap(), packet(true, "10 01 05")}, []Item{{Lost: true}, {Frame: Frame{Info: i, Parts: []Part{first}}}}},
	} {
		if got := New().In(x.l...); !slices.EqualFunc(got, x.want, sameItem) {
			t.Errorf("%s: %+v; want %+v", x.name, got, x.want)
		}
	}
}

func sameItem(a, b Item) bool {
	return a.Lost == b.Lost && a.Known == b.Known && a.Tid == b.Tid && a.Drop == b.Drop && Same(a.Frame, b.Frame)
}

func TestIdle(t *testing.T) { // P11.2
	comes(t, "", "", 0)
	comes(t, "b", "", 1)
	comes(t, "B", "b", 0)
	comes(t, "k", "", 1)
	comes(t, "K", "k", 0)
	for _, first := range []string{"", "B", "bgG", "b.G", "K"} { // behind a frame, or a loss, it is idle again
		told := map[string]string{"B": "b ", "bgG": "bgg ", "b.G": "-2 ", "K": "k "}[first]
		for _, letter := range []string{"g", "G", "o", "O", "n", "N", "."} {
			comes(t, first+letter, told+"?", 0)
			comes(t, first+letter+letter, told+"?", 0)
			comes(t, first+letter+"B", told+"? b", 0)
		}
	}
	comes(t, "BBKB", "b b k b", 0)
}

func TestIdleHasNoFrameToGoOn(t *testing.T) { // P11.2: not even one whose every number is 0
	for _, marker := range []bool{false, true} {
		a := New()
		p := packetOut(rtp.Packet{Marker: marker, Payload: []byte{0, 9}})
		if got := short(a.In(p, p)); got != "?" || a.Building() != 0 {
			t.Errorf("%q, building %d", got, a.Building())
		}
	}
}

func TestBuilding(t *testing.T) { // P11.2
	comes(t, "bg", "", 2)
	comes(t, "bggg", "", 4)
	comes(t, "bG", "bg", 0)
	comes(t, "bggG", "bggg", 0)
	comes(t, "bGb", "bg", 1)
	comes(t, "kgG", "kgg", 0)
	comes(t, "bb", "-2", 1) // the one that was built is lost, known
	comes(t, "bgb", "-2", 1)
	comes(t, "bB", "-2 b", 0)
	comes(t, "bggK", "-2 k", 0)
	comes(t, "kb", "-0", 1) // of a key frame the layer is 0
	comes(t, "kgB", "-0 b", 0)
	comes(t, "kbk", "-0 -2", 1)
	for _, letter := range []string{"o", "O", "n", "N"} {
		comes(t, "b"+letter, "?", 0)
		comes(t, "bgg"+letter, "?", 0)
		comes(t, "b"+letter+"gG", "?", 0) // skipping
		comes(t, "k"+letter+"B", "? b", 0)
	}
	comes(t, "b.", "", 0)
	comes(t, "bgg.", "", 0)
}

func TestAGap(t *testing.T) { // P11.2
	comes(t, "b.g", "", 0)
	comes(t, "b.ggg", "", 0)
	comes(t, "b.G", "-2", 0)
	comes(t, "k.G", "-0", 0)
	comes(t, "b.ggG", "-2", 0)
	comes(t, "b.GG", "-2 ?", 0) // idle
	comes(t, "b.gb", "-2", 1)   // it went on
	comes(t, "k.gB", "-0 b", 0)
	comes(t, "b.b", "?", 1) // it did not
	comes(t, "k.B", "? b", 0)
	comes(t, "b..b", "?", 1)
	comes(t, "b.g.b", "?", 1) // not again
	comes(t, "k.gg.B", "? b", 0)
	comes(t, "b.g.gb", "-2", 1)
	comes(t, "b.g.G", "-2", 0)
	comes(t, "b..G", "-2", 0)
	comes(t, "bgg.gb.b", "-2 ?", 1) // each frame has its own gaps
	comes(t, "b.gbb", "-2 -2", 1)
	for _, letter := range []string{"o", "O", "n", "N"} {
		comes(t, "b."+letter, "?", 0)
		comes(t, "b.g"+letter, "?", 0)
		comes(t, "b.g"+letter+"gG.", "?", 0)
		comes(t, "b."+letter+"K", "? k", 0)
	}
}

func TestSkipping(t *testing.T) { // P11.2
	for _, first := range []string{".", "g", "bo", "b.n"} {
		for _, letter := range []string{"g", "G", "o", "O", "n", "N", "."} {
			comes(t, first+letter, "?", 0)
			comes(t, first+letter+"b", "?", 1)
			comes(t, first+letter+"K", "? k", 0)
			comes(t, first+letter+"bG"+letter, "? bg ?", 0)
		}
	}
}

func TestMaxPack(t *testing.T) { // P11.2: 48 parts are a frame, one more are not
	for n := range 60 {
		on := strings.Repeat("g", n)
		switch {
		case n+1 <= 48:
			comes(t, "b"+on, "", n+1)
			comes(t, "b"+on+"b", "-2", 1)
			comes(t, "b"+on+".b", "?", 1)
		default: // it has a gap, and went on
			comes(t, "b"+on, "", 0)
			comes(t, "b"+on+"b", "-2", 1)
			comes(t, "k"+on+"B", "-0 b", 0)
			comes(t, "b"+on+".b", "?", 1)
			comes(t, "b"+on+".gb", "-2", 1)
			comes(t, "b"+on+"o", "?", 0)
		}
		if n+2 <= 48 {
			comes(t, "b"+on+"G", "b"+on+"g", 0)
			comes(t, "k"+on+"GB", "k"+on+"g b", 0)
		} else {
			comes(t, "b"+on+"G", "-2", 0)
			comes(t, "k"+on+"GB", "-0 b", 0)
			comes(t, "k"+on+"Gg", "-0 ?", 0)
		}
		comes(t, "b"+on+".G", "-2", 0)
	}
}

func TestAGapIsNoPacket(t *testing.T) { // P11.2: whatever a gap made by hand has
	g := letter('B')
	g.Gap = true
	if got := New().In(letter('b'), g, letter('G')); short(got) != "-2" {
		t.Errorf("%q", short(got))
	}
	if got := New().In(letter('b'), reorder.Out{From: 9, To: 5, Packet: letter('G').Packet}); short(got) != "bg" {
		t.Errorf("%q", short(got))
	}
	a := New()
	a.In(letter('b'))
	if got := a.In(reorder.Out{}); short(got) != "?" || a.Building() != 0 { // a blank packet tells nothing
		t.Errorf("%q", short(got))
	}
}

func TestWhatTellsNothingIsNotTheSame(t *testing.T) { // P11.2: not even as a frame whose every number is 0
	begins := packetOut(rtp.Packet{Payload: []byte{0x10, 1}})
	nothing := packetOut(rtp.Packet{Marker: true, Payload: []byte{0x80}})
	for _, l := range [][]reorder.Out{{begins, nothing}, {begins, gap(), nothing}, {begins, {}}, {begins, gap(), {}}} {
		a := New()
		if got := short(a.In(l...)); got != "?" || a.Building() != 0 {
			t.Errorf("%+v: %q, building %d", l, got, a.Building())
		}
	}
}

func TestWhatTellsTheSame(t *testing.T) { // P11.2: each thing that a packet tells
	first := rtp.Packet{Type: 96, Time: 5, Payload: payload(t, vp8.Desc{Start: true, HasPic: true, Pic: 7, HasTl0: true, Tl0: 8, HasTid: true, Tid: 1}, 1)}
	on := vp8.Desc{HasPic: true, Pic: 7, HasTl0: true, Tl0: 8, HasTid: true, Tid: 1}
	for name, x := range map[string]struct {
		same   bool
		change func(p *rtp.Packet, d *vp8.Desc)
	}{
		"nothing":       {true, func(p *rtp.Packet, d *vp8.Desc) {}},
		"type":          {false, func(p *rtp.Packet, d *vp8.Desc) { p.Type++ }},
		"time":          {false, func(p *rtp.Packet, d *vp8.Desc) { p.Time++ }},
		"no picture":    {false, func(p *rtp.Packet, d *vp8.Desc) { d.HasPic, d.Pic = false, 0 }},
		"picture":       {false, func(p *rtp.Packet, d *vp8.Desc) { d.Pic++ }},
		"no base":       {false, func(p *rtp.Packet, d *vp8.Desc) { d.HasTl0, d.Tl0 = false, 0 }},
		"base":          {false, func(p *rtp.Packet, d *vp8.Desc) { d.Tl0++ }},
		"layer":         {false, func(p *rtp.Packet, d *vp8.Desc) { d.Tid++ }},
		"no layer":      {false, func(p *rtp.Packet, d *vp8.Desc) { d.HasTid, d.Tid = false, 0 }},
		"sync":          {false, func(p *rtp.Packet, d *vp8.Desc) { d.Sync = true }},
		"drop":          {false, func(p *rtp.Packet, d *vp8.Desc) { d.N = true }},
		"long":          {true, func(p *rtp.Packet, d *vp8.Desc) { d.Long = true }}, // it is told with as many digits as it has
		"key index":     {true, func(p *rtp.Packet, d *vp8.Desc) { d.HasKey, d.KeyIdx = true, 3 }},
		"part":          {true, func(p *rtp.Packet, d *vp8.Desc) { d.Part = 7 }},
		"another start": {true, func(p *rtp.Packet, d *vp8.Desc) { d.Start, d.Part = true, 1 }}, // which begins no frame
		"type's digits": {true, func(p *rtp.Packet, d *vp8.Desc) { p.Type = 96 + 128 }},
		"the rest":      {true, func(p *rtp.Packet, d *vp8.Desc) { p.Ssrc, p.Seq, p.Csrc, p.Pad = 9, 9, []uint32{1}, 4 }},
	} {
		p, d := first, on
		p.Marker = true
		x.change(&p, &d)
		p.Payload = payload(t, d, 2)
		got := New().In(packetOut(first), packetOut(p))
		built := len(got) == 1 && !got[0].Lost && len(got[0].Frame.Parts) == 2
		if built != x.same || len(got) != 1 || !x.same && !sameItem(got[0], Item{Lost: true}) {
			t.Errorf("%s: %+v", name, got)
		}
	}
}

func TestAKeyFrameTellsPlainlyTheSame(t *testing.T) { // P11.2: the others do not show that it is one
	d := vp8.Desc{HasTid: true, Tid: 2}
	begin := d
	begin.Start = true
	for rest, key := range map[byte]bool{0: true, 1: false} {
		want := Info{Type: 96, Time: 5, Tid: 2}
		if key {
			want.Tid, want.Sync = 0, true
		}
		first := rtp.Packet{Type: 96, Time: 5, Payload: payload(t, begin, rest)}
		last := rtp.Packet{Marker: true, Type: 96, Time: 5, Payload: payload(t, d, 0)}
		got := New().In(packetOut(first), packetOut(last))
		if len(got) != 1 || got[0].Lost || got[0].Frame.Info != want || got[0].Frame.Key != key || len(got[0].Frame.Parts) != 2 {
			t.Errorf("%d: %+v", rest, got)
		}
		// What the key frame's Info tells is not what it tells plainly.
		last.Payload = payload(t, vp8.Desc{HasTid: true, Sync: true}, 0)
		if got = New().In(packetOut(first), packetOut(last)); len(got) != 1 || !sameItem(got[0], Item{Lost: true}) {
			t.Errorf("%d: %+v", rest, got)
		}
	}
}

func TestMarkings(t *testing.T) { // P11.2: packets whose markings tell of the frame
	m := mark.Mark{Start: true, Drop: true, Long: true, Base: true, Tid: 7, Lid: 1, Tl0: 50}
	first := marked(t, rtp.Packet{Time: 5, Payload: []byte{0x10, 1}}, m)
	m.Start, m.End, m.Lid = false, true, 2 // of which nothing is told
	last := marked(t, rtp.Packet{Marker: true, Time: 5, Payload: []byte{0, 1}}, m)
	want := Info{Time: 5, HasTl0: true, Tl0: 50, Tid: 3, Sync: true, Drop: true}
	got := New().In(packetOut(first), packetOut(last))
	if len(got) != 1 || got[0].Lost || got[0].Frame.Info != want || got[0].Frame.Key {
		t.Errorf("%+v", got)
	}
	if got = New().In(packetOut(first), gap(), packetOut(last)); len(got) != 1 || !sameItem(got[0], Item{Lost: true, Known: true, Tid: 3, Drop: true}) {
		t.Errorf("%+v", got)
	}
	last.HasExt, last.Profile, last.Ext = false, 0, nil // a marking on the first one alone: they do not tell the same
	if got = New().In(packetOut(first), packetOut(last)); len(got) != 1 || !sameItem(got[0], Item{Lost: true}) {
		t.Errorf("%+v", got)
	}
}

func TestNobodysAssembler(t *testing.T) { // nil, and made by hand
	var none *Assembler
	if got := none.In(lettersOf("BbgG.oBnk")...); len(got) != 0 || none.Building() != 0 || len(none.In()) != 0 {
		t.Errorf("%+v", got)
	}
	var own Assembler
	if got := short(own.In(lettersOf("BbgG.Bk")...)); got != "b bgg ? b" || own.Building() != 1 {
		t.Errorf("%q", got)
	}
	if a, b := New(), New(); a == nil || b == nil || a == b || a.Building() != 0 || len(a.In()) != 0 {
		t.Error("New")
	}
}

func TestAssemblersAreTheirOwn(t *testing.T) { // P11.2
	a, b := New(), New()
	a.In(letter('b'))
	if got := short(b.In(letter('G'))); got != "?" {
		t.Errorf("%q", got)
	}
	if got := short(a.In(letter('G'))); got != "bg" {
		t.Errorf("%q", got)
	}
}

// table is what is told, and the state behind it, by state and by what comes, as the chapter has it: idle (i),
// building (b), a gap (g), a gap behind which it went on (w), skipping (s).
// Told: ? is a loss that is not known, - one that is.
var table = map[byte]map[string][2]string{
	'i': {"begins": {"", "b"}, "same": {"?", "s"}, "other": {"?", "s"}, "gap": {"?", "s"}},
	'b': {"begins": {"-", "b"}, "same": {"", "b"}, "other": {"?", "s"}, "gap": {"", "g"}},
	'g': {"begins": {"?", "b"}, "same": {"", "w"}, "other": {"?", "s"}, "gap": {"", "g"}},
	'w': {"begins": {"-", "b"}, "same": {"", "w"}, "other": {"?", "s"}, "gap": {"", "g"}},
	's': {"begins": {"", "b"}, "same": {"", "s"}, "other": {"", "s"}, "gap": {"", "s"}},
}

// plain tells of letters what the table does.
func plain(letters string) (told string, parts int) {
	state, frame := byte('i'), ""
	var out []string
	tell := func(s string) {
		if s == "-" && frame[0] == 'k' {
			s = "-0"
		} else if s == "-" {
			s = "-2"
		}
		if s != "" {
			out = append(out, s)
		}
	}
	for _, c := range letters {
		low := strings.ToLower(string(c))
		sort := map[string]string{"b": "begins", "k": "begins", "g": "same", "o": "other", "n": "other", ".": "gap"}[low]
		cell := table[state][sort]
		tell(cell[0])
		was := state
		state = cell[1][0]
		switch {
		case sort == "begins":
			frame = low
		case was == 'b' && state == 'b' && len(frame) == 48:
			state = 'w'
		case was == 'b' && state == 'b':
			frame += low
		}
		if marker := low != string(c); marker && state == 'b' {
			tell(frame)
			state = 'i'
		} else if marker && state == 'w' {
			tell("-")
			state = 'i'
		}
	}
	if state == 'b' {
		parts = len(frame)
	}
	return strings.Join(out, " "), parts
}

func TestAllThatMayCome(t *testing.T) { // P11.2: up to five things, each of them
	const letters = "bBkgGoOn.N"
	var each func(s string)
	each = func(s string) {
		want, parts := plain(s)
		comes(t, s, want, parts)
		if len(s) == 5 {
			return
		}
		for i := range len(letters) {
			each(s + letters[i:i+1])
		}
	}
	each("")
}

func TestMuchThatComes(t *testing.T) { // P11.2
	rnd := rand.New(rand.NewSource(3))
	for _, letters := range []string{"bBkKgGoOnN.", "bkggggggG..", "bkggggggggggggggggggggggggggggggggggggggggggggggggggggggggggggggggggggggG."} {
		for range 300 {
			s := make([]byte, rnd.Intn(400))
			for i := range s {
				s[i] = letters[rnd.Intn(len(letters))]
			}
			want, parts := plain(string(s))
			comes(t, string(s), want, parts)
		}
	}
}

func TestHoweverTheyAreHandedIn(t *testing.T) { // P11.5
	rnd := rand.New(rand.NewSource(4))
	for range 500 {
		s := make([]byte, rnd.Intn(200))
		for i := range s {
			s[i] = "bBkKgggggggGGon."[rnd.Intn(16)]
		}
		l := lettersOf(string(s))
		a, b := New(), New()
		want := a.In(l...)
		var got []Item
		for len(l) > 0 {
			n := rnd.Intn(min(len(l), 8) + 1)
			got = append(got, b.In(l[:n]...)...)
			l = l[n:]
		}
		if !slices.EqualFunc(got, want, sameItem) || a.Building() != b.Building() {
			t.Fatalf("%s: %q, %q", s, short(got), short(want))
		}
	}
}

// sent is a frame, and its packets.
type sent struct {
	frame   Frame
	packets []rtp.Packet
}

// someSent is a whole frame, of numbers that no other one has, so that each tells which it is.
func someSent(t *testing.T, rnd *rand.Rand, at int) sent {
	t.Helper()
	n := 1 + rnd.Intn(4)
	if rnd.Intn(20) == 0 {
		n = 45 + rnd.Intn(4)
	}
	d := vp8.Desc{N: rnd.Intn(2) == 1, HasPic: true, Long: true, Pic: uint16(at)}
	if rnd.Intn(2) == 1 {
		d.HasTid, d.Tid, d.Sync, d.HasTl0, d.Tl0 = true, uint8(rnd.Intn(4)), rnd.Intn(2) == 1, true, uint8(at)
	}
	m := mark.Mark{Drop: rnd.Intn(4) == 0, Long: rnd.Intn(2) == 1}
	if m.Long {
		m.Tid, m.Base, m.Tl0 = uint8(rnd.Intn(8)), rnd.Intn(2) == 1, uint8(at)
	}
	hasMark := rnd.Intn(2) == 1
	var s sent
	for i := range n {
		d.Start, d.Part = i == 0 || rnd.Intn(3) == 0, uint8(min(i, 7))
		rest := someBytes(rnd, 1+rnd.Intn(6))
		p := rtp.Packet{Marker: i == n-1, Type: 96, Time: uint32(at) * 3000, Payload: payload(t, d, rest...)}
		if hasMark {
			p = marked(t, p, m)
		}
		s.packets = append(s.packets, p)
		s.frame.Parts = append(s.frame.Parts, Part{Desc: d, Rest: rest})
	}
	s.frame.Info, _, _ = Tell(s.packets[0])
	s.frame.Key = s.frame.Parts[0].Rest[0]&1 == 0
	return s
}

func TestWholeFramesAreToldAsThese(t *testing.T) { // P11.5
	rnd := rand.New(rand.NewSource(5))
	for range 200 {
		a := New()
		for at := range 30 {
			s := someSent(t, rnd, at)
			for i, p := range s.packets {
				got := a.In(packetOut(p))
				last := i == len(s.packets)-1
				if last && (len(got) != 1 || !sameItem(got[0], Item{Frame: s.frame}) || a.Building() != 0) {
					t.Fatalf("%+v; want %+v", got, s.frame)
				}
				if !last && (len(got) != 0 || a.Building() != i+1) {
					t.Fatalf("ahead of the last packet: %+v", got)
				}
			}
		}
	}
}

// leftOut are the packets of frames, some of which are left out, with gaps there; and which frames are not whole any more.
func leftOut(rnd *rand.Rand, frames []sent, odds int) (l []reorder.Out, hurt []bool) {
	hurt = make([]bool, len(frames))
	missing := false
	for at, s := range frames {
		for _, p := range s.packets {
			if rnd.Intn(odds) == 0 {
				hurt[at] = true
				if !missing || rnd.Intn(3) == 0 { // one gap, or some
					l = append(l, gap())
				}
				missing = true
				continue
			}
			missing = false
			l = append(l, packetOut(p))
		}
	}
	return l, hurt
}

func TestWhateverIsLeftOut(t *testing.T) { // P11.5
	rnd := rand.New(rand.NewSource(6))
	toldAll, knownAll := 0, 0
	for range 2000 {
		var frames []sent
		for at := range 20 {
			frames = append(frames, someSent(t, rnd, at))
		}
		l, hurt := leftOut(rnd, frames, 2+rnd.Intn(30))
		next := 0        // the first frame that may be told yet
		lost := []Item{} // since the last one that was told
		for _, x := range New().In(l...) {
			if x.Lost {
				lost = append(lost, x)
				if x.Known {
					knownAll++
				}
				continue
			}
			at := next
			for at < len(frames) && !Same(frames[at].frame, x.Frame) {
				at++
			}
			if at == len(frames) || hurt[at] {
				t.Fatalf("what was not sent whole, or not in order: %+v", x)
			}
			checkLosses(t, frames[next:at], hurt[next:at], lost)
			if at > next && len(lost) == 0 {
				t.Fatalf("no loss of %d frames", at-next)
			}
			next, lost = at+1, nil
			toldAll++
		}
		checkLosses(t, frames[next:], hurt[next:], lost)
	}
	if toldAll < 1000 || knownAll < 1000 {
		t.Errorf("%d told, %d known losses: too few to tell", toldAll, knownAll)
	}
}

// checkLosses checks what was lost of frames that are not told. A known loss is of one of them, in order.
func checkLosses(t *testing.T, frames []sent, hurt []bool, lost []Item) {
	t.Helper()
	if slices.Contains(hurt, false) {
		t.Fatalf("a whole frame is not told: %v", hurt)
	}
	if len(frames) == 0 && len(lost) > 0 || len(lost) > len(frames) {
		t.Fatalf("%d losses of %d frames", len(lost), len(frames))
	}
	at := 0
	for _, x := range lost {
		if !sameItem(x, Item{Lost: true, Known: x.Known, Tid: x.Tid, Drop: x.Drop}) || !x.Known && (x.Tid != 0 || x.Drop) {
			t.Fatalf("%+v", x)
		}
		for x.Known && at < len(frames) && (frames[at].frame.Info.Tid != x.Tid || frames[at].frame.Info.Drop != x.Drop) {
			at++
		}
		if x.Known && at == len(frames) {
			t.Fatalf("a loss of no frame that was: %+v", x)
		}
		if x.Known {
			at++
		}
	}
}

func TestAKnownLossIsThatOfTheFrame(t *testing.T) { // P11.5: one of its packets is left out, but not the first one
	rnd := rand.New(rand.NewSource(7))
	for at := range 2000 {
		before, s, behind := someSent(t, rnd, 3*at%3000), someSent(t, rnd, 3*at%3000+1), someSent(t, rnd, 3*at%3000+2)
		var l []reorder.Out
		for _, p := range before.packets {
			l = append(l, packetOut(p))
		}
		out := rnd.Intn(len(s.packets))
		for i, p := range s.packets {
			if i == out {
				l = append(l, gap())
			} else {
				l = append(l, packetOut(p))
			}
		}
		for _, p := range behind.packets {
			l = append(l, packetOut(p))
		}
		lost := Item{Lost: true, Known: true, Tid: s.frame.Info.Tid, Drop: s.frame.Info.Drop}
		if out == 0 || out == len(s.packets)-1 { // the frame's first packet, or its end, is missing: it may be more that is
			lost = Item{Lost: true}
		}
		want := []Item{{Frame: before.frame}, lost, {Frame: behind.frame}}
		if got := New().In(l...); !slices.EqualFunc(got, want, sameItem) {
			t.Fatalf("%d of %d: %+v; want %+v", out, len(s.packets), got, want)
		}
	}
}

func TestBehindABuffer(t *testing.T) { // P11.2: what chapter 10 tells, as it is
	rnd := rand.New(rand.NewSource(8))
	b, _ := reorder.New(4, 10)
	a := New()
	var want, got []Item
	n := uint64(70)
	for at := range 50 {
		s := someSent(t, rnd, at)
		for _, i := range rnd.Perm(min(len(s.packets), 4)) { // the first ones in whatever order
			if at == 0 {
				break
			}
			out, _ := b.In(n+uint64(i), s.packets[i], 0)
			got = append(got, a.In(out...)...)
		}
		for i, p := range s.packets {
			out, _ := b.In(n+uint64(i), p, 0)
			got = append(got, a.In(out...)...)
		}
		want = append(want, Item{Frame: s.frame})
		n += uint64(len(s.packets))
	}
	n++ // a packet is lost, and then a frame comes
	last := someSent(t, rnd, 60)
	for i, p := range last.packets {
		out, _ := b.In(n+uint64(i), p, 0)
		got = append(got, a.In(out...)...)
	}
	got = append(got, a.In(b.Tick(10)...)...)
	want = append(want, Item{Lost: true}, Item{Frame: last.frame})
	if !slices.EqualFunc(got, want, sameItem) {
		t.Errorf("%+v\nwant %+v", got, want)
	}
}

func TestWhatIsHandedInIsOnlyRead(t *testing.T) { // P11.4
	l := lettersOf("bg.Gkgg")
	was := lettersOf("bg.Gkgg")
	a := New()
	if got := short(a.In(l...)); got != "-2" || a.Building() != 3 {
		t.Fatalf("%q", got)
	}
	if !reflect.DeepEqual(l, was) {
		t.Errorf("%+v", l)
	}
	for i := range l {
		spoil(l[i].Packet.Payload)
		l[i] = reorder.Out{}
	}
	if got := short(a.In(lettersOf("G")...)); got != "kggg" {
		t.Errorf("what was handed in is kept: %q", got)
	}
}

func TestMemoryBehindAPayload(t *testing.T) { // P11.4
	memory := []byte{0xB0, 0x20, 0x80, 1, 7, 7, 7}
	p := letter('b')
	p.Packet.Payload = memory[:4]
	a := New()
	a.In(p)
	got := a.In(lettersOf("G")...)
	got[0].Frame.Parts[0].Rest = append(got[0].Frame.Parts[0].Rest, 9, 9, 9)
	if !bytes.Equal(memory, []byte{0xB0, 0x20, 0x80, 1, 7, 7, 7}) {
		t.Errorf("%x", memory)
	}
}

func TestWhatIsAnsweredIsNewMemory(t *testing.T) { // P11.4
	l := lettersOf("bggGbgGBkg")
	was := lettersOf("bggGbgGBkg")
	a := New()
	first := a.In(l...)
	second := New().In(l...)
	var kept []Frame
	for i := range first {
		f := first[i].Frame
		kept = append(kept, Copy(f))
		for k := range f.Parts {
			spoil(f.Parts[k].Rest)
			f.Parts[k].Rest = append(f.Parts[k].Rest, 9)
			f.Parts[k].Desc = vp8.Desc{Part: 9}
		}
		_ = append(f.Parts, Part{Rest: []byte{66}})
		first[i] = Item{}
	}
	if got := short(second); got != "bggg bgg b" || !reflect.DeepEqual(l, was) {
		t.Errorf("%q, %+v", got, l)
	}
	for i, x := range second {
		if !Same(x.Frame, kept[i]) {
			t.Errorf("%d: %+v; want %+v", i, x.Frame, kept[i])
		}
	}
	if got := short(a.In(lettersOf("gG")...)); got != "kggg" {
		t.Errorf("what is told is what is kept: %q", got)
	}
}

func TestAFrameBehindAnotherOne(t *testing.T) { // P11.4: what was told does not change with what comes
	a := New()
	first := a.In(lettersOf("bggG")...)
	second := a.In(lettersOf("kgggG")...)
	third := a.In(lettersOf("bG")...)
	if short(first) != "bggg" || short(second) != "kgggg" || short(third) != "bg" {
		t.Errorf("%q, %q, %q", short(first), short(second), short(third))
	}
}

func FuzzIn(f *testing.F) { // P11.2: no bytes panic; and Building is never more than 48
	f.Add([]byte("bggG.kgo"), []byte{0x10, 0})
	f.Add([]byte("BK..nN"), []byte{0x90, 0x80, 5, 1})
	f.Fuzz(func(t *testing.T, letters, b []byte) {
		a := New()
		for _, c := range letters {
			o := letter(c)
			if c == 'x' || c == 'X' {
				o.Packet.Payload = b
			}
			a.In(o)
			if n := a.Building(); n < 0 || n > 48 {
				t.Fatalf("%d parts", n)
			}
		}
		Tell(rtp.Packet{Type: 200, HasExt: true, Profile: 0xBEDE, Ext: b, Payload: b})
	})
}
