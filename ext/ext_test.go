package ext

import (
	"bytes"
	"encoding/hex"
	"math/rand"
	"slices"
	"strings"
	"testing"

	"easel/api"
)

// unhex tells the bytes that a text such as "10 AA" writes.
func unhex(t *testing.T, text string) []byte {
	t.Helper()
	b, err := hex.DecodeString(strings.ReplaceAll(text, " ", ""))
	if err != nil {
		t.Fatal(err)
	}
	return b
}

func someBytes(rnd *rand.Rand, n int) []byte {
	b := make([]byte, n)
	rnd.Read(b)
	return b
}

// counted are n bytes of which no two neighbours are the same, none of them 0.
func counted(n int) []byte {
	b := make([]byte, n)
	for i := range b {
		b[i] = byte(1 + i%251)
	}
	return b
}

func same(a, b []Element) bool {
	return slices.EqualFunc(a, b, func(x, y Element) bool { return x.Id == y.Id && bytes.Equal(x.Data, y.Data) })
}

// fits tells whether a form has such an element, as the chapter's table says it.
func fits(profile uint16, e Element) bool {
	if profile == 0xBEDE {
		return e.Id >= 1 && e.Id <= 14 && len(e.Data) >= 1 && len(e.Data) <= 16
	}
	return e.Id >= 1 && len(e.Data) <= 255
}

// plainPut writes elements that fit, byte by byte.
func plainPut(profile uint16, l []Element) []byte {
	var b []byte
	for _, e := range l {
		if profile == 0xBEDE {
			b = append(b, e.Id*16+byte(len(e.Data)-1))
		} else {
			b = append(b, e.Id, byte(len(e.Data)))
		}
		b = append(b, e.Data...)
	}
	for len(b)%4 != 0 {
		b = append(b, 0)
	}
	return b
}

// plainParse reads elements of a known profile, element by element.
func plainParse(profile uint16, b []byte) ([]Element, api.Errno) {
	if len(b)%4 != 0 {
		return nil, api.ErrLimit
	}
	var l []Element
	for len(b) > 0 {
		if b[0] == 0 {
			b = b[1:]
			continue
		}
		id, n, head := b[0], 0, 2
		if profile == 0xBEDE {
			id, n, head = b[0]/16, int(b[0]%16)+1, 1
			if id == 15 {
				return l, api.OK
			}
			if id == 0 {
				return nil, api.ErrElement
			}
		} else if len(b) == 1 {
			return nil, api.ErrShort
		} else {
			n = int(b[1])
		}
		if len(b) < head+n {
			return nil, api.ErrShort
		}
		l = append(l, Element{id, b[head : head+n]})
		b = b[head+n:]
	}
	return l, api.OK
}

// someElement is one that the form has; its edges come often.
func someElement(rnd *rand.Rand, profile uint16) Element {
	ids, sizes := []int{1, 2, 14, 1 + rnd.Intn(14)}, []int{1, 2, 16, 1 + rnd.Intn(16)}
	if profile != OneByte {
		ids, sizes = []int{1, 15, 255, 1 + rnd.Intn(255)}, []int{0, 1, 255, rnd.Intn(256)}
	}
	return Element{uint8(ids[rnd.Intn(len(ids))]), someBytes(rnd, sizes[rnd.Intn(len(sizes))])}
}

func someElements(rnd *rand.Rand, profile uint16) []Element {
	var l []Element
	for range rnd.Intn(7) {
		l = append(l, someElement(rnd, profile))
	}
	return l
}

// someProfile is a known one.
func someProfile(rnd *rand.Rand) uint16 {
	if rnd.Intn(2) == 0 {
		return OneByte
	}
	return TwoBytes + uint16(rnd.Intn(16))
}

// someRow is bytes that are often elements, with padding between them, and often not quite.
func someRow(rnd *rand.Rand, profile uint16) []byte {
	var b []byte
	for range rnd.Intn(6) {
		e := someElement(rnd, profile)
		if profile == OneByte {
			b = append(b, e.Id<<4|byte(len(e.Data)-1))
		} else {
			b = append(b, e.Id, byte(len(e.Data)))
		}
		b = append(append(b, e.Data...), make([]byte, rnd.Intn(3))...)
	}
	switch rnd.Intn(4) {
	case 0:
		b = append(b, someBytes(rnd, 1+rnd.Intn(9))...)
	case 1:
		b = append(b, 0xF0|byte(rnd.Intn(16)), byte(rnd.Intn(256)))
	}
	if len(b) > 0 && rnd.Intn(3) == 0 {
		b[rnd.Intn(len(b))] ^= 1 << rnd.Intn(8)
	}
	if len(b) > 0 && rnd.Intn(3) == 0 {
		b = b[:rnd.Intn(len(b))]
	}
	for len(b)%4 != 0 && rnd.Intn(20) != 0 {
		b = append(b, 0)
	}
	return b
}

func TestProfiles(t *testing.T) { // P3.1
	if OneByte != 0xBEDE || TwoBytes != 0x1000 {
		t.Errorf("%x, %x", OneByte, TwoBytes)
	}
	for n := range 1 << 16 {
		want := n == 0xBEDE || n >= 0x1000 && n <= 0x100F
		if Known(uint16(n)) != want {
			t.Errorf("%x", n)
		}
	}
}

func TestFormOfOne(t *testing.T) { // P3.1
	for id := range 256 {
		for _, n := range []int{0, 1, 2, 15, 16, 17, 18, 254, 255, 256, 257, 1 << 12, 1 << 16} {
			e := Element{uint8(id), make([]byte, n)}
			want, may := uint16(0), false
			if fits(TwoBytes, e) {
				want, may = TwoBytes, true
			}
			if fits(OneByte, e) {
				want, may = OneByte, true
			}
			if f, ok := Form(e); f != want || ok != may {
				t.Errorf("id %d, %d bytes: %x, %v", id, n, f, ok)
			}
		}
	}
}

func TestFormOfMany(t *testing.T) { // P3.1
	small, wide, none := Element{14, counted(16)}, Element{15, nil}, Element{0, counted(1)}
	for i, x := range []struct {
		l    []Element
		form uint16
		ok   bool
	}{
		{nil, OneByte, true},
		{[]Element{}, OneByte, true},
		{[]Element{small, small, small}, OneByte, true},
		{[]Element{small, wide}, TwoBytes, true},
		{[]Element{wide, small}, TwoBytes, true},
		{[]Element{small, {1, counted(17)}, small}, TwoBytes, true},
		{[]Element{small, {1, nil}, small}, TwoBytes, true},
		{[]Element{small, {1, []byte{}}, small}, TwoBytes, true},
		{[]Element{{255, counted(255)}, {1, counted(255)}}, TwoBytes, true},
		{[]Element{small, none}, 0, false},
		{[]Element{none, small}, 0, false},
		{[]Element{wide, none, wide}, 0, false},
		{[]Element{small, {1, counted(256)}}, 0, false},
		{[]Element{{}}, 0, false},
	} {
		if f, ok := Form(x.l...); f != x.form || ok != x.ok {
			t.Errorf("%d: %x, %v", i, f, ok)
		}
	}
}

func TestParseExamples(t *testing.T) { // P3.2
	for _, x := range []struct {
		b       string
		profile uint16
		l       []Element
		e       api.Errno
	}{
		{"10 AA 00 00", 0xBEDE, []Element{{1, []byte{0xAA}}}, api.OK},
		{"21 AA BB 00", 0xBEDE, []Element{{2, []byte{0xAA, 0xBB}}}, api.OK},
		{"05 00 02 02 AA BB 00 00", 0x1000, []Element{{5, nil}, {2, []byte{0xAA, 0xBB}}}, api.OK},
		{"F0 12 34 56", 0xBEDE, nil, api.OK},
		{"00 00 00 13", 0xBEDE, nil, api.ErrShort},
	} {
		if l, e := Parse(x.profile, unhex(t, x.b)); e != x.e || !same(l, x.l) {
			t.Errorf("%s: %v, %d", x.b, l, e)
		}
	}
}

func TestParseOfOneByte(t *testing.T) { // P3.2
	a := Element{1, []byte{0xAA}}
	for _, x := range []struct {
		name, b string
		l       []Element
	}{
		{"nothing", "", nil},
		{"padding alone", "00 00 00 00 00 00 00 00", nil},
		{"padding ahead", "00 00 10 AA", []Element{a}},
		{"padding between", "10 AA 00 10 AA 00 00 10 AA 00 00 00", []Element{a, a, a}},
		{"no padding", "10 AA 10 AA", []Element{a, a}},
		{"data that look like padding", "31 00 00 10 AA 00 00 00", []Element{{3, []byte{0, 0}}, a}},
		{"data that look like an end", "30 F0 10 AA", []Element{{3, []byte{0xF0}}, a}},
		{"data that look like what may not be", "30 01 10 AA", []Element{{3, []byte{1}}, a}},
		{"the last id", "E0 01 00 00", []Element{{14, []byte{1}}}},
		{"the most bytes", "EF 01 02 03 04 05 06 07 08 09 0A 0B 0C 0D 0E 0F 10 00 00 00", []Element{{14, counted(16)}}},
		{"an end", "10 AA F0 10", []Element{a}},
		{"an end whose data do not fit", "10 AA 00 FF", []Element{a}},
		{"an end ahead of what may not be", "10 AA F3 01 05 00 00 00", []Element{a}},
		{"an end ahead of what is short", "10 AA F0 1F", []Element{a}},
		{"an end, and elements behind it", "F0 10 AA 00 10 AA 10 AA", nil},
	} {
		if l, e := Parse(0xBEDE, unhex(t, x.b)); e != api.OK || !same(l, x.l) {
			t.Errorf("%s: %v, %d", x.name, l, e)
		}
	}
}

func TestParseOfTwoBytes(t *testing.T) { // P3.2
	for _, x := range []struct {
		name, b string
		l       []Element
	}{
		{"nothing", "", nil},
		{"padding alone", "00 00 00 00", nil},
		{"padding ahead", "00 01 01 AA", []Element{{1, []byte{0xAA}}}},
		{"padding between", "01 01 AA 00 00 02 01 BB", []Element{{1, []byte{0xAA}}, {2, []byte{0xBB}}}},
		{"no data at the end", "00 00 07 00", []Element{{7, nil}}},
		{"no data, twice", "07 00 07 00", []Element{{7, nil}, {7, nil}}},
		{"data that look like padding", "01 02 00 00 02 00 00 00", []Element{{1, []byte{0, 0}}, {2, nil}}},
		{"id 15 ends nothing", "0F 01 AA 00 10 01 BB 00", []Element{{15, []byte{0xAA}}, {16, []byte{0xBB}}}},
		{"F0 ends nothing", "F0 01 AA 00 FF 01 BB 00", []Element{{240, []byte{0xAA}}, {255, []byte{0xBB}}}},
		{"17 bytes", "01 11" + hex.EncodeToString(counted(17)) + "00", []Element{{1, counted(17)}}},
		{"the most bytes", "FF FF" + hex.EncodeToString(counted(255)) + "00 00 00", []Element{{255, counted(255)}}},
	} {
		for profile := 0x1000; profile <= 0x100F; profile++ {
			if l, e := Parse(uint16(profile), unhex(t, x.b)); e != api.OK || !same(l, x.l) {
				t.Errorf("%s, %x: %v, %d", x.name, profile, l, e)
			}
		}
	}
}

func TestParseErrors(t *testing.T) { // P3.2
	for _, x := range []struct {
		name    string
		profile uint16
		b       string
		want    api.Errno
	}{
		{"no profile, nothing", 0, "", api.ErrProfile},
		{"one below", 0x0FFF, "00 00 00 00", api.ErrProfile},
		{"one above", 0x1010, "00 00 00 00", api.ErrProfile},
		{"another one below", 0xBEDD, "00 00 00 00", api.ErrProfile},
		{"another one above", 0xBEDF, "00 00 00 00", api.ErrProfile},
		{"both bytes changed about", 0xDEBE, "00 00 00 00", api.ErrProfile},
		{"the profile ahead of the limit", 0x2000, "01", api.ErrProfile},
		{"1 byte", 0xBEDE, "00", api.ErrLimit},
		{"2 bytes", 0xBEDE, "10 AA", api.ErrLimit},
		{"3 bytes", 0x1000, "01 01 AA", api.ErrLimit},
		{"5 bytes", 0x100F, "01 03 AA AA AA", api.ErrLimit},
		{"the limit ahead of what may not be", 0xBEDE, "01 00 00", api.ErrLimit},
		{"the limit ahead of what is short", 0xBEDE, "1F", api.ErrLimit},
		{"the limit behind an end", 0xBEDE, "F0 00 00 00 00", api.ErrLimit},
		{"id 0, number 1", 0xBEDE, "01 00 00 00", api.ErrElement},
		{"id 0, number 15", 0xBEDE, "0F 00 00 00", api.ErrElement},
		{"id 0, though its data do not fit", 0xBEDE, "00 00 00 01", api.ErrElement},
		{"id 0, behind an element", 0xBEDE, "10 AA 02 00", api.ErrElement},
		{"id 0, ahead of what is short", 0xBEDE, "02 00 00 1F", api.ErrElement},
		{"what is short, its data like id 0", 0xBEDE, "1F 02 00 00", api.ErrShort},
		{"id 0, ahead of an end", 0xBEDE, "02 F0 00 00", api.ErrElement},
		{"data of none, of 1", 0xBEDE, "10 AA 00 10", api.ErrShort},
		{"data of 3, of 4", 0xBEDE, "13 01 02 03", api.ErrShort},
		{"data of 15, of 16", 0xBEDE, "1F" + hex.EncodeToString(counted(15)), api.ErrShort},
		{"no number", 0x1000, "00 00 00 01", api.ErrShort},
		{"no number behind an element", 0x100F, "01 01 AA FF", api.ErrShort},
		{"no data of 1", 0x1000, "00 00 01 01", api.ErrShort},
		{"data of 2, of 3", 0x1000, "01 03 AA AA", api.ErrShort},
		{"data of 254, of 255", 0x1000, "01 FF" + hex.EncodeToString(counted(254)), api.ErrShort},
		{"id 0 is padding in two bytes", 0x1000, "00 05 01 AA", api.OK},
	} {
		if l, e := Parse(x.profile, unhex(t, x.b)); e != x.want || e != api.OK && len(l) != 0 {
			t.Errorf("%s: %v, %d; want %d", x.name, l, e, x.want)
		}
	}
}

func TestParseEveryFirstByte(t *testing.T) { // P3.2: each first byte, with each number of bytes behind it
	for first := range 256 {
		for n := range 8 {
			b := append([]byte{byte(first)}, counted(4*n+3)...)
			for _, profile := range []uint16{OneByte, TwoBytes} {
				want, fail := plainParse(profile, b)
				if l, e := Parse(profile, b); e != fail || !same(l, want) {
					t.Errorf("%x, %x: %v, %d", profile, b, l, e)
				}
			}
		}
	}
}

func TestParseRows(t *testing.T) { // P3.2
	rnd := rand.New(rand.NewSource(1))
	told := map[api.Errno]int{}
	for range 30000 {
		profile := someProfile(rnd)
		b := someRow(rnd, profile)
		want, fail := plainParse(profile, b)
		if l, e := Parse(profile, b); e != fail || !same(l, want) {
			t.Fatalf("%x, %x: %v, %d; want %v, %d", profile, b, l, e, want, fail)
		}
		told[fail]++
	}
	for _, e := range []api.Errno{api.OK, api.ErrLimit, api.ErrElement, api.ErrShort} {
		if told[e] < 100 {
			t.Errorf("%d: %d rows, too few to tell", e, told[e])
		}
	}
}

func TestPutExamples(t *testing.T) { // P3.3
	for _, x := range []struct {
		name    string
		profile uint16
		l       []Element
		want    string
	}{
		{"nothing", 0xBEDE, nil, ""},
		{"nothing, in two bytes", 0x1000, []Element{}, ""},
		{"1 byte", 0xBEDE, []Element{{1, []byte{0xAA}}}, "10 AA 00 00"},
		{"2 bytes", 0xBEDE, []Element{{2, []byte{0xAA, 0xBB}}}, "21 AA BB 00"},
		{"3 bytes", 0xBEDE, []Element{{3, []byte{1, 2, 3}}}, "32 01 02 03"},
		{"4 bytes", 0xBEDE, []Element{{4, []byte{1, 2, 3, 4}}}, "43 01 02 03 04 00 00 00"},
		{"no padding between", 0xBEDE, []Element{{14, []byte{1}}, {14, []byte{2}}, {1, []byte{0, 0}}}, "E0 01 E0 02 11 00 00 00"},
		{"no data, and 2 bytes", 0x1000, []Element{{5, nil}, {2, []byte{0xAA, 0xBB}}}, "05 00 02 02 AA BB 00 00"},
		{"no data", 0x100F, []Element{{255, []byte{}}}, "FF 00 00 00"},
		{"1 byte, in two bytes", 0x1007, []Element{{15, []byte{9}}}, "0F 01 09 00"},
		{"2 bytes, in two bytes", 0x1000, []Element{{1, []byte{9, 8}}}, "01 02 09 08"},
	} {
		if b, e := Put(x.profile, x.l...); e != api.OK || !bytes.Equal(b, unhex(t, x.want)) {
			t.Errorf("%s: %x, %d", x.name, b, e)
		}
	}
}

func TestPutOfOne(t *testing.T) { // P3.3: each id, with each number of bytes
	for _, profile := range []uint16{OneByte, 0x1000, 0x100F} {
		for id := range 256 {
			for n := range 259 {
				e := Element{uint8(id), counted(n)}
				want, fail := []byte(nil), api.ErrElement
				if fits(profile, e) {
					want, fail = plainPut(profile, []Element{e}), api.OK
				}
				if b, e := Put(profile, e); e != fail || !bytes.Equal(b, want) {
					t.Errorf("%x, id %d, %d bytes: %x, %d", profile, id, n, b, e)
				}
			}
		}
	}
}

func TestPutErrors(t *testing.T) { // P3.3
	good := Element{1, []byte{1}}
	for _, x := range []struct {
		name    string
		profile uint16
		l       []Element
		want    api.Errno
	}{
		{"no profile, nothing", 0, nil, api.ErrProfile},
		{"one below", 0x0FFF, []Element{good}, api.ErrProfile},
		{"one above", 0x1010, []Element{good}, api.ErrProfile},
		{"another one below", 0xBEDD, []Element{good}, api.ErrProfile},
		{"another one above", 0xBEDF, []Element{good}, api.ErrProfile},
		{"the profile ahead of the element", 0x2000, []Element{{}}, api.ErrProfile},
		{"id 0", 0xBEDE, []Element{{0, []byte{1}}}, api.ErrElement},
		{"id 15", 0xBEDE, []Element{{15, []byte{1}}}, api.ErrElement},
		{"id 16", 0xBEDE, []Element{{16, []byte{1}}}, api.ErrElement},
		{"no data", 0xBEDE, []Element{{1, nil}}, api.ErrElement},
		{"17 bytes", 0xBEDE, []Element{{1, counted(17)}}, api.ErrElement},
		{"id 0, in two bytes", 0x1000, []Element{{0, []byte{1}}}, api.ErrElement},
		{"id 0, without data", 0x1000, []Element{{}}, api.ErrElement},
		{"256 bytes", 0x1000, []Element{{1, counted(256)}}, api.ErrElement},
		{"65536 bytes", 0x1000, []Element{{1, counted(65536)}}, api.ErrElement},
		{"the first one", 0xBEDE, []Element{{15, []byte{1}}, good}, api.ErrElement},
		{"the last one", 0xBEDE, []Element{good, good, {1, nil}}, api.ErrElement},
		{"the last one, in two bytes", 0x100F, []Element{good, {1, counted(256)}}, api.ErrElement},
	} {
		if b, e := Put(x.profile, x.l...); e != x.want || len(b) != 0 {
			t.Errorf("%s: %x, %d; want %d", x.name, b, e, x.want)
		}
	}
}

func TestPutMoreThanAnExtensionHolds(t *testing.T) { // P3.3: it knows no bound of all elements
	l := slices.Repeat([]Element{{255, counted(255)}}, 1100)
	b, e := Put(TwoBytes, l...)
	if e != api.OK || !bytes.Equal(b, plainPut(TwoBytes, l)) {
		t.Fatalf("%d bytes, %d", len(b), e)
	}
	if got, e := Parse(TwoBytes, b); e != api.OK || !same(got, l) {
		t.Errorf("%d elements, %d", len(got), e)
	}
}

func TestFind(t *testing.T) { // P3.4
	l := []Element{{7, []byte{1, 2}}, {0, []byte{3}}, {255, nil}, {7, []byte{4}}, {9, []byte{}}, {9, []byte{5}}}
	for id := range 256 {
		want, is := map[int][]byte{7: {1, 2}, 0: {3}, 255: nil, 9: nil}[id]
		if b, ok := Find(uint8(id), l...); ok != is || !bytes.Equal(b, want) {
			t.Errorf("%d: %x, %v", id, b, ok)
		}
		if b, ok := Find(uint8(id)); ok || len(b) != 0 {
			t.Errorf("%d of none: %x, %v", id, b, ok)
		}
	}
	if b, ok := Find(1, Element{1, counted(1000)}); !ok || !bytes.Equal(b, counted(1000)) {
		t.Errorf("what no form has: %x, %v", b, ok)
	}
}

// spoil changes all memory of a list, that behind its length too.
func spoil(b []byte) {
	for i := range b[:cap(b)] {
		b[:cap(b)][i] = 0xFF
	}
}

// roomy are elements whose lists have memory behind their lengths.
func roomy() (l []Element, memory []byte) {
	memory = []byte{1, 2, 3, 4, 5, 6, 7, 8}
	l = []Element{{1, memory[:2]}, {2, memory[4:5]}, {3, memory[6:7]}}
	return l[:2], memory
}

func TestElementsAreOnlyRead(t *testing.T) { // P3.5
	l, memory := roomy()
	for _, profile := range []uint16{OneByte, TwoBytes} {
		want := plainPut(profile, l)
		b, e := Put(profile, l...)
		again, _ := Put(profile, l...)
		if e != api.OK || !bytes.Equal(b, want) {
			t.Errorf("%x: %x, %d", profile, b, e)
		}
		spoil(b)
		if !bytes.Equal(again, want) {
			t.Errorf("%x: two answers share memory: %x", profile, again)
		}
	}
	Put(0)
	Put(0xBEDE, append(l[:1:1], Element{})...)
	Form(l...)
	found, _ := Find(1, l...)
	again, _ := Find(1, l...)
	spoil(found)
	if was, bytesWere := roomy(); !same(l[:3], was[:3]) || !bytes.Equal(memory, bytesWere) {
		t.Errorf("%v, %x", l[:3], memory)
	}
	spoil(memory)
	if !bytes.Equal(again, []byte{1, 2}) {
		t.Errorf("what was found changes with the elements: %x", again)
	}
}

func TestBytesAreOnlyRead(t *testing.T) { // P3.5
	for profile, text := range map[uint16]string{
		OneByte:  "11 01 02 20 03 30 04 00",
		TwoBytes: "01 02 01 02 02 01 03 00 03 01 04 00",
	} {
		b := unhex(t, text)
		memory := append(slices.Clone(b), 0xAA, 0xAA, 0xAA, 0xAA)
		was := slices.Clone(memory)
		want := []Element{{1, []byte{1, 2}}, {2, []byte{3}}, {3, []byte{4}}}
		l, _ := Parse(profile, memory[:len(b)])
		again, _ := Parse(profile, memory[:len(b)])
		for i, e := range l {
			spoil(e.Data)
			if !same(l[i+1:], want[i+1:]) {
				t.Errorf("%x: elements share memory: %v", profile, l)
			}
		}
		if !bytes.Equal(memory, was) || !same(again, want) {
			t.Errorf("%x: %x, %v", profile, memory, again)
		}
		spoil(memory)
		if !same(again, want) {
			t.Errorf("%x: what was parsed changes with the bytes: %v", profile, again)
		}
	}
}

func TestWhatIsPutIsParsed(t *testing.T) { // P3.6
	rnd := rand.New(rand.NewSource(2))
	for range 5000 {
		profile := someProfile(rnd)
		l := someElements(rnd, profile)
		b, e := Put(profile, l...)
		if e != api.OK || len(b)%4 != 0 || !bytes.Equal(b, plainPut(profile, l)) {
			t.Fatalf("%x, %v: %x, %d", profile, l, b, e)
		}
		if got, e := Parse(profile, b); e != api.OK || !same(got, l) {
			t.Fatalf("%x, %x: %v, %d; want %v", profile, b, got, e, l)
		}
	}
}

func TestWhatIsParsedIsPut(t *testing.T) { // P3.6
	rnd := rand.New(rand.NewSource(3))
	parsed := 0
	for range 20000 {
		profile := someProfile(rnd)
		b := someRow(rnd, profile)
		l, e := Parse(profile, b)
		if e != api.OK {
			continue
		}
		parsed++
		putsAgain(t, profile, b, l)
	}
	if parsed < 5000 {
		t.Errorf("%d parsed: too few to tell", parsed)
	}
}

// putsAgain checks that what was parsed may be put, in no more bytes, and is parsed so again.
func putsAgain(t *testing.T, profile uint16, b []byte, l []Element) {
	t.Helper()
	c, e := Put(profile, l...)
	if e != api.OK || len(c) > len(b) {
		t.Fatalf("%x, %x: %x, %d", profile, b, c, e)
	}
	if again, e := Parse(profile, c); e != api.OK || !same(again, l) {
		t.Fatalf("%x, %x: %v, %d; want %v", profile, c, again, e, l)
	}
	if form, ok := Form(l...); !ok || form != OneByte && profile == OneByte {
		t.Fatalf("%x, %v: %x, %v", profile, l, form, ok)
	}
}

func TestWhatFormTellsIsPut(t *testing.T) { // P3.6
	rnd := rand.New(rand.NewSource(4))
	told := map[uint16]int{}
	for range 20000 {
		var l []Element
		for range rnd.Intn(4) {
			ids, sizes := []int{1, 14, 1 + rnd.Intn(255), rnd.Intn(20)}, []int{1, 16, rnd.Intn(20), 240 + rnd.Intn(20)}
			l = append(l, Element{uint8(ids[rnd.Intn(4)]), someBytes(rnd, sizes[rnd.Intn(4)])})
		}
		form, ok := Form(l...)
		told[form]++
		if !ok {
			_, one := Put(OneByte, l...)
			_, two := Put(TwoBytes, l...)
			if form != 0 || one != api.ErrElement || two != api.ErrElement {
				t.Fatalf("%v: %x, yet %d, %d", l, form, one, two)
			}
			continue
		}
		b, e := Put(form, l...)
		if got, fail := Parse(form, b); !Known(form) || e != api.OK || fail != api.OK || !same(got, l) {
			t.Fatalf("%v: %x, %x, %d, %d", l, form, b, e, fail)
		}
		if _, e := Put(OneByte, l...); (form == OneByte) != (e == api.OK) {
			t.Fatalf("%v: %x, in one byte %d", l, form, e)
		}
	}
	if told[0] < 500 || told[OneByte] < 500 || told[TwoBytes] < 500 {
		t.Errorf("%v: too few to tell", told)
	}
}

func FuzzParse(f *testing.F) { // P3.2, P3.6: no bytes panic
	f.Add(OneByte, []byte{0x10, 0xAA, 0, 0})
	f.Add(TwoBytes, []byte{5, 0, 2, 2, 0xAA, 0xBB, 0, 0})
	f.Fuzz(func(t *testing.T, profile uint16, b []byte) {
		l, e := Parse(profile, b)
		if !Known(profile) {
			if e != api.ErrProfile || len(l) != 0 {
				t.Errorf("%x: %v, %d", profile, l, e)
			}
			return
		}
		want, fail := plainParse(profile, b)
		if e != fail || !same(l, want) {
			t.Fatalf("%v, %d; want %v, %d", l, e, want, fail)
		}
		if e == api.OK {
			putsAgain(t, profile, b, l)
		}
	})
}
