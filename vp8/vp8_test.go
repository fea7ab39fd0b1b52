package vp8

import (
	"bytes"
	"encoding/hex"
	"math/rand"
	"slices"
	"strconv"
	"strings"
	"testing"

	"easel/api"
)

// unhex tells the bytes that a text such as "90 80" writes.
func unhex(t *testing.T, text string) []byte {
	t.Helper()
	b, err := hex.DecodeString(strings.ReplaceAll(text, " ", ""))
	if err != nil {
		t.Fatal(err)
	}
	return b
}

func someBytes(rnd *rand.Rand, n int) []byte {
	b := make([]byte, n)
	rnd.Read(b)
	return b
}

// spoil changes all memory of a list, that behind its length too.
func spoil(b []byte) {
	for i := range b[:cap(b)] {
		b[:cap(b)][i] ^= 0xFF
	}
}

// plainRight tells what the chapter calls right, part by part.
func plainRight(d Desc) bool {
	switch {
	case d.Part > 7 || d.Tid > 3 || d.KeyIdx > 31 || d.Pic > 32767 || d.Pic > 127 && !d.Long:
		return false
	case !d.HasPic && (d.Long || d.Pic != 0), !d.HasTl0 && d.Tl0 != 0:
		return false
	case !d.HasTid && (d.Tid != 0 || d.Sync), !d.HasKey && d.KeyIdx != 0:
		return false
	}
	return true
}

func digit(x bool) string {
	if x {
		return "1"
	}
	return "0"
}

// digits tells the lowest so many digits of n, the greatest first.
func digits(n, many int) string {
	s := strings.Repeat("0", 64) + strconv.FormatInt(int64(n), 2)
	return s[len(s)-many:]
}

func number(s string) int {
	n := 0
	for _, c := range s {
		n = 2*n + int(c-'0')
	}
	return n
}

// plainPut writes a descriptor that is right as the chapter's table says, with those reserved digits (1 or 0).
func plainPut(d Desc, reserved string) []byte {
	more := d.HasPic || d.HasTl0 || d.HasTid || d.HasKey
	s := digit(more) + reserved + digit(d.N) + digit(d.Start) + reserved + digits(int(d.Part), 3)
	if more {
		s += digit(d.HasPic) + digit(d.HasTl0) + digit(d.HasTid) + digit(d.HasKey) + strings.Repeat(reserved, 4)
	}
	if d.HasPic && d.Long {
		s += "1" + digits(int(d.Pic), 15)
	} else if d.HasPic {
		s += "0" + digits(int(d.Pic), 7)
	}
	if d.HasTl0 {
		s += digits(int(d.Tl0), 8)
	}
	if d.HasTid {
		s += digits(int(d.Tid), 2) + digit(d.Sync)
	} else if d.HasKey {
		s += strings.Repeat(reserved, 3)
	}
	if d.HasKey {
		s += digits(int(d.KeyIdx), 5)
	} else if d.HasTid {
		s += strings.Repeat(reserved, 5)
	}
	var b []byte
	for ; len(s) > 0; s = s[8:] {
		b = append(b, byte(number(s[:8])))
	}
	return b
}

// plainParse reads a descriptor; it also tells whether X was there for nothing.
func plainParse(b []byte) (d Desc, rest []byte, idle bool, e api.Errno) {
	next := func() string {
		if len(b) == 0 {
			e = api.ErrShort
			return digits(0, 8)
		}
		s := digits(int(b[0]), 8)
		b = b[1:]
		return s
	}
	first := next()
	d.N, d.Start, d.Part = first[2] == '1', first[3] == '1', uint8(number(first[5:]))
	if first[0] == '1' {
		second := next()
		idle = number(second[:4]) == 0
		d.HasPic, d.HasTl0, d.HasTid, d.HasKey = second[0] == '1', second[1] == '1', second[2] == '1', second[3] == '1'
	}
	if d.HasPic {
		s := next()
		if d.Long = s[0] == '1'; d.Long {
			s += next()
		}
		d.Pic = uint16(number(s[1:]))
	}
	if d.HasTl0 {
		d.Tl0 = uint8(number(next()))
	}
	if d.HasTid || d.HasKey {
		s := next()
		if d.HasTid {
			d.Tid, d.Sync = uint8(number(s[:2])), s[2] == '1'
		}
		if d.HasKey {
			d.KeyIdx = uint8(number(s[3:]))
		}
	}
	if e != api.OK {
		return Desc{}, nil, false, e
	}
	return d, b, idle, api.OK
}

// descs are all descriptors of some numbers, right ones and others, the edges and one past them among them.
func descs(each func(d Desc)) {
	for flags := range 1 << 8 {
		has := func(i int) bool { return flags>>i&1 == 1 }
		for _, pic := range []uint16{0, 1, 127, 128, 0x4001, 32767, 32768, 65535} {
			for _, tl0 := range []uint8{0, 1, 129, 255} {
				for _, tid := range []uint8{0, 1, 2, 3, 4, 255} {
					for _, key := range []uint8{0, 1, 31, 32, 255} {
						d := Desc{
							HasPic: has(0), Long: has(1), HasTl0: has(2), HasTid: has(3), Sync: has(4), HasKey: has(5), N: has(6), Start: has(7),
							Pic: pic, Tl0: tl0, Tid: tid, KeyIdx: key,
						}
						for _, part := range []uint8{0, 5, 7, 8, 255} {
							d.Part = part
							each(d)
						}
					}
				}
			}
		}
	}
}

// someDesc is one that is right.
func someDesc(rnd *rand.Rand) Desc {
	flag := func() bool { return rnd.Intn(2) == 1 }
	d := Desc{N: flag(), Start: flag(), Part: uint8(rnd.Intn(8)), HasPic: flag(), HasTl0: flag(), HasTid: flag(), HasKey: flag()}
	if d.HasPic {
		d.Long = flag()
		d.Pic = uint16(rnd.Intn(128))
		if d.Long && flag() {
			d.Pic = uint16(rnd.Intn(1 << 15))
		}
	}
	if d.HasTl0 {
		d.Tl0 = uint8(rnd.Intn(256))
	}
	if d.HasTid {
		d.Tid, d.Sync = uint8(rnd.Intn(4)), flag()
	}
	if d.HasKey {
		d.KeyIdx = uint8(rnd.Intn(32))
	}
	return d
}

// full has every part, each number at its greatest.
func full() Desc {
	return Desc{
		N: true, Start: true, Part: 7, HasPic: true, Long: true, Pic: 32767, HasTl0: true, Tl0: 255,
		HasTid: true, Tid: 3, Sync: true, HasKey: true, KeyIdx: 31,
	}
}

func TestExamples(t *testing.T) { // P5.1, P5.2
	for _, x := range []struct {
		text string
		d    Desc
		rest string
		key  bool
	}{
		{"10 00", Desc{Start: true}, "00", true},
		{"90 80 05 01", Desc{Start: true, HasPic: true, Pic: 5}, "01", false},
		{"B0 F0 81 23 07 60", Desc{
			N: true, Start: true, HasPic: true, Long: true, Pic: 0x123, HasTl0: true, Tl0: 7, HasTid: true, Tid: 1, Sync: true, HasKey: true,
		}, "", false},
	} {
		b, rest := unhex(t, x.text), unhex(t, x.rest)
		d, got, e := Parse(b)
		if e != api.OK || d != x.d || !bytes.Equal(got, rest) {
			t.Errorf("%s: %v, %x, %d", x.text, d, got, e)
		}
		if !d.Right() || d.Len() != len(b)-len(rest) || d.Key(got) != x.key {
			t.Errorf("%s: right %v, %d bytes, key %v", x.text, d.Right(), d.Len(), d.Key(got))
		}
		if again, e := Put(x.d, rest); e != api.OK || !bytes.Equal(again, b) {
			t.Errorf("%s, put: %x, %d", x.text, again, e)
		}
	}
	for _, text := range []string{"80", "90 80 85"} {
		failsShort(t, unhex(t, text))
	}
}

// failsShort checks that bytes end amid a descriptor, and that nothing is told of them.
func failsShort(t *testing.T, b []byte) {
	t.Helper()
	if d, rest, e := Parse(b); e != api.ErrShort || d != (Desc{}) || len(rest) != 0 {
		t.Errorf("%x: %v, %x, %d; want ErrShort, and nothing", b, d, rest, e)
	}
}

func TestEachPartHasItsDigits(t *testing.T) { // P5.2
	for _, x := range []struct {
		d    Desc
		text string
	}{
		{Desc{}, "00"},
		{Desc{N: true}, "20"},
		{Desc{Start: true}, "10"},
		{Desc{Part: 1}, "01"},
		{Desc{Part: 4}, "04"},
		{Desc{Part: 7}, "07"},
		{Desc{HasPic: true}, "80 80 00"},
		{Desc{HasPic: true, Pic: 127}, "80 80 7F"},
		{Desc{HasPic: true, Long: true}, "80 80 80 00"},
		{Desc{HasPic: true, Long: true, Pic: 1}, "80 80 80 01"},
		{Desc{HasPic: true, Long: true, Pic: 128}, "80 80 80 80"},
		{Desc{HasPic: true, Long: true, Pic: 0x4001}, "80 80 C0 01"},
		{Desc{HasPic: true, Long: true, Pic: 32767}, "80 80 FF FF"},
		{Desc{HasTl0: true}, "80 40 00"},
		{Desc{HasTl0: true, Tl0: 129}, "80 40 81"},
		{Desc{HasTid: true}, "80 20 00"},
		{Desc{HasTid: true, Tid: 1}, "80 20 40"},
		{Desc{HasTid: true, Tid: 2}, "80 20 80"},
		{Desc{HasTid: true, Sync: true}, "80 20 20"},
		{Desc{HasTid: true, Tid: 3, Sync: true}, "80 20 E0"},
		{Desc{HasKey: true}, "80 10 00"},
		{Desc{HasKey: true, KeyIdx: 17}, "80 10 11"},
		{Desc{HasKey: true, KeyIdx: 31}, "80 10 1F"},
		{Desc{HasTid: true, HasKey: true, Tid: 2, KeyIdx: 1}, "80 30 81"},
		{Desc{HasPic: true, HasTl0: true, Pic: 1, Tl0: 2}, "80 C0 01 02"},
		{Desc{HasTl0: true, HasTid: true, Tl0: 2, Tid: 1}, "80 60 02 40"},
		{full(), "B7 F0 FF FF FF FF"},
	} {
		b := unhex(t, x.text)
		if got, e := Put(x.d, nil); e != api.OK || !bytes.Equal(got, b) {
			t.Errorf("%s: %x, %d", x.text, got, e)
		}
		if d, rest, e := Parse(b); e != api.OK || d != x.d || len(rest) != 0 {
			t.Errorf("%s, parsed: %v, %x, %d", x.text, d, rest, e)
		}
		if x.d.Len() != len(b) {
			t.Errorf("%s: %d bytes", x.text, x.d.Len())
		}
	}
}

func TestRight(t *testing.T) { // P5.1, P5.2
	for i, x := range []struct {
		d    Desc
		want bool
	}{
		{Desc{}, true},
		{full(), true},
		{Desc{N: true, Start: true}, true},
		{Desc{Part: 7}, true},
		{Desc{Part: 8}, false},
		{Desc{Part: 255}, false},
		{Desc{HasPic: true, Pic: 127}, true},
		{Desc{HasPic: true, Pic: 128}, false},
		{Desc{HasPic: true, Pic: 32768}, false},
		{Desc{HasPic: true, Long: true, Pic: 5}, true},
		{Desc{HasPic: true, Long: true, Pic: 32767}, true},
		{Desc{HasPic: true, Long: true, Pic: 32768}, false},
		{Desc{HasPic: true, Long: true, Pic: 65535}, false},
		{Desc{Pic: 1}, false},
		{Desc{Long: true}, false},
		{Desc{Long: true, Pic: 1}, false},
		{Desc{HasTl0: true, Tl0: 255}, true},
		{Desc{Tl0: 1}, false},
		{Desc{HasTid: true, Tid: 3, Sync: true}, true},
		{Desc{HasTid: true, Tid: 4}, false},
		{Desc{HasTid: true, Tid: 255}, false},
		{Desc{Tid: 1}, false},
		{Desc{Sync: true}, false},
		{Desc{HasKey: true, Tid: 1}, false},
		{Desc{HasKey: true, Sync: true}, false},
		{Desc{HasKey: true, KeyIdx: 31}, true},
		{Desc{HasKey: true, KeyIdx: 32}, false},
		{Desc{HasKey: true, KeyIdx: 255}, false},
		{Desc{KeyIdx: 1}, false},
		{Desc{HasTid: true, KeyIdx: 1}, false},
	} {
		if x.d.Right() != x.want {
			t.Errorf("%d: %v: right %v", i, x.d, x.d.Right())
		}
		b, e := Put(x.d, []byte{9})
		if (e == api.OK) != x.want || !x.want && (e != api.ErrDesc || len(b) != 0 || x.d.Len() != 0) {
			t.Errorf("%d: %v: %x, %d; %d bytes", i, x.d, b, e, x.d.Len())
		}
	}
}

func TestPutAll(t *testing.T) { // P5.1, P5.2, P5.5
	right, wrong, rest := 0, 0, []byte{1, 0, 0xFF}
	descs(func(d Desc) {
		b, e := Put(d, rest)
		if d.Right() != plainRight(d) {
			t.Fatalf("%v: right %v", d, d.Right())
		}
		if !plainRight(d) {
			wrong++
			if e != api.ErrDesc || len(b) != 0 || d.Len() != 0 {
				t.Fatalf("%v: %x, %d; %d bytes", d, b, e, d.Len())
			}
			return
		}
		right++
		want := plainPut(d, "0")
		if e != api.OK || !bytes.Equal(b, append(slices.Clone(want), rest...)) || d.Len() != len(want) {
			t.Fatalf("%v: %x, %d; %d bytes; want %x", d, b, e, d.Len(), want)
		}
		if got, behind, e := Parse(b); e != api.OK || got != d || !bytes.Equal(behind, rest) {
			t.Fatalf("%x: %v, %x, %d; want %v", b, got, behind, e, d)
		}
	})
	if right < 1000 || wrong < 1000 {
		t.Errorf("%d right, %d wrong: too few to tell", right, wrong)
	}
}

// parsesPlainly checks what is parsed of bytes, and that it may be put, in as many bytes or one less, and is parsed so again.
func parsesPlainly(t *testing.T, b []byte) {
	t.Helper()
	d, rest, e := Parse(b)
	want, behind, idle, fail := plainParse(b)
	if e != fail || d != want || !bytes.Equal(rest, behind) {
		t.Fatalf("%x: %v, %x, %d; want %v, %x, %d", b, d, rest, e, want, behind, fail)
	}
	if e != api.OK {
		return
	}
	c, e := Put(d, rest)
	less := 0
	if idle {
		less = 1
	}
	if e != api.OK || !d.Right() || len(c) != len(b)-less || d.Len() != len(c)-len(rest) {
		t.Fatalf("%x: put %x, %d; right %v, %d bytes", b, c, e, d.Right(), d.Len())
	}
	if again, left, e := Parse(c); e != api.OK || again != d || !bytes.Equal(left, rest) {
		t.Fatalf("%x, put %x: %v, %x, %d", b, c, again, left, e)
	}
}

func TestParseOfEachFirstTwoBytes(t *testing.T) { // P5.2, P5.5
	for first := range 256 {
		for second := range 256 {
			for _, behind := range []string{"", "FF", "FF FF", "7F 81", "80 01 02", "00 00 00 00", "FF FF FF FF", "12 E1 60 33 44", "92 E1 60 33 44 55"} {
				parsesPlainly(t, append([]byte{byte(first), byte(second)}, unhex(t, behind)...))
			}
		}
		parsesPlainly(t, []byte{byte(first)})
	}
	parsesPlainly(t, nil)
	parsesPlainly(t, []byte{})
}

func TestParseOfBytesThatEndTooEarly(t *testing.T) { // P5.2
	rnd := rand.New(rand.NewSource(1))
	l := []Desc{{}, full(), {HasPic: true}, {HasPic: true, Long: true}, {HasTl0: true}, {HasTid: true}, {HasKey: true}, {HasTid: true, HasKey: true}}
	for range 500 {
		l = append(l, someDesc(rnd))
	}
	for _, d := range l {
		b := plainPut(d, "0")
		for n := range len(b) {
			failsShort(t, b[:n])
		}
		if got, rest, e := Parse(b); e != api.OK || got != d || len(rest) != 0 {
			t.Errorf("%x: %v, %x, %d", b, got, rest, e)
		}
	}
	failsShort(t, nil)
	failsShort(t, []byte{0x80}[:1:1])
	failsShort(t, []byte{0x80, 0x80, 5}[:2]) // what lies behind the length is not there
}

func TestReservedDigits(t *testing.T) { // P5.2: read whatever they are, put as noughts
	rnd := rand.New(rand.NewSource(2))
	for range 2000 {
		d := someDesc(rnd)
		rest := someBytes(rnd, rnd.Intn(4))
		b := append(plainPut(d, "1"), rest...)
		got, behind, e := Parse(b)
		if e != api.OK || got != d || !bytes.Equal(behind, rest) {
			t.Fatalf("%x: %v, %x, %d; want %v", b, got, behind, e, d)
		}
		if c, e := Put(got, behind); e != api.OK || !bytes.Equal(c, append(plainPut(d, "0"), rest...)) {
			t.Fatalf("%x: put %x, %d", b, c, e)
		}
	}
}

func TestMoreForNothing(t *testing.T) { // P5.5
	for _, x := range []struct {
		text, put string
		d         Desc
	}{
		{"80 00", "00", Desc{}},
		{"90 00 55", "10 55", Desc{Start: true}},
		{"FF 0F 01 02", "37 01 02", Desc{N: true, Start: true, Part: 7}},
	} {
		d, rest, e := Parse(unhex(t, x.text))
		if e != api.OK || d != x.d || d.Len() != 1 {
			t.Errorf("%s: %v, %d; %d bytes", x.text, d, e, d.Len())
		}
		if b, e := Put(d, rest); e != api.OK || !bytes.Equal(b, unhex(t, x.put)) {
			t.Errorf("%s: put %x, %d", x.text, b, e)
		}
	}
}

func TestKey(t *testing.T) { // P5.1
	rnd := rand.New(rand.NewSource(3))
	for range 200 {
		d := someDesc(rnd)
		for part := range uint8(8) {
			for _, start := range []bool{false, true} {
				d.Start, d.Part = start, part
				begins := start && part == 0
				for c := range 256 {
					if d.Key([]byte{byte(c)}) != (begins && c%2 == 0) || d.Key([]byte{byte(c), 1}) != (begins && c%2 == 0) {
						t.Fatalf("%v, %x: key %v", d, c, d.Key([]byte{byte(c)}))
					}
				}
				if d.Key(nil) || d.Key([]byte{}) || d.Key([]byte{0, 0}[:0]) {
					t.Fatalf("%v: a key frame of no rest", d)
				}
			}
		}
	}
}

func TestAnew(t *testing.T) { // P5.3
	for _, x := range []struct {
		name     string
		d        Desc
		pic      uint16
		tl0, tid uint8
		sync     bool
		want     Desc
	}{
		{"of nothing", Desc{}, 0, 0, 0, false, Desc{HasPic: true, Long: true, HasTl0: true, HasTid: true}},
		{"all stays that may", full(), 5, 6, 1, false, Desc{
			N: true, Start: true, Part: 7, HasPic: true, Long: true, Pic: 5, HasTl0: true, Tl0: 6, HasTid: true, Tid: 1, HasKey: true, KeyIdx: 31,
		}},
		{"of 7 digits", Desc{Start: true, HasPic: true, Pic: 100}, 101, 1, 2, true, Desc{
			Start: true, HasPic: true, Long: true, Pic: 101, HasTl0: true, Tl0: 1, HasTid: true, Tid: 2, Sync: true,
		}},
		{"the greatest", Desc{N: true}, 32767, 255, 3, true, Desc{
			N: true, HasPic: true, Long: true, Pic: 32767, HasTl0: true, Tl0: 255, HasTid: true, Tid: 3, Sync: true,
		}},
		{"one past them", Desc{Part: 2}, 32768, 0, 4, false, Desc{Part: 2, HasPic: true, Long: true, HasTl0: true, HasTid: true}},
		{"cut", Desc{HasKey: true, KeyIdx: 9}, 65535, 255, 255, true, Desc{
			HasPic: true, Long: true, Pic: 32767, HasTl0: true, Tl0: 255, HasTid: true, Tid: 3, Sync: true, HasKey: true, KeyIdx: 9,
		}},
	} {
		if got := x.d.Anew(x.pic, x.tl0, x.tid, x.sync); got != x.want {
			t.Errorf("%s: %v; want %v", x.name, got, x.want)
		}
	}
}

func TestAnewAll(t *testing.T) { // P5.3, P5.5
	rnd := rand.New(rand.NewSource(4))
	descs(func(d Desc) {
		if rnd.Intn(20) != 0 {
			return
		}
		pic, tl0, tid, sync := uint16(rnd.Uint32()), uint8(rnd.Uint32()), uint8(rnd.Uint32()), rnd.Intn(2) == 1
		got := d.Anew(pic, tl0, tid, sync)
		want := Desc{
			N: d.N, Start: d.Start, Part: d.Part, HasPic: true, Long: true, Pic: pic % 32768, HasTl0: true, Tl0: tl0,
			HasTid: true, Tid: tid % 4, Sync: sync, HasKey: d.HasKey, KeyIdx: d.KeyIdx,
		}
		if got != want {
			t.Fatalf("%v: %v; want %v", d, got, want)
		}
		if !plainRight(d) {
			return
		}
		if !got.Right() || got.Len() != 6 || got.Len()-d.Len() > 5 || d.Len() < 1 {
			t.Fatalf("%v: %v, right %v, %d bytes of %d", d, got, got.Right(), got.Len(), d.Len())
		}
	})
}

func TestPutIsOnlyReading(t *testing.T) { // P5.4
	memory := []byte{1, 2, 3, 4, 5, 6}
	d := full()
	b, _ := Put(d, memory[:3])
	again, _ := Put(d, memory[:3])
	if !bytes.Equal(memory, []byte{1, 2, 3, 4, 5, 6}) || d != full() {
		t.Errorf("%x, %v", memory, d)
	}
	want := append(plainPut(d, "0"), 1, 2, 3)
	spoil(b)
	if !bytes.Equal(again, want) || !bytes.Equal(memory, []byte{1, 2, 3, 4, 5, 6}) {
		t.Errorf("what is put shares memory: %x, %x", again, memory)
	}
	spoil(memory)
	if !bytes.Equal(again, want) {
		t.Errorf("what was put changes with the rest: %x", again)
	}
	d.Key(memory)
	d.Anew(1, 2, 3, false)
	if d != full() || !bytes.Equal(memory, []byte{0xFE, 0xFD, 0xFC, 0xFB, 0xFA, 0xF9}) {
		t.Errorf("%x, %v", memory, d)
	}
}

func TestParseIsOnlyReading(t *testing.T) { // P5.4
	for _, text := range []string{"10", "90 80 05", "B7 F0 FF FF FF FF"} {
		head := unhex(t, text)
		memory := append(slices.Clone(head), 1, 2, 3, 0xAA, 0xBB)
		was := slices.Clone(memory)
		b := memory[:len(head)+3]
		d, rest, _ := Parse(b)
		_, again, _ := Parse(b)
		if !bytes.Equal(memory, was) || !bytes.Equal(rest, []byte{1, 2, 3}) {
			t.Errorf("%s: %x, %x", text, memory, rest)
		}
		spoil(rest)
		if !bytes.Equal(memory, was) || !bytes.Equal(again, []byte{1, 2, 3}) {
			t.Errorf("%s: the rest shares memory: %x, %x", text, memory, again)
		}
		spoil(memory)
		if !bytes.Equal(again, []byte{1, 2, 3}) || !bytes.Equal(plainPut(d, "0"), head) {
			t.Errorf("%s: what was parsed changes with the bytes: %x, %v", text, again, d)
		}
	}
}

func TestWhatIsPutIsParsed(t *testing.T) { // P5.5
	rnd := rand.New(rand.NewSource(5))
	for range 20000 {
		d, rest := someDesc(rnd), someBytes(rnd, rnd.Intn(30))
		b, e := Put(d, rest)
		if e != api.OK || !d.Right() || !bytes.Equal(b, append(plainPut(d, "0"), rest...)) {
			t.Fatalf("%v: %x, %d", d, b, e)
		}
		if got, behind, e := Parse(b); e != api.OK || got != d || !bytes.Equal(behind, rest) {
			t.Fatalf("%x: %v, %x, %d; want %v", b, got, behind, e, d)
		}
		parsesPlainly(t, b[:rnd.Intn(len(b)+1)])
	}
}

func TestLongRest(t *testing.T) { // P5.2
	rest := someBytes(rand.New(rand.NewSource(6)), 1<<20)
	b, e := Put(full(), rest)
	if e != api.OK || len(b) != 6+len(rest) {
		t.Fatalf("%d bytes, %d", len(b), e)
	}
	if d, got, e := Parse(b); e != api.OK || d != full() || !bytes.Equal(got, rest) {
		t.Errorf("%v, %d bytes, %d", d, len(got), e)
	}
}

func FuzzParse(f *testing.F) { // P5.2, P5.5: no bytes panic
	f.Add([]byte{0x10, 0})
	f.Add([]byte{0x90, 0x80, 5, 1})
	f.Add([]byte{0xB0, 0xF0, 0x81, 0x23, 7, 0x60})
	f.Fuzz(func(t *testing.T, b []byte) { parsesPlainly(t, b) })
}
