package bits

import (
	"bytes"
	"math"
	"math/rand"
	"slices"
	"strings"
	"testing"

	"easel/api"
)

// digitsOf tells bytes as a text of 0 and 1: the plain picture that readers and writers are held against.
func digitsOf(b []byte) string {
	var s strings.Builder
	for _, c := range b {
		for i := 7; i >= 0; i-- {
			s.WriteByte('0' + c>>i&1)
		}
	}
	return s.String()
}

func numberOf(digits string) uint64 {
	var n uint64
	for _, d := range []byte(digits) {
		n = 2*n + uint64(d-'0')
	}
	return n
}

func bytesOf(digits string) []byte {
	var b []byte
	for ; len(digits) > 0; digits = digits[min(8, len(digits)):] {
		b = append(b, byte(numberOf((digits + "0000000")[:8])))
	}
	return b
}

// lowest tells the lowest digits of n, the greatest first.
func lowest(n uint64, digits int) string {
	var s strings.Builder
	for i := digits - 1; i >= 0; i-- {
		s.WriteByte('0' + byte(n>>i&1))
	}
	return s.String()
}

func someBytes(rnd *rand.Rand, n int) []byte {
	b := make([]byte, n)
	rnd.Read(b)
	return b
}

// holds checks what a reader tells of itself.
func holds(t *testing.T, r *Reader, left int, e api.Errno) {
	t.Helper()
	if r.Left() != left || r.Err() != e {
		t.Errorf("Left %d, Err %d; want %d, %d", r.Left(), r.Err(), left, e)
	}
}

// silent checks that a reader takes nothing, and tells nothing, whatever is asked.
func silent(t *testing.T, r *Reader) {
	t.Helper()
	left, e := r.Left(), r.Err()
	for _, n := range []int{0, 1, 8, 64, 65, -1, math.MaxInt, math.MinInt} {
		if x := r.Take(n); x != 0 {
			t.Errorf("Take(%d): %d", n, x)
		}
		if b := r.Bytes(n); len(b) != 0 {
			t.Errorf("Bytes(%d): %x", n, b)
		}
		r.Skip(n)
	}
	if r.Flag() || len(r.Rest()) != 0 {
		t.Error("Flag, or Rest, tells something")
	}
	holds(t, r, left, e)
}

func TestReaderExamples(t *testing.T) { // P1.1
	r := Of([]byte{0xA5, 0x0F})
	if a, b, c, d := r.Take(2), r.Flag(), r.Take(5), r.Bytes(1); a != 2 || !b || c != 5 || !bytes.Equal(d, []byte{0x0F}) {
		t.Errorf("%d, %v, %d, %x", a, b, c, d)
	}
	holds(t, r, 0, api.OK)
	r = Of([]byte{0xA5})
	if a, b := r.Take(4), r.Take(5); a != 10 || b != 0 {
		t.Errorf("%d, %d", a, b)
	}
	holds(t, r, 4, api.ErrShort)
}

func TestTakeEveryLengthAtEveryPlace(t *testing.T) { // P1.1
	b := someBytes(rand.New(rand.NewSource(1)), 11)
	all := digitsOf(b)
	for at := range 24 {
		for n := range 65 {
			r := Of(b)
			r.Skip(at)
			if x := r.Take(n); x != numberOf(all[at:at+n]) {
				t.Errorf("Take(%d) at %d: %x", n, at, x)
			}
			holds(t, r, len(all)-at-n, api.OK)
		}
	}
}

func TestTakeAtTheEnds(t *testing.T) { // P1.1
	ones := bytes.Repeat([]byte{0xFF}, 8)
	r := Of(ones)
	if x := r.Take(64); x != math.MaxUint64 {
		t.Errorf("%x", x)
	}
	if x := r.Take(0); x != 0 {
		t.Errorf("%x", x)
	}
	holds(t, r, 0, api.OK)
	r = Of(nil)
	if r.Take(0) != 0 || len(r.Bytes(0)) != 0 || len(r.Rest()) != 0 {
		t.Error("nothing is not nothing")
	}
	r.Skip(0)
	holds(t, r, 0, api.OK)
}

func TestFlags(t *testing.T) { // P1.1
	b := []byte{0xA5, 0x3C}
	r := Of(b)
	for i, d := range digitsOf(b) {
		if r.Flag() != (d == '1') {
			t.Errorf("digit %d", i)
		}
	}
	holds(t, r, 0, api.OK)
	if r.Flag() {
		t.Error("a flag of nothing")
	}
	holds(t, r, 0, api.ErrShort)
}

func TestBytesAtEveryPlace(t *testing.T) { // P1.1
	b := someBytes(rand.New(rand.NewSource(2)), 9)
	all := digitsOf(b)
	for at := range 17 {
		for n := 0; 8*n <= len(all)-at; n++ {
			r := Of(b)
			r.Skip(at)
			if c := r.Bytes(n); digitsOf(c) != all[at:at+8*n] {
				t.Errorf("Bytes(%d) at %d: %x", n, at, c)
			}
			holds(t, r, len(all)-at-8*n, api.OK)
		}
	}
}

func TestRest(t *testing.T) { // P1.1
	b := []byte{1, 2, 3}
	for at := 0; at <= 24; at++ {
		r := Of(b)
		r.Skip(at)
		c := r.Rest()
		if at%8 != 0 {
			if len(c) != 0 {
				t.Errorf("at %d: %x", at, c)
			}
			holds(t, r, 24-at, api.ErrArg)
			silent(t, r)
			continue
		}
		if !bytes.Equal(c, b[at/8:]) {
			t.Errorf("at %d: %x", at, c)
		}
		holds(t, r, 0, api.OK)
		if len(r.Rest()) != 0 {
			t.Errorf("at %d: taken twice", at)
		}
		holds(t, r, 0, api.OK)
	}
}

func TestRestBehindTwoNumbersOfOneByte(t *testing.T) { // P1.1
	r := Of([]byte{0xAB, 0xCD, 0xEF})
	r.Take(3)
	r.Take(5)
	if c := r.Rest(); !bytes.Equal(c, []byte{0xCD, 0xEF}) {
		t.Errorf("%x", c)
	}
}

func TestWhatFails(t *testing.T) { // P1.2
	for i, x := range []struct {
		ask  func(r *Reader)
		want api.Errno
		left int // of 20
	}{
		{func(r *Reader) { r.Take(-1) }, api.ErrArg, 20},
		{func(r *Reader) { r.Take(math.MinInt) }, api.ErrArg, 20},
		{func(r *Reader) { r.Take(65) }, api.ErrArg, 20},
		{func(r *Reader) { r.Take(math.MaxInt) }, api.ErrArg, 20},
		{func(r *Reader) { r.Take(64) }, api.ErrShort, 20},
		{func(r *Reader) { r.Take(21) }, api.ErrShort, 20},
		{func(r *Reader) { r.Take(20) }, api.OK, 0},
		{func(r *Reader) { r.Take(0) }, api.OK, 20},
		{func(r *Reader) { r.Bytes(-1) }, api.ErrArg, 20},
		{func(r *Reader) { r.Bytes(math.MinInt) }, api.ErrArg, 20},
		{func(r *Reader) { r.Bytes(3) }, api.ErrShort, 20},
		{func(r *Reader) { r.Bytes(65) }, api.ErrShort, 20},
		{func(r *Reader) { r.Bytes(1 << 61) }, api.ErrShort, 20},
		{func(r *Reader) { r.Bytes(math.MaxInt) }, api.ErrShort, 20},
		{func(r *Reader) { r.Bytes(2) }, api.OK, 4},
		{func(r *Reader) { r.Skip(-1) }, api.ErrArg, 20},
		{func(r *Reader) { r.Skip(math.MinInt) }, api.ErrArg, 20},
		{func(r *Reader) { r.Skip(21) }, api.ErrShort, 20},
		{func(r *Reader) { r.Skip(65) }, api.ErrShort, 20},
		{func(r *Reader) { r.Skip(math.MaxInt) }, api.ErrShort, 20},
		{func(r *Reader) { r.Skip(20) }, api.OK, 0},
		{func(r *Reader) { r.Rest() }, api.ErrArg, 20},
		{func(r *Reader) { r.Skip(20); r.Flag() }, api.ErrShort, 0},
		{func(r *Reader) { r.Take(21); r.Take(65) }, api.ErrShort, 20},
		{func(r *Reader) { r.Take(65); r.Take(21) }, api.ErrArg, 20},
		{func(r *Reader) { r.Skip(4); r.Bytes(3); r.Rest() }, api.ErrShort, 16},
		{func(r *Reader) { r.Rest(); r.Skip(21) }, api.ErrArg, 20},
	} {
		r := Of([]byte{0xFF, 0xFF, 0xFF})
		r.Skip(4)
		x.ask(r)
		if r.Err() != x.want || r.Left() != x.left {
			t.Errorf("%d: %d, %d left; want %d, %d", i, r.Err(), r.Left(), x.want, x.left)
		}
		if x.want != api.OK {
			silent(t, r)
		}
	}
}

func TestSkipMoreThanANumber(t *testing.T) { // P1.2: 64 bounds Take alone
	b := someBytes(rand.New(rand.NewSource(3)), 70)
	r := Of(b)
	r.Skip(70)
	holds(t, r, 490, api.OK)
	r.Skip(2)
	if c := r.Bytes(61); !bytes.Equal(c, b[9:]) {
		t.Errorf("%x", c)
	}
}

func TestNobodysReader(t *testing.T) { // P1.2: nil, and made by hand
	var none *Reader
	holds(t, none, 0, api.ErrNil)
	silent(t, none)
	r := &Reader{}
	holds(t, r, 0, api.OK)
	if r.Take(0) != 0 || len(r.Rest()) != 0 || r.Take(1) != 0 {
		t.Error("digits of nothing")
	}
	holds(t, r, 0, api.ErrShort)
}

func TestWriterExamples(t *testing.T) { // P1.3
	w := New()
	if w.Put(2, 2) != w || w.Flag(true) != w || w.Put(5, 5) != w || w.Bytes() != w || w.Fill(8) != w {
		t.Error("not the writer itself")
	}
	if b := w.Out(); !bytes.Equal(b, []byte{0xA5}) || w.Len() != 8 {
		t.Errorf("%x, %d", b, w.Len())
	}
	if b := Pack(4, 1, 2, 3); !bytes.Equal(b, []byte{0x12, 0x30}) {
		t.Errorf("%x", b)
	}
	if w := New(); w.Len() != 0 || len(w.Out()) != 0 {
		t.Error("not new")
	}
}

func TestPutEveryLengthAtEveryPlace(t *testing.T) { // P1.3
	n := uint64(0xF0E1D2C3B4A59687)
	for at := range 17 {
		for digits := -2; digits <= 67; digits++ {
			w := New().Put(math.MaxUint64, at)
			want := strings.Repeat("1", at) + lowest(n, max(0, min(digits, 64)))
			if b := w.Put(n, digits).Out(); !bytes.Equal(b, bytesOf(want)) || w.Len() != len(want) {
				t.Errorf("Put(%d) at %d: %x, %d", digits, at, b, w.Len())
			}
		}
	}
	if w := New().Put(1, math.MinInt).Put(3, math.MaxInt); w.Len() != 64 || !bytes.Equal(w.Out(), []byte{0, 0, 0, 0, 0, 0, 0, 3}) {
		t.Errorf("%x", w.Out())
	}
}

func TestPutFlags(t *testing.T) { // P1.3
	w := New()
	for _, x := range []bool{true, false, true, true, false, false, true, false, true} {
		w.Flag(x)
	}
	if b := w.Out(); !bytes.Equal(b, []byte{0xB2, 0x80}) || w.Len() != 9 {
		t.Errorf("%x, %d", b, w.Len())
	}
}

func TestPutBytes(t *testing.T) { // P1.3
	for at := range 17 {
		w := New().Put(math.MaxUint64, at).Bytes([]byte{0xA5, 0x0F}, nil, []byte{}, []byte{0x81})
		want := strings.Repeat("1", at) + digitsOf([]byte{0xA5, 0x0F, 0x81})
		if b := w.Out(); !bytes.Equal(b, bytesOf(want)) || w.Len() != len(want) {
			t.Errorf("at %d: %x, %d", at, b, w.Len())
		}
	}
	if w := New().Bytes(); w.Len() != 0 || len(w.Out()) != 0 {
		t.Error("no bytes are some")
	}
}

func TestFill(t *testing.T) { // P1.3
	for at := range 40 {
		for digits := -3; digits <= 70; digits++ {
			w := New().Put(math.MaxUint64, at)
			want := strings.Repeat("1", at)
			for digits > 0 && len(want)%digits != 0 {
				want += "0"
			}
			w.Fill(digits)
			if w.Len() != len(want) || !bytes.Equal(w.Out(), bytesOf(want)) {
				t.Errorf("Fill(%d) at %d: %x, %d", digits, at, w.Out(), w.Len())
			}
			if b := w.Put(5, 3).Out(); !bytes.Equal(b, bytesOf(want+"101")) {
				t.Errorf("Fill(%d) at %d, and 101: %x", digits, at, b)
			}
		}
	}
}

func TestFillTooFar(t *testing.T) { // P1.3: what no row may hold ends, and does not panic
	if w := New().Fill(math.MaxInt).Fill(math.MinInt); w.Len() != 0 {
		t.Errorf("%d: nothing is a multiple of all", w.Len())
	}
	w := New().Flag(true).Fill(math.MaxInt).Fill(1 << 62)
	if b := w.Put(1, 7).Out(); !bytes.Equal(b, []byte{0x81}) {
		t.Errorf("%x", b)
	}
}

func TestPack(t *testing.T) { // P1.3
	for digits := -1; digits <= 66; digits++ {
		l := []uint64{1, math.MaxUint64, 0, 0xF0E1D2C3B4A59687}
		want := ""
		for _, n := range l {
			want += lowest(n, max(0, min(digits, 64)))
		}
		if b := Pack(digits, l...); !bytes.Equal(b, bytesOf(want)) {
			t.Errorf("Pack(%d): %x", digits, b)
		}
	}
	if len(Pack(8)) != 0 {
		t.Error("no numbers are some")
	}
}

func TestNobodysWriter(t *testing.T) { // P1.3: nil, and made by hand
	var none *Writer
	if none.Put(1, 1) != nil || none.Flag(true) != nil || none.Bytes([]byte{1}) != nil || none.Fill(8) != nil || none.Len() != 0 || len(none.Out()) != 0 {
		t.Error("nil")
	}
	w := &Writer{}
	if b := w.Flag(true).Bytes([]byte{1}).Fill(8).Out(); !bytes.Equal(b, []byte{0x80, 0x80}) {
		t.Errorf("%x", b)
	}
}

func TestReaderKeepsACopy(t *testing.T) { // P1.4
	memory := []byte{1, 2, 3, 4}
	r := Of(memory[:2])
	memory[0], memory[1] = 9, 9
	a, b := r.Bytes(1), r.Rest()
	if !bytes.Equal(a, []byte{1}) || !bytes.Equal(b, []byte{2}) {
		t.Errorf("%x, %x", a, b)
	}
	a[0], b[0] = 7, 7
	_, _ = append(a, 8), append(b, 8)
	if !bytes.Equal(memory, []byte{9, 9, 3, 4}) || !bytes.Equal(a, []byte{7}) || !bytes.Equal(b, []byte{7}) {
		t.Errorf("%x, %x, %x", memory, a, b)
	}
}

func TestReaderAnswersItsOwnMemory(t *testing.T) { // P1.4
	r := Of([]byte{1, 2, 3, 4})
	a := r.Bytes(2)
	for i := range a[:cap(a)] {
		a[:cap(a)][i] = 9
	}
	if b := r.Rest(); !bytes.Equal(b, []byte{3, 4}) {
		t.Errorf("%x", b)
	}
}

func TestWriterKeepsCopies(t *testing.T) { // P1.4
	memory := []byte{1, 2, 3, 4}
	w := New().Bytes(memory[:2])
	memory[0] = 9
	w.Bytes(memory[3:]).Put(5, 8)
	if b := w.Out(); !bytes.Equal(b, []byte{1, 2, 4, 5}) || !bytes.Equal(memory, []byte{9, 2, 3, 4}) {
		t.Errorf("%x, %x", b, memory)
	}
	numbers := []uint64{1, 2, 3}
	Pack(4, numbers[:2]...)
	if !slices.Equal(numbers, []uint64{1, 2, 3}) {
		t.Errorf("%d", numbers)
	}
}

func TestWriterAnswersItsOwnMemory(t *testing.T) { // P1.4
	w := New().Bytes([]byte{1, 2}).Put(3, 4)
	a, b := w.Out(), w.Out()
	for i := range a[:cap(a)] {
		a[:cap(a)][i] = 0xFF
	}
	if c := w.Put(1, 4).Put(7, 8).Out(); !bytes.Equal(b, []byte{1, 2, 0x30}) || !bytes.Equal(c, []byte{1, 2, 0x31, 7}) {
		t.Errorf("%x, %x", b, c)
	}
}

func TestWhatIsPutIsTaken(t *testing.T) { // P1.5
	rnd := rand.New(rand.NewSource(4))
	for range 2000 {
		w := New()
		var takes []func(r *Reader) bool
		for range rnd.Intn(12) {
			switch rnd.Intn(3) {
			case 0:
				n, digits := rnd.Uint64(), rnd.Intn(65)
				w.Put(n, digits)
				takes = append(takes, func(r *Reader) bool { return r.Take(digits) == numberOf(lowest(n, digits)) })
			case 1:
				x := rnd.Intn(2) == 1
				w.Flag(x)
				takes = append(takes, func(r *Reader) bool { return r.Flag() == x })
			case 2:
				b := someBytes(rnd, rnd.Intn(5))
				w.Bytes(b)
				takes = append(takes, func(r *Reader) bool { return bytes.Equal(r.Bytes(len(b)), b) })
			}
		}
		r := Of(w.Out())
		filled := r.Left() - w.Len()
		for i, take := range takes {
			if !take(r) {
				t.Fatalf("part %d of %x", i, w.Out())
			}
		}
		if filled < 0 || filled > 7 || r.Left() != filled || r.Take(filled) != 0 || r.Err() != api.OK {
			t.Fatalf("%d filled up, %d left, %d", filled, r.Left(), r.Err())
		}
	}
}

func TestHoweverDigitsAreTaken(t *testing.T) { // P1.5
	rnd := rand.New(rand.NewSource(5))
	for range 2000 {
		b := someBytes(rnd, rnd.Intn(40))
		r, left := Of(b), digitsOf(b)
		for r.Err() == api.OK {
			n := rnd.Intn(70) - 1
			told, want, digits, most := "", "", n, math.MaxInt
			switch rnd.Intn(4) {
			case 0:
				told, most = lowest(r.Take(n), max(0, n)), 64
			case 1:
				digits, told = 1, "0"
				if r.Flag() {
					told = "1"
				}
			case 2:
				n %= 6
				digits = 8 * n
				told = digitsOf(r.Bytes(n))
			case 3:
				r.Skip(n)
				told = left[:max(0, min(n, len(left)))]
			}
			fail := api.OK
			switch {
			case digits < 0 || digits > most:
				fail = api.ErrArg
			case digits > len(left):
				fail = api.ErrShort
			default:
				want, left = left[:digits], left[digits:]
			}
			holds(t, r, len(left), fail)
			if fail == api.OK && told != want {
				t.Fatalf("%q, want %q", told, want)
			}
		}
		silent(t, r)
	}
}
