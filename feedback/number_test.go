package feedback

import (
	"math"
	"math/big"
	"math/rand"
	"slices"
	"testing"
)

// plainNumbers goes through all that a pair may tell, by other means than the program's.
func plainNumbers(l []Pair) (out []uint16) {
	for _, p := range l {
		digits := uint32(p.Blp)*2 + 1
		for k := range 17 {
			if digits%2 == 1 {
				out = append(out, uint16((int(p.Pid)+k)%65536))
			}
			digits /= 2
		}
	}
	return out
}

// plainPairs takes one pair after the other, each with the numbers that stay with it.
func plainPairs(l []uint16) (out []Pair) {
	for len(l) > 0 {
		p := Pair{Pid: l[0]}
		n := 0
		for ; n < len(l); n++ {
			behind := (int(l[n]) - int(p.Pid) + 65536) % 65536
			if behind > 16 {
				break
			}
			if behind > 0 {
				p.Blp |= uint16(math.Pow(2, float64(behind-1)))
			}
		}
		out, l = append(out, p), l[n:]
	}
	return out
}

func TestNumbers(t *testing.T) { // P7.3
	for i, x := range []struct {
		l    []Pair
		want []uint16
	}{
		{nil, nil},
		{[]Pair{}, nil},
		{[]Pair{{0, 0}}, []uint16{0}},
		{[]Pair{{65535, 3}}, []uint16{65535, 0, 1}},
		{[]Pair{{10, 1}}, []uint16{10, 11}},
		{[]Pair{{10, 0x8000}}, []uint16{10, 26}},
		{[]Pair{{10, 0x8001}, {27, 0}, {10, 0}}, []uint16{10, 11, 26, 27, 10}},
		{[]Pair{{7, 0}, {7, 0}}, []uint16{7, 7}},
		{[]Pair{{5, 0xFFFF}}, []uint16{5, 6, 7, 8, 9, 10, 11, 12, 13, 14, 15, 16, 17, 18, 19, 20, 21}},
		{[]Pair{{65520, 0xC000}}, []uint16{65520, 65535, 0}},
		{[]Pair{{9, 2}, {3, 4}}, []uint16{9, 11, 3, 6}},
	} {
		if got := Numbers(x.l...); !slices.Equal(got, x.want) {
			t.Errorf("%d: %d; want %d", i, got, x.want)
		}
	}
	for blp := range 65536 {
		p := Pair{uint16(blp * 31), uint16(blp)}
		if got := Numbers(p); !slices.Equal(got, plainNumbers([]Pair{p})) {
			t.Errorf("%04x: %d", p, got)
		}
	}
}

func TestPairs(t *testing.T) { // P7.3
	for i, x := range []struct {
		l    []uint16
		want []Pair
	}{
		{nil, nil},
		{[]uint16{}, nil},
		{[]uint16{0}, []Pair{{0, 0}}},
		{[]uint16{10, 11, 26, 27, 10}, []Pair{{10, 0x8001}, {27, 0}, {10, 0}}},
		{[]uint16{10, 10, 10}, []Pair{{10, 0}}},
		{[]uint16{10, 11, 10, 11}, []Pair{{10, 1}}},
		{[]uint16{10, 26}, []Pair{{10, 0x8000}}},
		{[]uint16{10, 27}, []Pair{{10, 0}, {27, 0}}},
		{[]uint16{10, 9}, []Pair{{10, 0}, {9, 0}}},
		{[]uint16{10, 9, 10}, []Pair{{10, 0}, {9, 1}}},
		{[]uint16{10, 40, 11}, []Pair{{10, 0}, {40, 0}, {11, 0}}},
		{[]uint16{12, 11, 10}, []Pair{{12, 0}, {11, 0}, {10, 0}}},
		{[]uint16{10, 12, 11}, []Pair{{10, 3}}},
		{[]uint16{65535, 0, 1}, []Pair{{65535, 3}}},
		{[]uint16{65535, 15}, []Pair{{65535, 0x8000}}},
		{[]uint16{65535, 16}, []Pair{{65535, 0}, {16, 0}}},
		{[]uint16{0, 65535}, []Pair{{0, 0}, {65535, 0}}},
		{[]uint16{0, 32768}, []Pair{{0, 0}, {32768, 0}}},
		{[]uint16{0, 16, 17, 33, 34}, []Pair{{0, 0x8000}, {17, 0x8000}, {34, 0}}},
	} {
		if got := Pairs(x.l...); !slices.Equal(got, x.want) {
			t.Errorf("%d: %04x; want %04x", i, got, x.want)
		}
	}
	for behind := range 65536 { // every distance
		l := []uint16{60000, uint16(60000 + behind)}
		if got := Pairs(l...); !slices.Equal(got, plainPairs(l)) {
			t.Errorf("%d behind: %04x", behind, got)
		}
	}
}

func TestPairsOfManyNumbers(t *testing.T) { // P7.3, P7.6
	rnd := rand.New(rand.NewSource(5))
	for range 20000 {
		at := rnd.Intn(65536)
		wide := []int{4, 20, 60, 65536}[rnd.Intn(4)]
		l := some(rnd.Intn(30), func() uint16 { return uint16(at + rnd.Intn(wide)) })
		pairs := Pairs(l...)
		if !slices.Equal(pairs, plainPairs(l)) || len(pairs) > len(l) {
			t.Fatalf("%d: %04x; want %04x", l, pairs, plainPairs(l))
		}
		told := Numbers(pairs...)
		if !slices.Equal(told, plainNumbers(pairs)) {
			t.Fatalf("%04x: %d", pairs, told)
		}
		for _, n := range l {
			if !slices.Contains(told, n) {
				t.Fatalf("%d: %d is missing in %d", l, n, told)
			}
		}
		for _, n := range told {
			if !slices.Contains(l, n) {
				t.Fatalf("%d: %d is too many in %d", l, n, told)
			}
		}
	}
}

func TestNumbersThatRise(t *testing.T) { // P7.6: such are told in order, each once
	rnd := rand.New(rand.NewSource(6))
	for range 20000 {
		n := uint16(rnd.Uint32())
		var l []uint16
		for range 1 + rnd.Intn(6) {
			first := n
			l = append(l, first)
			for n-first < 16 && rnd.Intn(4) > 0 {
				if n += uint16(1 + rnd.Intn(5)); n-first <= 16 {
					l = append(l, n)
				}
			}
			n = first + 17 + uint16(rnd.Intn(100))
		}
		if got := Numbers(Pairs(l...)...); !slices.Equal(got, l) {
			t.Fatalf("%d: %d", l, got)
		}
	}
}

func TestNumbersAndPairsOnlyRead(t *testing.T) { // P7.5
	pairs, numbers := []Pair{{1, 3}, {40, 0x8000}, {9, 9}}, []uint16{1, 2, 3, 40, 56, 9}
	for range 2 { // a second time, when the first one's answers are spoilt
		gotNumbers, gotPairs := Numbers(pairs[:2]...), Pairs(numbers[:5]...)
		if !slices.Equal(gotNumbers, numbers[:5]) || !slices.Equal(gotPairs, pairs[:2]) {
			t.Fatalf("%d, %04x", gotNumbers, gotPairs)
		}
		spoil(gotNumbers, 0xFFFF)
		spoil(gotPairs, Pair{0xFFFF, 0xFFFF})
	}
	if !slices.Equal(pairs, []Pair{{1, 3}, {40, 0x8000}, {9, 9}}) || !slices.Equal(numbers, []uint16{1, 2, 3, 40, 56, 9}) {
		t.Errorf("%04x, %d", pairs, numbers)
	}
}

func TestRate(t *testing.T) { // P7.4
	for i, x := range []struct {
		exp      uint8
		mantissa uint32
		want     uint64
	}{
		{0, 0, 0},
		{63, 0, 0},
		{255, 0, 0},
		{0, 1000, 1000},
		{1, 1 << 17, 1 << 18},
		{63, 1, 1 << 63},
		{63, 2, math.MaxUint64},
		{63, 1<<18 - 1, math.MaxUint64},
		{62, 3, 3 << 62},
		{62, 4, math.MaxUint64},
		{46, 1<<18 - 1, math.MaxUint64 - (1<<46 - 1)},
		{47, 1<<18 - 1, math.MaxUint64},
		{47, 1 << 17, math.MaxUint64},
		{47, 1<<17 - 1, math.MaxUint64 - (1<<47 - 1)},
		{46, 1 << 17, 1 << 63},
		{64, 1, math.MaxUint64},
		{255, 1, math.MaxUint64},
		{0, math.MaxUint32, math.MaxUint32},
		{32, math.MaxUint32, math.MaxUint32 << 32},
		{33, math.MaxUint32, math.MaxUint64},
	} {
		if got := (Message{Sort: Remb, Exp: x.exp, Mantissa: x.mantissa}).Rate(); got != x.want {
			t.Errorf("%d: %d; want %d", i, got, x.want)
		}
	}
	rnd := rand.New(rand.NewSource(7))
	most := new(big.Int).SetUint64(math.MaxUint64)
	for range 100000 {
		m := Message{Sort: Remb, Exp: uint8(rnd.Uint32()), Mantissa: rnd.Uint32() >> rnd.Intn(33)}
		want := new(big.Int).Lsh(big.NewInt(int64(m.Mantissa)), uint(m.Exp))
		if want.Cmp(most) > 0 {
			want = most
		}
		if m.Rate() != want.Uint64() {
			t.Fatalf("%+v: %d; want %d", m, m.Rate(), want)
		}
	}
	for _, m := range []Message{{Sort: Nack, Pairs: []Pair{{1, 2}}}, {Sort: Pli, Sender: 9}, {Sort: Fir, Orders: []Order{{1, 2}}}} {
		if m.Rate() != 0 {
			t.Errorf("%+v: %d", m, m.Rate())
		}
	}
}

func TestOfRate(t *testing.T) { // P7.4, P7.6
	rates := []uint64{0, 1, 1000, 1<<18 - 1, 1 << 18, 1<<18 + 1, 1<<19 - 1, 1 << 19, 1<<32 - 1, 1 << 32, 1<<63 - 1, 1 << 63, math.MaxUint64}
	rnd := rand.New(rand.NewSource(8))
	for range 100000 {
		rates = append(rates, rnd.Uint64()>>rnd.Intn(64))
	}
	for _, rate := range rates {
		exp, mantissa := OfRate(rate)
		var want uint8
		part := rate
		for part >= 1<<18 {
			part, want = part/2, want+1
		}
		if exp != want || uint64(mantissa) != part {
			t.Fatalf("%d: %d, %d; want %d, %d", rate, exp, mantissa, want, part)
		}
		m := Message{Sort: Remb, Exp: exp, Mantissa: mantissa}
		if told := m.Rate(); !Right(m) || told > rate || rate > 0 && rate-told > (rate-1)/(1<<17) {
			t.Fatalf("%d: %d is told", rate, told)
		}
	}
	for i, x := range []struct {
		rate     uint64
		exp      uint8
		mantissa uint32
	}{{1 << 18, 1, 1 << 17}, {1000, 0, 1000}, {math.MaxUint64, 46, 1<<18 - 1}, {0, 0, 0}, {1<<18 - 1, 0, 1<<18 - 1}} {
		if exp, mantissa := OfRate(x.rate); exp != x.exp || mantissa != x.mantissa {
			t.Errorf("%d: %d, %d", i, exp, mantissa)
		}
	}
}
