package feedback

import "easel/bits"

// Bounds of what a message tells.
const (
	maxWords    = 65535 - 2 // of a packet's body, behind the sender and the media source
	maxPairs    = maxWords
	maxOrders   = maxWords / 2
	maxSources  = 255
	expDigits   = 6
	rateDigits  = 18 // of a mantissa
	maxExp      = 1<<expDigits - 1
	maxMantissa = 1<<rateDigits - 1
)

// span is from which number to which one there may be of a part. Of what a sort does not name it is from 0 to 0.
type span struct{ least, most int }

func (s span) holds(n int) bool { return s.least <= n && n <= s.most }

// sort is how the messages of one are told.
type sort struct {
	kind, count                           uint8
	name                                  string // stands ahead of the parts
	pairs, orders, sources, exp, mantissa span
	put                                   func(m Message, w *bits.Writer)
	take                                  func(m *Message, r *bits.Reader) // all that fits; the rest stays with the reader
}

// sorts are all of them, by their numbers; there is no sort 0.
func sorts() [Remb + 1]sort {
	return [...]sort{
		Nack: {
			kind: 205, count: 1, pairs: span{1, maxPairs},
			put: Message.putPairs, take: (*Message).takePairs,
		},
		Pli: {
			kind: 206, count: 1,
			put: Message.putNothing, take: (*Message).takeNothing,
		},
		Fir: {
			kind: 206, count: 4, orders: span{1, maxOrders},
			put: Message.putOrders, take: (*Message).takeOrders,
		},
		Remb: {
			kind: 206, count: 15, name: "REMB",
			sources: span{0, maxSources}, exp: span{0, maxExp}, mantissa: span{0, maxMantissa},
			put: Message.putRate, take: (*Message).takeRate,
		},
	}
}

// sortOf is the sort of that number, if there is one.
func sortOf(number uint8) (sort, bool) {
	if number < Nack || number > Remb {
		return sort{}, false
	}
	return sorts()[number], true
}

// sortBy is the sort that packets of that kind and count tell, and its number; 0, if there is none
// (kind 0 and count 0 find the row of no sort, and that one's number is 0, too).
func sortBy(kind, count uint8) (uint8, sort) {
	for number, s := range sorts() {
		if s.kind == kind && s.count == count {
			return uint8(number), s
		}
	}
	return 0, sort{}
}

func (m Message) putPairs(w *bits.Writer) {
	for _, p := range m.Pairs {
		w.Put(uint64(p.Pid), 16).Put(uint64(p.Blp), 16)
	}
}

func (m *Message) takePairs(r *bits.Reader) {
	for range r.Left() / 32 {
		m.Pairs = append(m.Pairs, Pair{Pid: uint16(r.Take(16)), Blp: uint16(r.Take(16))})
	}
}

func (m Message) putNothing(*bits.Writer) {}

func (m *Message) takeNothing(*bits.Reader) {}

func (m Message) putOrders(w *bits.Writer) {
	for _, o := range m.Orders {
		w.Put(uint64(o.Ssrc), 32).Put(uint64(o.No), 8).Put(0, 24)
	}
}

func (m *Message) takeOrders(r *bits.Reader) {
	for range r.Left() / 64 {
		m.Orders = append(m.Orders, Order{Ssrc: uint32(r.Take(32)), No: uint8(r.Take(8))})
		r.Skip(24)
	}
}

func (m Message) putRate(w *bits.Writer) {
	w.Put(uint64(len(m.Sources)), 8).Put(uint64(m.Exp), expDigits).Put(uint64(m.Mantissa), rateDigits)
	for _, s := range m.Sources {
		w.Put(uint64(s), 32)
	}
}

func (m *Message) takeRate(r *bits.Reader) {
	n := r.Take(8)
	m.Exp, m.Mantissa = uint8(r.Take(expDigits)), uint32(r.Take(rateDigits))
	for range n {
		m.Sources = append(m.Sources, uint32(r.Take(32)))
	}
}
