package rtcp

import "easel/api"

// Bounds of what a packet tells.
const (
	maxTotal = 1<<23 - 1
	minTotal = -1 << 23
	maxText  = 255 // bytes of a name, or of a reason
	cname    = 1   // the sort of an item that is a name
)

// Block tells of a source.
type Block struct {
	Ssrc    uint32
	Lost    uint8
	Total   int32
	Highest uint32
	Jitter  uint32
	Lsr     uint32
	Dlsr    uint32
}

// Sender is an SR.
type Sender struct {
	Ssrc    uint32
	Ntp     uint64
	Rtp     uint32
	Packets uint32
	Octets  uint32
	Blocks  []Block
}

// Receiver is an RR.
type Receiver struct {
	Ssrc   uint32
	Blocks []Block
}

// Chunk is a source's name.
type Chunk struct {
	Ssrc uint32
	Name string
}

// Bye tells of sources that go.
type Bye struct {
	Sources []uint32
	Reason  string
}

// numbers: Lost, and the 24 digits of Total, make one of them.
func (b Block) numbers() numbers {
	lost := uint32(b.Lost)<<24 | uint32(b.Total)&(1<<24-1)
	return numbers{b.Ssrc, lost, b.Highest, b.Jitter, b.Lsr, b.Dlsr}
}

func blockOf(n numbers) Block {
	total := int32(n[1]<<8) >> 8 // the shift back takes the sign along
	return Block{Ssrc: n[0], Lost: uint8(n[1] >> 24), Total: total, Highest: n[2], Jitter: n[3], Lsr: n[4], Dlsr: n[5]}
}

func (s Sender) numbers() numbers {
	return numbers{s.Ssrc, uint32(s.Ntp >> 32), uint32(s.Ntp), s.Rtp, s.Packets, s.Octets}
}

func senderOf(n numbers) Sender {
	return Sender{Ssrc: n[0], Ntp: uint64(n[1])<<32 | uint64(n[2]), Rtp: n[3], Packets: n[4], Octets: n[5]}
}

// putBlocks is the packet of that kind whose body is what stands ahead, and the blocks.
func putBlocks(kind uint8, ahead []byte, l []Block) (Packet, api.Errno) {
	if len(l) > maxCount {
		return Packet{}, api.ErrArg
	}
	for _, b := range l {
		if b.Total < minTotal || b.Total > maxTotal {
			return Packet{}, api.ErrArg
		}
		n := b.numbers()
		ahead = appended(ahead, n[:]...)
	}
	return Packet{Count: uint8(len(l)), Kind: kind, Body: ahead}, api.OK
}

// blocks are the next n ones.
func (r *reader) blocks(n uint8) (l []Block) {
	for range n {
		l = append(l, blockOf(r.six()))
	}
	return l
}

// Put is the packet of an SR.
func (s Sender) Put() (Packet, api.Errno) {
	n := s.numbers()
	return putBlocks(SR, appended(nil, n[:]...), s.Blocks)
}

// OfSender is what an SR tells.
func OfSender(p Packet) (Sender, api.Errno) {
	if p.Kind != SR {
		return Sender{}, api.ErrKind
	}
	r := reader{body: p.Body}
	s := senderOf(r.six())
	s.Blocks = r.blocks(p.Count)
	if r.failed {
		return Sender{}, api.ErrItem
	}
	return s, api.OK
}

// Put is the packet of an RR.
func (r Receiver) Put() (Packet, api.Errno) {
	return putBlocks(RR, appended(nil, r.Ssrc), r.Blocks)
}

// OfReceiver is what an RR tells.
func OfReceiver(p Packet) (Receiver, api.Errno) {
	if p.Kind != RR {
		return Receiver{}, api.ErrKind
	}
	r := reader{body: p.Body}
	a := Receiver{Ssrc: r.long(), Blocks: r.blocks(p.Count)}
	if r.failed {
		return Receiver{}, api.ErrItem
	}
	return a, api.OK
}

// PutChunks is the packet of an SDES.
func PutChunks(l ...Chunk) (Packet, api.Errno) {
	if len(l) > maxCount {
		return Packet{}, api.ErrArg
	}
	var body []byte
	for _, c := range l {
		if len(c.Name) > maxText {
			return Packet{}, api.ErrArg
		}
		body = appended(body, c.Ssrc)
		if c.Name != "" {
			body = append(body, cname, byte(len(c.Name)))
			body = append(body, c.Name...)
		}
		body = noughts(append(body, 0))
	}
	return Packet{Count: uint8(len(l)), Kind: SDES, Body: body}, api.OK
}

// OfChunks is what an SDES tells.
func OfChunks(p Packet) ([]Chunk, api.Errno) {
	if p.Kind != SDES {
		return nil, api.ErrKind
	}
	r := reader{body: p.Body}
	var l []Chunk
	for range p.Count {
		l = append(l, r.chunk())
	}
	if r.failed || r.left() > 0 {
		return nil, api.ErrItem
	}
	return l, api.OK
}

// chunk is the next one. A reader that fails tells a nought, behind which no item comes.
func (r *reader) chunk() Chunk {
	c := Chunk{Ssrc: r.long()}
	named := false
	for sort := r.short(); sort != 0; sort = r.short() {
		text := r.take(int(r.short()))
		if sort == cname && !named {
			c.Name, named = string(text), true
		}
	}
	r.toWord()
	return c
}

// Put is the packet of a BYE.
func (b Bye) Put() (Packet, api.Errno) {
	if len(b.Sources) > maxCount || len(b.Reason) > maxText {
		return Packet{}, api.ErrArg
	}
	body := appended(nil, b.Sources...)
	if b.Reason != "" {
		body = append(body, byte(len(b.Reason)))
		body = noughts(append(body, b.Reason...))
	}
	return Packet{Count: uint8(len(b.Sources)), Kind: BYE, Body: body}, api.OK
}

// OfBye is what a BYE tells.
func OfBye(p Packet) (Bye, api.Errno) {
	if p.Kind != BYE {
		return Bye{}, api.ErrKind
	}
	r := reader{body: p.Body}
	var b Bye
	for range p.Count {
		b.Sources = append(b.Sources, r.long())
	}
	if r.left() > 0 {
		b.Reason = string(r.take(int(r.short())))
		r.toWord()
	}
	if r.failed || r.left() > 0 {
		return Bye{}, api.ErrItem
	}
	return b, api.OK
}
