package rtcp

// toWord is n, or what is missing to a multiple of 4 added.
func toWord(n int) int { return (n + 3) / 4 * 4 }

// word is a number's bytes, the greatest first.
type word [4]byte

func wordOf(n uint32) word {
	return word{byte(n >> 24), byte(n >> 16), byte(n >> 8), byte(n)}
}

func (w word) number() uint32 {
	return uint32(w[0])<<24 | uint32(w[1])<<16 | uint32(w[2])<<8 | uint32(w[3])
}

// numbers are six words' numbers: so many has a block, and so many a sender's body ahead of its blocks.
type numbers [6]uint32

// appended is b with numbers behind it.
func appended(b []byte, l ...uint32) []byte {
	for _, n := range l {
		w := wordOf(n)
		b = append(b, w[:]...)
	}
	return b
}

// noughts is b with noughts up to a word.
func noughts(b []byte) []byte {
	return append(b, make([]byte, toWord(len(b))-len(b))...)
}

// reader takes a body's bytes, one behind the other. When they end too early it fails, once for all,
// and tells noughts: those who read need not ask ahead of the end.
type reader struct {
	body   []byte
	at     int
	failed bool
}

// left is how many bytes were not taken yet.
func (r *reader) left() int { return len(r.body) - r.at }

// take is the next n bytes, or none.
func (r *reader) take(n int) []byte {
	if r.failed || r.left() < n {
		r.failed = true
		return nil
	}
	r.at += n
	return r.body[r.at-n : r.at]
}

// toWord takes the noughts up to a word, whatever they are: those that ought to be there are a part of the body, too.
func (r *reader) toWord() { r.take(toWord(r.at) - r.at) }

// short is the number of the next byte.
func (r *reader) short() uint8 {
	var b [1]byte
	copy(b[:], r.take(len(b)))
	return b[0]
}

// long is the number of the next word.
func (r *reader) long() uint32 {
	var w word
	copy(w[:], r.take(len(w)))
	return w.number()
}

// six is the numbers of the next six words.
func (r *reader) six() (n numbers) {
	for i := range n {
		n[i] = r.long()
	}
	return n
}
