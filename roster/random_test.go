package roster

import (
	"math/rand"
	"slices"
	"testing"

	"easel/api"
)

// plain is a roster by other means than the program's: a row of those who are there, and nothing else.
type plain struct {
	most int
	row  []Member
}

// some tells whether a question holds of a member that is there.
func (p *plain) some(holds func(x Member) bool) bool { return slices.ContainsFunc(p.row, holds) }

func (p *plain) join(m Member) api.Errno {
	sources := []uint32{m.Content, m.Camera}
	switch {
	case m.Id < 0 || slices.Contains(sources, 0) || len(slices.Compact(slices.Clone(sources))) < 2:
		return api.ErrArg
	case p.some(func(x Member) bool { return x.Id == m.Id }):
		return api.ErrTwice
	case p.some(func(x Member) bool {
		return slices.Contains(sources, x.Content) || slices.Contains(sources, x.Camera)
	}):
		return api.ErrSource
	case len(p.row) == p.most:
		return api.ErrFull
	}
	p.row = append(p.row, m)
	return api.OK
}

func (p *plain) leave(id int) api.Errno {
	at := slices.IndexFunc(p.row, func(x Member) bool { return x.Id == id })
	if at < 0 {
		return api.ErrMember
	}
	p.row = slices.Concat(p.row[:at], p.row[at+1:])
	return api.OK
}

// whose is what Source is to tell.
func (p *plain) whose(ssrc uint32) (Member, bool, bool) {
	for _, m := range p.row {
		if m.Content == ssrc || m.Camera == ssrc {
			return m, m.Content == ssrc, true
		}
	}
	return Member{}, false, false
}

// like checks that a roster tells just what a plain one does, of each id and source below a bound.
func (p *plain) like(t *testing.T, r *Roster, bound int) {
	t.Helper()
	holds(t, r, p.row...)
	for n := range bound {
		m, content, ok := p.whose(uint32(n))
		if a, b, c := r.Source(uint32(n)); a != m || b != content || c != ok {
			t.Fatalf("Source(%d): %+v, %v, %v; want %+v, %v, %v", n, a, b, c, m, content, ok)
		}
		if !p.some(func(x Member) bool { return x.Id == n }) {
			nobody(t, r, n)
		}
	}
}

// TestAnySteps also finds what follows: of whoever left no source is told, and what is refused changes nothing.
func TestAnySteps(t *testing.T) { // P14.1 to P14.4
	rnd := rand.New(rand.NewSource(14))
	for range 300 {
		most, bound := rnd.Intn(api.MaxPart+1), 2+rnd.Intn(100)
		r, p := of(t, most), &plain{most: most}
		for range 120 {
			m := Member{Id: rnd.Intn(bound) - 1, Content: uint32(rnd.Intn(bound)), Camera: uint32(rnd.Intn(bound)), Mod: rnd.Intn(2) == 0}
			if rnd.Intn(4) > 0 {
				answers(t, r.Join(m), p.join(m))
			} else {
				answers(t, r.Leave(m.Id), p.leave(m.Id))
			}
			p.like(t, r, bound)
		}
	}
}

func FuzzSteps(f *testing.F) { // P14.1 to P14.4
	f.Add(2, []byte{0, 5, 10, 11, 0, 5, 12, 13, 0, 6, 11, 12, 0, 6, 12, 12, 0, 6, 12, 13, 0, 7, 14, 15, 1, 5, 0, 0})
	f.Add(32, []byte{0, 0, 1, 2, 2, 1, 2, 3, 3, 0, 0, 0, 0, 0, 2, 3})
	f.Fuzz(func(t *testing.T, most int, b []byte) {
		r, e := New(most)
		if e != api.OK {
			return
		}
		p := &plain{most: most}
		for ; len(b) >= 4; b = b[4:] {
			m := Member{Id: int(int8(b[1])), Content: uint32(b[2]), Camera: uint32(b[3]), Mod: b[0]&2 > 0}
			if b[0]&1 == 0 {
				answers(t, r.Join(m), p.join(m))
			} else {
				answers(t, r.Leave(m.Id), p.leave(m.Id))
			}
			p.like(t, r, 256)
		}
	})
}
