package floor

import (
	"math"
	"math/rand"
	"slices"
	"testing"

	"easel/api"
)

// step is a call, of whatever kind.
type step struct {
	kind    int
	who, by uint32
	now     uint64
	flag    bool
}

const kinds = 7

// do makes a step: the error of a call that answers one, or else what is true.
func (f *Floor) do(x step) (e api.Errno, yes bool) {
	switch x.kind {
	case 0:
		return f.Join(x.who, x.flag), false
	case 1:
		return f.Leave(x.who, x.now), false
	case 2:
		return f.Request(x.who, x.now), false
	case 3:
		return f.Release(x.who, x.now), false
	case 4:
		return f.Revoke(x.by, x.who, x.now), false
	case 5:
		return api.OK, f.Heard(x.who, x.now, x.flag)
	}
	return api.OK, f.Tick(x.now)
}

// plain is a floor by other means than the program's: who holds it stands in line, ahead of those who wait.
type plain struct {
	bound   int
	silence uint64
	there   []uint32
	mods    []uint32
	line    []uint32
	grants  []Grant
	heard   []uint64 // of the last grant, when
	key     bool
}

func (p *plain) first(who uint32) bool { return len(p.line) > 0 && p.line[0] == who }

// drop takes somebody out of line; the floor goes on, if it stood first.
func (p *plain) drop(who uint32, now uint64) {
	at := slices.Index(p.line, who)
	if at < 0 {
		return
	}
	p.line = slices.Concat(p.line[:at], p.line[at+1:])
	if at == 0 && len(p.line) > 0 {
		p.give(now)
	}
}

func (p *plain) give(now uint64) {
	p.grants = append(p.grants, Grant{uint64(len(p.grants) + 1), p.line[0], now})
	p.heard, p.key = []uint64{now}, false
}

// fails is the first error that a step's kind names and that holds.
func (p *plain) fails(x step) api.Errno {
	is, by := slices.Contains(p.there, x.who), slices.Contains(p.there, x.by)
	switch {
	case x.kind == 0 && is:
		return api.ErrTwice
	case x.kind == 0 && len(p.there) == 32:
		return api.ErrFull
	case x.kind >= 1 && x.kind <= 4 && !is, x.kind == 4 && !by:
		return api.ErrMember
	case x.kind == 2 && slices.Contains(p.line, x.who):
		return api.ErrTwice
	case x.kind == 2 && len(p.line) == p.bound+1:
		return api.ErrFull
	case x.kind == 4 && !slices.Contains(p.mods, x.by):
		return api.ErrMod
	case (x.kind == 3 || x.kind == 4) && !p.first(x.who):
		return api.ErrHolder
	}
	return api.OK
}

func (p *plain) do(x step) (e api.Errno, yes bool) {
	if e := p.fails(x); e != api.OK {
		return e, false
	}
	switch x.kind {
	case 0:
		p.there = append(p.there, x.who)
		if x.flag {
			p.mods = append(p.mods, x.who)
		}
	case 1:
		other := func(l []uint32) []uint32 {
			return slices.DeleteFunc(l, func(y uint32) bool { return y == x.who })
		}
		p.there, p.mods = other(p.there), other(p.mods)
		p.drop(x.who, x.now)
	case 2:
		if p.line = append(p.line, x.who); len(p.line) == 1 {
			p.give(x.now)
		}
	case 3, 4:
		p.drop(x.who, x.now)
	case 5:
		if yes = p.first(x.who); yes {
			p.heard, p.key = append(p.heard, x.now), p.key || x.flag
		}
	case 6:
		if yes = len(p.line) > 0 && x.now-p.heard[len(p.heard)-1] >= p.silence; yes {
			p.drop(p.line[0], x.now)
		}
	}
	return api.OK, yes
}

func (p *plain) state() state {
	s := state{members: slices.Sorted(slices.Values(p.there)), grants: p.grants}
	if len(p.line) > 0 {
		s.grant, s.held, s.pending, s.waiting = p.grants[len(p.grants)-1], true, !p.key, p.line[1:]
	}
	return s
}

func anyStep(rnd *rand.Rand, many int, now uint64) step {
	kind := rnd.Intn(kinds)
	if rnd.Intn(3) == 0 {
		kind = 2
	}
	return step{kind: kind, who: uint32(rnd.Intn(many)), by: uint32(rnd.Intn(many)), now: now, flag: rnd.Intn(2) == 0}
}

func TestAnySteps(t *testing.T) { // P13.1 to P13.6
	rnd := rand.New(rand.NewSource(13))
	for range 400 {
		many, bound, silence := 1+rnd.Intn(40), rnd.Intn(6), 1+uint64(rnd.Intn(12))
		f, p := of(t, bound, silence), &plain{bound: bound, silence: silence}
		now := uint64(rnd.Intn(3)) << 62
		for range 400 {
			now += uint64(rnd.Intn(4))
			x := anyStep(rnd, many, now)
			was := stateOf(f)
			e, yes := f.do(x)
			if a, b := p.do(x); e != a || yes != b {
				t.Fatalf("%+v: %d, %v; want %d, %v", x, e, yes, a, b)
			}
			got := stateOf(f)
			if !sameState(got, p.state()) {
				t.Fatalf("%+v: %+v; want %+v", x, got, p.state())
			}
			if e != api.OK && !sameState(was, got) {
				t.Fatalf("%+v: %d, but %+v; was %+v", x, e, got, was)
			}
		}
	}
}

// queue is the requests that were OK, and not answered by a grant yet, nor left.
type queue struct {
	asked  []uint32
	grants int
}

// follow checks that new grants follow the requests, and what always holds.
func (q *queue) follow(t *testing.T, f *Floor) {
	t.Helper()
	s := stateOf(f)
	for _, g := range s.grants[q.grants:] {
		if q.grants++; g.No != uint64(q.grants) || len(q.asked) == 0 || g.Who != q.asked[0] {
			t.Fatalf("grant %+v behind %d; asked %d", g, q.grants-1, q.asked)
		}
		q.asked = q.asked[1:]
	}
	all := s.waiting
	if s.held {
		all = append([]uint32{s.grant.Who}, all...)
	} else if len(all) > 0 || s.pending || s.grant != (Grant{}) {
		t.Fatalf("of a free floor: %+v", s)
	}
	for i, who := range all {
		if !slices.Contains(s.members, who) || slices.Contains(all[:i], who) {
			t.Fatalf("%d is no member, or there twice: %+v", who, s)
		}
	}
	if s.held && s.grant != s.grants[len(s.grants)-1] {
		t.Fatalf("%+v holds by another grant than the last one of %+v", s.grant, s.grants)
	}
}

// walk makes steps of anything, and checks what follows.
func walk(t *testing.T, f *Floor, steps []step) {
	t.Helper()
	var q queue
	for _, x := range steps {
		e, _ := f.do(x)
		if e == api.OK && x.kind == 2 {
			q.asked = append(q.asked, x.who)
		}
		if e == api.OK && x.kind == 1 {
			q.asked = slices.DeleteFunc(q.asked, func(y uint32) bool { return y == x.who })
		}
		q.follow(t, f)
	}
}

func TestWhatFollows(t *testing.T) { // P13.7
	rnd := rand.New(rand.NewSource(137))
	for range 300 {
		f := of(t, rnd.Intn(33), 1+uint64(rnd.Intn(9)))
		many, now := 1+rnd.Intn(50), uint64(0)
		var steps []step
		for range 300 {
			now += uint64(rnd.Intn(3))
			steps = append(steps, anyStep(rnd, many, now))
		}
		walk(t, f, steps)
	}
}

func FuzzSteps(f *testing.F) { // P13.7: ticks that rise, fall or leap, too
	f.Add(1, uint64(5), []byte{0, 1, 1, 0, 0, 2, 0, 0, 2, 1, 0, 0, 2, 2, 0, 0, 6, 0, 0, 9}, uint64(1))
	f.Add(32, uint64(math.MaxUint64), []byte{0, 0, 0, 0, 2, 0, 0, 255, 5, 0, 0, 1, 6, 0, 0, 0, 4, 0, 0, 7}, uint64(math.MaxUint64))
	f.Fuzz(func(t *testing.T, bound int, silence uint64, b []byte, factor uint64) {
		x, _ := New(bound, silence)
		var steps []step
		for ; len(b) >= 4; b = b[4:] {
			steps = append(steps, step{kind: int(b[0]) % kinds, who: uint32(b[1]), by: uint32(b[2]), now: factor * uint64(b[3]), flag: b[2]%2 == 1})
		}
		walk(t, x, steps)
	})
}
