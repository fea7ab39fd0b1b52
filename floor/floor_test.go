package floor

import (
	"math"
	"slices"
	"testing"

	"easel/api"
)

// of is a floor of a bound and a silence that may be, with members, none of whom is a moderator.
func of(t *testing.T, bound int, silence uint64, members ...uint32) *Floor {
	t.Helper()
	f, e := New(bound, silence)
	if f == nil || e != api.OK {
		t.Fatalf("New(%d, %d): %v, %d", bound, silence, f, e)
	}
	for _, who := range members {
		answers(t, f.Join(who, false), api.OK)
	}
	return f
}

func answers(t *testing.T, got, want api.Errno) {
	t.Helper()
	if got != want {
		t.Fatalf("%d; want %d", got, want)
	}
}

// state is all that a floor tells.
type state struct {
	grant            Grant
	held, pending    bool
	waiting, members []uint32
	grants           []Grant
}

func stateOf(f *Floor) state {
	g, held := f.Holder()
	return state{grant: g, held: held, pending: f.Pending(), waiting: f.Waiting(), members: f.Members(), grants: f.Grants()}
}

func sameState(a, b state) bool {
	return a.grant == b.grant && a.held == b.held && a.pending == b.pending &&
		slices.Equal(a.waiting, b.waiting) && slices.Equal(a.members, b.members) && slices.Equal(a.grants, b.grants)
}

// holds checks who holds the floor, by which grant, and who waits.
func holds(t *testing.T, f *Floor, g Grant, waiting ...uint32) {
	t.Helper()
	if got, ok := f.Holder(); got != g || !ok {
		t.Errorf("holds %+v, %v; want %+v", got, ok, g)
	}
	if got := f.Waiting(); !slices.Equal(got, waiting) {
		t.Errorf("wait %d; want %d", got, waiting)
	}
}

// free checks that nobody holds the floor, and nobody waits.
func free(t *testing.T, f *Floor) {
	t.Helper()
	if got, ok := f.Holder(); got != (Grant{}) || ok {
		t.Errorf("holds %+v, %v", got, ok)
	}
	if f.Pending() || len(f.Waiting()) > 0 {
		t.Errorf("pending %v, wait %d", f.Pending(), f.Waiting())
	}
}

// fails checks a call's error, and that it changed nothing.
func fails(t *testing.T, f *Floor, want api.Errno, call func() api.Errno) {
	t.Helper()
	was := stateOf(f)
	if got := call(); got != want {
		t.Errorf("%d; want %d", got, want)
	}
	if now := stateOf(f); !sameState(was, now) {
		t.Errorf("%+v; was %+v", now, was)
	}
}

func TestExamples(t *testing.T) { // P13.1 to P13.5: the chapter's
	f := of(t, 1, 5, 1, 2)
	answers(t, f.Join(3, true), api.OK)
	answers(t, f.Request(1, 0), api.OK)
	answers(t, f.Request(2, 0), api.OK)
	answers(t, f.Request(3, 1), api.ErrFull)
	answers(t, f.Request(1, 1), api.ErrTwice)
	holds(t, f, Grant{1, 1, 0}, 2)
	answers(t, f.Revoke(3, 1, 2), api.OK)
	holds(t, f, Grant{2, 2, 2})
	answers(t, f.Revoke(2, 2, 2), api.ErrMod)
	if f.Tick(6) {
		t.Error("silent at 6")
	}
	holds(t, f, Grant{2, 2, 2})
	if !f.Tick(7) {
		t.Error("not silent at 7")
	}
	free(t, f)
}

func TestNew(t *testing.T) { // P13.1
	for _, bound := range []int{0, 1, 31, 32} {
		for _, silence := range []uint64{1, 2, math.MaxUint64} {
			f := of(t, bound, silence)
			free(t, f)
			if !sameState(stateOf(f), state{}) {
				t.Errorf("%d, %d: %+v", bound, silence, stateOf(f))
			}
		}
		if f, e := New(bound, 0); f != nil || e != api.ErrArg {
			t.Errorf("%d: %v, %d", bound, f, e)
		}
	}
	for _, bound := range []int{-1, 33, math.MinInt, math.MaxInt} {
		for _, silence := range []uint64{0, 1, math.MaxUint64} {
			if f, e := New(bound, silence); f != nil || e != api.ErrArg {
				t.Errorf("%d, %d: %v, %d", bound, silence, f, e)
			}
		}
	}
}

func TestJoin(t *testing.T) { // P13.1
	f := of(t, 4, 5)
	for n := range uint32(api.MaxPart) {
		who := n * 0x08421084 // from 0 on, far apart
		answers(t, f.Join(who, n%2 == 0), api.OK)
		fails(t, f, api.ErrTwice, func() api.Errno { return f.Join(who, n%2 == 1) })
		if got := len(f.Members()); got != int(n)+1 {
			t.Fatalf("%d members; want %d", got, n+1)
		}
	}
	fails(t, f, api.ErrFull, func() api.Errno { return f.Join(math.MaxUint32, true) })
	fails(t, f, api.ErrTwice, func() api.Errno { return f.Join(0, true) }) // ahead of ErrFull
	free(t, f)
	answers(t, f.Leave(0, 0), api.OK)
	answers(t, f.Join(math.MaxUint32, true), api.OK)
	fails(t, f, api.ErrFull, func() api.Errno { return f.Join(0, false) })
}

func TestJoinTwiceLeavesTheModeratorAsItWas(t *testing.T) { // P13.1, P13.6
	f := of(t, 4, 5, 1, 2)
	answers(t, f.Join(3, true), api.OK)
	answers(t, f.Join(3, false), api.ErrTwice)
	answers(t, f.Join(2, true), api.ErrTwice)
	answers(t, f.Request(1, 0), api.OK)
	answers(t, f.Revoke(2, 1, 1), api.ErrMod)
	answers(t, f.Revoke(3, 1, 1), api.OK)
	answers(t, f.Leave(3, 1), api.OK)
	answers(t, f.Join(3, false), api.OK) // a member anew
	answers(t, f.Request(1, 2), api.OK)
	answers(t, f.Revoke(3, 1, 2), api.ErrMod)
}

func TestLeave(t *testing.T) { // P13.1
	f := of(t, 4, 5, 1, 2, 3, 4, 5)
	for _, who := range []uint32{1, 2, 3, 4} {
		answers(t, f.Request(who, 7), api.OK)
	}
	f.Heard(1, 8, true)
	fails(t, f, api.ErrMember, func() api.Errno { return f.Leave(6, 9) })
	fails(t, f, api.ErrMember, func() api.Errno { return f.Leave(0, 9) })
	answers(t, f.Leave(5, 9), api.OK) // it neither holds nor waits
	holds(t, f, Grant{1, 1, 7}, 2, 3, 4)
	answers(t, f.Leave(3, 10), api.OK) // it waits
	holds(t, f, Grant{1, 1, 7}, 2, 4)
	fails(t, f, api.ErrMember, func() api.Errno { return f.Leave(3, 10) })
	if f.Pending() {
		t.Error("pending, by one who waited")
	}
	answers(t, f.Leave(1, 11), api.OK) // it holds
	holds(t, f, Grant{2, 2, 11}, 4)
	if !f.Pending() {
		t.Error("the next one is not pending")
	}
	if got := f.Members(); !slices.Equal(got, []uint32{2, 4}) {
		t.Errorf("members %d", got)
	}
	answers(t, f.Leave(4, 12), api.OK)
	answers(t, f.Leave(2, 13), api.OK)
	free(t, f)
	if got := f.Members(); len(got) != 0 {
		t.Errorf("members %d", got)
	}
	if got := f.Grants(); !slices.Equal(got, []Grant{{1, 1, 7}, {2, 2, 11}}) {
		t.Errorf("grants %+v", got)
	}
}

func TestWhoComesBackWaitsAnew(t *testing.T) { // P13.1, P13.7
	f := of(t, 4, 5, 1, 2, 3)
	for _, who := range []uint32{1, 2, 3} {
		answers(t, f.Request(who, 0), api.OK)
	}
	answers(t, f.Leave(2, 1), api.OK)
	answers(t, f.Join(2, false), api.OK)
	holds(t, f, Grant{1, 1, 0}, 3)
	answers(t, f.Request(2, 2), api.OK)
	holds(t, f, Grant{1, 1, 0}, 3, 2)
	answers(t, f.Leave(1, 3), api.OK)
	answers(t, f.Join(1, false), api.OK)
	holds(t, f, Grant{2, 3, 3}, 2)
	answers(t, f.Release(1, 3), api.ErrHolder)
	if f.Heard(1, 3, true) || !f.Pending() {
		t.Error("who left holds it yet")
	}
}

func TestRequest(t *testing.T) { // P13.2
	f := of(t, 2, 5, 1, 2, 3, 4)
	fails(t, f, api.ErrMember, func() api.Errno { return f.Request(5, 0) })
	fails(t, f, api.ErrMember, func() api.Errno { return f.Request(0, 0) }) // nobody's number, too
	answers(t, f.Request(4, 3), api.OK)
	holds(t, f, Grant{1, 4, 3})
	if !f.Pending() {
		t.Error("not pending")
	}
	fails(t, f, api.ErrTwice, func() api.Errno { return f.Request(4, 4) }) // it holds
	answers(t, f.Request(2, 4), api.OK)
	fails(t, f, api.ErrTwice, func() api.Errno { return f.Request(2, 5) }) // it waits
	answers(t, f.Request(1, 5), api.OK)
	holds(t, f, Grant{1, 4, 3}, 2, 1) // in order of requests
	fails(t, f, api.ErrFull, func() api.Errno { return f.Request(3, 6) })
	fails(t, f, api.ErrMember, func() api.Errno { return f.Request(9, 6) }) // these are ahead of ErrFull
	fails(t, f, api.ErrTwice, func() api.Errno { return f.Request(4, 6) })
	fails(t, f, api.ErrTwice, func() api.Errno { return f.Request(1, 6) })
	answers(t, f.Release(4, 7), api.OK)
	holds(t, f, Grant{2, 2, 7}, 1)
	answers(t, f.Request(4, 7), api.OK) // there is a place again, and it may ask again
	holds(t, f, Grant{2, 2, 7}, 1, 4)
}

func TestBounds(t *testing.T) { // P13.2: as many wait as may, and no more
	for _, bound := range []int{0, 1, 2, 30, 31, 32} {
		f := of(t, bound, 5)
		for who := range uint32(api.MaxPart) {
			answers(t, f.Join(who, false), api.OK)
		}
		for n := range api.MaxPart {
			if n <= bound { // one holds it
				answers(t, f.Request(uint32(n), 0), api.OK)
				continue
			}
			fails(t, f, api.ErrFull, func() api.Errno { return f.Request(uint32(n), 0) })
		}
		if got := len(f.Waiting()); got != min(bound, api.MaxPart-1) {
			t.Errorf("bound %d: %d wait", bound, got)
		}
	}
}

func TestOfBoundNoughtAFreeFloorIsGranted(t *testing.T) { // P13.2
	f := of(t, 0, 5, 1, 2)
	answers(t, f.Request(1, 0), api.OK)
	fails(t, f, api.ErrFull, func() api.Errno { return f.Request(2, 0) })
	answers(t, f.Release(1, 1), api.OK)
	free(t, f)
	answers(t, f.Request(2, 2), api.OK)
	holds(t, f, Grant{2, 2, 2})
}

func TestRelease(t *testing.T) { // P13.3
	f := of(t, 4, 5, 0, 1, 2)
	fails(t, f, api.ErrMember, func() api.Errno { return f.Release(3, 0) })
	for _, who := range []uint32{0, 1} { // of a free floor; 0 is nobody's number, too
		fails(t, f, api.ErrHolder, func() api.Errno { return f.Release(who, 0) })
	}
	answers(t, f.Request(1, 1), api.OK)
	answers(t, f.Request(0, 1), api.OK)
	fails(t, f, api.ErrMember, func() api.Errno { return f.Release(3, 1) })
	fails(t, f, api.ErrHolder, func() api.Errno { return f.Release(2, 1) })
	fails(t, f, api.ErrHolder, func() api.Errno { return f.Release(0, 1) }) // it waits
	f.Heard(1, 2, true)
	answers(t, f.Release(1, 9), api.OK)
	holds(t, f, Grant{2, 0, 9})
	if !f.Pending() {
		t.Error("not pending")
	}
	fails(t, f, api.ErrHolder, func() api.Errno { return f.Release(1, 9) })
	answers(t, f.Release(0, 9), api.OK)
	free(t, f)
	fails(t, f, api.ErrHolder, func() api.Errno { return f.Release(0, 9) })
}

func TestRevoke(t *testing.T) { // P13.3
	f := of(t, 4, 5, 0, 1, 2)
	answers(t, f.Join(8, true), api.OK)
	answers(t, f.Join(9, true), api.OK)
	revokes := func(want api.Errno, by, whom uint32) {
		t.Helper()
		fails(t, f, want, func() api.Errno { return f.Revoke(by, whom, 3) })
	}
	revokes(api.ErrHolder, 8, 0) // of a free floor
	revokes(api.ErrHolder, 8, 8)
	answers(t, f.Request(1, 1), api.OK)
	answers(t, f.Request(9, 1), api.OK)
	answers(t, f.Request(0, 1), api.OK)
	revokes(api.ErrMember, 3, 1) // by is none
	revokes(api.ErrMember, 8, 3) // whom is none
	revokes(api.ErrMember, 3, 4)
	revokes(api.ErrMember, 2, 3) // ahead of ErrMod
	revokes(api.ErrMod, 2, 1)
	revokes(api.ErrMod, 1, 1) // by itself
	revokes(api.ErrMod, 2, 0) // ahead of ErrHolder
	revokes(api.ErrHolder, 8, 2)
	revokes(api.ErrHolder, 8, 9) // it waits
	answers(t, f.Revoke(8, 1, 4), api.OK)
	holds(t, f, Grant{2, 9, 4}, 0)
	revokes(api.ErrHolder, 8, 1)
	answers(t, f.Revoke(9, 9, 5), api.OK) // a moderator, by itself
	holds(t, f, Grant{3, 0, 5})
	answers(t, f.Revoke(9, 0, 6), api.OK)
	free(t, f)
	if got := f.Members(); !slices.Equal(got, []uint32{0, 1, 2, 8, 9}) { // it is a member yet
		t.Errorf("members %d", got)
	}
}

func TestHeard(t *testing.T) { // P13.4
	f := of(t, 4, 5, 0, 1, 2)
	hears := func(want bool, who uint32, now uint64, key bool) {
		t.Helper()
		if got := f.Heard(who, now, key); got != want {
			t.Errorf("%d at %d: %v", who, now, got)
		}
	}
	hears(false, 0, 0, true) // of a free floor; 0 is nobody's number, too
	hears(false, 1, 0, true)
	free(t, f)
	answers(t, f.Request(1, 10), api.OK)
	answers(t, f.Request(2, 10), api.OK)
	was := stateOf(f)
	for _, who := range []uint32{0, 2, 3} { // no holder, one who waits, no member
		hears(false, who, 14, true)
	}
	hears(true, 1, 11, false)
	if !sameState(was, stateOf(f)) {
		t.Errorf("%+v; was %+v", stateOf(f), was)
	}
	hears(true, 1, 12, true)
	if was.pending = false; !sameState(was, stateOf(f)) {
		t.Errorf("%+v; want %+v", stateOf(f), was)
	}
	hears(true, 1, 13, false) // it stays so
	hears(true, 1, 13, true)
	if f.Pending() || f.Tick(17) {
		t.Error("pending, or silent")
	}
	if !f.Tick(18) || !f.Pending() {
		t.Error("not silent, or the next one not pending")
	}
	holds(t, f, Grant{2, 2, 18})
	hears(false, 1, 19, true)
	if f.Tick(22) || !f.Pending() {
		t.Error("heard by one who held it before")
	}
}

func TestTick(t *testing.T) { // P13.4
	f := of(t, 4, 5, 1, 2, 3)
	ticks := func(want bool, now uint64) {
		t.Helper()
		if got := f.Tick(now); got != want {
			t.Errorf("%d: %v", now, got)
		}
	}
	ticks(false, 0) // of a free floor
	ticks(false, math.MaxUint64)
	answers(t, f.Request(1, 100), api.OK)
	answers(t, f.Request(2, 103), api.OK)
	answers(t, f.Request(3, 104), api.OK)
	ticks(false, 100)
	ticks(false, 104)
	holds(t, f, Grant{1, 1, 100}, 2, 3)
	f.Heard(1, 104, false)
	ticks(false, 108)
	ticks(true, 109)
	holds(t, f, Grant{2, 2, 109}, 3) // it is heard at that tick
	ticks(false, 109)
	ticks(false, 113)
	ticks(true, 1000) // once, however long it was
	holds(t, f, Grant{3, 3, 1000})
	ticks(false, 1004)
	ticks(true, 1005)
	free(t, f)
	ticks(false, 1005)
	ticks(false, 5000)
	if got := f.Members(); !slices.Equal(got, []uint32{1, 2, 3}) { // it is a member yet
		t.Errorf("members %d", got)
	}
}

func TestTicksBounds(t *testing.T) { // P13.4
	for _, x := range []struct {
		silence, heard, now uint64
		want                bool
	}{
		{1, 7, 7, false}, {1, 7, 8, true}, {1, 7, math.MaxUint64, true},
		{1, math.MaxUint64, math.MaxUint64, false}, {1, math.MaxUint64 - 1, math.MaxUint64, true},
		{math.MaxUint64, 0, math.MaxUint64 - 1, false}, {math.MaxUint64, 0, math.MaxUint64, true}, {math.MaxUint64, 1, math.MaxUint64, false},
		{3, math.MaxUint64 - 1, 1, false}, {1, 7, 6, false}, {1, 7, 0, false}, // ticks that fall: no one is silent
	} {
		f := of(t, 1, x.silence, 0)
		answers(t, f.Request(0, x.heard), api.OK)
		if got := f.Tick(x.now); got != x.want {
			t.Errorf("granted: %+v: %v", x, got)
		}
		f = of(t, 1, x.silence, 0)
		answers(t, f.Request(0, x.heard/2), api.OK)
		f.Heard(0, x.heard, true)
		if got := f.Tick(x.now); got != x.want {
			t.Errorf("heard: %+v: %v", x, got)
		}
	}
}

func TestHeardAtTheTickThatIsTold(t *testing.T) { // P13.4: of ticks that fall, too
	f := of(t, 1, 5, 1)
	answers(t, f.Request(1, 100), api.OK)
	f.Heard(1, 50, false)
	if f.Tick(54) || !f.Tick(55) {
		t.Error("not heard at 50")
	}
	free(t, f)
}

func TestEachEndGoesOnToTheFirst(t *testing.T) { // P13.1, P13.3, P13.4: and it is heard at that tick
	for i, end := range []func(f *Floor) bool{
		func(f *Floor) bool { return f.Leave(1, 50) == api.OK },
		func(f *Floor) bool { return f.Release(1, 50) == api.OK },
		func(f *Floor) bool { return f.Revoke(2, 1, 50) == api.OK },
		func(f *Floor) bool { return f.Tick(50) },
	} {
		f := of(t, 4, 5, 1, 0, 3)
		answers(t, f.Join(2, true), api.OK)
		for _, who := range []uint32{1, 3, 0} {
			answers(t, f.Request(who, 0), api.OK)
		}
		f.Heard(1, 45, true)
		if !end(f) {
			t.Errorf("%d: it did not end", i)
		}
		holds(t, f, Grant{2, 3, 50}, 0)
		if !f.Pending() || f.Tick(54) || !f.Tick(55) {
			t.Errorf("%d: not pending, or not heard at 50", i)
		}
		holds(t, f, Grant{3, 0, 55})
	}
}

func TestWhatIsTold(t *testing.T) { // P13.5
	f := of(t, 32, 5, math.MaxUint32, 7, 0, 1<<31, 12, 3)
	if got := f.Members(); !slices.Equal(got, []uint32{0, 3, 7, 12, 1 << 31, math.MaxUint32}) {
		t.Errorf("members %d", got)
	}
	for i, who := range []uint32{math.MaxUint32, 0, 12, 3} {
		answers(t, f.Request(who, uint64(i)), api.OK)
	}
	holds(t, f, Grant{1, math.MaxUint32, 0}, 0, 12, 3)
	answers(t, f.Release(math.MaxUint32, 20), api.OK)
	holds(t, f, Grant{2, 0, 20}, 12, 3)
	answers(t, f.Request(math.MaxUint32, 20), api.OK)
	holds(t, f, Grant{2, 0, 20}, 12, 3, math.MaxUint32)
	answers(t, f.Release(0, 20), api.OK)
	answers(t, f.Release(12, 21), api.OK)
	answers(t, f.Release(3, math.MaxUint64), api.OK)
	answers(t, f.Release(math.MaxUint32, math.MaxUint64), api.OK)
	free(t, f)
	want := []Grant{{1, math.MaxUint32, 0}, {2, 0, 20}, {3, 12, 20}, {4, 3, 21}, {5, math.MaxUint32, math.MaxUint64}}
	if got := f.Grants(); !slices.Equal(got, want) { // of a free floor, too
		t.Errorf("grants %+v", got)
	}
}

func TestWhoHeldItMayHoldItAgain(t *testing.T) { // P13.2, P13.5: by another grant, pending again
	f := of(t, 1, 5, 0)
	for no := range uint64(1000) {
		answers(t, f.Request(0, 3*no), api.OK)
		holds(t, f, Grant{no + 1, 0, 3 * no})
		if !f.Pending() {
			t.Fatalf("%d: not pending", no)
		}
		f.Heard(0, 3*no+1, true)
		answers(t, f.Release(0, 3*no+2), api.OK)
	}
	l := f.Grants()
	for i, g := range l {
		if g != (Grant{uint64(i) + 1, 0, 3 * uint64(i)}) {
			t.Fatalf("%d: %+v", i, g)
		}
	}
	if len(l) != 1000 {
		t.Errorf("%d grants", len(l))
	}
}

func TestHearingLeavesGrantsAsTheyAre(t *testing.T) { // P13.4, P13.5: At is when it was granted
	f := of(t, 1, 5, 4)
	answers(t, f.Request(4, 3), api.OK)
	f.Heard(4, 6, true)
	holds(t, f, Grant{1, 4, 3})
	if got := f.Grants(); !slices.Equal(got, []Grant{{1, 4, 3}}) {
		t.Errorf("grants %+v", got)
	}
}

func TestNewMemory(t *testing.T) { // P13.6
	f := of(t, 8, 5, 1, 2, 3, 4)
	for _, who := range []uint32{4, 3, 2, 1} {
		answers(t, f.Request(who, 0), api.OK)
	}
	answers(t, f.Release(4, 1), api.OK)
	want := state{
		grant: Grant{2, 3, 1}, held: true, pending: true,
		waiting: []uint32{2, 1}, members: []uint32{1, 2, 3, 4}, grants: []Grant{{1, 4, 0}, {2, 3, 1}},
	}
	got := stateOf(f)
	for _, l := range [][]uint32{got.waiting[:cap(got.waiting)], got.members[:cap(got.members)]} {
		for i := range l {
			l[i] = 77
		}
	}
	grants := got.grants[:cap(got.grants)]
	for i := range grants {
		grants[i] = Grant{7, 7, 7}
	}
	if got = stateOf(f); !sameState(got, want) {
		t.Errorf("what was answered was written to: %+v; want %+v", got, want)
	}
	answers(t, f.Leave(2, 2), api.OK)
	answers(t, f.Release(3, 3), api.OK)
	answers(t, f.Join(9, false), api.OK)
	answers(t, f.Request(9, 3), api.OK)
	if !sameState(got, want) { // what was answered stays
		t.Errorf("%+v; want %+v", got, want)
	}
}

func TestFloorsShareNothing(t *testing.T) { // P13.6
	a, b := of(t, 1, 5, 1), of(t, 1, 5, 1)
	answers(t, a.Request(1, 0), api.OK)
	free(t, b)
	if len(b.Grants()) > 0 {
		t.Errorf("grants %+v", b.Grants())
	}
}

func TestNoFloor(t *testing.T) { // of a nil floor, and of one that New did not make
	for i, f := range []*Floor{nil, {}} {
		for _, who := range []uint32{0, 1, math.MaxUint32} {
			for j, e := range []api.Errno{f.Join(who, true), f.Leave(who, 1), f.Request(who, 1), f.Release(who, 1), f.Revoke(who, who, 1)} {
				if e != api.ErrNil {
					t.Errorf("%d: call %d: %d", i, j, e)
				}
			}
			if f.Heard(who, 1, true) || f.Tick(math.MaxUint64) {
				t.Errorf("%d: heard, or silent", i)
			}
		}
		if !sameState(stateOf(f), state{}) {
			t.Errorf("%d: %+v", i, stateOf(f))
		}
	}
}
