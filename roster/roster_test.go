package roster

import (
	"math"
	"slices"
	"testing"

	"easel/api"
)

// of is a roster of a bound that may be, with members.
func of(t *testing.T, most int, members ...Member) *Roster {
	t.Helper()
	r, e := New(most)
	if r == nil || e != api.OK {
		t.Fatalf("New(%d): %v, %d", most, r, e)
	}
	for _, m := range members {
		answers(t, r.Join(m), api.OK)
	}
	return r
}

func answers(t *testing.T, got, want api.Errno) {
	t.Helper()
	if got != want {
		t.Fatalf("%d; want %d", got, want)
	}
}

// nth is a member that shares nothing with another one of these.
func nth(n int) Member {
	return Member{Id: n, Content: uint32(2*n + 1), Camera: uint32(2*n + 2), Mod: n%3 == 0}
}

// first are so many of these.
func first(many int) []Member {
	var l []Member
	for n := range many {
		l = append(l, nth(n))
	}
	return l
}

func idsOf(members []Member) []int {
	var l []int
	for _, m := range members {
		l = append(l, m.Id)
	}
	return l
}

// holds checks that just these are there, in that order, and each source is told to be just its own.
func holds(t *testing.T, r *Roster, want ...Member) {
	t.Helper()
	if got := r.All(); !slices.Equal(got, want) {
		t.Errorf("all %+v; want %+v", got, want)
	}
	if got := r.Ids(); !slices.Equal(got, idsOf(want)) {
		t.Errorf("ids %d; want %d", got, idsOf(want))
	}
	if got := r.Len(); got != len(want) {
		t.Errorf("%d are there; want %d", got, len(want))
	}
	for _, m := range want {
		gets(t, r, m)
		owns(t, r, m.Content, m, true)
		owns(t, r, m.Camera, m, false)
	}
}

func gets(t *testing.T, r *Roster, m Member) {
	t.Helper()
	if got, ok := r.Get(m.Id); got != m || !ok {
		t.Errorf("Get(%d): %+v, %v; want %+v", m.Id, got, ok, m)
	}
}

func owns(t *testing.T, r *Roster, ssrc uint32, m Member, content bool) {
	t.Helper()
	if got, c, ok := r.Source(ssrc); got != m || c != content || !ok {
		t.Errorf("Source(%d): %+v, %v, %v; want %+v, %v", ssrc, got, c, ok, m, content)
	}
}

// nobody checks that these ids are not there.
func nobody(t *testing.T, r *Roster, ids ...int) {
	t.Helper()
	for _, id := range ids {
		if got, ok := r.Get(id); got != (Member{}) || ok {
			t.Errorf("Get(%d): %+v, %v", id, got, ok)
		}
	}
}

// nobodys checks that these sources are nobody's.
func nobodys(t *testing.T, r *Roster, sources ...uint32) {
	t.Helper()
	for _, ssrc := range sources {
		if got, content, ok := r.Source(ssrc); got != (Member{}) || content || ok {
			t.Errorf("Source(%d): %+v, %v, %v", ssrc, got, content, ok)
		}
	}
}

// refuses checks that one may not join, by that error, and that this changed nothing.
func refuses(t *testing.T, r *Roster, want api.Errno, m Member) {
	t.Helper()
	was := r.All()
	if got := r.Join(m); got != want {
		t.Errorf("Join(%+v): %d; want %d", m, got, want)
	}
	holds(t, r, was...)
}

func TestExamples(t *testing.T) { // P14.1, P14.2: the chapter's
	r := of(t, 2)
	answers(t, r.Join(Member{Id: 5, Content: 10, Camera: 11}), api.OK)
	answers(t, r.Join(Member{Id: 5, Content: 12, Camera: 13}), api.ErrTwice)
	answers(t, r.Join(Member{Id: 6, Content: 11, Camera: 12}), api.ErrSource)
	answers(t, r.Join(Member{Id: 6, Content: 12, Camera: 12}), api.ErrArg)
	answers(t, r.Join(Member{Id: 6, Content: 12, Camera: 13}), api.OK)
	answers(t, r.Join(Member{Id: 7, Content: 14, Camera: 15}), api.ErrFull)
	owns(t, r, 11, Member{Id: 5, Content: 10, Camera: 11}, false)
	owns(t, r, 12, Member{Id: 6, Content: 12, Camera: 13}, true)
	answers(t, r.Leave(5), api.OK)
	if got := r.Ids(); !slices.Equal(got, []int{6}) {
		t.Errorf("ids %d", got)
	}
}

func TestNew(t *testing.T) { // P14.1
	for most := range api.MaxPart + 1 {
		r := of(t, most)
		holds(t, r)
		nobody(t, r, 0, 1, -1)
		nobodys(t, r, 0, 1, math.MaxUint32)
	}
	for _, most := range []int{-1, 33, math.MinInt, math.MaxInt} {
		if r, e := New(most); r != nil || e != api.ErrArg {
			t.Errorf("%d: %v, %d", most, r, e)
		}
	}
}

func TestAsManyAsMayBeJoin(t *testing.T) { // P14.1: at each bound, and one past it
	for most := range api.MaxPart + 1 {
		l := first(most + 1)
		r := of(t, most, l[:most]...)
		holds(t, r, l[:most]...)
		refuses(t, r, api.ErrFull, l[most])
		nobody(t, r, most)
		nobodys(t, r, l[most].Content, l[most].Camera)
		if most == 0 {
			continue
		}
		answers(t, r.Leave(0), api.OK) // there is a place again
		answers(t, r.Join(l[most]), api.OK)
		holds(t, r, l[1:]...)
		refuses(t, r, api.ErrFull, l[0])
	}
}

func TestWhoMayNotBe(t *testing.T) { // P14.1: ErrArg, at its bounds
	r := of(t, 8, Member{Id: 3, Content: 30, Camera: 31, Mod: true})
	for _, m := range []Member{
		{},
		{Id: -1, Content: 1, Camera: 2},
		{Id: math.MinInt, Content: 1, Camera: 2},
		{Id: 4, Camera: 2},
		{Id: 4, Content: 1},
		{Id: 4, Content: 1, Camera: 1},
		{Id: 4, Content: math.MaxUint32, Camera: math.MaxUint32},
		{Id: 4, Mod: true},
	} {
		refuses(t, r, api.ErrArg, m)
		nobody(t, r, m.Id)
		nobodys(t, r, m.Content, m.Camera)
	}
	l := []Member{
		{Id: 3, Content: 30, Camera: 31, Mod: true},
		{Id: 0, Content: 1, Camera: 2},
		{Id: math.MaxInt, Content: math.MaxUint32, Camera: math.MaxUint32 - 1, Mod: true},
		{Id: 1, Content: 1 << 31, Camera: 1<<31 + 1},
		{Id: 1 << 40, Content: 4, Camera: 3},
	}
	for _, m := range l[1:] {
		answers(t, r.Join(m), api.OK)
	}
	holds(t, r, l...)
	nobodys(t, r, 0)
}

func TestWhoIsThereTwice(t *testing.T) { // P14.1: ErrTwice, whatever else is told of the member
	m := Member{Id: 3, Content: 30, Camera: 31}
	r := of(t, 8, nth(0), m, nth(9))
	refuses(t, r, api.ErrTwice, m)
	refuses(t, r, api.ErrTwice, Member{Id: 3, Content: 30, Camera: 31, Mod: true})
	refuses(t, r, api.ErrTwice, Member{Id: 3, Content: 40, Camera: 41})
	nobodys(t, r, 40, 41)
	refuses(t, r, api.ErrTwice, Member{Id: 0, Content: 40, Camera: 41}) // the id 0 is one, too
}

func TestSourcesThatAreSomebodys(t *testing.T) { // P14.1: ErrSource, of either source, and of either kind
	r := of(t, 8, Member{Id: 3, Content: 30, Camera: 31}, Member{Id: 4, Content: 41, Camera: 40})
	for _, taken := range []uint32{30, 31, 40, 41} {
		refuses(t, r, api.ErrSource, Member{Id: 5, Content: taken, Camera: 50})
		refuses(t, r, api.ErrSource, Member{Id: 5, Content: 50, Camera: taken})
		nobody(t, r, 5)
		nobodys(t, r, 50)
	}
	refuses(t, r, api.ErrSource, Member{Id: 5, Content: 31, Camera: 30})
	refuses(t, r, api.ErrSource, Member{Id: 5, Content: 30, Camera: 40})
	answers(t, r.Join(Member{Id: 5, Content: 32, Camera: 29}), api.OK)
}

func TestTheFirstError(t *testing.T) { // P14.1: ErrArg, ErrTwice, ErrSource, ErrFull
	r := of(t, 1, Member{Id: 3, Content: 30, Camera: 31})
	refuses(t, r, api.ErrArg, Member{Id: 3, Content: 30})
	refuses(t, r, api.ErrArg, Member{Id: 3, Camera: 31})
	refuses(t, r, api.ErrArg, Member{Id: 3, Content: 30, Camera: 30})
	refuses(t, r, api.ErrArg, Member{Id: -3, Content: 30, Camera: 31})
	refuses(t, r, api.ErrTwice, Member{Id: 3, Content: 30, Camera: 32})
	refuses(t, r, api.ErrTwice, Member{Id: 3, Content: 40, Camera: 41})
	refuses(t, r, api.ErrSource, Member{Id: 4, Content: 30, Camera: 41})
	refuses(t, r, api.ErrSource, Member{Id: 4, Content: 40, Camera: 30})
	refuses(t, r, api.ErrFull, Member{Id: 4, Content: 40, Camera: 41})
	none := of(t, 0)
	refuses(t, none, api.ErrArg, Member{Id: 1, Content: 2, Camera: 2})
	refuses(t, none, api.ErrFull, Member{Id: 1, Content: 2, Camera: 3})
}

func TestLeave(t *testing.T) { // P14.1
	for gone := range 5 { // the first one, the last one, and those between
		l := first(5)
		r := of(t, 5, l...)
		for _, id := range []int{5, -1, math.MinInt, math.MaxInt} {
			answers(t, r.Leave(id), api.ErrMember)
		}
		holds(t, r, l...)
		answers(t, r.Leave(gone), api.OK)
		left := slices.Concat(l[:gone], l[gone+1:])
		holds(t, r, left...)
		nobody(t, r, gone)
		nobodys(t, r, l[gone].Content, l[gone].Camera)
		answers(t, r.Leave(gone), api.ErrMember)
		holds(t, r, left...)
	}
}

func TestAllMayLeave(t *testing.T) { // P14.1
	r := of(t, api.MaxPart, first(api.MaxPart)...)
	for n := range api.MaxPart {
		id := n * 5 % api.MaxPart
		answers(t, r.Leave(id), api.OK)
		nobody(t, r, id)
	}
	holds(t, r)
	for _, m := range first(api.MaxPart) {
		nobodys(t, r, m.Content, m.Camera)
	}
	answers(t, r.Leave(0), api.ErrMember)
}

func TestWhoComesBackIsBehindAllOthers(t *testing.T) { // P14.1, P14.4
	r := of(t, 3, nth(2), nth(0), nth(1))
	holds(t, r, nth(2), nth(0), nth(1)) // in order of joining, not by ids
	answers(t, r.Leave(2), api.OK)
	back := Member{Id: 2, Content: nth(2).Camera, Camera: 99, Mod: true} // other than it was
	answers(t, r.Join(back), api.OK)
	holds(t, r, nth(0), nth(1), back)
	nobodys(t, r, nth(2).Content)
	answers(t, r.Leave(0), api.OK)
	heir := Member{Id: 7, Content: nth(0).Camera, Camera: nth(0).Content} // sources of one who left
	answers(t, r.Join(heir), api.OK)
	holds(t, r, nth(1), back, heir)
	nobody(t, r, 0)
}

func TestGetAndSource(t *testing.T) { // P14.2
	a, b := Member{Id: 0, Content: 1, Camera: 3}, Member{Id: 3, Content: 4, Camera: 5, Mod: true}
	r := of(t, 4, a, b)
	gets(t, r, a)
	gets(t, r, b)
	nobody(t, r, -1, 1, 2, 4, 5, math.MinInt, math.MaxInt) // a source is no id
	owns(t, r, 1, a, true)
	owns(t, r, 3, a, false)
	owns(t, r, 4, b, true)
	owns(t, r, 5, b, false)
	nobodys(t, r, 0, 2, 6, math.MaxUint32)
}

func TestNewMemory(t *testing.T) { // P14.3
	r := of(t, 4, nth(3), nth(1), nth(2))
	all, ids := r.All(), r.Ids()
	all, ids = all[:cap(all)], ids[:cap(ids)]
	for i := range all {
		all[i] = nth(77)
	}
	for i := range ids {
		ids[i] = 77
	}
	holds(t, r, nth(3), nth(1), nth(2))
	all, ids = r.All(), r.Ids()
	answers(t, r.Leave(3), api.OK)
	answers(t, r.Join(nth(8)), api.OK)
	if !slices.Equal(all, []Member{nth(3), nth(1), nth(2)}) || !slices.Equal(ids, []int{3, 1, 2}) {
		t.Errorf("what was answered does not stay: %+v, %d", all, ids)
	}
	holds(t, r, nth(1), nth(2), nth(8))
}

func TestRostersShareNothing(t *testing.T) { // P14.3
	a, b := of(t, 4, nth(1)), of(t, 4)
	holds(t, b)
	nobodys(t, b, nth(1).Content, nth(1).Camera)
	answers(t, b.Join(nth(1)), api.OK)
	answers(t, a.Leave(1), api.OK)
	holds(t, a)
	holds(t, b, nth(1))
}

func TestNoRoster(t *testing.T) { // of a nil roster, and of one that New did not make
	for _, r := range []*Roster{nil, {}} {
		for _, m := range []Member{nth(0), nth(1), {}, {Id: -1}} { // ahead of all other errors
			answers(t, r.Join(m), api.ErrNil)
			answers(t, r.Leave(m.Id), api.ErrNil)
			nobody(t, r, m.Id)
			nobodys(t, r, m.Content, m.Camera)
		}
		holds(t, r)
	}
}
