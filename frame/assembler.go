package frame

import (
	"easel/api"
	"easel/reorder"
)

// Item is a frame, or a loss.
type Item struct {
	Lost  bool
	Known bool
	Tid   uint8
	Drop  bool
	Frame Frame
}

// state is what an assembler is at.
type state int

const (
	idle state = iota
	building
	torn // the frame has a gap
	skipping
)

// deeds tell what is done of what comes, by states.
func deeds() map[state]func(*Assembler, coming) []Item {
	return map[state]func(*Assembler, coming) []Item{
		idle:     (*Assembler).whenIdle,
		building: (*Assembler).whenBuilding,
		torn:     (*Assembler).whenTorn,
		skipping: (*Assembler).whenSkipping,
	}
}

// coming is what comes: a gap, or a packet, and what it tells.
type coming struct {
	gap    bool
	tells  bool // a packet may tell nothing
	marker bool
	plain  Info
	part   Part
}

func comingOf(o reorder.Out) coming {
	if o.Gap {
		return coming{gap: true}
	}
	plain, part, ok := tellPlainly(o.Packet)
	return coming{tells: ok, marker: o.Packet.Marker, plain: plain, part: part}
}

// begins tells whether a packet comes that begins a frame; of one that tells nothing the part is blank, and begins none.
func (c coming) begins() bool { return c.part.begins() }

// Assembler makes frames.
type Assembler struct {
	state  state
	plain  Info  // what the frame's first packet tells plainly
	frame  Frame // without parts, when it has a gap: it is never told
	wentOn bool  // behind the last gap that it has
}

// New is an idle assembler.
func New() *Assembler { return &Assembler{} }

// In is what comes.
func (a *Assembler) In(l ...reorder.Out) []Item {
	if a == nil {
		return nil
	}
	var out []Item
	do := deeds()
	for _, o := range l {
		out = append(out, do[a.state](a, comingOf(o))...)
	}
	return out
}

// Building is how many parts there are.
func (a *Assembler) Building() int {
	if a == nil {
		return 0
	}
	return len(a.frame.Parts)
}

func (a *Assembler) whenIdle(c coming) []Item {
	if c.begins() {
		return a.build(c)
	}
	return a.loseTrack()
}

func (a *Assembler) whenBuilding(c coming) []Item {
	switch {
	case c.gap:
		return a.tear()
	case c.begins():
		return append(a.loseFrame(true), a.build(c)...)
	case !a.goesOn(c):
		return a.loseTrack()
	case len(a.frame.Parts) == api.MaxPack:
		a.tear()
		return a.goOn(c)
	}
	return a.add(c)
}

func (a *Assembler) whenTorn(c coming) []Item {
	switch {
	case c.gap:
		return a.tear()
	case c.begins():
		return append(a.loseFrame(a.wentOn), a.build(c)...)
	case !a.goesOn(c):
		return a.loseTrack()
	}
	return a.goOn(c)
}

func (a *Assembler) whenSkipping(c coming) []Item {
	if c.begins() {
		return a.build(c)
	}
	return nil
}

// goesOn tells whether a packet, which begins no frame, may be the frame's.
func (a *Assembler) goesOn(c coming) bool { return c.tells && c.plain == a.plain }

// build begins a frame with a packet.
func (a *Assembler) build(c coming) []Item {
	*a = Assembler{state: building, plain: c.plain, frame: Frame{Info: told(c.plain, c.part), Key: c.part.key()}}
	return a.add(c)
}

// add makes a packet a part of the frame, and tells the frame, if that is the last one.
func (a *Assembler) add(c coming) []Item {
	a.frame.Parts = append(a.frame.Parts, c.part)
	if !c.marker {
		return nil
	}
	out := []Item{{Frame: a.frame}}
	*a = Assembler{}
	return out
}

// tear has it that the frame has a gap, and did not go on behind it.
func (a *Assembler) tear() []Item {
	a.state, a.wentOn, a.frame.Parts = torn, false, nil
	return nil
}

// goOn has it that a frame with a gap went on, and loses it, if that is its end.
func (a *Assembler) goOn(c coming) []Item {
	a.wentOn = true
	if !c.marker {
		return nil
	}
	return a.loseFrame(true)
}

// loseFrame gives the frame up. Where it is not known, what was lost may be more than this one.
func (a *Assembler) loseFrame(known bool) []Item {
	lost := Item{Lost: true, Known: known}
	if known {
		lost.Tid, lost.Drop = a.frame.Info.Tid, a.frame.Info.Drop
	}
	*a = Assembler{}
	return []Item{lost}
}

// loseTrack gives up all up to the next packet that begins a frame.
func (a *Assembler) loseTrack() []Item {
	*a = Assembler{state: skipping}
	return []Item{{Lost: true}}
}
