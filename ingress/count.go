package ingress

import (
	"math"

	"easel/rtcp"
	"easel/rtp"
	"easel/wide"
	"easel/window"
)

const (
	perTick    = 90      // a packet's time goes on by so many in a tick
	timeDigits = 32      // of a packet's time
	firstRound = 1 << 16 // by so much more the first number is made wide

	// Bounds of a block's numbers.
	maxTotal = 1<<23 - 1
	minTotal = -1 << 23
	maxLost  = 255
)

// Stats is what is counted.
type Stats struct {
	Received uint64
	Twice    uint64
	Late     uint64
	First    uint64
	Top      uint64
	Jitter   uint32
}

// counter counts what comes.
type counter struct {
	extender *wide.Extender
	window   *window.Window
	first    uint64 // the first packet's wide number
	transit  uint32 // of the last packet that was New
	jitter   jitter
	reported tally // what the last report told of
}

// count has it that a packet comes: which wide number it has, and what this one is.
func (c *counter) count(p rtp.Packet, now uint64) (n uint64, state window.State) {
	n, first := c.extender.Next(uint32(p.Seq))
	state = c.window.In(n)
	if state != window.New {
		return n, state
	}
	transit := uint32(perTick*now) - p.Time
	if first {
		c.first = n
	} else {
		c.jitter = c.jitter.behind(c.transit, transit)
	}
	c.transit = transit
	return n, state
}

func (c *counter) stats() Stats {
	top, _ := c.extender.Top()
	return Stats{
		Received: c.window.Count(window.New),
		Twice:    c.window.Count(window.Twice),
		Late:     c.window.Count(window.Late),
		First:    c.first,
		Top:      top,
		Jitter:   c.jitter.told(),
	}
}

// report tells of all but the source's number.
func (c *counter) report() rtcp.Block {
	top, some := c.extender.Top()
	if !some {
		return rtcp.Block{}
	}
	now := tally{expected: top - c.first + 1, received: c.window.Count(window.New)}
	lost := now.since(c.reported).lost()
	c.reported = now
	return rtcp.Block{Lost: lost, Total: now.total(), Highest: uint32(top - firstRound), Jitter: c.jitter.told()}
}

// jitter is how far transits are from each other, 16 times.
type jitter uint64

// behind is the jitter behind a transit that follows one.
func (j jitter) behind(before, transit uint32) jitter {
	far := min(wide.Between(timeDigits, before, transit), wide.Between(timeDigits, transit, before))
	return j + jitter(far) - (j+8)/16
}

func (j jitter) told() uint32 { return uint32(min(j/16, math.MaxUint32)) }

// tally is how many packets were expected, and how many were received.
// These may be more than those: numbers below the first one may be New, too.
type tally struct{ expected, received uint64 }

// since is what came to it since it was another one.
func (t tally) since(was tally) tally {
	return tally{expected: t.expected - was.expected, received: t.received - was.received}
}

// total is how many are missing, as a block tells it.
func (t tally) total() int32 {
	return int32(max(minTotal, min(maxTotal, int64(t.expected-t.received))))
}

// lost is which part of all is missing, as a block tells it: in 256ths.
func (t tally) lost() uint8 {
	if t.received >= t.expected {
		return 0
	}
	return uint8(min(maxLost, 256*(t.expected-t.received)/t.expected))
}
