package router

import (
	"towpath/api"
	"towpath/frame"
	"towpath/hello"
	"towpath/link"
	"towpath/packet"
	"towpath/state"
)

// Letters ahead of what a frame carries: what it is.
const (
	forLink    = "L" // a packet of the link
	forHello   = "H"
	forState   = "S"
	forHeard   = "A" // a state that came: it need not be told again
	forMessage = "M"
)

const messageHead = 2 // bytes ahead of a message's text: to whom, over how many hops it may go on

// port of a router, and all that is of one cable.
type port struct {
	metric int
	link   *link.Link
	reader frame.Reader
	peer   hello.Peer // nobody, while the link isn't opened
	out    []byte
}

// newPort, that waits for a cable.
func newPort(metric, magic int) (port, error) {
	if metric < 1 || metric > api.MaxMetric {
		return port{}, api.ErrBound
	}
	l, err := link.New(api.MostSize, magic)
	if err != nil {
		return port{}, err
	}
	_ = l.Do(api.Open) // that comes in each state
	return port{metric: metric, link: l}, nil
}

func (p *port) opened() bool { return p.link.State() == api.Opened }

// plug a cable in, or out: the beginning of a frame that came over another one is worth nothing.
func (p *port) plug(in bool) error {
	event := api.Down
	if in {
		event = api.Up
	}
	if err := p.link.Do(event); err != nil {
		return err
	}
	p.reader = frame.Reader{}
	p.say()
	return nil
}

// tick of the link; one that has given up begins again, lest an end that was silent for long be never heard.
func (p *port) tick() {
	p.link.Tick()
	if p.link.State() == api.Stopped {
		_ = p.link.Do(api.Down) // both come in these states
		_ = p.link.Do(api.Up)
	}
	p.say()
}

// takePacket: what isn't for now the link refuses, and nobody is told of that.
func (p *port) takePacket(s string) {
	if q, err := packet.Parse(s); err == nil {
		_ = p.link.Take(q)
		p.say()
	}
}

// say what the link says.
func (p *port) say() {
	for _, q := range p.link.Out() {
		if s, err := packet.Bytes(q); err == nil {
			p.put(forLink, s)
		}
	}
}

// put something on the cable: only what the two ends agree by goes out ahead of that.
func (p *port) put(letter, s string) {
	if letter != forLink && !p.opened() {
		return
	}
	if f, err := frame.Make(letter + s); err == nil {
		p.out = append(p.out, f...)
	}
}

func (p *port) putState(letter string, s api.State) {
	if t, err := state.Bytes(s); err == nil {
		p.put(letter, t)
	}
}
