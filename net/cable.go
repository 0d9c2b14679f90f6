package net

import (
	"slices"

	"towpath/api"
	"towpath/router"
)

const both = 2 // ends of a cable, and ways over it

// end of a cable: a router's port.
type end struct{ router, port int }

// cable, and the bytes that are on it; a way begins at the end of the same number.
type cable struct {
	ends [both]end
	in   bool
	on   [both][]byte
}

func endsOf(c api.Cable) [both]end {
	return [both]end{{router: c.A, port: c.PortA}, {router: c.B, port: c.PortB}}
}

func otherEnd(way int) int { return 1 - way }

// metricsOf ports that have a cable, if the cables may be.
func metricsOf(many int, l []api.Cable) (map[end]int, error) {
	if many < 1 || many > api.MaxRouters {
		return nil, api.ErrBound
	}
	if len(l) > maxCables {
		return nil, api.ErrMany
	}
	metrics := map[end]int{}
	for _, c := range l {
		if c.Metric < 1 || c.Metric > api.MaxMetric {
			return nil, api.ErrBound
		}
		for _, e := range endsOf(c) {
			if !e.mayBe(many) {
				return nil, api.ErrBound
			}
			if _, ok := metrics[e]; ok {
				return nil, api.ErrExist
			}
			metrics[e] = c.Metric
		}
	}
	return metrics, nil
}

// mayBe: is there such a port, of so many routers?
func (e end) mayBe(many int) bool {
	return e.router >= 1 && e.router <= many && e.port >= 0 && e.port < api.MaxPorts
}

// put bytes on a cable: what it can't hold whole is lost, so that none of what it holds is half lost.
func (c *cable) put(way int, s string) {
	if c.in && len(c.on[way])+len(s) <= api.MaxQueue {
		c.on[way] = append(c.on[way], s...)
	}
}

// take the first bytes, at most so many, from a cable.
func (c *cable) take(way, many int) string {
	many = max(0, min(many, len(c.on[way])))
	s := string(c.on[way][:many])
	c.on[way] = slices.Clone(c.on[way][many:]) // what is delivered need not be kept
	return s
}

func (n *Net) hasRouter(i int) bool { return i >= 1 && i <= len(n.routers) }

func (n *Net) hasCable(i int) bool { return i >= 0 && i < len(n.cables) }

func (n *Net) hasWay(i, way int) bool { return n.hasCable(i) && way >= 0 && way < both }

// newRouter of a number, that knows nothing.
func (n *Net) newRouter(i int) (*router.Router, error) {
	var metrics []int
	for p := range api.MaxPorts {
		m, ok := n.metrics[end{router: i, port: p}]
		if !ok {
			m = noCable
		}
		metrics = append(metrics, m)
	}
	return router.New(i, metrics)
}

// at: the router at an end of a cable.
func (n *Net) at(e end) *router.Router { return n.routers[e.router-1] }

// cablesIn: which of a router's cables are plugged in.
func (n *Net) cablesIn(i int) []int {
	var out []int
	for k, c := range n.cables {
		if c.in && (c.ends[0].router == i || c.ends[1].router == i) {
			out = append(out, k)
		}
	}
	return out
}

// plug a cable that is not so, at both ends.
func (n *Net) plug(i int, in bool) {
	c := &n.cables[i]
	c.in = in
	c.on = [both][]byte{}
	for _, e := range c.ends {
		_ = n.at(e).Plug(e.port, in) // the port's link was told of all that was done to the cable
	}
}

// gather what the last call made routers say, and what came to them.
func (n *Net) gather() {
	for i := range n.cables {
		c := &n.cables[i]
		for way, e := range c.ends {
			if s, err := n.at(e).Out(e.port); err == nil {
				c.put(way, s)
			}
		}
	}
	for i, r := range n.routers {
		n.inboxes[i] = append(n.inboxes[i], r.Inbox()...)
	}
}
