package net

import (
	"fmt"
	"math"
	"slices"
	"strconv"
	"strings"
	"testing"

	"towpath/api"
	"towpath/frame"
	"towpath/hello"
	"towpath/router"
)

type cables = []api.Cable

func between(a, portA, b, portB, metric int) api.Cable {
	return api.Cable{A: a, PortA: portA, B: b, PortB: portB, Metric: metric}
}

// barn: the cables of the document's session.
func barn() cables {
	return cables{between(1, 0, 2, 0, 5), between(2, 1, 3, 0, 5), between(1, 1, 3, 1, 20), between(3, 2, 4, 0, 2)}
}

// nine cables: as many as there may be.
func nine() cables {
	var l cables
	for i := range 3 {
		for p := range api.MaxPorts {
			l = append(l, between(2*i+1, p, 2*i+2, p, 1))
		}
	}
	return l
}

func start(t *testing.T, many int, l cables) *Net {
	t.Helper()
	n, err := New(many, l)
	if err != nil {
		t.Fatal(err)
	}
	return n
}

// settled: a net whose cables are in, and of which all is known.
func settled(t *testing.T, many int, l cables) *Net {
	t.Helper()
	n := start(t, many, l)
	for i := range l {
		fine(t, n.Plug(i, true))
	}
	rounds(n, 20)
	return n
}

func fine(t *testing.T, err error) {
	t.Helper()
	if err != nil {
		t.Error(err)
	}
}

func wants(t *testing.T, what string, got, want error) {
	t.Helper()
	if got != want {
		t.Errorf("%s: %v, want %v", what, got, want)
	}
}

func rounds(n *Net, many int) {
	for range many {
		n.Round()
	}
}

func routerOf(t *testing.T, n *Net, i int) *router.Router {
	t.Helper()
	r, err := n.Router(i)
	if err != nil {
		t.Fatal(err)
	}
	return r
}

// links of a router, as the document's sessions tell them.
func links(t *testing.T, n *Net, i int) string {
	t.Helper()
	r := routerOf(t, n, i)
	var out []string
	for p := range api.MaxPorts {
		s, err := r.Link(p)
		fine(t, err)
		who, err := r.Peer(p)
		fine(t, err)
		text := fmt.Sprint(s, " ", who.Who)
		if who.Both {
			text += " both"
		}
		out = append(out, text)
	}
	return strings.Join(out, "; ")
}

func states(t *testing.T, n *Net, i int) string {
	t.Helper()
	var out []string
	for _, s := range routerOf(t, n, i).States() {
		text := fmt.Sprint(s.Owner, " ", s.Seq)
		for _, e := range s.Edges {
			text += fmt.Sprint(" ", e.To, "=", e.Metric)
		}
		out = append(out, text)
	}
	return strings.Join(out, "; ")
}

func hops(t *testing.T, n *Net, i int) string {
	t.Helper()
	var out []string
	for _, h := range routerOf(t, n, i).Hops() {
		out = append(out, fmt.Sprint(h.To, " ", h.Far, " ", h.Next))
	}
	return strings.Join(out, "; ")
}

func inbox(t *testing.T, n *Net, i int) string {
	t.Helper()
	l, err := n.Inbox(i)
	fine(t, err)
	var out []string
	for _, m := range l {
		if m.To != i {
			t.Errorf("%v came to %d", m, i)
		}
		out = append(out, fmt.Sprint(m.Hops, " ", m.Text))
	}
	return strings.Join(out, "; ")
}

func on(t *testing.T, n *Net, i, way int) int {
	t.Helper()
	many, err := n.On(i, way)
	fine(t, err)
	return many
}

func is(t *testing.T, what, got, want string) {
	t.Helper()
	if got != want {
		t.Errorf("%s: %q, want %q", what, got, want)
	}
}

// told: all that can be asked of a net without changing it.
func told(t *testing.T, n *Net) string {
	t.Helper()
	var b strings.Builder
	for i := range n.routers {
		r := routerOf(t, n, i+1)
		fmt.Fprint(&b, r.States(), r.Hops(), r.Dropped())
		for p := range api.MaxPorts {
			s, err := r.Link(p)
			who, err2 := r.Peer(p)
			fmt.Fprint(&b, " ", s, err, who, err2)
		}
	}
	for i := range n.cables {
		fmt.Fprint(&b, " ", on(t, n, i, 0), " ", on(t, n, i, 1))
	}
	return b.String()
}

func TestL1WhatMayNotBe(t *testing.T) {
	wrong := between(9, 9, 9, 9, 99)
	for _, c := range []struct {
		what string
		many int
		l    cables
		want error
	}{
		{"no routers", 0, nil, api.ErrBound},
		{"fewer than none", -1, nil, api.ErrBound},
		{"the least number", math.MinInt, nil, api.ErrBound},
		{"too many routers", api.MaxRouters + 1, nil, api.ErrBound},
		{"the greatest number", math.MaxInt, nil, api.ErrBound},
		{"routers are asked ahead of cables", 7, append(nine(), wrong), api.ErrBound},
		{"too many cables", 6, append(nine(), wrong), api.ErrMany},
		{"too many cables, also for two routers", 2, append(nine(), wrong), api.ErrMany},
		{"no metric", 2, cables{between(1, 0, 2, 0, 0)}, api.ErrBound},
		{"a metric below none", 2, cables{between(1, 0, 2, 0, -1)}, api.ErrBound},
		{"a metric above the most", 2, cables{between(1, 0, 2, 0, 21)}, api.ErrBound},
		{"the greatest metric", 2, cables{between(1, 0, 2, 0, math.MaxInt)}, api.ErrBound},
		{"A is 0", 2, cables{between(0, 0, 2, 0, 1)}, api.ErrBound},
		{"A is one more", 2, cables{between(3, 0, 2, 0, 1)}, api.ErrBound},
		{"A's port is below 0", 2, cables{between(1, -1, 2, 0, 1)}, api.ErrBound},
		{"A's port is one more", 2, cables{between(1, 3, 2, 0, 1)}, api.ErrBound},
		{"B is 0", 2, cables{between(1, 0, 0, 0, 1)}, api.ErrBound},
		{"B is one more", 2, cables{between(1, 0, 3, 0, 1)}, api.ErrBound},
		{"B is far off", 2, cables{between(1, 0, math.MinInt, 0, 1)}, api.ErrBound},
		{"B's port is below 0", 2, cables{between(1, 0, 2, -1, 1)}, api.ErrBound},
		{"B's port is one more", 2, cables{between(1, 0, 2, 3, 1)}, api.ErrBound},
		{"B's port is far off", 2, cables{between(1, 0, 2, math.MaxInt, 1)}, api.ErrBound},
		{"a port to itself", 2, cables{between(1, 0, 1, 0, 1)}, api.ErrExist},
		{"A has a cable, as A", 2, cables{between(1, 0, 2, 0, 1), between(1, 0, 2, 1, 1)}, api.ErrExist},
		{"A has a cable, as B", 2, cables{between(1, 0, 2, 0, 1), between(2, 0, 1, 1, 1)}, api.ErrExist},
		{"B has a cable, as B", 2, cables{between(1, 0, 2, 0, 1), between(1, 1, 2, 0, 1)}, api.ErrExist},
		{"B has a cable, as A", 2, cables{between(1, 0, 2, 0, 1), between(2, 1, 1, 0, 1)}, api.ErrExist},
		{"a metric ahead of a port that has a cable", 2, cables{between(1, 0, 2, 0, 1), between(1, 0, 2, 1, 0)}, api.ErrBound},
		{"A's cable ahead of B's bound", 2, cables{between(1, 0, 2, 0, 1), between(1, 0, 9, 0, 1)}, api.ErrExist},
		{"A's bound ahead of B's cable", 2, cables{between(1, 0, 2, 0, 1), between(9, 0, 2, 0, 1)}, api.ErrBound},
		{"the first cable's error", 2, cables{between(1, 0, 1, 0, 1), wrong}, api.ErrExist},
		{"the first cable's error, and not the second one's", 2, cables{wrong, between(1, 0, 1, 0, 1)}, api.ErrBound},
		{"the second cable's error", 2, cables{between(1, 0, 2, 0, 1), wrong}, api.ErrBound},
	} {
		wants(t, "Check: "+c.what, Check(c.many, c.l), c.want)
		n, err := New(c.many, c.l)
		wants(t, "New: "+c.what, err, c.want)
		if n != nil {
			t.Errorf("New: %s: a net beside an error", c.what)
		}
	}
}

func TestL1WhatMayBe(t *testing.T) {
	for _, c := range []struct {
		many int
		l    cables
	}{
		{1, nil}, {api.MaxRouters, cables{}}, {6, nine()}, {4, barn()},
		{1, cables{between(1, 0, 1, 2, api.MaxMetric)}},
		{2, cables{between(1, 0, 2, 0, 1), between(2, 1, 1, 1, 2), between(1, 2, 2, 2, 3)}},
	} {
		wants(t, "Check", Check(c.many, c.l), nil)
		n := start(t, c.many, c.l)
		for i := 1; i <= c.many; i++ {
			is(t, "a new router's links", links(t, n, i), "1 0; 1 0; 1 0")
			is(t, "a new router's states", states(t, n, i), fmt.Sprint(i, " ", 1))
		}
		for _, i := range []int{0, -1, c.many + 1, math.MinInt, math.MaxInt} {
			if r, err := n.Router(i); r != nil || err != api.ErrNone {
				t.Errorf("Router(%d) of %d = %v, %v, want ErrNone", i, c.many, r, err)
			}
		}
		for i := range c.l {
			wants(t, "it is out", n.Plug(i, false), api.ErrState)
		}
	}
}

func TestL1PortsHaveTheirCablesMetrics(t *testing.T) {
	n := settled(t, 3, cables{between(1, 2, 2, 0, 7), between(3, 1, 1, 0, 11), between(2, 2, 3, 0, 13)})
	is(t, "states", states(t, n, 2), "1 3 2=7 3=11; 2 3 1=7 3=13; 3 3 1=11 2=13")
	is(t, "links of 1", links(t, n, 1), "9 3 both; 1 0; 9 2 both")
	is(t, "links of 3", links(t, n, 3), "9 2 both; 9 1 both; 1 0")
}

func TestL1CablesToItself(t *testing.T) {
	n := settled(t, 2, cables{between(1, 0, 1, 1, 3), between(1, 2, 2, 0, 4)})
	is(t, "links", links(t, n, 1), "9 0; 9 0; 9 2 both")
	is(t, "hops", hops(t, n, 2), "1 4 1")
	is(t, "states", states(t, n, 1), "1 2 2=4; 2 2 1=4")
}

func TestL2OfWhichThereIsNone(t *testing.T) {
	n := settled(t, 4, barn())
	before := told(t, n)
	for _, c := range []struct{ i, way int }{{-1, 0}, {4, 0}, {4, 1}, {0, 2}, {0, -1}, {math.MinInt, 0}, {math.MaxInt, 1}, {3, math.MinInt}, {3, math.MaxInt}} {
		if many, err := n.On(c.i, c.way); many != 0 || err != api.ErrNone {
			t.Errorf("On(%d, %d) = %d, %v, want ErrNone", c.i, c.way, many, err)
		}
		wants(t, "Deliver", n.Deliver(c.i, c.way, 9), api.ErrNone)
		wants(t, "Spoil", n.Spoil(c.i, c.way, 0, 1), api.ErrNone)
		wants(t, "Spoil, at no place", n.Spoil(c.i, c.way, -1, 1), api.ErrNone)
	}
	for _, i := range []int{-1, 4, math.MinInt, math.MaxInt} {
		wants(t, "Plug in", n.Plug(i, true), api.ErrNone)
		wants(t, "Plug out", n.Plug(i, false), api.ErrNone)
	}
	for _, i := range []int{0, 5, -1, math.MinInt, math.MaxInt} {
		wants(t, "Tick", n.Tick(i), api.ErrNone)
		wants(t, "Restart", n.Restart(i), api.ErrNone)
		wants(t, "Send", n.Send(i, 1, "hay"), api.ErrNone)
		wants(t, "Send, to nobody", n.Send(i, 9, strings.Repeat("hay", 9)), api.ErrNone)
		if l, err := n.Inbox(i); len(l) > 0 || err != api.ErrNone {
			t.Errorf("Inbox(%d) = %v, %v, want ErrNone", i, l, err)
		}
	}
	is(t, "what is refused changes nothing", told(t, n), before)
}

func TestL2WhatIsSaidIsOnTheCable(t *testing.T) {
	n := start(t, 2, cables{between(2, 1, 1, 0, 1)})
	a, err := router.New(2, []int{1, 1, 1})
	fine(t, err)
	fine(t, a.Plug(1, true))
	asked, err := a.Out(1)
	fine(t, err)
	if on(t, n, 0, 0)+on(t, n, 0, 1) != 0 {
		t.Errorf("something is on a cable that is out")
	}
	fine(t, n.Plug(0, true))
	if got := on(t, n, 0, 0); got != len(asked) {
		t.Errorf("%d bytes are on it from A to B, want %d", got, len(asked))
	}
	fine(t, n.Deliver(0, 0, api.MaxQueue))
	is(t, "B was asked", links(t, n, 1), "8 0; 1 0; 1 0")
	is(t, "A wasn't", links(t, n, 2), "1 0; 6 0; 1 0")
	if on(t, n, 0, 0) != 0 || on(t, n, 0, 1) <= len(asked) {
		t.Errorf("%d and %d bytes are on it, want none, and a question with an answer", on(t, n, 0, 0), on(t, n, 0, 1))
	}
	fine(t, n.Deliver(0, 1, api.MaxQueue))
	is(t, "A is agreed", links(t, n, 2), "1 0; 9 0; 1 0")
}

// frameLen of a message on its first hop.
func frameLen(t *testing.T, to int, text string) int {
	t.Helper()
	f, err := frame.Make("M" + string([]byte{byte(to), api.Hops - 1}) + text)
	fine(t, err)
	return len(f)
}

// textOf: a text whose message takes up just so many bytes of a cable; none may.
func textOf(t *testing.T, to, size int) (string, bool) {
	t.Helper()
	for k := range api.MaxText + 1 {
		for c := 'a'; c <= 'z'; c++ {
			if text := strings.Repeat(string(c), k); frameLen(t, to, text) == size {
				return text, true
			}
		}
	}
	return "", false
}

// fillTo: messages to 2 are sent until so many bytes are on cable 0; how many were.
func fillTo(t *testing.T, n *Net, most int) int {
	t.Helper()
	for sent := range most {
		rest := most - on(t, n, 0, 0)
		if rest == 0 {
			return sent
		}
		text, ok := textOf(t, 2, rest)
		if !ok {
			text, ok = textOf(t, 2, 20)
		}
		if !ok {
			break
		}
		fine(t, n.Send(1, 2, text))
	}
	t.Fatalf("%d bytes are on the cable, and no message makes them %d", on(t, n, 0, 0), most)
	return 0
}

func TestL2ACableThatIsFull(t *testing.T) {
	n := settled(t, 2, cables{between(1, 0, 2, 0, 1)})
	sent := fillTo(t, n, api.MaxQueue)
	fine(t, n.Send(1, 2, ""))
	fine(t, n.Tick(1))
	if got := on(t, n, 0, 0); got != api.MaxQueue {
		t.Errorf("%d bytes are on it, want %d", got, api.MaxQueue)
	}
	if got := routerOf(t, n, 1).Dropped(); got != 0 {
		t.Errorf("%d were dropped: what is lost isn't", got)
	}
	fine(t, n.Deliver(0, 0, math.MaxInt))
	l, err := n.Inbox(2)
	if len(l) != sent || err != nil {
		t.Errorf("%d messages came, %v, want %d", len(l), err, sent)
	}
	rounds(n, 1)
	is(t, "what was lost doesn't come later", inbox(t, n, 2), "")
}

func TestL2WhatDoesntFitIsLostWhole(t *testing.T) {
	n := settled(t, 2, cables{between(1, 0, 2, 0, 1)})
	small := frameLen(t, 2, "")
	longer, ok := textOf(t, 2, small+1)
	if !ok {
		t.Fatal("no message takes up one byte more than the shortest one")
	}
	sent := fillTo(t, n, api.MaxQueue-small)
	fine(t, n.Send(1, 2, longer))
	if got := on(t, n, 0, 0); got != api.MaxQueue-small {
		t.Errorf("%d bytes are on it, want %d", got, api.MaxQueue-small)
	}
	fine(t, n.Send(1, 2, ""))
	if got := on(t, n, 0, 0); got != api.MaxQueue {
		t.Errorf("%d bytes are on it, want %d", got, api.MaxQueue)
	}
	fine(t, n.Deliver(0, 0, api.MaxQueue))
	l, _ := n.Inbox(2)
	if len(l) != sent+1 || l[sent].Text != "" {
		t.Errorf("%d messages came, want %d", len(l), sent+1)
	}
}

// The bytes on a cable are held against those of a router that is by itself.
func TestL2TickByTick(t *testing.T) {
	n := start(t, 2, cables{between(1, 0, 2, 0, 1)})
	alone, err := router.New(1, []int{1, 1, 1})
	fine(t, err)
	fine(t, n.Plug(0, true))
	fine(t, alone.Plug(0, true))
	want, lost := 0, 0
	for range 400 {
		s, _ := alone.Out(0)
		if want+len(s) <= api.MaxQueue {
			want += len(s)
		} else {
			lost++
		}
		if got := on(t, n, 0, 0); got != want {
			t.Fatalf("%d bytes are on it, want %d", got, want)
		}
		alone.Tick()
		fine(t, n.Tick(1))
	}
	if lost == 0 {
		t.Errorf("it was never full")
	}
}

func TestL3InAndOut(t *testing.T) {
	n := settled(t, 4, barn())
	wants(t, "in", n.Plug(1, true), api.ErrState)
	for i := range 4 {
		fine(t, n.Tick(i+1))
	}
	before := [...]int{on(t, n, 0, 0), on(t, n, 1, 0), on(t, n, 1, 1), on(t, n, 2, 1)}
	if slices.Min(before[:]) == 0 {
		t.Fatalf("%v bytes are on cables", before)
	}
	wants(t, "in", n.Plug(1, true), api.ErrState)
	if on(t, n, 1, 0) != before[1] {
		t.Errorf("what is refused draws nothing")
	}
	fine(t, n.Plug(1, false))
	is(t, "one end", links(t, n, 2), "9 1 both; 1 0; 1 0")
	is(t, "the other end", links(t, n, 3), "1 0; 9 1 both; 9 4 both")
	if on(t, n, 1, 0)+on(t, n, 1, 1) != 0 || on(t, n, 0, 0) != before[0] || on(t, n, 2, 1) != before[3] {
		t.Errorf("only what is on the cable itself is lost")
	}
	is(t, "its own state, at once", states(t, n, 2), "1 3 2=5 3=20; 2 4 1=5; 3 4 1=20 2=5 4=2; 4 2 3=2")
	wants(t, "out", n.Plug(1, false), api.ErrState)
	fine(t, n.Deliver(1, 0, 99))
	fine(t, n.Plug(1, true))
	is(t, "in again", links(t, n, 2), "9 1 both; 6 0; 1 0")
	if on(t, n, 1, 0) == 0 || on(t, n, 1, 1) == 0 {
		t.Errorf("both ends should ask")
	}
}

func TestL3ACableDrawnInTheMiddleOfAFrame(t *testing.T) {
	for cut := 2; cut < 12; cut++ {
		n := start(t, 2, cables{between(1, 0, 2, 0, 1)})
		fine(t, n.Plug(0, true))
		fine(t, n.Deliver(0, 0, cut))
		fine(t, n.Plug(0, false))
		fine(t, n.Plug(0, true))
		fine(t, n.Deliver(0, 0, 1)) // a flag: what came over the cable ahead of it isn't the beginning of anything
		is(t, "half a frame", links(t, n, 2), "6 0; 1 0; 1 0")
		rounds(n, 8)
		is(t, "and all goes on", hops(t, n, 1), "2 1 2")
	}
}

func TestL3TickOfOneAlone(t *testing.T) {
	n := settled(t, 3, cables{between(1, 0, 2, 0, 1), between(2, 1, 3, 0, 1)})
	fine(t, n.Tick(2))
	if on(t, n, 0, 0) != 0 || on(t, n, 0, 1) == 0 || on(t, n, 1, 0) == 0 || on(t, n, 1, 1) != 0 {
		t.Errorf("only router 2 says something")
	}
	for range api.Hold {
		fine(t, n.Tick(3))
	}
	is(t, "3 heard nobody for long", links(t, n, 3), "9 0; 1 0; 1 0")
	is(t, "2 did not wait", links(t, n, 2), "9 1 both; 9 3 both; 1 0")
}

func TestL3DeliverSoMany(t *testing.T) {
	n := settled(t, 2, cables{between(2, 0, 1, 0, 1)})
	fine(t, n.Send(1, 2, "hay"))
	all := on(t, n, 0, 1)
	for _, many := range []int{0, -1, math.MinInt} {
		fine(t, n.Deliver(0, 1, many))
		fine(t, n.Deliver(0, 0, 99))
		if got := on(t, n, 0, 1); got != all {
			t.Errorf("Deliver of %d: %d bytes are left, want %d", many, got, all)
		}
	}
	for left := all - 1; left >= 0; left-- {
		is(t, "not yet", inbox(t, n, 2), "")
		fine(t, n.Deliver(0, 1, 1))
		if got := on(t, n, 0, 1); got != left {
			t.Errorf("%d bytes are left, want %d", got, left)
		}
	}
	is(t, "byte by byte", inbox(t, n, 2), "7 hay")

	fine(t, n.Send(1, 2, "hay"))
	fine(t, n.Send(1, 2, "corn"))
	fine(t, n.Deliver(0, 1, all))
	is(t, "the first bytes", inbox(t, n, 2), "7 hay")
	fine(t, n.Deliver(0, 1, math.MaxInt))
	is(t, "all that there are", inbox(t, n, 2), "7 corn")
	fine(t, n.Deliver(0, 1, 5))
	is(t, "none is left", inbox(t, n, 2), "")
}

func TestL3Spoil(t *testing.T) {
	n := settled(t, 2, cables{between(1, 0, 2, 0, 1)})
	fine(t, n.Send(1, 2, "hay"))
	all := on(t, n, 0, 0)
	for _, at := range []int{all, all + 1, -1, math.MinInt, math.MaxInt} {
		wants(t, "no such place", n.Spoil(0, 0, at, 1), api.ErrBound)
	}
	wants(t, "nothing is on it that way", n.Spoil(0, 1, 0, 1), api.ErrBound)
	for at := range all {
		fine(t, n.Spoil(0, 0, at, byte(at+1)))
	}
	for at := range all {
		fine(t, n.Spoil(0, 0, at, byte(at+1)))
		fine(t, n.Spoil(0, 0, at, 0))
	}
	fine(t, n.Deliver(0, 0, all))
	is(t, "twice is as if never", inbox(t, n, 2), "7 hay")

	for at := 1; at < all-1; at++ {
		fine(t, n.Send(1, 2, "hay"))
		fine(t, n.Spoil(0, 0, at, 1))
		fine(t, n.Deliver(0, 0, all))
		is(t, "spoilt", inbox(t, n, 2), "")
	}
	fine(t, n.Send(1, 2, "hay"))
	f, err := frame.Make("M\x02\x07hay")
	fine(t, err)
	g, err := frame.Make("M\x02\x07ham")
	fine(t, err)
	if len(f) != all || len(g) != all {
		t.Fatalf("frames of %d and %d bytes, want %d", len(f), len(g), all)
	}
	for at := range all {
		fine(t, n.Spoil(0, 0, at, f[at]^g[at]))
	}
	fine(t, n.Deliver(0, 0, all))
	is(t, "spoilt with all its sums", inbox(t, n, 2), "7 ham")
}

func TestL4Restart(t *testing.T) {
	n := settled(t, 4, barn())
	fine(t, n.Plug(1, false))
	for i := range 4 {
		fine(t, n.Tick(i+1))
	}
	left := on(t, n, 0, 0)
	old := routerOf(t, n, 3)
	fine(t, n.Restart(3))
	if routerOf(t, n, 3) == old {
		t.Errorf("it is not a new router")
	}
	is(t, "the new one's states", states(t, n, 3), "3 1")
	is(t, "the new one's hops", hops(t, n, 3), "")
	is(t, "the new one's links", links(t, n, 3), "1 0; 6 0; 6 0")
	is(t, "the other ends", links(t, n, 1), "9 2 both; 6 0; 1 0")
	is(t, "the other ends", links(t, n, 4), "6 0; 1 0; 1 0")
	is(t, "who isn't at its cables", links(t, n, 2), "9 1 both; 1 0; 1 0")
	wants(t, "the one that was out", n.Plug(1, false), api.ErrState)
	wants(t, "those that were in", n.Plug(2, true), api.ErrState)
	if on(t, n, 0, 0) != left || on(t, n, 1, 0)+on(t, n, 1, 1) != 0 {
		t.Errorf("other cables have other bytes now")
	}
	asked := on(t, n, 2, 1)
	if got := on(t, n, 3, 0); asked == 0 || got == 0 || got > asked+2 {
		t.Errorf("the new one's questions alone should be on its cables, but there are %d and %d bytes", asked, got)
	}
	rounds(n, 8)
	is(t, "it comes to know all", hops(t, n, 3), "1 20 1; 2 25 1; 4 2 4")
	if s := routerOf(t, n, 3).States()[2]; s.Owner != 3 || s.Seq <= 4 {
		t.Errorf("its state is %v, behind one of its elder life with the Seq 4", s)
	}
}

func TestL4RestartOfOneWithoutCables(t *testing.T) {
	n := settled(t, 3, cables{between(1, 0, 2, 0, 1)})
	fine(t, n.Send(3, 1, "hay"))
	if got := routerOf(t, n, 3).Dropped(); got != 1 {
		t.Errorf("%d were dropped, want 1", got)
	}
	fine(t, n.Restart(3))
	if got := routerOf(t, n, 3).Dropped(); got != 0 {
		t.Errorf("%d were dropped, want 0", got)
	}
	is(t, "others", hops(t, n, 1), "2 1 2")
}

func TestL4RestartKeepsMetricsAndWhatCame(t *testing.T) {
	n := settled(t, 2, cables{between(1, 1, 2, 2, 13), between(2, 0, 2, 1, 4)})
	fine(t, n.Send(1, 2, "hay"))
	fine(t, n.Deliver(0, 0, 99))
	fine(t, n.Restart(2))
	is(t, "the links", links(t, n, 2), "6 0; 6 0; 6 0")
	is(t, "what came to it", inbox(t, n, 2), "7 hay")
	rounds(n, 12)
	is(t, "the metric", hops(t, n, 2), "1 13 1")
}

func TestL4SendAndInbox(t *testing.T) {
	n := settled(t, 4, barn())
	full := "twenty bytes of text"
	wants(t, "to 0", n.Send(1, 0, "hay"), api.ErrBound)
	wants(t, "to 7", n.Send(1, 7, "hay"), api.ErrBound)
	wants(t, "too long", n.Send(1, 2, full+"."), api.ErrBound)
	if on(t, n, 0, 0) != 0 {
		t.Errorf("what is refused is on the cable")
	}
	fine(t, n.Send(1, 1, full))
	fine(t, n.Send(1, 1, ""))
	is(t, "to itself", inbox(t, n, 1), "8 "+full+"; 8 ")
	is(t, "asked again", inbox(t, n, 1), "")
	fine(t, n.Send(1, 4, full))
	fine(t, n.Send(1, 6, full))
	if got := routerOf(t, n, 1).Dropped(); got != 1 {
		t.Errorf("%d were dropped, want that to 6 alone", got)
	}
	if got := on(t, n, 0, 0); got != frameLen(t, 4, full) {
		t.Errorf("%d bytes are on the cable, want %d", got, frameLen(t, 4, full))
	}
	is(t, "on its way", inbox(t, n, 4), "")
	n.Round()
	is(t, "there", inbox(t, n, 4), "5 "+full)
	for i := 1; i < 4; i++ {
		is(t, "where it went through", inbox(t, n, i), "")
	}
}

func TestL4ANetGoesOnAsIfNobodyAsked(t *testing.T) {
	n := settled(t, 4, barn())
	fine(t, n.Send(1, 4, "hay"))
	before := told(t, n)
	for i := 1; i <= 4; i++ {
		_ = inbox(t, n, i)
	}
	is(t, "asked for inboxes", told(t, n), before)
}

// byHand: what a round is made of.
func byHand(n *Net, many, cables int) {
	for i := 1; i <= many; i++ {
		_ = n.Tick(i)
	}
	for range 12 {
		for i := range cables {
			_ = n.Deliver(i, 0, 2000)
			_ = n.Deliver(i, 1, 2000)
		}
	}
}

func TestL5ByHand(t *testing.T) {
	for seed := range 60 {
		d := die(seed)
		many, l := drawn(&d)
		x, y := start(t, many, l), start(t, many, l)
		for k := range 40 {
			e := d // the same acts for both
			act(&d, x, many, len(l), true, "hay"+strconv.Itoa(k))
			act(&e, y, many, len(l), true, "hay"+strconv.Itoa(k))
			x.Round()
			byHand(y, many, len(l))
			if told(t, x) != told(t, y) {
				t.Fatalf("seed %d, act %d: a round and its parts differ", seed, k)
			}
			for i := 1; i <= many; i++ {
				if k%5 == 0 && inbox(t, x, i) != inbox(t, y, i) {
					t.Fatalf("seed %d, act %d: other messages came to %d", seed, k, i)
				}
			}
		}
	}
}

func TestL5CablesInOrder(t *testing.T) {
	n := settled(t, 3, cables{between(1, 0, 3, 0, 1), between(3, 1, 2, 0, 1)})
	fine(t, n.Send(2, 3, "from 2"))
	fine(t, n.Send(1, 3, "from 1"))
	n.Round()
	is(t, "cable 0 ahead of cable 1", inbox(t, n, 3), "7 from 1; 7 from 2")
}

// A message that goes there and back over a cable, as the first one doesn't know yet that another cable was drawn, is ahead of one that comes by the second time of deliveries.
func TestL5WayZeroAheadOfWayOne(t *testing.T) {
	n := settled(t, 5, cables{between(5, 0, 3, 0, 1), between(1, 0, 2, 0, 1), between(1, 1, 3, 1, 20), between(4, 0, 5, 1, 1), between(2, 1, 3, 2, 1)})
	fine(t, n.Plug(4, false))
	fine(t, n.Send(4, 3, "by 5"))
	fine(t, n.Send(1, 3, "by 2, and back"))
	n.Round()
	is(t, "way 0 ahead of way 1", inbox(t, n, 3), "5 by 2, and back; 6 by 5")
}

func TestL5AllThatIsOnACable(t *testing.T) {
	n := settled(t, 2, cables{between(1, 0, 2, 0, 1)})
	sent := fillTo(t, n, api.MaxQueue)
	n.Round()
	if got := on(t, n, 0, 0); got != 0 {
		t.Errorf("%d bytes are left", got)
	}
	if l, err := n.Inbox(2); len(l) != sent || err != nil {
		t.Errorf("%d messages came, %v, want %d", len(l), err, sent)
	}
}

func TestL5OverAllHopsInOneRound(t *testing.T) {
	var l cables
	for i := range 5 {
		l = append(l, between(5-i, 1, 6-i, 0, 20))
	}
	n := settled(t, 6, l) // the last cable on the way is delivered first
	is(t, "the farthest", hops(t, n, 1), "2 20 2; 3 40 2; 4 60 2; 5 80 2; 6 100 2")
	fine(t, n.Send(1, 6, "up"))
	fine(t, n.Send(6, 1, "down"))
	n.Round()
	is(t, "up", inbox(t, n, 6), "3 up")
	is(t, "down", inbox(t, n, 1), "3 down")
	for i := range l {
		if on(t, n, i, 0)+on(t, n, i, 1) != 0 {
			t.Errorf("something is left on cable %d", i)
		}
	}
}

func TestL5RoundsWithoutCables(t *testing.T) {
	n := start(t, 3, nil)
	rounds(n, 3)
	is(t, "alone", states(t, n, 2), "2 1")
}

func TestTheDocumentsSession(t *testing.T) {
	n := start(t, 4, barn())
	for i := range 4 {
		fine(t, n.Plug(i, true))
	}
	is(t, "plugged in", links(t, n, 1), "6 0; 6 0; 1 0")
	rounds(n, 1)
	is(t, "one round", links(t, n, 1), "9 0; 9 0; 1 0")
	rounds(n, 8)
	is(t, "more", links(t, n, 1), "9 2 both; 9 3 both; 1 0")
	is(t, "states", states(t, n, 1), "1 3 2=5 3=20; 2 3 1=5 3=5; 3 4 1=20 2=5 4=2; 4 2 3=2")
	is(t, "hops of 1", hops(t, n, 1), "2 5 2; 3 10 2; 4 12 2")
	is(t, "hops of 4", hops(t, n, 4), "1 12 3; 2 7 3; 3 2 3")
	fine(t, n.Send(1, 4, "hay for the barn"))
	rounds(n, 1)
	is(t, "inbox", inbox(t, n, 4), "5 hay for the barn")
	fine(t, n.Plug(1, false))
	is(t, "hops, at once", hops(t, n, 1), "2 5 2; 3 10 2; 4 12 2")
	rounds(n, 8)
	is(t, "hops, drawn", hops(t, n, 1), "2 5 2; 3 20 3; 4 22 3")
	fine(t, n.Send(1, 4, "by the long way"))
	rounds(n, 1)
	is(t, "inbox, drawn", inbox(t, n, 4), "6 by the long way")
	fine(t, n.Restart(3))
	is(t, "hops, anew", hops(t, n, 3), "")
	rounds(n, 8)
	is(t, "hops, back", hops(t, n, 3), "1 20 1; 2 25 1; 4 2 4")
	is(t, "states, back", states(t, n, 3), "1 5 2=5 3=20; 2 4 1=5; 3 6 1=20 4=2; 4 4 3=2")
	fine(t, n.Plug(3, false))
	rounds(n, 8)
	is(t, "hops, two drawn", hops(t, n, 1), "2 5 2; 3 20 3")
	fine(t, n.Send(1, 4, "nobody"))
	rounds(n, 1)
	is(t, "inbox, two drawn", inbox(t, n, 4), "")
	fine(t, n.Deliver(0, 0, 5))
	wants(t, "tick 9", n.Tick(9), api.ErrNone)
}

// die: numbers that look drawn, the same each time.
type die uint64

func (d *die) n(most int) int {
	*d = *d*6364136223846793005 + 1442695040888963407
	return int(uint64(*d>>33) % uint64(most))
}

// drawn routers and cables.
func drawn(d *die) (int, cables) {
	many := 2 + d.n(5)
	var free [][2]int
	for i := range many * api.MaxPorts {
		free = append(free, [2]int{1 + i/api.MaxPorts, i % api.MaxPorts})
	}
	take := func() [2]int {
		i := d.n(len(free))
		e := free[i]
		free = slices.Delete(free, i, i+1)
		return e
	}
	var l cables
	for len(free) > 1 && d.n(9) > 0 {
		a, b := take(), take()
		l = append(l, between(a[0], a[1], b[0], b[1], 1+d.n(api.MaxMetric)))
	}
	return many, l
}

// act: something happens in a net; text is a message's, if one is sent: to whom, or 0.
func act(d *die, n *Net, many, cables int, spoil bool, text string) int {
	i, way := d.n(cables+1), d.n(2)
	switch d.n(12) {
	case 0, 1, 2:
		_ = n.Plug(i, d.n(3) > 0)
	case 3:
		_ = n.Tick(1 + d.n(many))
	case 4, 5:
		_ = n.Deliver(i, way, d.n(40))
	case 6:
		if spoil {
			_ = n.Spoil(i, way, d.n(40), byte(d.n(256)))
		}
	case 7:
		if d.n(2) == 0 {
			_ = n.Restart(1 + d.n(many))
		}
	case 8, 9:
		to := 1 + d.n(many)
		_ = n.Send(1+d.n(many), to, text)
		return to
	default:
		n.Round()
	}
	return 0
}

// far: how far routers are over the cables that are in; 0: there is no way.
func far(n *Net, many int, l cables) [api.MaxRouters + 1][api.MaxRouters + 1]int {
	const none = 9999
	var f [api.MaxRouters + 1][api.MaxRouters + 1]int
	for a := range f {
		for b := range f[a] {
			f[a][b] = none
		}
		f[a][a] = 0
	}
	for i, c := range l {
		if n.cables[i].in {
			f[c.A][c.B] = min(f[c.A][c.B], c.Metric)
			f[c.B][c.A] = f[c.A][c.B]
		}
	}
	for by := range f {
		for a := range f {
			for b := range f {
				f[a][b] = min(f[a][b], f[a][by]+f[by][b])
			}
		}
	}
	for a := range f {
		for b := range f[a] {
			f[a][b] %= none
		}
	}
	return f
}

// known: each router knows how far all others are.
func known(t *testing.T, n *Net, many int, l cables) {
	t.Helper()
	want := far(n, many, l)
	for a := 1; a <= many; a++ {
		var got [api.MaxRouters + 1]int
		for _, h := range routerOf(t, n, a).Hops() {
			got[h.To] = h.Far
		}
		for b := 1; b <= many; b++ {
			if a != b && got[b] != want[a][b] {
				t.Fatalf("%v: from %d to %d it is %d, but %d knows %d", l, a, b, want[a][b], a, got[b])
			}
		}
	}
}

func TestW1AllComeToKnowWhatIsSo(t *testing.T) {
	for seed := range 150 {
		d := die(1000 + seed)
		many, l := drawn(&d)
		n := start(t, many, l)
		for range 3 {
			for range 30 {
				act(&d, n, many, len(l), false, "hay")
			}
			rounds(n, 45)
			known(t, n, many, l)
			before := make([]string, many)
			for i := range many {
				before[i] = states(t, n, i+1) + links(t, n, i+1)
				if states(t, n, i+1) == "" {
					t.Fatalf("%d knows nothing", i+1)
				}
			}
			rounds(n, 20)
			for i := range many {
				is(t, "that stays", states(t, n, i+1)+links(t, n, i+1), before[i])
			}
		}
	}
}

// apart: over how many hops a message goes from one router to another one; -1: there is no way.
func apart(t *testing.T, n *Net, from, to int) int {
	t.Helper()
	for hops := range api.Hops {
		if from == to {
			return hops
		}
		l := routerOf(t, n, from).Hops()
		i := slices.IndexFunc(l, func(h api.Hop) bool { return h.To == to })
		if i < 0 {
			return -1
		}
		from = l[i].Next
	}
	t.Errorf("the way to %d has no end", to)
	return -1
}

func TestW2AMessageComesThereOnce(t *testing.T) {
	for seed := range 60 {
		d := die(2000 + seed)
		many, l := drawn(&d)
		n := start(t, many, l)
		for range 25 {
			act(&d, n, many, len(l), false, "hay")
		}
		rounds(n, 45)
		for i := range many {
			_ = inbox(t, n, i+1)
		}
		for from := 1; from <= many; from++ {
			for to := 1; to <= many; to++ {
				text := fmt.Sprint("\x00~}", from, ">", to)
				want := ""
				if far := apart(t, n, from, to); far >= 0 {
					want = fmt.Sprint(api.Hops-far, " ", text)
				}
				fine(t, n.Send(from, to, text))
				n.Round()
				for i := 1; i <= many; i++ {
					if i == to {
						is(t, "to whom it is", inbox(t, n, i), want)
					} else {
						is(t, "elsewhere", inbox(t, n, i), "")
					}
				}
			}
		}
	}
}

func TestW2NoneComesThatWasNotSent(t *testing.T) {
	all := 0
	for seed := range 100 {
		d := die(3000 + seed)
		many, l := drawn(&d)
		n := start(t, many, l)
		sent := map[string]int{}
		for k := range 120 {
			text := fmt.Sprint("hay ", k)
			if to := act(&d, n, many, len(l), false, text); to > 0 {
				sent[text] = to
			}
			i := 1 + k%many
			came, err := n.Inbox(i)
			fine(t, err)
			for _, m := range came {
				if sent[m.Text] != i || m.To != i || m.Hops < 0 || m.Hops > api.Hops {
					t.Errorf("seed %d: %v came to %d, but %d of these was sent", seed, m, i, sent[m.Text])
				}
				delete(sent, m.Text)
				all++
			}
		}
	}
	if all < 500 {
		t.Errorf("only %d messages came", all)
	}
}

// heard: what is true, at each time, of who is heard at a router's ports.
func heard(t *testing.T, n *Net, i int, in map[end]int) {
	t.Helper()
	r := routerOf(t, n, i)
	least := map[int]int{}
	for p := range api.MaxPorts {
		who, err := r.Peer(p)
		fine(t, err)
		s, err := r.Link(p)
		fine(t, err)
		if who != (hello.Peer{}) && (s != api.Opened || in[end{i, p}] == 0) {
			t.Errorf("%v is heard over a link whose state is %d", who, s)
		}
		m := in[end{i, p}]
		if who.Both && (least[who.Who] == 0 || m < least[who.Who]) {
			least[who.Who] = m
		}
	}
	var want []api.Edge
	for to := 1; to <= api.MaxRouters; to++ {
		if least[to] > 0 {
			want = append(want, api.Edge{To: to, Metric: least[to]})
		}
	}
	for _, s := range r.States() {
		if s.Owner == i && !slices.Equal(s.Edges, want) {
			t.Errorf("%d tells of itself %v, want %v", i, s.Edges, want)
		}
	}
}

func TestW4WhoIsHeard(t *testing.T) {
	for seed := range 150 {
		d := die(4000 + seed)
		many, l := drawn(&d)
		n := start(t, many, l)
		for range 80 {
			act(&d, n, many, len(l), true, "hay")
			in := map[end]int{}
			for i, c := range l {
				if n.cables[i].in {
					in[end{c.A, c.PortA}], in[end{c.B, c.PortB}] = c.Metric, c.Metric
				}
			}
			for i := range many {
				heard(t, n, i+1, in)
			}
		}
	}
}

func TestZ2ListsAreTheCallers(t *testing.T) {
	l := append(barn(), between(9, 9, 9, 9, 99))
	n := start(t, 4, l[:4])
	for i := range l {
		l[i] = api.Cable{}
	}
	for i := range 4 {
		fine(t, n.Plug(i, true))
	}
	wants(t, "what stands behind the list", n.Plug(4, true), api.ErrNone)
	rounds(n, 9)
	is(t, "cables aren't kept", hops(t, n, 1), "2 5 2; 3 10 2; 4 12 2")
	fine(t, n.Send(1, 1, "hay"))
	in, _ := n.Inbox(1)
	fine(t, n.Send(1, 1, "corn"))
	is(t, "the later one", inbox(t, n, 1), "8 corn")
	if len(in) != 1 || in[0].Text != "hay" {
		t.Errorf("the inbox that was handed out is %v now", in)
	}
}
