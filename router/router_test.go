package router

import (
	"math"
	"slices"
	"testing"

	"towpath/api"
	"towpath/frame"
	"towpath/hello"
	"towpath/packet"
	"towpath/state"
)

const otherMagic = 200 // that of the ends that the tests play: none that a router has

var nobody = hello.Peer{}

type edge = api.Edge

func to(n, metric int) edge { return edge{To: n, Metric: metric} }

func of(owner, seq int, l ...edge) api.State {
	return api.State{Owner: owner, Seq: seq, Edges: l}
}

func same(a, b api.State) bool {
	return a.Owner == b.Owner && a.Seq == b.Seq && slices.Equal(a.Edges, b.Edges)
}

func start(t *testing.T, id int, metrics ...int) *Router {
	t.Helper()
	r, err := New(id, metrics)
	if err != nil {
		t.Fatal(err)
	}
	return r
}

// framed: a frame of that.
func framed(t *testing.T, s string) string {
	t.Helper()
	f, err := frame.Make(s)
	if err != nil {
		t.Fatal(err)
	}
	return f
}

func bytesOf(l ...byte) string { return string(l) }

func packetOf(t *testing.T, code, id int, l ...api.Option) string {
	t.Helper()
	s, err := packet.Bytes(api.Packet{Code: code, ID: id, Options: l})
	if err != nil {
		t.Fatal(err)
	}
	return "L" + s
}

func asks(t *testing.T, code, id, magic int) string {
	t.Helper()
	return packetOf(t, code, id, api.Option{Kind: api.Size, N: api.MostSize}, api.Option{Kind: api.Magic, N: magic})
}

func helloOf(from, seen int) string { return bytesOf('H', byte(from), byte(seen)) }

func stateOf(t *testing.T, letter string, s api.State) string {
	t.Helper()
	text, err := state.Bytes(s)
	if err != nil {
		t.Fatal(err)
	}
	return letter + text
}

func messageOf(to, hops int, text string) string {
	return bytesOf('M', byte(to), byte(hops)) + text
}

func plug(t *testing.T, r *Router, i int, in bool) {
	t.Helper()
	if err := r.Plug(i, in); err != nil {
		t.Fatalf("Plug(%d, %v): %v", i, in, err)
	}
}

// give a router frames of these at a port.
func give(t *testing.T, r *Router, i int, l ...string) {
	t.Helper()
	for _, s := range l {
		if err := r.Receive(i, framed(t, s)); err != nil {
			t.Fatalf("Receive(%d, a frame of %q): %v", i, s, err)
		}
	}
}

// out: what the frames carry that are to go out.
func out(t *testing.T, r *Router, i int) []string {
	t.Helper()
	s, err := r.Out(i)
	if err != nil {
		t.Fatal(err)
	}
	var rd frame.Reader
	l, bad := rd.All(s)
	all := ""
	for _, x := range l {
		all += framed(t, x)
	}
	if bad > 0 || all != s {
		t.Errorf("port %d: %q is no row of frames", i, s)
	}
	return l
}

// says: just these are to go out.
func says(t *testing.T, what string, r *Router, i int, want ...string) {
	t.Helper()
	if got := out(t, r, i); !slices.Equal(got, want) {
		t.Errorf("%s: port %d says %q, want %q", what, i, got, want)
	}
}

// silence: whatever is to go out is forgotten.
func silence(t *testing.T, r *Router) {
	t.Helper()
	for i := range r.ports {
		out(t, r, i)
	}
}

// open the link of a port, as its other end.
func open(t *testing.T, r *Router, i int) {
	t.Helper()
	plug(t, r, i, true)
	l := out(t, r, i)
	last, err := packet.Parse(l[len(l)-1][1:])
	if err != nil {
		t.Fatal(err)
	}
	give(t, r, i, packetOf(t, api.ConfAck, last.ID, last.Options...), asks(t, api.ConfReq, 1, otherMagic))
	isLink(t, r, i, api.Opened)
	says(t, "opening", r, i, asks(t, api.ConfAck, 1, otherMagic))
}

// meets: the link of a port is opened, and both hear each other.
func meets(t *testing.T, r *Router, i, who int) {
	t.Helper()
	open(t, r, i)
	give(t, r, i, helloOf(who, r.id))
	isPeer(t, r, i, hello.Peer{Who: who, Both: true, Left: api.Hold})
}

func isLink(t *testing.T, r *Router, i, want int) {
	t.Helper()
	if got, err := r.Link(i); got != want || err != nil {
		t.Errorf("Link(%d) = %d, %v, want %d", i, got, err, want)
	}
}

func isPeer(t *testing.T, r *Router, i int, want hello.Peer) {
	t.Helper()
	if got, err := r.Peer(i); got != want || err != nil {
		t.Errorf("Peer(%d) = %v, %v, want %v", i, got, err, want)
	}
}

func knows(t *testing.T, what string, r *Router, want ...api.State) {
	t.Helper()
	if got := r.States(); !slices.EqualFunc(got, want, same) {
		t.Errorf("%s: it knows %v, want %v", what, got, want)
	}
}

func came(t *testing.T, what string, r *Router, want ...api.Message) {
	t.Helper()
	if got := r.Inbox(); !slices.Equal(got, want) {
		t.Errorf("%s: %v came, want %v", what, got, want)
	}
}

func dropped(t *testing.T, what string, r *Router, want int) {
	t.Helper()
	if got := r.Dropped(); got != want {
		t.Errorf("%s: %d were dropped, want %d", what, got, want)
	}
}

func ticks(r *Router, many int) {
	for range many {
		r.Tick()
	}
}

func TestK1WhatMayNotBe(t *testing.T) {
	for _, c := range []struct {
		id      int
		metrics []int
	}{
		{0, []int{1}}, {-1, []int{1}}, {api.MaxRouters + 1, []int{1}}, {math.MinInt, []int{1}}, {math.MaxInt, []int{1}},
		{1, nil}, {1, []int{}}, {1, []int{1, 1, 1, 1}}, {1, make([]int, 1000)},
		{1, []int{0}}, {1, []int{api.MaxMetric + 1}}, {1, []int{1, -1}}, {1, []int{1, 1, 21}}, {1, []int{math.MinInt}}, {1, []int{math.MaxInt}},
	} {
		if r, err := New(c.id, c.metrics); r != nil || err != api.ErrBound {
			t.Errorf("New(%d, %v) = %v, %v, want ErrBound", c.id, c.metrics, r, err)
		}
	}
}

func TestK1ANewRouter(t *testing.T) {
	for id := 1; id <= api.MaxRouters; id++ {
		for many := 1; many <= api.MaxPorts; many++ {
			r := start(t, id, []int{1, api.MaxMetric, 7}[:many]...)
			knows(t, "new", r, of(id, 1))
			came(t, "new", r)
			dropped(t, "new", r, 0)
			if l := r.Hops(); len(l) != 0 {
				t.Errorf("a new router has the hops %v", l)
			}
			for i := range many {
				isLink(t, r, i, api.Starting)
				isPeer(t, r, i, nobody)
				says(t, "new", r, i)
			}
		}
	}
}

func TestK1MagicNumbers(t *testing.T) {
	for id := 1; id <= api.MaxRouters; id++ {
		r := start(t, id, 1, 1, 1)
		for i := range api.MaxPorts {
			plug(t, r, i, true)
			says(t, "at first", r, i, asks(t, api.ConfReq, 1, 8*id+i+1))
		}
	}
}

func TestK1PortsThatAreNone(t *testing.T) {
	for many := 1; many <= api.MaxPorts; many++ {
		r := start(t, 2, []int{1, 1, 1}[:many]...)
		for _, i := range []int{many, many + 1, -1, math.MinInt, math.MaxInt} {
			if err := r.Plug(i, true); err != api.ErrBound {
				t.Errorf("Plug(%d, true) of %d ports: %v, want ErrBound", i, many, err)
			}
			if err := r.Plug(i, false); err != api.ErrBound {
				t.Errorf("Plug(%d, false) of %d ports: %v, want ErrBound", i, many, err)
			}
			if err := r.Receive(i, framed(t, messageOf(2, 1, "hay"))); err != api.ErrBound {
				t.Errorf("Receive at port %d of %d: %v, want ErrBound", i, many, err)
			}
			if s, err := r.Out(i); s != "" || err != api.ErrBound {
				t.Errorf("Out(%d) of %d ports = %q, %v, want ErrBound", i, many, s, err)
			}
			if p, err := r.Peer(i); p != nobody || err != api.ErrBound {
				t.Errorf("Peer(%d) of %d ports = %v, %v, want ErrBound", i, many, p, err)
			}
			if n, err := r.Link(i); n != 0 || err != api.ErrBound {
				t.Errorf("Link(%d) of %d ports = %d, %v, want ErrBound", i, many, n, err)
			}
		}
		knows(t, "asked for ports that are none", r, of(2, 1))
		for i := range many {
			isLink(t, r, i, api.Starting)
			says(t, "asked for ports that are none", r, i)
		}
	}
}

func TestK1HopsOfTheStatesFromItselfOn(t *testing.T) {
	r := start(t, 1, 5)
	meets(t, r, 0, 2)
	give(t, r, 0, stateOf(t, "S", of(2, 9, to(1, 3), to(3, 4))), stateOf(t, "S", of(3, 9, to(2, 20))), stateOf(t, "S", of(4, 9, to(5, 1))))
	knows(t, "told", r, of(1, 2, to(2, 5)), of(2, 9, to(1, 3), to(3, 4)), of(3, 9, to(2, 20)), of(4, 9, to(5, 1)))
	if got, want := r.Hops(), []api.Hop{{To: 2, Far: 5, Next: 2}, {To: 3, Far: 9, Next: 2}}; !slices.Equal(got, want) {
		t.Errorf("Hops() = %v, want %v", got, want)
	}
}

func TestK1InboxSinceItWasAskedLast(t *testing.T) {
	r := start(t, 3, 1)
	for _, text := range []string{"hay", "", "corn"} {
		if err := r.Send(3, text); err != nil {
			t.Fatal(err)
		}
	}
	came(t, "three", r, api.Message{To: 3, Hops: 8, Text: "hay"}, api.Message{To: 3, Hops: 8}, api.Message{To: 3, Hops: 8, Text: "corn"})
	came(t, "asked again", r)
	_ = r.Send(3, "oats")
	came(t, "one more", r, api.Message{To: 3, Hops: 8, Text: "oats"})
}

func TestK2FramesByteByByte(t *testing.T) {
	r := start(t, 1, 1)
	plug(t, r, 0, true)
	s, err := r.Out(0)
	want := framed(t, bytesOf('L', api.ConfReq, 1, 2, api.Size, 255, api.Magic, 9))
	if s != want || err != nil {
		t.Errorf("Out(0) = %q, %v, want %q", s, err, want)
	}
	if s, err = r.Out(0); s != "" || err != nil {
		t.Errorf("Out(0), again, = %q, %v, want nothing", s, err)
	}
}

func TestK2OneBehindTheOther(t *testing.T) {
	r := start(t, 1, 1, 1)
	meets(t, r, 0, 2)
	r.Tick()
	r.Tick()
	own := stateOf(t, "S", of(1, 2, to(2, 1)))
	says(t, "two ticks", r, 0, helloOf(1, 2), own, helloOf(1, 2), own)
	says(t, "no cable", r, 1)
}

func TestK2OnlyTheLinkTalksAheadOfAnOpenedLink(t *testing.T) {
	r := start(t, 1, 1)
	r.Tick()
	says(t, "no cable", r, 0)
	plug(t, r, 0, true)
	r.Tick()
	says(t, "it asks", r, 0, asks(t, api.ConfReq, 1, 9))
	give(t, r, 0, asks(t, api.ConfReq, 7, otherMagic))
	isLink(t, r, 0, api.AckSent)
	r.Tick()
	says(t, "one way", r, 0, asks(t, api.ConfAck, 7, otherMagic))
	give(t, r, 0, asks(t, api.ConfAck, 1, 9))
	isLink(t, r, 0, api.Opened)
	r.Tick()
	says(t, "both ways", r, 0, helloOf(1, 0))
}

func TestK2WhatALinkSaysIsPutAtOnce(t *testing.T) {
	r := start(t, 1, 1)
	plug(t, r, 0, true)
	give(t, r, 0, asks(t, api.ConfReq, 7, 9), packetOf(t, api.ConfReq, 8, api.Option{Kind: 77, N: 7}), packetOf(t, api.TermReq, 9))
	says(t, "asked", r, 0,
		asks(t, api.ConfReq, 1, 9),
		packetOf(t, api.ConfNak, 7, api.Option{Kind: api.Magic, N: 10}),
		packetOf(t, api.ConfRej, 8, api.Option{Kind: 77, N: 7}),
		packetOf(t, api.TermRsp, 9))
}

func TestK3InAndOut(t *testing.T) {
	r := start(t, 1, 1, 4)
	if err := r.Plug(0, false); err != api.ErrState {
		t.Errorf("out, without a cable: %v, want ErrState", err)
	}
	meets(t, r, 0, 2)
	isLink(t, r, 1, api.Starting)
	if err := r.Plug(0, true); err != api.ErrState {
		t.Errorf("in, with a cable: %v, want ErrState", err)
	}
	isLink(t, r, 0, api.Opened)
	isPeer(t, r, 0, hello.Peer{Who: 2, Both: true, Left: api.Hold})
	knows(t, "in", r, of(1, 2, to(2, 1)))

	plug(t, r, 0, false)
	isLink(t, r, 0, api.Starting)
	isPeer(t, r, 0, nobody)
	knows(t, "drawn", r, of(1, 3))
	says(t, "drawn", r, 0)

	plug(t, r, 0, true)
	isLink(t, r, 0, api.ReqSent)
	says(t, "in again", r, 0, asks(t, api.ConfReq, 2, 9))
	plug(t, r, 0, false)
	isLink(t, r, 0, api.Starting)
}

func TestK3HalfAFrameIsForgotten(t *testing.T) {
	r := start(t, 1, 1, 1)
	f := framed(t, asks(t, api.ConfReq, 7, otherMagic))
	for cut := 2; cut < len(f); cut++ { // what stands behind the first flag alone is a frame without one, and whole
		plug(t, r, 0, true)
		_ = r.Receive(0, f[:cut])
		plug(t, r, 0, false)
		plug(t, r, 0, true)
		_ = r.Receive(0, f[cut:])
		isLink(t, r, 0, api.ReqSent)
		_ = r.Receive(0, f)
		isLink(t, r, 0, api.AckSent)
		plug(t, r, 0, false)
	}
}

func TestK3WhatIsRefusedForgetsNothing(t *testing.T) {
	r := start(t, 1, 1, 1)
	f := framed(t, asks(t, api.ConfReq, 7, otherMagic))
	plug(t, r, 0, true)
	_ = r.Receive(0, f[:5])
	if err := r.Plug(0, true); err != api.ErrState {
		t.Errorf("in, with a cable: %v, want ErrState", err)
	}
	plug(t, r, 1, true) // another port's cable
	_ = r.Receive(0, f[5:])
	isLink(t, r, 0, api.AckSent)
}

func TestK4OnlyWhoHearsIsAnEdge(t *testing.T) {
	r := start(t, 4, 7)
	open(t, r, 0)
	knows(t, "opened", r, of(4, 1))
	give(t, r, 0, helloOf(2, 0))
	isPeer(t, r, 0, hello.Peer{Who: 2, Left: api.Hold})
	knows(t, "it has heard nobody", r, of(4, 1))
	give(t, r, 0, helloOf(2, 3))
	knows(t, "it has heard another one", r, of(4, 1))
	give(t, r, 0, helloOf(2, 4))
	isPeer(t, r, 0, hello.Peer{Who: 2, Both: true, Left: api.Hold})
	knows(t, "it has heard", r, of(4, 2, to(2, 7)))
	give(t, r, 0, helloOf(2, 4), helloOf(2, 4))
	knows(t, "it goes on", r, of(4, 2, to(2, 7)))
	give(t, r, 0, helloOf(5, 4))
	knows(t, "another one is there", r, of(4, 3, to(5, 7)))
	give(t, r, 0, helloOf(5, 0))
	knows(t, "it began anew", r, of(4, 4))
	give(t, r, 0, helloOf(6, 0))
	knows(t, "another one, who hasn't heard", r, of(4, 4))
	give(t, r, 0, helloOf(6, 4))
	knows(t, "who has", r, of(4, 5, to(6, 7)))
	give(t, r, 0, helloOf(4, 4))
	isPeer(t, r, 0, nobody)
	knows(t, "itself", r, of(4, 6))
}

func TestK4RisingNeighbours(t *testing.T) {
	r := start(t, 3, 1, 20, 5)
	meets(t, r, 0, 6)
	meets(t, r, 1, 1)
	meets(t, r, 2, 4)
	knows(t, "three", r, of(3, 4, to(1, 20), to(4, 5), to(6, 1)))
	plug(t, r, 2, false)
	knows(t, "two", r, of(3, 5, to(1, 20), to(6, 1)))
}

func TestK4SeveralPortsToOneNeighbour(t *testing.T) {
	r := start(t, 1, 5, 3, 9)
	meets(t, r, 0, 2)
	knows(t, "5", r, of(1, 2, to(2, 5)))
	meets(t, r, 2, 2)
	knows(t, "5 and 9", r, of(1, 2, to(2, 5)))
	meets(t, r, 1, 2)
	knows(t, "5, 9 and 3", r, of(1, 3, to(2, 3)))
	plug(t, r, 0, false)
	knows(t, "9 and 3", r, of(1, 3, to(2, 3)))
	give(t, r, 1, helloOf(2, 0))
	knows(t, "9, and 3 that isn't heard", r, of(1, 4, to(2, 9)))
	plug(t, r, 2, false)
	knows(t, "3 that isn't heard", r, of(1, 5))
}

func TestK4WhoIsMetIsOwedAll(t *testing.T) {
	r := start(t, 1, 5, 3)
	meets(t, r, 1, 3)
	give(t, r, 1, stateOf(t, "S", of(6, 4)))
	open(t, r, 0)
	give(t, r, 0, helloOf(2, 0))
	silence(t, r)
	r.Tick()
	says(t, "not both", r, 0, helloOf(1, 2))
	give(t, r, 0, helloOf(2, 1))
	says(t, "only a tick tells", r, 0)
	r.Tick()
	own := of(1, 3, to(2, 5), to(3, 3))
	says(t, "both", r, 0, helloOf(1, 2), stateOf(t, "S", own), stateOf(t, "S", of(6, 4)))

	give(t, r, 0, stateOf(t, "A", own), stateOf(t, "A", of(6, 4)), helloOf(2, 1))
	r.Tick()
	says(t, "it has all", r, 0, helloOf(1, 2))
	give(t, r, 1, helloOf(3, 1))
	give(t, r, 0, helloOf(2, 0), helloOf(2, 1))
	r.Tick()
	own.Seq = 5
	says(t, "it began anew", r, 0, helloOf(1, 2), stateOf(t, "S", own), stateOf(t, "S", of(6, 4)))
	give(t, r, 0, stateOf(t, "A", own), stateOf(t, "A", of(6, 4)), helloOf(4, 1))
	r.Tick()
	says(t, "another one is there", r, 0, helloOf(1, 4), stateOf(t, "S", of(1, 6, to(3, 3), to(4, 5))), stateOf(t, "S", of(6, 4)))
}

// atMost: a router whose own state is the last one that may be, with an edge to 2 at port 0.
func atMost(t *testing.T) *Router {
	t.Helper()
	r := start(t, 1, 5, 3)
	meets(t, r, 0, 2)
	give(t, r, 0, stateOf(t, "S", of(1, api.MaxSeq-1, to(6, 6))))
	knows(t, "the last one", r, of(1, api.MaxSeq, to(2, 5)))
	return r
}

func TestK4AtMaxSeqTheStateStays(t *testing.T) {
	r := atMost(t)
	give(t, r, 0, helloOf(2, 0))
	knows(t, "its neighbour is gone", r, of(1, api.MaxSeq, to(2, 5)))
	meets(t, r, 1, 3)
	knows(t, "there is another one", r, of(1, api.MaxSeq, to(2, 5)))
	silence(t, r)
	r.Tick()
	says(t, "who is met is told", r, 1, helloOf(1, 3), stateOf(t, "S", of(1, api.MaxSeq, to(2, 5))))
}

func TestK4OneBelowMaxSeqTheStateIsSet(t *testing.T) {
	r := start(t, 1, 5)
	meets(t, r, 0, 2)
	give(t, r, 0, stateOf(t, "S", of(1, api.MaxSeq-2)))
	knows(t, "one below", r, of(1, api.MaxSeq-1, to(2, 5)))
	plug(t, r, 0, false)
	knows(t, "the last one", r, of(1, api.MaxSeq))
	meets(t, r, 0, 2)
	knows(t, "no more", r, of(1, api.MaxSeq))
}

func TestK5BytesInPieces(t *testing.T) {
	all := framed(t, helloOf(2, 1)) + framed(t, messageOf(1, 3, "hay")) + framed(t, stateOf(t, "S", of(2, 4, to(1, 1)))) + framed(t, messageOf(1, 9, "\x7d\x7e\x00"))
	for size := 1; size <= len(all); size++ {
		r := start(t, 1, 1, 1)
		open(t, r, 0)
		for s := range slices.Chunk([]byte(all), size) {
			if err := r.Receive(0, string(s)); err != nil {
				t.Errorf("Receive(0, %q): %v", s, err)
			}
			_ = r.Receive(1, framed(t, messageOf(1, 1, "not over this one"))) // what comes at other ports doesn't come between
		}
		came(t, "in pieces", r, api.Message{To: 1, Hops: 3, Text: "hay"}, api.Message{To: 1, Hops: 9, Text: "\x7d\x7e\x00"})
		knows(t, "in pieces", r, of(1, 2, to(2, 1)), of(2, 4, to(1, 1)))
	}
}

func TestK5WhatCantBeRead(t *testing.T) {
	r := start(t, 1, 1)
	meets(t, r, 0, 2)
	long := messageOf(1, 1, "of two frames")
	for _, s := range []string{"", "~", "~~~~", "~\x00~", "~}~", "~}}~", "~a~", "~abc~", framed(t, ""), framed(t, ""), "~" + long + "~"} {
		if err := r.Receive(0, s); err != nil {
			t.Errorf("Receive(0, %q): %v", s, err)
		}
	}
	give(t, r, 0, "L", "H", "S", "A", "M", "X", "l"+bytesOf(api.TermReq, 1, 0), "h"+bytesOf(3, 1), "m"+bytesOf(1, 1), "~", "}", "\x00",
		"L"+bytesOf(9, 9, 9), "L"+bytesOf(api.TermReq, 1), "L"+bytesOf(api.TermReq, 1, 0, 0),
		"H"+bytesOf(0, 1), "H"+bytesOf(7, 1), "H"+bytesOf(3, 7), "H"+bytesOf(3), "H"+bytesOf(3, 1, 0),
		"S"+bytesOf(3, 0, 0, 0), "S"+bytesOf(3, 1, 0, 0, 4), "S"+bytesOf(7, 1, 0, 0), "S"+bytesOf(3, 1, 0, 0, 3, 3), "A"+bytesOf(1, 2, 0, 0, 9, 9))
	isLink(t, r, 0, api.Opened)
	isPeer(t, r, 0, hello.Peer{Who: 2, Both: true, Left: api.Hold})
	knows(t, "what can't be read", r, of(1, 2, to(2, 1)))
	came(t, "what can't be read", r)
	dropped(t, "what can't be read", r, 0)
	says(t, "what can't be read", r, 0)
	r.Tick()
	says(t, "and what is owed still is", r, 0, helloOf(1, 2), stateOf(t, "S", of(1, 2, to(2, 1))))
}

func TestK5PacketsThatTheLinkRefuses(t *testing.T) {
	r := start(t, 1, 1)
	if err := r.Receive(0, framed(t, asks(t, api.ConfReq, 1, otherMagic))); err != nil {
		t.Errorf("without a cable: %v", err)
	}
	isLink(t, r, 0, api.Starting)
	meets(t, r, 0, 2)
	if err := r.Receive(0, framed(t, asks(t, api.ConfAck, 99, 9))); err != nil {
		t.Errorf("an answer to nothing: %v", err)
	}
	isLink(t, r, 0, api.Opened)
	isPeer(t, r, 0, hello.Peer{Who: 2, Both: true, Left: api.Hold})
	says(t, "refused", r, 0)
}

func TestK5ALinkThatIsOpenedNoMore(t *testing.T) {
	for _, c := range []struct {
		text  string
		state int
		want  []string
	}{
		{packetOf(t, api.TermReq, 4), api.Stopping, []string{packetOf(t, api.TermRsp, 4)}},
		{asks(t, api.ConfReq, 4, otherMagic), api.AckSent, []string{asks(t, api.ConfReq, 2, 9), asks(t, api.ConfAck, 4, otherMagic)}},
		{packetOf(t, api.TermRsp, 4), api.ReqSent, []string{asks(t, api.ConfReq, 2, 9)}},
	} {
		r := start(t, 1, 1, 1)
		meets(t, r, 0, 2)
		meets(t, r, 1, 3)
		give(t, r, 0, c.text)
		isLink(t, r, 0, c.state)
		isPeer(t, r, 0, nobody)
		knows(t, "opened no more", r, of(1, 4, to(3, 1)))
		says(t, "opened no more", r, 0, c.want...)
		isPeer(t, r, 1, hello.Peer{Who: 3, Both: true, Left: api.Hold})
	}
}

func TestK5NothingIsTakenAheadOfAnOpenedLink(t *testing.T) {
	r := start(t, 1, 1)
	plug(t, r, 0, true)
	silence(t, r)
	give(t, r, 0, helloOf(2, 1), stateOf(t, "S", of(2, 1)), stateOf(t, "A", of(1, 1)), messageOf(1, 3, "hay"), messageOf(2, 3, "hay"))
	isPeer(t, r, 0, nobody)
	knows(t, "not opened", r, of(1, 1))
	came(t, "not opened", r)
	dropped(t, "not opened", r, 0)
	says(t, "not opened", r, 0)
}

func TestK5AFrameThatOpensAndOthersBehindIt(t *testing.T) {
	r := start(t, 1, 1)
	plug(t, r, 0, true)
	s := framed(t, helloOf(3, 1)) + framed(t, asks(t, api.ConfAck, 1, 9)) + framed(t, asks(t, api.ConfReq, 1, otherMagic)) + framed(t, helloOf(2, 1)) + framed(t, stateOf(t, "S", of(2, 7)))
	if err := r.Receive(0, s); err != nil {
		t.Fatal(err)
	}
	isPeer(t, r, 0, hello.Peer{Who: 2, Both: true, Left: api.Hold})
	says(t, "in one piece", r, 0, asks(t, api.ConfReq, 1, 9), asks(t, api.ConfAck, 1, otherMagic), stateOf(t, "A", of(2, 7)))
}

func TestK5StatesOfOthers(t *testing.T) {
	r := start(t, 1, 1, 1)
	open(t, r, 0)
	give(t, r, 0, helloOf(2, 0), stateOf(t, "S", of(2, 4)))
	knows(t, "not both", r, of(1, 1))
	says(t, "not both", r, 0)

	give(t, r, 0, helloOf(2, 1))
	meets(t, r, 1, 3)
	own := stateOf(t, "A", of(1, 3, to(2, 1), to(3, 1)))
	give(t, r, 0, own)
	give(t, r, 1, own)
	give(t, r, 0, stateOf(t, "S", of(5, 4, to(6, 1))))
	knows(t, "newer", r, of(1, 3, to(2, 1), to(3, 1)), of(5, 4, to(6, 1)))
	says(t, "newer", r, 0, stateOf(t, "A", of(5, 4, to(6, 1))))
	says(t, "newer", r, 1)
	r.Tick()
	says(t, "newer, where it came", r, 0, helloOf(1, 2))
	says(t, "newer, elsewhere", r, 1, helloOf(1, 3), stateOf(t, "S", of(5, 4, to(6, 1))))

	give(t, r, 1, stateOf(t, "S", of(5, 4, to(6, 1))))
	says(t, "the same", r, 1, stateOf(t, "A", of(5, 4, to(6, 1))))
	r.Tick()
	says(t, "the same, owed no more", r, 1, helloOf(1, 3))

	out(t, r, 0)
	give(t, r, 0, stateOf(t, "S", of(5, 3, to(6, 9))))
	says(t, "elder", r, 0)
	knows(t, "elder", r, of(1, 3, to(2, 1), to(3, 1)), of(5, 4, to(6, 1)))
	r.Tick()
	says(t, "elder, and now owed", r, 0, helloOf(1, 2), stateOf(t, "S", of(5, 4, to(6, 1))))
	says(t, "elder, and not owed elsewhere", r, 1, helloOf(1, 3))
}

func TestK5TheOwnElderLife(t *testing.T) {
	r := start(t, 1, 5, 3)
	meets(t, r, 0, 2)
	meets(t, r, 1, 3)
	own := stateOf(t, "A", of(1, 3, to(2, 5), to(3, 3)))
	give(t, r, 0, own)
	give(t, r, 1, own)
	give(t, r, 0, stateOf(t, "S", of(1, 8, to(2, 5), to(6, 1))))
	knows(t, "it comes back", r, of(1, 9, to(2, 5), to(3, 3)))
	says(t, "it comes back: no answer", r, 0)
	r.Tick()
	for i, who := range []int{2, 3} {
		says(t, "it comes back: all are told", r, i, helloOf(1, who), stateOf(t, "S", of(1, 9, to(2, 5), to(3, 3))))
	}
	give(t, r, 1, stateOf(t, "S", of(1, 9, to(2, 5), to(3, 4))))
	knows(t, "the same number, and edges that are newer", r, of(1, 10, to(2, 5), to(3, 3)))

	give(t, r, 1, stateOf(t, "A", of(1, 10, to(2, 5), to(3, 3))), stateOf(t, "S", of(1, 10, to(2, 4), to(3, 3))))
	knows(t, "elder", r, of(1, 10, to(2, 5), to(3, 3)))
	says(t, "elder", r, 1)
	r.Tick()
	says(t, "elder, and now owed", r, 1, helloOf(1, 3), stateOf(t, "S", of(1, 10, to(2, 5), to(3, 3))))

	give(t, r, 1, stateOf(t, "S", of(1, 10, to(2, 5), to(3, 3))))
	knows(t, "the same", r, of(1, 10, to(2, 5), to(3, 3)))
	says(t, "the same", r, 1, stateOf(t, "A", of(1, 10, to(2, 5), to(3, 3))))
	r.Tick()
	says(t, "the same, owed no more", r, 1, helloOf(1, 3))
}

func TestK5TheOwnElderLifeAtMaxSeq(t *testing.T) {
	r := start(t, 1, 5)
	meets(t, r, 0, 2)
	give(t, r, 0, stateOf(t, "S", of(1, api.MaxSeq, to(6, 6))))
	knows(t, "nothing is behind it", r, of(1, 2, to(2, 5)))
	says(t, "nothing is behind it", r, 0)
	r.Tick()
	says(t, "and what is owed still is", r, 0, helloOf(1, 2), stateOf(t, "S", of(1, 2, to(2, 5))))

	r = atMost(t)
	give(t, r, 0, stateOf(t, "S", of(1, api.MaxSeq, to(2, 6))))
	knows(t, "both are the last one", r, of(1, api.MaxSeq, to(2, 5)))
	says(t, "both are the last one", r, 0)
}

func TestK5WhatIsHeardIsOwedNoMore(t *testing.T) {
	r := start(t, 1, 5, 3)
	meets(t, r, 0, 2)
	meets(t, r, 1, 3)
	silence(t, r)
	own := of(1, 3, to(2, 5), to(3, 3))
	give(t, r, 0, stateOf(t, "A", of(1, 2, to(2, 5))), stateOf(t, "A", of(1, 3, to(2, 5))), stateOf(t, "A", of(6, 1)))
	r.Tick()
	says(t, "an elder one was heard", r, 0, helloOf(1, 2), stateOf(t, "S", own))
	give(t, r, 0, stateOf(t, "A", own))
	silence(t, r)
	r.Tick()
	says(t, "it was heard", r, 0, helloOf(1, 2))
	says(t, "it was not heard there", r, 1, helloOf(1, 3), stateOf(t, "S", own))
	give(t, r, 1, stateOf(t, "A", of(1, 99)))
	r.Tick()
	says(t, "a newer one was heard", r, 1, helloOf(1, 3))
	knows(t, "what is heard isn't taken", r, own)
}

func TestK5Messages(t *testing.T) {
	r := start(t, 1, 1)
	open(t, r, 0)
	full := "twenty bytes of text"
	give(t, r, 0, messageOf(1, 0, ""), messageOf(1, 255, full))
	came(t, "to itself", r, api.Message{To: 1}, api.Message{To: 1, Hops: 255, Text: full})
	give(t, r, 0, bytesOf('M'), bytesOf('M', 1), bytesOf('M', 2), messageOf(1, 1, full+"."), messageOf(2, 1, full+"."))
	came(t, "of other lengths", r)
	dropped(t, "of other lengths", r, 0)
	give(t, r, 0, messageOf(2, 1, ""), messageOf(0, 9, "hay"), messageOf(255, 9, full))
	dropped(t, "to nobody", r, 3)
	says(t, "no answers", r, 0)
}

func TestK6SendWhatMayNotBe(t *testing.T) {
	r := start(t, 1, 1)
	full := "twenty bytes of text"
	for _, c := range []struct {
		to   int
		text string
	}{{0, "hay"}, {-1, "hay"}, {api.MaxRouters + 1, "hay"}, {257, ""}, {math.MinInt, ""}, {math.MaxInt, ""}, {1, full + "."}, {2, full + "."}, {9, full + "."}} {
		if err := r.Send(c.to, c.text); err != api.ErrBound {
			t.Errorf("Send(%d, %q): %v, want ErrBound", c.to, c.text, err)
		}
	}
	came(t, "refused", r)
	dropped(t, "refused", r, 0)
	if err := r.Send(1, full); err != nil {
		t.Errorf("Send(1, %q): %v", full, err)
	}
	came(t, "the longest", r, api.Message{To: 1, Hops: api.Hops, Text: full})
	if err := r.Send(6, full); err != nil {
		t.Errorf("Send(6, %q), where no way leads: %v", full, err)
	}
	dropped(t, "no way", r, 1)
}

// beyond: a router 1 who meets 2 and, beyond it, knows 3.
func beyond(t *testing.T, metrics ...int) *Router {
	t.Helper()
	r := start(t, 1, metrics...)
	for i := range metrics {
		meets(t, r, i, 2)
	}
	give(t, r, 0, stateOf(t, "S", of(2, 4, to(1, 1), to(3, 1))), stateOf(t, "S", of(3, 4, to(2, 1))))
	silence(t, r)
	return r
}

func TestK6ByTheNextOne(t *testing.T) {
	r := beyond(t, 5)
	for _, n := range []int{2, 3, 4} {
		if err := r.Send(n, "hay for all"); err != nil {
			t.Errorf("Send(%d): %v", n, err)
		}
	}
	says(t, "to the next one, and beyond", r, 0, messageOf(2, 7, "hay for all"), messageOf(3, 7, "hay for all"))
	dropped(t, "to whom no way leads", r, 1)
	came(t, "nothing", r)
}

func TestK6OverHowManyHops(t *testing.T) {
	r := beyond(t, 5)
	give(t, r, 0, messageOf(3, 255, "a"), messageOf(3, 2, "b"), messageOf(3, 1, "c"), messageOf(3, 0, "d"), messageOf(1, 0, "e"))
	says(t, "one hop less", r, 0, messageOf(3, 254, "a"), messageOf(3, 1, "b"), messageOf(3, 0, "c"))
	dropped(t, "over none", r, 1)
	came(t, "here", r, api.Message{To: 1, Text: "e"})
}

func TestK6SeveralPortsToTheNextOne(t *testing.T) {
	for _, c := range []struct {
		metrics []int
		want    int
	}{{[]int{5, 3, 9}, 1}, {[]int{5, 5, 5}, 0}, {[]int{9, 5, 5}, 1}, {[]int{2, 5, 2}, 0}, {[]int{9, 8, 7}, 2}} {
		r := beyond(t, c.metrics...)
		_ = r.Send(3, "hay")
		for i := range c.metrics {
			if i == c.want {
				says(t, "the cheapest one", r, i, messageOf(3, 7, "hay"))
			} else {
				says(t, "another one", r, i)
			}
		}
	}
	r := beyond(t, 5, 3, 9)
	give(t, r, 1, helloOf(2, 0))
	_ = r.Send(2, "hay")
	says(t, "it hears over that one", r, 0, messageOf(2, 7, "hay"))
	says(t, "it doesn't hear over that one", r, 1)
}

func TestK6TheNextOneDoesntHear(t *testing.T) {
	r := atMost(t)
	give(t, r, 0, stateOf(t, "S", of(2, 1, to(1, 1))), helloOf(2, 0))
	if len(r.Hops()) != 1 {
		t.Fatalf("there should be a hop to 2, but there are %v", r.Hops())
	}
	silence(t, r)
	_ = r.Send(2, "hay")
	dropped(t, "nobody hears", r, 1)
	says(t, "nobody hears", r, 0)
}

func TestK7TheLinkAsksAgain(t *testing.T) {
	r := start(t, 1, 1)
	plug(t, r, 0, true)
	says(t, "at first", r, 0, asks(t, api.ConfReq, 1, 9))
	for id := 2; id < 12; id++ { // also when it had given up: then it begins again
		ticks(r, api.Wait-1)
		says(t, "it waits", r, 0)
		r.Tick()
		says(t, "it asks again", r, 0, asks(t, api.ConfReq, id, 9))
		isLink(t, r, 0, api.ReqSent)
	}
}

func TestK7ALinkThatWasEnded(t *testing.T) {
	r := start(t, 1, 1)
	meets(t, r, 0, 2)
	give(t, r, 0, packetOf(t, api.TermReq, 4))
	silence(t, r)
	ticks(r, api.Wait-1)
	isLink(t, r, 0, api.Stopping)
	says(t, "it waits", r, 0)
	r.Tick()
	isLink(t, r, 0, api.ReqSent)
	says(t, "it begins again", r, 0, asks(t, api.ConfReq, 2, 9))
}

func TestK7ALinkThatStoppedBetweenTicks(t *testing.T) {
	r := start(t, 1, 1)
	meets(t, r, 0, 2)
	give(t, r, 0, packetOf(t, api.TermReq, 4), packetOf(t, api.TermRsp, 5))
	isLink(t, r, 0, api.Stopped)
	says(t, "it stopped", r, 0, packetOf(t, api.TermRsp, 4))
	r.Tick()
	isLink(t, r, 0, api.ReqSent)
	says(t, "it begins again", r, 0, asks(t, api.ConfReq, 2, 9))
}

func TestK7WhoIsHeardForHowLong(t *testing.T) {
	r := start(t, 1, 1)
	meets(t, r, 0, 2)
	own := of(1, 2, to(2, 1))
	for left := api.Hold - 1; left > 0; left-- {
		r.Tick()
		isPeer(t, r, 0, hello.Peer{Who: 2, Both: true, Left: left})
		says(t, "heard", r, 0, helloOf(1, 2), stateOf(t, "S", own))
		knows(t, "heard", r, own)
	}
	r.Tick()
	isPeer(t, r, 0, nobody)
	isLink(t, r, 0, api.Opened)
	says(t, "heard no more", r, 0, helloOf(1, 0))
	knows(t, "heard no more", r, of(1, 3))
	r.Tick()
	says(t, "nobody", r, 0, helloOf(1, 0))
	give(t, r, 0, helloOf(2, 1))
	r.Tick()
	isPeer(t, r, 0, hello.Peer{Who: 2, Both: true, Left: api.Hold - 1})
}

func TestK7WhoHearsButIsntHeard(t *testing.T) {
	r := start(t, 1, 1)
	open(t, r, 0)
	for range 20 {
		give(t, r, 0, helloOf(2, 0), stateOf(t, "S", of(2, 3)))
		r.Tick()
		isPeer(t, r, 0, hello.Peer{Who: 2, Left: api.Hold - 1})
		says(t, "hellos alone", r, 0, helloOf(1, 2))
		knows(t, "hellos alone", r, of(1, 1))
	}
}

func TestK7PortsInOrder(t *testing.T) {
	r := start(t, 1, 1, 1, 1)
	for i, who := range []int{2, 3, 4} {
		meets(t, r, i, who)
	}
	elder := of(1, 4, to(2, 1), to(3, 1), to(4, 1))
	newer := of(1, 5, to(2, 1), to(4, 1))
	for range api.Hold - 1 {
		r.Tick()
		give(t, r, 0, helloOf(2, 1))
		give(t, r, 2, helloOf(4, 1))
	}
	silence(t, r)
	r.Tick()
	says(t, "ahead of the port where one is heard no more", r, 0, helloOf(1, 2), stateOf(t, "S", elder))
	says(t, "that port", r, 1, helloOf(1, 0))
	says(t, "behind it", r, 2, helloOf(1, 4), stateOf(t, "S", newer))
}

func TestK7OwedTillItIsHeard(t *testing.T) {
	r := start(t, 3, 1)
	meets(t, r, 0, 2)
	give(t, r, 0, stateOf(t, "S", of(6, 1)), stateOf(t, "S", of(1, 2)), helloOf(2, 0), helloOf(2, 3))
	silence(t, r)
	own := of(3, 4, to(2, 1))
	for range 3 {
		r.Tick()
		says(t, "all of them", r, 0, helloOf(3, 2), stateOf(t, "S", of(1, 2)), stateOf(t, "S", own), stateOf(t, "S", of(6, 1)))
		give(t, r, 0, helloOf(2, 3))
	}
	give(t, r, 0, stateOf(t, "A", own))
	r.Tick()
	says(t, "but one", r, 0, helloOf(3, 2), stateOf(t, "S", of(1, 2)), stateOf(t, "S", of(6, 1)))
}

func TestZ2ListsAreTheCallers(t *testing.T) {
	metrics := []int{5, 0}
	r := start(t, 1, metrics[:1]...)
	metrics[0] = 9
	meets(t, r, 0, 2)
	knows(t, "metrics are not kept", r, of(1, 2, to(2, 5)))
	if _, err := r.Link(1); err != api.ErrBound {
		t.Errorf("what stands behind the metrics was read")
	}
	l := r.States()
	l[0].Seq, l[0].Edges[0] = 77, to(6, 6)
	knows(t, "states are fresh", r, of(1, 2, to(2, 5)))

	_ = r.Send(1, "hay")
	in := r.Inbox()
	_ = r.Send(1, "corn")
	came(t, "the later one", r, api.Message{To: 1, Hops: 8, Text: "corn"})
	if in[0].Text != "hay" {
		t.Errorf("the inbox that was handed out is %v now", in)
	}
}

// Whatever bytes come, each call ends, and what is told of a router may be.
func TestZ1AnyBytes(t *testing.T) {
	d := die(10)
	letters := "LLHHSSAMMX"
	for range 300 {
		r := start(t, 1+d.n(6), 1+d.n(20), 1+d.n(20))
		open(t, r, 0)
		for range 40 {
			body := letters[d.n(len(letters)):][:1]
			for range d.n(12) {
				body += bytesOf(byte(d.n([]int{3, 8, 256}[d.n(3)])))
			}
			_ = r.Receive(d.n(2), framed(t, body))
			if d.n(6) == 0 {
				r.Tick()
			}
			if d.n(20) == 0 {
				_ = r.Plug(0, d.n(3) > 0)
			}
		}
		for _, s := range r.States() {
			if err := state.Check(s); err != nil {
				t.Errorf("it knows %v: %v", s, err)
			}
		}
		r.Hops()
	}
}

// die: numbers that look drawn, the same each time.
type die uint64

func (d *die) n(most int) int {
	*d = *d*6364136223846793005 + 1442695040888963407
	return int(uint64(*d>>33) % uint64(most))
}
