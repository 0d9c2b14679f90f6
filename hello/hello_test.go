package hello

import (
	"math"
	"strings"
	"testing"

	"towpath/api"
)

func from(n, seen int) api.Hello { return api.Hello{From: n, Seen: seen} }

var nobody Peer

func TestF1Bytes(t *testing.T) {
	for _, c := range []struct {
		name string
		h    api.Hello
		text string
		err  error
	}{
		{"two routers", from(2, 5), "\x02\x05", nil},
		{"the least", from(1, 0), "\x01\x00", nil},
		{"the greatest", from(6, 6), "\x06\x06", nil},
		{"who has heard itself", from(3, 3), "\x03\x03", nil},

		{"from 0", from(0, 1), "", api.ErrBound},
		{"from 7", from(7, 1), "", api.ErrBound},
		{"from below 0", from(-1, 1), "", api.ErrBound},
		{"from 257, whose lowest byte is 1", from(257, 1), "", api.ErrBound},
		{"from the least number", from(math.MinInt, 1), "", api.ErrBound},
		{"from the greatest number", from(math.MaxInt, 1), "", api.ErrBound},
		{"seen below 0", from(1, -1), "", api.ErrBound},
		{"seen 7", from(1, 7), "", api.ErrBound},
		{"seen 256, whose lowest byte is 0", from(1, 256), "", api.ErrBound},
		{"seen the least number", from(1, math.MinInt), "", api.ErrBound},
		{"seen the greatest number", from(1, math.MaxInt), "", api.ErrBound},
	} {
		if s, err := Bytes(c.h); s != c.text || err != c.err {
			t.Errorf("%s: Bytes(%v) = %q, %v, want %q, %v", c.name, c.h, s, err, c.text, c.err)
		}
	}
}

func TestF1ParseWhatIsNoHello(t *testing.T) {
	for name, s := range map[string]string{
		"nothing":                 "",
		"one byte":                "\x01",
		"three bytes":             "\x01\x02\x00",
		"two hellos":              "\x01\x02\x02\x01",
		"from 0":                  "\x00\x01",
		"from 7":                  "\x07\x01",
		"from 255":                "\xff\x01",
		"seen 7":                  "\x01\x07",
		"seen 255":                "\x01\xff",
		"digits":                  "12",
		"very long":               strings.Repeat("\x01", 100000),
		"a sign of several bytes": "ä",
	} {
		if h, err := Parse(s); err != api.ErrText || h != (api.Hello{}) {
			t.Errorf("%s: Parse(%q) = %v, %v, want ErrText", name, s[:min(len(s), 30)], h, err)
		}
	}
}

// What Parse takes is just what Bytes writes: all texts of two bytes.
func TestW7HellosReadAndWritten(t *testing.T) {
	read := 0
	for a := range 256 {
		for b := range 256 {
			s := string([]byte{byte(a), byte(b)})
			h, err := Parse(s)
			if err != nil {
				continue
			}
			read++
			if h != from(a, b) {
				t.Errorf("Parse(%q) = %v", s, h)
			}
			if back, err := Bytes(h); back != s || err != nil {
				t.Errorf("Bytes(Parse(%q)) = %q, %v", s, back, err)
			}
		}
	}
	if want := api.MaxRouters * (api.MaxRouters + 1); read != want {
		t.Errorf("%d texts are hellos, want %d", read, want)
	}
}

func TestF2Hear(t *testing.T) {
	befores := []Peer{nobody, {Who: 2, Both: true, Left: 1}, {Who: 5, Left: 3}, {Who: math.MaxInt, Both: true, Left: math.MinInt}}
	for _, c := range []struct {
		name string
		me   int
		h    api.Hello
		want Peer
	}{
		{"who has heard nobody", 1, from(2, 0), Peer{Who: 2, Left: api.Hold}},
		{"who has heard it", 1, from(2, 1), Peer{Who: 2, Both: true, Left: api.Hold}},
		{"who has heard another one", 1, from(2, 3), Peer{Who: 2, Left: api.Hold}},
		{"who has heard itself", 1, from(2, 2), Peer{Who: 2, Left: api.Hold}},
		{"itself", 1, from(1, 2), nobody},
		{"itself, heard by itself", 1, from(1, 1), nobody},
		{"itself, beyond all routers", 9, from(9, 9), nobody},
		{"numbers that no router has", -3, from(math.MaxInt, -3), Peer{Who: math.MaxInt, Both: true, Left: api.Hold}},
	} {
		for _, p := range befores { // whoever was heard before
			if got := p.Hear(c.me, c.h); got != c.want {
				t.Errorf("%s: %v.Hear(%d, %v) = %v, want %v", c.name, p, c.me, c.h, got, c.want)
			}
		}
	}
}

func TestF2Tick(t *testing.T) {
	for _, c := range []struct{ p, want Peer }{
		{nobody, nobody},
		{Peer{Who: 2, Both: true, Left: 4}, Peer{Who: 2, Both: true, Left: 3}},
		{Peer{Who: 3, Left: 2}, Peer{Who: 3, Left: 1}},
		{Peer{Who: 2, Both: true, Left: 1}, nobody},
		{Peer{Who: 2, Both: true, Left: 0}, nobody},
		{Peer{Who: 2, Both: true, Left: -1}, nobody},
		{Peer{Who: 2, Both: true, Left: math.MinInt}, nobody},
		{Peer{Who: 2, Both: true, Left: math.MaxInt}, Peer{Who: 2, Both: true, Left: math.MaxInt - 1}},
	} {
		if got := c.p.Tick(); got != c.want {
			t.Errorf("%v.Tick() = %v, want %v", c.p, got, c.want)
		}
	}
}

func TestF2HeardForSomeTicks(t *testing.T) {
	p := nobody.Hear(1, from(2, 1))
	for i := 1; i < api.Hold; i++ {
		if p = p.Tick(); p != (Peer{Who: 2, Both: true, Left: api.Hold - i}) {
			t.Errorf("behind %d ticks: %v", i, p)
		}
	}
	if again := p.Hear(1, from(2, 0)); again != (Peer{Who: 2, Left: api.Hold}) {
		t.Errorf("heard again by one who doesn't hear it any more: %v", again)
	}
	if p = p.Tick(); p != nobody {
		t.Errorf("behind %d ticks: %v, want nobody", api.Hold, p)
	}
}

func TestF2Says(t *testing.T) {
	for _, c := range []struct {
		p    Peer
		me   int
		want api.Hello
	}{
		{nobody, 4, from(4, 0)},
		{Peer{Who: 2, Left: 3}, 4, from(4, 2)},
		{Peer{Who: 6, Both: true, Left: 1}, 1, from(1, 6)},
		{Peer{Who: -7, Left: 1}, math.MinInt, from(math.MinInt, -7)},
	} {
		if got := c.p.Says(c.me); got != c.want {
			t.Errorf("%v.Says(%d) = %v, want %v", c.p, c.me, got, c.want)
		}
	}
}

// Two who say what they have heard come to hear each other both; who begins anew isn't heard both until it has heard.
func TestF2TwoHearEachOther(t *testing.T) {
	var a, b Peer // at the routers 1 and 2
	b = b.Hear(2, a.Says(1))
	a = a.Hear(1, b.Says(2))
	if b.Both || !a.Both {
		t.Errorf("who answers has heard, who began isn't known to: %v, %v", a, b)
	}
	b = b.Hear(2, a.Says(1))
	if !a.Both || !b.Both || a.Who != 2 || b.Who != 1 {
		t.Errorf("they don't hear each other: %v, %v", a, b)
	}
	b = b.Hear(2, nobody.Says(1))
	if b.Both || b.Who != 1 {
		t.Errorf("1 began anew, and is heard as %v", b)
	}
}
