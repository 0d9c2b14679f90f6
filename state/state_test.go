package state

import (
	"math"
	"slices"
	"strings"
	"testing"

	"towpath/api"
)

type edge = api.Edge

func to(n, metric int) edge { return edge{To: n, Metric: metric} }

func of(owner, seq int, l ...edge) api.State {
	return api.State{Owner: owner, Seq: seq, Edges: l}
}

func same(a, b api.State) bool {
	return a.Owner == b.Owner && a.Seq == b.Seq && slices.Equal(a.Edges, b.Edges)
}

func many(n int, e edge) []edge { return slices.Repeat([]edge{e}, n) }

var cases = []struct {
	name string
	s    api.State
	err  error
	text string
}{
	{"two edges", of(1, 3, to(2, 5), to(3, 20)), nil, "\x01\x03\x00\x00\x02\x05\x03\x14"},
	{"no edges", of(6, 1), nil, "\x06\x01\x00\x00"},
	{"the lowest byte first", of(2, 0x030201, to(1, 1)), nil, "\x02\x01\x02\x03\x01\x01"},
	{"256", of(2, 256), nil, "\x02\x00\x01\x00"},
	{"65536", of(2, 65536), nil, "\x02\x00\x00\x01"},
	{"the greatest number", of(1, api.MaxSeq, to(6, api.MaxMetric)), nil, "\x01\x40\x42\x0f\x06\x14"},
	{"edges to all others", of(3, 9, to(1, 1), to(2, 2), to(4, 4), to(5, 5), to(6, 6)), nil, "\x03\x09\x00\x00\x01\x01\x02\x02\x04\x04\x05\x05\x06\x06"},
	{"falling metrics", of(1, 1, to(2, 9), to(3, 8)), nil, "\x01\x01\x00\x00\x02\x09\x03\x08"},

	{"owner 0", of(0, 1), api.ErrBound, ""},
	{"owner 7", of(7, 1), api.ErrBound, ""},
	{"owner 257", of(257, 1), api.ErrBound, ""},
	{"owner below 0", of(math.MinInt, 1), api.ErrBound, ""},
	{"number 0", of(1, 0), api.ErrBound, ""},
	{"number below 0", of(1, -1), api.ErrBound, ""},
	{"the number above all", of(1, api.MaxSeq+1), api.ErrBound, ""},
	{"number 2^24 and 1", of(1, 1<<24+1), api.ErrBound, ""},
	{"number beyond all", of(1, math.MaxInt), api.ErrBound, ""},
	{"seven edges", of(1, 1, many(7, to(2, 1))...), api.ErrMany, ""},
	{"to 0", of(1, 1, to(0, 1)), api.ErrBound, ""},
	{"to 7", of(1, 1, to(7, 1)), api.ErrBound, ""},
	{"to below 0", of(1, 1, to(math.MinInt, 1)), api.ErrBound, ""},
	{"to 258", of(1, 1, to(258, 1)), api.ErrBound, ""},
	{"metric 0", of(1, 1, to(2, 0)), api.ErrBound, ""},
	{"metric 21", of(1, 1, to(2, api.MaxMetric+1)), api.ErrBound, ""},
	{"metric below 0", of(1, 1, to(2, -1)), api.ErrBound, ""},
	{"metric 257", of(1, 1, to(2, 257)), api.ErrBound, ""},
	{"an edge to itself", of(2, 1, to(1, 1), to(2, 1)), api.ErrShape, ""},
	{"the only edge to itself", of(2, 1, to(2, 1)), api.ErrShape, ""},
	{"an edge twice", of(1, 1, to(2, 1), to(2, 1)), api.ErrShape, ""},
	{"an edge twice, with other metrics", of(1, 1, to(2, 1), to(2, 2)), api.ErrShape, ""},
	{"falling edges", of(1, 1, to(3, 1), to(2, 1)), api.ErrShape, ""},
	{"rising, then falling", of(1, 1, to(2, 1), to(5, 1), to(4, 1)), api.ErrShape, ""},

	{"the owner's bound ahead of too many", of(0, 1, many(7, to(2, 1))...), api.ErrBound, ""},
	{"the number's bound ahead of too many", of(1, 0, many(7, to(2, 1))...), api.ErrBound, ""},
	{"too many ahead of an edge's bound", of(1, 1, many(7, to(0, 1))...), api.ErrMany, ""},
	{"six aren't too many: an edge's bound", of(1, 1, many(6, to(0, 1))...), api.ErrBound, ""},
	{"six aren't too many: a shape", of(1, 1, many(6, to(2, 1))...), api.ErrShape, ""},
	{"an edge's bound ahead of its shape: itself", of(1, 1, to(1, 21)), api.ErrBound, ""},
	{"an edge's bound ahead of its shape: not above", of(1, 1, to(2, 1), to(2, 0)), api.ErrBound, ""},
	{"the first edge's fault: a bound", of(1, 1, to(2, 0), to(1, 1)), api.ErrBound, ""},
	{"the first edge's fault: a shape", of(1, 1, to(1, 1), to(2, 0)), api.ErrShape, ""},
}

func TestG1Check(t *testing.T) {
	for _, c := range cases {
		if err := Check(c.s); err != c.err {
			t.Errorf("%s: Check(%v) = %v, want %v", c.name, c.s, err, c.err)
		}
	}
}

func TestG2Bytes(t *testing.T) {
	for _, c := range cases {
		if s, err := Bytes(c.s); s != c.text || err != c.err {
			t.Errorf("%s: Bytes(%v) = %q, %v, want %q, %v", c.name, c.s, s, err, c.text, c.err)
		}
	}
}

func TestG2ParseWhatIsWritten(t *testing.T) {
	for _, c := range cases {
		if c.err != nil {
			continue
		}
		if s, err := Parse(c.text); err != nil || !same(s, c.s) {
			t.Errorf("%s: Parse(%q) = %v, %v, want %v", c.name, c.text, s, err, c.s)
		}
	}
}

func TestG2ParseWhatIsNoState(t *testing.T) {
	for name, s := range map[string]string{
		"nothing":              "",
		"one byte":             "\x01",
		"three bytes":          "\x01\x01\x00",
		"half an edge":         "\x01\x01\x00\x00\x02",
		"an edge and a half":   "\x01\x01\x00\x00\x02\x01\x03",
		"owner 0":              "\x00\x01\x00\x00",
		"owner 7":              "\x07\x01\x00\x00",
		"number 0":             "\x01\x00\x00\x00",
		"the number above all": "\x01\x41\x42\x0f",
		"all bits":             "\x01\xff\xff\xff",
		"to 0":                 "\x01\x01\x00\x00\x00\x01",
		"to 7":                 "\x01\x01\x00\x00\x07\x01",
		"metric 0":             "\x01\x01\x00\x00\x02\x00",
		"metric 21":            "\x01\x01\x00\x00\x02\x15",
		"an edge to itself":    "\x01\x01\x00\x00\x01\x01",
		"an edge twice":        "\x01\x01\x00\x00\x02\x01\x02\x01",
		"falling edges":        "\x01\x01\x00\x00\x03\x01\x02\x01",
		"six edges":            "\x01\x01\x00\x00\x02\x01\x03\x01\x04\x01\x05\x01\x06\x01\x07\x01",
		"seven edges":          "\x01\x01\x00\x00" + strings.Repeat("\x02\x01", 7),
		"two states":           "\x01\x01\x00\x00\x02\x01\x00\x00",
		"very long":            strings.Repeat("\x01", 100000),
	} {
		if x, err := Parse(s); err != api.ErrText || !same(x, api.State{}) {
			t.Errorf("%s: Parse(%q) = %v, %v, want ErrText", name, s[:min(len(s), 30)], x, err)
		}
	}
}

// What Parse takes is just what Bytes writes: each text that one byte in the place of another makes of a state's.
func TestW7StatesReadAndWritten(t *testing.T) {
	read := 0
	for _, c := range cases {
		for i := range len(c.text) {
			for b := range 256 {
				s := c.text[:i] + string([]byte{byte(b)}) + c.text[i+1:]
				x, err := Parse(s)
				if err != nil {
					continue
				}
				read++
				if back, err := Bytes(x); back != s || err != nil {
					t.Errorf("Bytes(Parse(%q)) = %q, %v", s, back, err)
				}
			}
		}
	}
	if read == 0 {
		t.Error("nothing was read")
	}
}

// rising: each one is newer than all ahead of it.
var rising = []api.State{
	of(1, 1),
	of(1, 1, to(2, 1)),
	of(1, 1, to(2, 1), to(3, 1)),
	of(1, 1, to(2, 1), to(3, 1), to(6, 20)),
	of(1, 1, to(2, 1), to(3, 2)),
	of(1, 1, to(2, 1), to(4, 1)),
	of(1, 1, to(2, 2)),
	of(1, 1, to(2, 20)),
	of(1, 1, to(3, 1)),
	of(1, 1, to(6, 20)),
	of(1, 2),
	of(1, 2, to(2, 1)),
	of(1, 255),
	of(1, 256),
	of(1, api.MaxSeq),
	of(1, api.MaxSeq, to(2, 1), to(3, 1)),
	of(1, api.MaxSeq, to(2, 3)),
}

func TestG3Newer(t *testing.T) {
	for i, a := range rising {
		for k, b := range rising {
			want := 0
			if i > k {
				want = 1
			}
			if i < k {
				want = -1
			}
			if got := Newer(a, b); got != want {
				t.Errorf("Newer(%v, %v) = %d, want %d", a, b, got, want)
			}
		}
	}
}

func TestG3NewerOfUnlikeOwners(t *testing.T) {
	for _, c := range []struct {
		a, b api.State
		want int
	}{
		{of(1, 4, to(3, 2)), of(2, 4, to(3, 2)), 0},
		{of(6, 4), of(2, 4), 0},
		{of(1, 5), of(2, 4, to(3, 2)), 1},
		{of(6, 4), of(2, 4, to(3, 2)), -1},
	} {
		if got := Newer(c.a, c.b); got != c.want {
			t.Errorf("Newer(%v, %v) = %d, want %d", c.a, c.b, got, c.want)
		}
	}
}

func TestG3Copy(t *testing.T) {
	for _, c := range cases { // also of those that may not be
		if got := Copy(c.s); !same(got, c.s) {
			t.Errorf("%s: Copy(%v) = %v", c.name, c.s, got)
		}
	}
	a := of(1, 2, to(2, 3), to(4, 5))
	b := Copy(a)
	b.Edges[0] = to(6, 6)
	if a.Edges[0] != to(2, 3) {
		t.Errorf("a copy shares memory with what it is of: %v", a)
	}
}

func TestZ2EdgesAreTheCallers(t *testing.T) {
	behind := []edge{to(2, 3), to(4, 5), to(0, 0)}
	s := api.State{Owner: 1, Seq: 2, Edges: behind[:2]}
	text, err := Bytes(s)
	if err != nil || Newer(s, of(1, 2, to(2, 3), to(4, 5))) != 0 || len(Copy(s).Edges) != 2 {
		t.Errorf("what stands behind a list was read: %q, %v", text, err)
	}
	if !slices.Equal(behind, []edge{to(2, 3), to(4, 5), to(0, 0)}) {
		t.Errorf("the list handed in is %v now", behind)
	}
	a, _ := Parse(text)
	b, _ := Parse(text)
	a.Edges[0].Metric = 9
	_ = append(a.Edges[:1], to(6, 6))
	if !same(b, s) {
		t.Errorf("two answers share memory: %v", b)
	}
}
