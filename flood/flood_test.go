package flood

import (
	"math"
	"slices"
	"testing"

	"towpath/api"
	"towpath/state"
)

type edge = api.Edge

func to(n, metric int) edge { return edge{To: n, Metric: metric} }

func of(owner, seq int, l ...edge) api.State {
	return api.State{Owner: owner, Seq: seq, Edges: l}
}

func list(l ...api.State) []api.State { return l }

func same(a, b api.State) bool {
	return a.Owner == b.Owner && a.Seq == b.Seq && slices.Equal(a.Edges, b.Edges)
}

func sameAll(a, b []api.State) bool { return slices.EqualFunc(a, b, same) }

func start(t *testing.T, ports int) *Base {
	t.Helper()
	b, err := New(ports)
	if err != nil {
		t.Fatal(err)
	}
	return b
}

// knowing: a base of three ports that knows these, and owes nothing.
func knowing(t *testing.T, l ...api.State) *Base {
	t.Helper()
	b := start(t, api.MaxPorts)
	for _, s := range l {
		if err := b.Set(s); err != nil {
			t.Fatal(err)
		}
	}
	for port := range api.MaxPorts {
		b.Part(port)
	}
	return b
}

// has: it knows just these, and its ports owe just those.
func has(t *testing.T, what string, b *Base, known []api.State, owed ...[]api.State) {
	t.Helper()
	if got := b.States(); !sameAll(got, known) {
		t.Errorf("%s: it knows %v, want %v", what, got, known)
	}
	for port, want := range owed {
		if got := b.Owed(port); !sameAll(got, want) {
			t.Errorf("%s: port %d owes %v, want %v", what, port, got, want)
		}
	}
}

func take(t *testing.T, b *Base, port int, s api.State, want int) {
	t.Helper()
	if got, err := b.Take(port, s); got != want || err != nil {
		t.Errorf("Take(%d, %v) = %d, %v, want %d", port, s, got, err, want)
	}
}

func fine(t *testing.T, err error) {
	t.Helper()
	if err != nil {
		t.Error(err)
	}
}

// wrong: states that may not be.
var wrong = []struct {
	s   api.State
	err error
}{
	{of(0, 1), api.ErrBound},
	{of(7, 1), api.ErrBound},
	{of(1, 0), api.ErrBound},
	{of(1, api.MaxSeq+1), api.ErrBound},
	{of(1, math.MaxInt), api.ErrBound},
	{of(1, 9, slices.Repeat([]edge{to(2, 1)}, 7)...), api.ErrMany},
	{of(1, 9, to(2, 21)), api.ErrBound},
	{of(1, 9, to(1, 1)), api.ErrShape},
	{of(1, 9, to(3, 1), to(2, 1)), api.ErrShape},
}

var noPorts = []int{-1, 3, 4, math.MinInt, math.MaxInt}

func TestH1New(t *testing.T) {
	for _, ports := range []int{0, -1, api.MaxPorts + 1, math.MinInt, math.MaxInt} {
		if b, err := New(ports); b != nil || err != api.ErrBound {
			t.Errorf("New(%d) = %v, %v, want ErrBound", ports, b, err)
		}
	}
	for ports := 1; ports <= api.MaxPorts; ports++ {
		b := start(t, ports)
		has(t, "a new base", b, nil, nil, nil, nil)
		fine(t, b.Meet(ports-1))
		if err := b.Meet(ports); err != api.ErrBound {
			t.Errorf("a base of %d ports has a port %d: %v", ports, ports, err)
		}
	}
}

func TestH1StatesByRisingOwners(t *testing.T) {
	want := list(of(1, 1), of(2, 9), of(3, 2, to(1, 1)), of(4, 1), of(5, 7), of(6, 1, to(2, 3)))
	for range 20 { // however a map is gone through
		b := start(t, 2)
		for _, i := range []int{4, 0, 5, 2, 3, 1} {
			fine(t, b.Set(want[i]))
		}
		has(t, "six states", b, want, want, want)
	}
}

func TestH1Get(t *testing.T) {
	b := knowing(t, of(2, 5, to(3, 1)), of(6, 1))
	if s, ok := b.Get(2); !ok || !same(s, of(2, 5, to(3, 1))) {
		t.Errorf("Get(2) = %v, %v", s, ok)
	}
	if s, ok := b.Get(6); !ok || !same(s, of(6, 1)) {
		t.Errorf("Get(6) = %v, %v", s, ok)
	}
	for _, n := range []int{1, 3, 0, 7, -1, math.MinInt, math.MaxInt} {
		if s, ok := b.Get(n); ok || !same(s, api.State{}) {
			t.Errorf("Get(%d) = %v, %v, want none", n, s, ok)
		}
	}
}

func TestH1Set(t *testing.T) {
	b := start(t, 2)
	fine(t, b.Set(of(1, 5, to(2, 3))))
	has(t, "set", b, list(of(1, 5, to(2, 3))), list(of(1, 5, to(2, 3))), list(of(1, 5, to(2, 3))))
	b.Part(0)
	fine(t, b.Set(of(1, 4)))
	has(t, "set to an elder one", b, list(of(1, 4)), list(of(1, 4)), list(of(1, 4)))
	b.Part(0)
	b.Part(1)
	fine(t, b.Set(of(1, 4)))
	has(t, "set to the same", b, list(of(1, 4)), list(of(1, 4)), list(of(1, 4)))
	fine(t, b.Set(of(1, api.MaxSeq, to(6, 20))))
	has(t, "set to the newest", b, list(of(1, api.MaxSeq, to(6, 20))), list(of(1, api.MaxSeq, to(6, 20))), list(of(1, api.MaxSeq, to(6, 20))))
}

func TestH1OwedOfNoPort(t *testing.T) {
	b := start(t, api.MaxPorts)
	fine(t, b.Set(of(1, 1)))
	for _, port := range noPorts {
		if got := b.Owed(port); len(got) > 0 {
			t.Errorf("Owed(%d) = %v, want none", port, got)
		}
	}
}

// Whatever is refused changes nothing: known and owed stay as they were.
func TestH1H2H3WrongStates(t *testing.T) {
	known := list(of(1, 5, to(2, 1)), of(4, 2))
	b := knowing(t, known...)
	fine(t, b.Meet(1))
	for _, c := range wrong {
		if err := b.Set(c.s); err != c.err {
			t.Errorf("Set(%v) = %v, want %v", c.s, err, c.err)
		}
		if n, err := b.Take(1, c.s); n != 0 || err != c.err {
			t.Errorf("Take(1, %v) = %d, %v, want %v", c.s, n, err, c.err)
		}
		if err := b.Heard(1, c.s); err != c.err {
			t.Errorf("Heard(1, %v) = %v, want %v", c.s, err, c.err)
		}
	}
	has(t, "behind wrong states", b, known, nil, known, nil)
}

func TestH2H3WrongPorts(t *testing.T) {
	known := list(of(1, 5, to(2, 1)), of(4, 2))
	b := knowing(t, known...)
	fine(t, b.Meet(1))
	for _, port := range noPorts {
		// also ahead of what the state's own fault would be
		for _, s := range list(of(1, 9), of(1, 5, to(2, 1)), of(1, 1), of(2, 1), of(1, 9, to(1, 1))) {
			if n, err := b.Take(port, s); n != 0 || err != api.ErrBound {
				t.Errorf("Take(%d, %v) = %d, %v, want ErrBound", port, s, n, err)
			}
			if err := b.Heard(port, s); err != api.ErrBound {
				t.Errorf("Heard(%d, %v) = %v, want ErrBound", port, s, err)
			}
		}
		if err := b.Meet(port); err != api.ErrBound {
			t.Errorf("Meet(%d) = %v, want ErrBound", port, err)
		}
		b.Part(port)
	}
	has(t, "behind wrong ports", b, known, nil, known, nil)
}

func TestH2TakeWhatIsNew(t *testing.T) {
	b := knowing(t)
	first, later := of(4, 1, to(2, 7)), of(4, 2)
	take(t, b, 1, first, 1)
	has(t, "none was known", b, list(first), list(first), nil, list(first))
	take(t, b, 0, later, 1)
	has(t, "a newer one", b, list(later), nil, list(later), list(later))
	take(t, b, 1, of(4, 2, to(3, 1)), 1)
	has(t, "one with more edges", b, list(of(4, 2, to(3, 1))), list(of(4, 2, to(3, 1))), nil, list(of(4, 2, to(3, 1))))
	take(t, b, 1, of(2, 1), 1)
	both := list(of(2, 1), of(4, 2, to(3, 1)))
	has(t, "one of another owner", b, both, both, nil, both)
}

func TestH2TakeWhatIsKnown(t *testing.T) {
	known := list(of(3, 4, to(1, 2)), of(5, 1))
	b := knowing(t, known...)
	for port := range api.MaxPorts {
		fine(t, b.Meet(port))
	}
	take(t, b, 1, known[0], 0)
	has(t, "the same", b, known, known, list(known[1]), known)
	take(t, b, 1, known[0], 0)
	has(t, "the same once more", b, known, known, list(known[1]), known)
	b.Part(0)
	take(t, b, 1, known[0], 0)
	has(t, "the same, that others don't owe", b, known, nil, list(known[1]), known)
}

func TestH2TakeWhatIsElder(t *testing.T) {
	known := list(of(3, 4, to(1, 2)), of(5, 1))
	b := knowing(t, known...)
	take(t, b, 2, of(3, 3, to(6, 20)), -1)
	has(t, "an elder one", b, known, nil, nil, list(known[0]))
	take(t, b, 0, of(3, 4), -1)
	has(t, "one with fewer edges", b, known, list(known[0]), nil, list(known[0]))
	take(t, b, 2, of(3, 4, to(1, 1)), -1)
	has(t, "one that is owed already", b, known, list(known[0]), nil, list(known[0]))
}

func TestH3Heard(t *testing.T) {
	known := list(of(3, 4, to(1, 2)), of(5, 1))
	for _, c := range []struct {
		name string
		s    api.State
		owed []api.State
	}{
		{"the same", of(3, 4, to(1, 2)), list(known[1])},
		{"a newer one", of(3, 5), list(known[1])},
		{"one with more edges", of(3, 4, to(1, 2), to(2, 1)), list(known[1])},
		{"an elder one", of(3, 3, to(6, 20)), known},
		{"one with fewer edges", of(3, 4), known},
		{"one of whom nothing is known", of(1, 9), known},
		{"the other one", of(5, 1), list(known[0])},
	} {
		b := knowing(t, known...)
		for port := range api.MaxPorts {
			fine(t, b.Meet(port))
		}
		fine(t, b.Heard(1, c.s))
		has(t, c.name, b, known, known, c.owed, known)
		fine(t, b.Heard(1, c.s))
		has(t, c.name+", once more", b, known, known, c.owed, known)
	}
	b := knowing(t, known...)
	fine(t, b.Heard(0, of(3, 3)))
	has(t, "an elder one of what isn't owed", b, known, nil, nil, nil)
}

func TestH3MeetAndPart(t *testing.T) {
	known := list(of(1, 2), of(3, 4, to(1, 2)), of(6, 1))
	b := knowing(t, known...)
	fine(t, b.Meet(1))
	has(t, "met", b, known, nil, known, nil)
	fine(t, b.Heard(1, known[0]))
	fine(t, b.Meet(2))
	has(t, "met at another port", b, known, nil, known[1:], known)
	fine(t, b.Meet(1))
	has(t, "met again", b, known, nil, known, known)
	b.Part(1)
	has(t, "parted", b, known, nil, nil, known)
	b.Part(1)
	has(t, "parted twice", b, known, nil, nil, known)
	take(t, b, 2, of(1, 3), 1)
	now := list(of(1, 3), known[1], known[2])
	has(t, "what comes then is owed", b, now, list(of(1, 3)), list(of(1, 3)), list(known[1], known[2]))

	none := knowing(t)
	fine(t, none.Meet(0))
	none.Part(2)
	has(t, "met by who knows nothing", none, nil, nil, nil, nil)
}

// orders of so many things: all there are.
func orders(many int) [][]int {
	if many == 0 {
		return [][]int{nil}
	}
	var out [][]int
	for _, l := range orders(many - 1) {
		for i := range many {
			out = append(out, slices.Insert(slices.Clone(l), i, many-1))
		}
	}
	return out
}

func TestW5TheNewestInWhicheverOrder(t *testing.T) {
	told := list(of(1, 1), of(1, 2, to(2, 9)), of(1, 2, to(3, 1)), of(1, 2, to(3, 1), to(4, 1)), of(2, 7, to(1, 1)), of(2, 6, to(1, 2)))
	want := list(told[3], told[4])
	for _, order := range orders(len(told)) {
		b := start(t, api.MaxPorts)
		for n, i := range order {
			known, ok := b.Get(told[i].Owner)
			expect := 1
			if ok {
				expect = state.Newer(told[i], known)
			}
			take(t, b, n%api.MaxPorts, told[i], expect)
		}
		has(t, "told in some order", b, want)
	}
}

// tell what a port owes to the other end; lost: which of what goes over the cable doesn't come there.
func tell(t *testing.T, from *Base, port int, to *Base, at int, lost func() bool) {
	t.Helper()
	for _, s := range from.Owed(port) {
		if lost() {
			continue
		}
		n, err := to.Take(at, s)
		fine(t, err)
		if n >= 0 && !lost() { // it is put back, unless it is elder
			fine(t, from.Heard(port, s))
		}
	}
}

func TestW5TwoComeToKnowTheSame(t *testing.T) {
	mine := list(of(1, 3, to(2, 1)), of(2, 4), of(4, 1), of(5, 2, to(6, 3)))
	yours := list(of(1, 2, to(3, 1)), of(2, 4, to(6, 1)), of(3, 9), of(5, 2, to(6, 3)))
	want := list(mine[0], yours[1], yours[2], mine[2], mine[3])
	for every := 1; every < 6; every++ { // each so manieth is lost, until nothing more is
		a, b := knowing(t, mine...), knowing(t, yours...)
		fine(t, a.Meet(1))
		fine(t, b.Meet(0))
		gone := 0
		lost := func() bool { gone++; return gone < 30 && gone%every == 0 }
		for range 10 {
			tell(t, a, 1, b, 0, lost)
			tell(t, b, 0, a, 1, lost)
		}
		has(t, "one", a, want)
		has(t, "the other", b, want)
		if len(a.Owed(1))+len(b.Owed(0)) > 0 {
			t.Errorf("they still owe %v and %v", a.Owed(1), b.Owed(0))
		}
	}
}

func TestW5AlongARow(t *testing.T) {
	a, b, c := knowing(t, of(1, 1, to(2, 5))), knowing(t, of(2, 1)), knowing(t, of(3, 8, to(2, 1)))
	want := list(of(1, 1, to(2, 5)), of(2, 1), of(3, 8, to(2, 1)))
	fine(t, a.Meet(0))
	fine(t, b.Meet(0))
	fine(t, b.Meet(1))
	fine(t, c.Meet(2))
	lost := func() bool { return false }
	for range 3 {
		tell(t, a, 0, b, 0, lost)
		tell(t, b, 0, a, 0, lost)
		tell(t, b, 1, c, 2, lost)
		tell(t, c, 2, b, 1, lost)
	}
	for i, base := range []*Base{a, b, c} {
		has(t, "along a row", base, want)
		if i == 1 {
			has(t, "the middle one", base, want, nil, nil)
		}
	}
}

func TestZ2StatesAreTheCallers(t *testing.T) {
	edges := []edge{to(2, 1), to(3, 1), to(0, 0)}
	given := api.State{Owner: 1, Seq: 1, Edges: edges[:2]}
	want := list(of(1, 1, to(2, 1), to(3, 1)))
	set, taken := start(t, 2), start(t, 2)
	fine(t, set.Set(given))
	take(t, taken, 0, given, 1)
	if edges[2] != to(0, 0) {
		t.Errorf("the list handed in is %v now", edges)
	}
	edges[0] = to(6, 6)
	has(t, "what was handed to Set is written into", set, want, want, want)
	has(t, "what was handed to Take is written into", taken, want, nil, want)

	spoil := func(l ...api.State) {
		for _, s := range l {
			s.Edges[1] = to(5, 5)
			_ = append(s.Edges[:1], to(6, 6))
		}
		clear(l)
	}
	got, _ := set.Get(1)
	spoil(got)
	spoil(set.States()...)
	spoil(set.Owed(0)...)
	has(t, "what came out is written into", set, want, want, want)
}

func TestZ2BasesApart(t *testing.T) {
	a, b := start(t, 2), start(t, 2)
	fine(t, a.Set(of(1, 1)))
	has(t, "the one", a, list(of(1, 1)), list(of(1, 1)), list(of(1, 1)))
	has(t, "the other", b, nil, nil, nil)
}
