package ways

import (
	"math"
	"slices"
	"testing"

	"towpath/api"
)

type edge = api.Edge

func to(n, metric int) edge { return edge{To: n, Metric: metric} }

func hop(n, far, next int) api.Hop { return api.Hop{To: n, Far: far, Next: next} }

func of(owner int, l ...edge) api.State { return api.State{Owner: owner, Seq: 1, Edges: l} }

func list(l ...api.State) []api.State { return l }

// line: six routers in a row, by rising numbers; an edge up costs its lower end, an edge down 10 more.
func line() []api.State {
	return list(
		of(1, to(2, 1)),
		of(2, to(1, 11), to(3, 2)),
		of(3, to(2, 12), to(4, 3)),
		of(4, to(3, 13), to(5, 4)),
		of(5, to(4, 14), to(6, 5)),
		of(6, to(5, 15)))
}

// barn: the net of the document's session.
func barn() []api.State {
	return list(of(1, to(2, 5), to(3, 20)), of(2, to(1, 5), to(3, 5)), of(3, to(1, 20), to(2, 5), to(4, 2)), of(4, to(3, 2)))
}

func check(t *testing.T, what string, l []api.State, root int, want ...api.Hop) {
	t.Helper()
	if got := Hops(l, root); !slices.Equal(got, want) {
		t.Errorf("%s: Hops(%v, %d) = %v, want %v", what, l, root, got, want)
	}
}

func TestI1BothTellAnEdge(t *testing.T) {
	check(t, "both", list(of(1, to(2, 3)), of(2, to(1, 3))), 1, hop(2, 3, 2))
	check(t, "the first alone", list(of(1, to(2, 3)), of(2)), 1)
	check(t, "the first alone, from the other one", list(of(1, to(2, 3)), of(2)), 2)
	check(t, "the other one alone", list(of(1), of(2, to(1, 3))), 1)
	check(t, "the other one alone, from there", list(of(1), of(2, to(1, 3))), 2)
	check(t, "no state of the other one", list(of(1, to(2, 3))), 1)
	check(t, "no state of the first one", list(of(2, to(1, 3))), 1)
	check(t, "back to another one", list(of(1, to(2, 3)), of(2, to(3, 3)), of(3, to(2, 3))), 1)
	check(t, "one alone tells the short way", list(of(1, to(2, 9), to(3, 1)), of(2, to(1, 9), to(3, 1)), of(3, to(2, 1))), 1, hop(2, 9, 2), hop(3, 10, 2))
	check(t, "one alone tells the edge far off", list(of(1, to(2, 1)), of(2, to(1, 1), to(3, 1)), of(3, to(4, 1)), of(4, to(3, 1))), 1, hop(2, 1, 2))
}

func TestI1AnEdgeCostsWhatItsOwnerTells(t *testing.T) {
	l := list(of(1, to(2, 3)), of(2, to(1, 8)))
	check(t, "there", l, 1, hop(2, 3, 2))
	check(t, "back", l, 2, hop(1, 8, 1))
	check(t, "the dearest, the cheapest", list(of(1, to(2, api.MaxMetric)), of(2, to(1, 1))), 1, hop(2, 20, 2))

	round := list(of(1, to(2, 1), to(3, 9)), of(2, to(1, 9), to(3, 1)), of(3, to(1, 1), to(2, 9)))
	check(t, "cheap one way round", round, 1, hop(2, 1, 2), hop(3, 2, 2))
	check(t, "cheap one way round, from 2", round, 2, hop(1, 2, 3), hop(3, 1, 3))
	check(t, "cheap one way round, from 3", round, 3, hop(1, 1, 1), hop(2, 2, 1))
}

func TestI1NeitherOrderNorSeqIsAsked(t *testing.T) {
	l := barn()
	slices.Reverse(l)
	l[0].Seq, l[1].Seq, l[2].Seq = api.MaxSeq, 7, 256
	check(t, "falling owners", l, 1, hop(2, 5, 2), hop(3, 10, 2), hop(4, 12, 2))
}

func TestI2TheDocumentsSession(t *testing.T) {
	check(t, "from 1", barn(), 1, hop(2, 5, 2), hop(3, 10, 2), hop(4, 12, 2))
	check(t, "from 4", barn(), 4, hop(1, 12, 3), hop(2, 7, 3), hop(3, 2, 3))
	drawn := list(of(1, to(2, 5), to(3, 20)), of(2, to(1, 5)), of(3, to(1, 20), to(4, 2)), of(4, to(3, 2)))
	check(t, "drawn, from 1", drawn, 1, hop(2, 5, 2), hop(3, 20, 3), hop(4, 22, 3))
	check(t, "drawn, from 3", drawn, 3, hop(1, 20, 1), hop(2, 25, 1), hop(4, 2, 4))
}

func TestI2WaysOfAllLengths(t *testing.T) {
	check(t, "up", line(), 1, hop(2, 1, 2), hop(3, 3, 2), hop(4, 6, 2), hop(5, 10, 2), hop(6, 15, 2))
	check(t, "down", line(), 6, hop(1, 65, 5), hop(2, 54, 5), hop(3, 42, 5), hop(4, 29, 5), hop(5, 15, 5))
	check(t, "from within", line(), 3, hop(1, 23, 2), hop(2, 12, 2), hop(4, 3, 4), hop(5, 7, 4), hop(6, 12, 4))

	var dear []api.State
	for n := range api.MaxRouters {
		s := of(n + 1)
		if n > 0 {
			s.Edges = append(s.Edges, to(n, api.MaxMetric))
		}
		if n+2 <= api.MaxRouters {
			s.Edges = append(s.Edges, to(n+2, api.MaxMetric))
		}
		dear = append(dear, s)
	}
	check(t, "the farthest", dear, 1, hop(2, 20, 2), hop(3, 40, 2), hop(4, 60, 2), hop(5, 80, 2), hop(6, 100, 2))
}

// The way that costs least has five edges, and those with fewer are found ahead of it.
func TestI2ManyCheapEdges(t *testing.T) {
	l := list(
		of(1, to(2, 20), to(3, 16), to(4, 12), to(5, 8), to(6, 1)),
		of(2, to(1, 20), to(3, 1)),
		of(3, to(1, 16), to(2, 1), to(4, 1)),
		of(4, to(1, 12), to(3, 1), to(5, 1)),
		of(5, to(1, 8), to(4, 1), to(6, 1)),
		of(6, to(1, 1), to(5, 1)))
	check(t, "all by 6", l, 1, hop(2, 5, 6), hop(3, 4, 6), hop(4, 3, 6), hop(5, 2, 6), hop(6, 1, 6))
}

func TestI2TheLeastFirstOneOfSeveral(t *testing.T) {
	square := list(of(1, to(2, 2), to(3, 2)), of(2, to(1, 2), to(4, 2)), of(3, to(1, 2), to(4, 2)), of(4, to(2, 2), to(3, 2)))
	check(t, "a square", square, 1, hop(2, 2, 2), hop(3, 2, 3), hop(4, 4, 2))
	check(t, "a square, from 4", square, 4, hop(1, 4, 2), hop(2, 2, 2), hop(3, 2, 3))
	check(t, "the straight way is the least one", list(of(1, to(2, 4), to(3, 2)), of(2, to(1, 4), to(3, 2)), of(3, to(1, 2), to(2, 2))), 1, hop(2, 4, 2), hop(3, 2, 3))
	check(t, "the straight way isn't", list(of(1, to(2, 2), to(3, 4)), of(2, to(1, 2), to(3, 2)), of(3, to(1, 4), to(2, 2))), 1, hop(2, 2, 2), hop(3, 4, 2))
	check(t, "the nearer first one isn't the least", list(of(1, to(2, 3), to(3, 1)), of(2, to(1, 3), to(4, 1)), of(3, to(1, 1), to(4, 3)), of(4, to(2, 1), to(3, 3))), 1, hop(2, 3, 2), hop(3, 1, 3), hop(4, 4, 2))
	check(t, "what costs less goes ahead of the least one", list(of(1, to(2, 3), to(3, 2)), of(2, to(1, 3), to(4, 2)), of(3, to(1, 2), to(4, 2)), of(4, to(2, 2), to(3, 2))), 1, hop(2, 3, 2), hop(3, 2, 3), hop(4, 4, 3))
	check(t, "only the first one is asked for, and more edges do not matter", list(
		of(1, to(2, 1), to(3, 1)),
		of(2, to(1, 1), to(5, 1)),
		of(3, to(1, 1), to(4, 3)),
		of(4, to(3, 3), to(6, 1)),
		of(5, to(2, 1), to(6, 3)),
		of(6, to(4, 1), to(5, 3))), 1, hop(2, 1, 2), hop(3, 1, 3), hop(4, 4, 3), hop(5, 2, 2), hop(6, 5, 2))
	check(t, "the least one is found late, and told on", list(
		of(1, to(2, 1), to(3, 4)),
		of(2, to(1, 1), to(5, 1)),
		of(3, to(1, 4), to(6, 2)),
		of(4, to(6, 1)),
		of(5, to(2, 1), to(6, 4)),
		of(6, to(3, 2), to(4, 1), to(5, 4))), 1, hop(2, 1, 2), hop(3, 4, 3), hop(4, 7, 2), hop(5, 2, 2), hop(6, 6, 2))
}

func TestI2RootsThatAreNone(t *testing.T) {
	for _, root := range []int{0, -1, api.MaxRouters + 1, api.MaxRouters + 2, 257, math.MinInt, math.MaxInt} {
		check(t, "no such router", line(), root)
		check(t, "no such router, no states", nil, root)
	}
	check(t, "the least router", line()[:2], 1, hop(2, 1, 2))
	check(t, "the greatest router", line()[4:], api.MaxRouters, hop(5, 15, 5))
}

func TestI2ARootWithoutAState(t *testing.T) {
	for root := 1; root <= api.MaxRouters; root++ {
		check(t, "no states", nil, root)
		check(t, "an empty list", list(), root)
	}
	check(t, "others have edges to it", line()[1:], 1)
	check(t, "others have none to it", line()[:4], 6)
}

func TestI2RoutersToWhichNothingLeads(t *testing.T) {
	check(t, "alone", list(of(3)), 3)
	apart := list(of(1, to(2, 1)), of(2, to(1, 1)), of(3), of(4, to(5, 1)), of(5, to(4, 1), to(6, 1)), of(6, to(5, 1)))
	check(t, "apart, from 1", apart, 1, hop(2, 1, 2))
	check(t, "apart, from 3", apart, 3)
	check(t, "apart, from 5", apart, 5, hop(4, 1, 4), hop(6, 1, 6))
	l := line()
	check(t, "without a state between", append(l[:2], l[3:]...), 1, hop(2, 1, 2))
}

func TestI2To(t *testing.T) {
	l := []api.Hop{hop(2, 5, 2), hop(4, 12, 3), hop(4, 1, 4), hop(6, 0, 0), hop(0, 7, 7), hop(-1, 8, 8), hop(300, 9, 9)}
	for _, c := range []struct {
		n    int
		want api.Hop
	}{{2, hop(2, 5, 2)}, {4, hop(4, 12, 3)}, {6, hop(6, 0, 0)}, {0, hop(0, 7, 7)}, {-1, hop(-1, 8, 8)}, {300, hop(300, 9, 9)}} {
		if got, ok := To(l, c.n); got != c.want || !ok {
			t.Errorf("To(%v, %d) = %v, %v, want %v", l, c.n, got, ok, c.want)
		}
	}
}

func TestI2ToWhereNoHopLeads(t *testing.T) {
	for _, l := range [][]api.Hop{nil, {}, {hop(2, 5, 3)}, Hops(barn(), 1)} {
		for _, n := range []int{1, 5, 6, 7, 12, 0, -2, math.MinInt, math.MaxInt} {
			if got, ok := To(l, n); got != (api.Hop{}) || ok {
				t.Errorf("To(%v, %d) = %v, %v, want none", l, n, got, ok)
			}
		}
	}
}

// die: numbers that look drawn, the same each time.
type die uint64

func (d *die) n(most int) int {
	*d = *d*6364136223846793005 + 1442695040888963407
	return int(uint64(*d>>33) % uint64(most))
}

// drawn states: one of so many has each edge, metrics are from 1 to most.
func drawn(d *die, few, most int) []api.State {
	var l []api.State
	for a := 1; a <= api.MaxRouters; a++ {
		s := of(a)
		for b := 1; b <= api.MaxRouters; b++ {
			if a != b && d.n(few) > 0 {
				s.Edges = append(s.Edges, to(b, 1+d.n(most)))
			}
		}
		if d.n(12) > 0 {
			l = append(l, s)
		}
	}
	return l
}

// cost of the edge from a to b, as I1 has it.
func cost(l []api.State, a, b int) (int, bool) {
	there, back := 0, 0
	for _, s := range l {
		for _, e := range s.Edges {
			if s.Owner == a && e.To == b {
				there = e.Metric
			}
			if s.Owner == b && e.To == a {
				back = e.Metric
			}
		}
	}
	return there, there > 0 && back > 0
}

// walk all ways on from the end of one, nowhere twice, and keep the best hop to each router.
func walk(l []api.State, way []int, far int, best map[int]api.Hop) {
	at := way[len(way)-1]
	for n := 1; n <= api.MaxRouters; n++ {
		c, ok := cost(l, at, n)
		if !ok || slices.Contains(way, n) {
			continue
		}
		on := append(slices.Clone(way), n)
		h, old := hop(n, far+c, on[1]), best[n]
		if old == (api.Hop{}) || h.Far < old.Far || h.Far == old.Far && h.Next < old.Next {
			best[n] = h
		}
		walk(l, on, far+c, best)
	}
}

func TestI2AgainstAllWays(t *testing.T) {
	d := die(9)
	for i := range 300 {
		l := drawn(&d, 2+i%3, 1+i%5*4)
		for root := 1; root <= api.MaxRouters; root++ {
			best := map[int]api.Hop{}
			walk(l, []int{root}, 0, best)
			var want []api.Hop
			for n := 1; n <= api.MaxRouters; n++ {
				if h, ok := best[n]; ok {
					want = append(want, h)
				}
			}
			check(t, "against all ways", l, root, want...)
		}
	}
}

// follow the hops from next to next; what the edges on that way cost.
func follow(t *testing.T, l []api.State, from, n int) int {
	t.Helper()
	far := 0
	been := []int{from}
	for at := from; at != n; {
		h, ok := To(Hops(l, at), n)
		c, is := cost(l, at, h.Next)
		if !ok || !is || slices.Contains(been, h.Next) {
			t.Errorf("from %d to %d over %v: %d goes on to %d in %v", from, n, l, at, h.Next, been)
			return far
		}
		far += c
		at = h.Next
		been = append(been, at)
	}
	return far
}

func TestW6FromNextToNext(t *testing.T) {
	d := die(6)
	followed := 0
	for i := range 200 {
		l := drawn(&d, 2+i%3, 1+i%4)
		for from := 1; from <= api.MaxRouters; from++ {
			for _, h := range Hops(l, from) {
				followed++
				if far := follow(t, l, from, h.To); far != h.Far {
					t.Errorf("from %d over %v: %v is told, and it is %d", from, l, h, far)
				}
			}
		}
	}
	if followed < 1000 {
		t.Errorf("only %d ways were followed", followed)
	}
}

func TestW6NoWayIsShorter(t *testing.T) {
	d := die(66)
	for i := range 200 {
		l := drawn(&d, 2+i%3, 1+i%api.MaxMetric)
		for from := 1; from <= api.MaxRouters; from++ {
			hops := append(Hops(l, from), api.Hop{To: from})
			for _, h := range hops {
				for n := 1; n <= api.MaxRouters; n++ {
					c, is := cost(l, h.To, n)
					on, ok := To(hops, n)
					if is && (!ok || on.Far > h.Far+c) {
						t.Errorf("from %d over %v: %v, and %d on to %d, but %v is told", from, l, h, c, n, on)
					}
				}
			}
		}
	}
}

// Of such lists nothing is said but that the call ends.
func TestZ1ListsThatMayNotBe(t *testing.T) {
	wrong := []int{math.MinInt, -1, 0, 1, 2, 6, 7, 21, 256, math.MaxInt}
	for _, owner := range wrong {
		for _, other := range wrong {
			for _, metric := range wrong {
				l := list(of(owner, to(other, metric), to(owner, metric)), of(other, to(owner, metric), to(1, metric)), of(1, to(2, 1)), of(1, to(2, 3)), of(2, to(1, 1)))
				for _, root := range wrong {
					Hops(l, root)
				}
			}
		}
	}
	Hops(slices.Repeat(barn(), 1000), 1)
}

func TestZ2ListsAreTheCallers(t *testing.T) {
	edges := []edge{to(2, 5), to(3, 20), to(4, 1)}
	l := append(barn(), of(5, to(1, 1)))
	l[0].Edges = edges[:2]
	l[3].Edges = append(l[3].Edges, to(5, 1))[:1]
	check(t, "what stands behind lists isn't read", l[:4], 1, hop(2, 5, 2), hop(3, 10, 2), hop(4, 12, 2))
	if !slices.Equal(edges, []edge{to(2, 5), to(3, 20), to(4, 1)}) || l[4].Owner != 5 {
		t.Errorf("the lists handed in are %v, %v now", edges, l)
	}

	hops := Hops(l[:4], 1)
	if _, ok := To(hops[:2], 4); ok {
		t.Errorf("what stands behind a list of hops was read")
	}
	again := Hops(l[:4], 1)
	for i := range hops {
		hops[i] = api.Hop{}
	}
	if want := []api.Hop{hop(2, 5, 2), hop(3, 10, 2), hop(4, 12, 2)}; !slices.Equal(again, want) {
		t.Errorf("two answers share memory: %v", again)
	}
}
