package link

import (
	"math"
	"reflect"
	"slices"
	"testing"

	"towpath/api"
	"towpath/auto"
)

const (
	ownSize  = 90
	ownMagic = 7
	came     = 200 // the number of packets from the other end: none that the end has of its own here
)

type option = api.Option

func opt(kind, n int) option { return option{Kind: kind, N: n} }

func pack(code, id int, l ...option) api.Packet {
	return api.Packet{Code: code, ID: id, Options: l}
}

// asks: what an end asks at first.
func asks(id int) api.Packet {
	return pack(api.ConfReq, id, opt(api.Size, ownSize), opt(api.Magic, ownMagic))
}

// acks: the answer that agrees with it.
func acks(id int) api.Packet {
	return pack(api.ConfAck, id, opt(api.Size, ownSize), opt(api.Magic, ownMagic))
}

var (
	good = pack(api.ConfReq, came, opt(api.Size, 50), opt(api.Magic, 9))
	bad  = pack(api.ConfReq, came, opt(api.Size, 39), opt(api.Magic, 9))
)

func samePackets(a, b []api.Packet) bool {
	return slices.EqualFunc(a, b, func(x, y api.Packet) bool {
		return x.Code == y.Code && x.ID == y.ID && slices.Equal(x.Options, y.Options)
	})
}

func start(t *testing.T) *Link {
	t.Helper()
	l, err := New(ownSize, ownMagic)
	if err != nil {
		t.Fatal(err)
	}
	return l
}

// do events that come.
func do(t *testing.T, l *Link, events ...int) {
	t.Helper()
	for _, e := range events {
		if err := l.Do(e); err != nil {
			t.Fatalf("Do(%d): %v", e, err)
		}
	}
}

// take packets that come at the right time.
func take(t *testing.T, l *Link, packets ...api.Packet) {
	t.Helper()
	for _, p := range packets {
		if err := l.Take(p); err != nil {
			t.Fatalf("Take(%v): %v", p, err)
		}
	}
}

func ticks(l *Link, many int) {
	for range many {
		l.Tick()
	}
}

// says: it is in that state, the other end takes that size, and it said just that.
func says(t *testing.T, l *Link, state, size int, want ...api.Packet) {
	t.Helper()
	if l.State() != state || l.Size() != size {
		t.Errorf("state %d, size %d, want %d and %d", l.State(), l.Size(), state, size)
	}
	if got := l.Out(); !samePackets(got, want) {
		t.Errorf("it said %v, want %v", got, want)
	}
}

// at: an end in a state, that has nothing to say any more, with the number of what it asked last.
func at(t *testing.T, state int) (*Link, int) {
	t.Helper()
	l := start(t)
	own := 1
	switch state {
	case api.Initial:
		own = 0
	case api.Starting:
		do(t, l, api.Open)
		own = 0
	case api.Closed:
		do(t, l, api.Up)
		own = 0
	case api.Stopped:
		do(t, l, api.Open, api.Up)
		ticks(l, api.MaxConf*api.Wait)
		own = api.MaxConf
	default:
		do(t, l, api.Open, api.Up)
	}
	switch state {
	case api.Closing:
		do(t, l, api.Close)
		own = 2
	case api.Stopping:
		do(t, l, api.Close, api.Open)
		own = 2
	case api.AckRcvd:
		take(t, l, acks(1))
	case api.AckSent:
		take(t, l, good)
	case api.Opened:
		take(t, l, good, acks(1))
	}
	if l.State() != state {
		t.Fatalf("it is in %d, not in %d", l.State(), state)
	}
	l.Out()
	return l, own
}

func TestE1New(t *testing.T) {
	for _, c := range [][2]int{{40, 1}, {255, 255}, {90, 7}} {
		l, err := New(c[0], c[1])
		if err != nil || l == nil {
			t.Fatalf("New%v: %v", c, err)
		}
		says(t, l, api.Initial, api.MostSize)
		do(t, l, api.Open, api.Up)
		says(t, l, api.ReqSent, api.MostSize, pack(api.ConfReq, 1, opt(api.Size, c[0]), opt(api.Magic, c[1])))
	}
	for _, c := range [][2]int{{39, 1}, {256, 1}, {90, 0}, {90, 256}, {-1, -1}, {math.MaxInt, 1}, {90, math.MinInt}} {
		if l, err := New(c[0], c[1]); l != nil || err != api.ErrBound {
			t.Errorf("New%v = %v, %v, want %v", c, l, err, api.ErrBound)
		}
	}
}

func TestE1OutSinceItWasAskedLast(t *testing.T) {
	l := start(t)
	do(t, l, api.Open, api.Up)
	take(t, l, good, bad)
	says(t, l, api.ReqSent, 50, asks(1), pack(api.ConfAck, came, good.Options...), pack(api.ConfNak, came, opt(api.Size, 40)))
	says(t, l, api.ReqSent, 50)
	ticks(l, api.Wait)
	says(t, l, api.ReqSent, 50, asks(2))
	says(t, l, api.ReqSent, 50)
}

func TestE1EndsAreApart(t *testing.T) {
	a, b := start(t), start(t)
	do(t, a, api.Open, api.Up)
	says(t, b, api.Initial, api.MostSize)
	says(t, a, api.ReqSent, api.MostSize, asks(1))
}

func TestE2DoOutOfBounds(t *testing.T) {
	for s := api.Initial; s <= api.Opened; s++ {
		l, _ := at(t, s)
		before := *l
		for _, e := range []int{-1, api.Again, api.Over, api.Good, api.Bad, api.Acked, api.Naked, api.Ending, api.Ended, 12, 256, math.MaxInt, math.MinInt} {
			if err := l.Do(e); err != api.ErrBound {
				t.Errorf("in %d: Do(%d): %v, want %v", s, e, err, api.ErrBound)
			}
		}
		if !reflect.DeepEqual(before, *l) {
			t.Errorf("in %d: it changed", s)
		}
	}
}

// spoken: what an end says that does these letters, if it asks for what it asked at first.
func spoken(letters string, own int, answer api.Packet) []api.Packet {
	var out []api.Packet
	for _, c := range letters {
		switch c {
		case api.Request:
			own++
			out = append(out, asks(own))
		case api.Terminate:
			own++
			out = append(out, pack(api.TermReq, own))
		case api.Ack, api.Nak:
			out = append(out, answer)
		case api.TermAck:
			out = append(out, pack(api.TermRsp, answer.ID))
		}
	}
	return out
}

// TestE2EachEventInEachState: what comes by a call has the step of the automaton, says its letters, and changes nothing where it does not come.
func TestE2EachEventInEachState(t *testing.T) {
	answers := []struct {
		event  int
		give   func(own int) api.Packet
		answer func(own int) api.Packet
	}{
		{api.Good, func(int) api.Packet { return good }, func(int) api.Packet { return pack(api.ConfAck, came, good.Options...) }},
		{api.Bad, func(int) api.Packet { return bad }, func(int) api.Packet { return pack(api.ConfNak, came, opt(api.Size, 40)) }},
		{api.Ending, func(int) api.Packet { return pack(api.TermReq, came) }, func(int) api.Packet { return pack(0, came) }},
		{api.Ended, func(int) api.Packet { return pack(api.TermRsp, came) }, func(int) api.Packet { return pack(0, came) }},
		{api.Naked, func(own int) api.Packet { return pack(api.ConfNak, own) }, func(own int) api.Packet { return pack(0, own) }},
		{api.Naked, func(own int) api.Packet { return pack(api.ConfRej, own, opt(3, 3)) }, func(own int) api.Packet { return pack(0, own) }},
	}
	for s := api.Initial; s <= api.Opened; s++ {
		for _, e := range []int{api.Up, api.Down, api.Open, api.Close} {
			l, own := at(t, s)
			before := *l
			checkStep(t, l, before, e, own, l.Do(e), api.Packet{})
		}
		for _, c := range answers {
			l, own := at(t, s)
			before := *l
			checkStep(t, l, before, c.event, own, l.Take(c.give(own)), c.answer(own))
		}
		l, own := at(t, s)
		before := *l
		ack := acks(own)
		if own == 0 { // nothing was asked yet
			ack = pack(api.ConfAck, 0)
		}
		checkStep(t, l, before, api.Acked, own, l.Take(ack), pack(0, own))
	}
}

func checkStep(t *testing.T, l *Link, before Link, event, own int, err error, answer api.Packet) {
	t.Helper()
	letters, next, want := auto.Step(before.State(), event)
	if err != want {
		t.Errorf("event %d in %d: %v, want %v", event, before.State(), err, want)
	}
	if want != nil {
		if !reflect.DeepEqual(before, *l) {
			t.Errorf("event %d in %d does not come, but changed it", event, before.State())
		}
		return
	}
	if l.State() != next {
		t.Errorf("event %d in %d: it is in %d, want %d", event, before.State(), l.State(), next)
	}
	if next <= api.Stopped && l.Size() != api.MostSize {
		t.Errorf("event %d in %d: the other end takes %d still", event, before.State(), l.Size())
	}
	if got, said := l.Out(), spoken(letters, own, answer); !samePackets(got, said) {
		t.Errorf("event %d in %d: it said %v, want %v", event, before.State(), got, said)
	}
}

// TestE2BeginsAnew: in each state up to Stopped an end asks for what it asked for at first.
func TestE2BeginsAnew(t *testing.T) {
	cases := []struct {
		name string
		end  func(l *Link)
	}{
		{"Down", func(l *Link) { do(t, l, api.Down, api.Up) }},
		{"Close, answered", func(l *Link) {
			do(t, l, api.Close)
			take(t, l, pack(api.TermRsp, came))
			do(t, l, api.Open)
		}},
		{"nobody answers", func(l *Link) {
			ticks(l, api.MaxConf*api.Wait)
			if l.State() != api.Stopped {
				t.Fatalf("it is in %d", l.State())
			}
			do(t, l, api.Down, api.Up)
		}},
		{"nobody answers, then one asks", func(l *Link) {
			ticks(l, api.MaxConf*api.Wait)
			take(t, l, good)
		}},
	}
	for _, c := range cases {
		l := start(t)
		do(t, l, api.Open, api.Up)
		take(t, l, pack(api.ConfRej, 1, opt(api.Size, ownSize)), pack(api.ConfNak, 2, opt(api.Magic, 77)))
		says(t, l, api.ReqSent, api.MostSize, asks(1), pack(api.ConfReq, 2, opt(api.Magic, ownMagic)), pack(api.ConfReq, 3, opt(api.Magic, 77)))
		c.end(l)
		said := l.Out()
		asked := slices.IndexFunc(said, func(p api.Packet) bool { return p.Code == api.ConfReq && len(p.Options) == 2 })
		if asked < 0 || !slices.Equal(said[asked].Options, asks(0).Options) {
			t.Errorf("%s: it said %v", c.name, said)
		}
	}
}

// TestE2SizeBeginsAnew: what the other end takes is forgotten when the link is over.
func TestE2SizeBeginsAnew(t *testing.T) {
	l, _ := at(t, api.Opened)
	says(t, l, api.Opened, 50)
	do(t, l, api.Close)
	says(t, l, api.Closing, 50, pack(api.TermReq, 2))
	take(t, l, pack(api.TermRsp, 2))
	says(t, l, api.Closed, api.MostSize)

	l, _ = at(t, api.Opened)
	do(t, l, api.Down)
	says(t, l, api.Starting, api.MostSize)
}

// TestE2PolicyIsNewAheadOfWhatIsDone: the request of the next beginning has nothing of what was told.
func TestE2PolicyIsNewAheadOfWhatIsDone(t *testing.T) {
	l := start(t)
	do(t, l, api.Open, api.Up)
	take(t, l, pack(api.ConfRej, 1, asks(1).Options...))
	says(t, l, api.ReqSent, api.MostSize, asks(1), pack(api.ConfReq, 2))
	do(t, l, api.Down, api.Close, api.Up)
	take(t, l, pack(api.ConfReq, 9, opt(api.Magic, ownMagic)))
	says(t, l, api.Closed, api.MostSize, pack(api.TermRsp, 9))
	do(t, l, api.Open)
	says(t, l, api.ReqSent, api.MostSize, asks(3))
	take(t, l, pack(api.ConfReq, 9, opt(api.Magic, ownMagic)))
	says(t, l, api.ReqSent, api.MostSize, pack(api.ConfNak, 9, opt(api.Magic, ownMagic+1)))
}

// TestE2NumbersGoRound: 255 is followed by 0, and a TermReq has a number as any other has.
func TestE2NumbersGoRound(t *testing.T) {
	l := start(t)
	do(t, l, api.Open)
	own := 0
	for range 300 {
		do(t, l, api.Up)
		own = (own + 1) % 256
		says(t, l, api.ReqSent, api.MostSize, asks(own))
		do(t, l, api.Close)
		own = (own + 1) % 256
		says(t, l, api.Closing, api.MostSize, pack(api.TermReq, own))
		do(t, l, api.Open, api.Down)
	}
	for own != 255 {
		do(t, l, api.Up, api.Down)
		own = (own + 1) % 256
	}
	l.Out()
	do(t, l, api.Up)
	says(t, l, api.ReqSent, api.MostSize, asks(0))
	take(t, l, acks(0))
	says(t, l, api.AckRcvd, api.MostSize)
}

// asked: the ticks at which an end says something, as long as nobody answers.
func asked(l *Link, code, many int) (at []int, ok bool) {
	ok = true
	for i := 1; i <= many; i++ {
		l.Tick()
		for _, p := range l.Out() {
			at = append(at, i)
			ok = ok && p.Code == code
		}
	}
	return at, ok
}

func TestE3AsksSomeTimesAndNoMore(t *testing.T) {
	cases := []struct {
		name      string
		state     int
		code, end int
		want      []int
	}{
		{"a request", api.ReqSent, api.ConfReq, api.Stopped, []int{3, 6, 9}},
		{"an answered one, counted anew", api.AckRcvd, api.ConfReq, api.Stopped, []int{3, 6, 9, 12}},
		{"one whose answer is missing", api.AckSent, api.ConfReq, api.Stopped, []int{3, 6, 9}},
		{"an end that closes", api.Closing, api.TermReq, api.Closed, []int{3, 6, 9}},
		{"an end that stops", api.Stopping, api.TermReq, api.Stopped, []int{3, 6, 9}},
	}
	for _, c := range cases {
		l, _ := at(t, c.state)
		got, ok := asked(l, c.code, 40)
		if !ok || !slices.Equal(got, c.want) || l.State() != c.end {
			t.Errorf("%s: said at %v (%v), want %v; it is in %d, want %d", c.name, got, ok, c.want, l.State(), c.end)
		}
	}
}

func TestE3OverComesWhenItsTimeIsOver(t *testing.T) {
	l, _ := at(t, api.ReqSent)
	ticks(l, api.MaxConf*api.Wait-1)
	if l.State() != api.ReqSent {
		t.Errorf("too early: it is in %d", l.State())
	}
	l.Tick()
	if l.State() != api.Stopped {
		t.Errorf("it is in %d", l.State())
	}
}

func TestE3WhoDoesNotWaitDoesNothing(t *testing.T) {
	for _, s := range []int{api.Initial, api.Starting, api.Closed, api.Stopped, api.Opened} {
		l, _ := at(t, s)
		before := *l
		ticks(l, 50)
		if !reflect.DeepEqual(before, *l) {
			t.Errorf("in %d: ticks changed it", s)
		}
	}
}

// TestE3EndingWaits: who is told that it ends asks no more, and is over Wait ticks later.
func TestE3EndingWaits(t *testing.T) {
	l, _ := at(t, api.ReqSent)
	ticks(l, api.Wait-1) // a time that was running when they agreed is not gone on with
	take(t, l, good, acks(1))
	says(t, l, api.Opened, 50, pack(api.ConfAck, came, good.Options...))
	take(t, l, pack(api.TermReq, came))
	says(t, l, api.Stopping, 50, pack(api.TermRsp, came))
	ticks(l, api.Wait-1)
	says(t, l, api.Stopping, 50)
	l.Tick()
	says(t, l, api.Stopped, api.MostSize)
}

// TestE3AskingBeginsItsTimeAnew: a request that follows an answer waits Wait ticks of its own; answers that say nothing new don't put it off.
func TestE3AskingBeginsItsTimeAnew(t *testing.T) {
	l, _ := at(t, api.ReqSent)
	ticks(l, 2)
	take(t, l, pack(api.ConfNak, 1, opt(api.Size, 60)))
	next := pack(api.ConfReq, 2, opt(api.Size, 60), opt(api.Magic, ownMagic))
	says(t, l, api.ReqSent, api.MostSize, next)
	ticks(l, 2)
	says(t, l, api.ReqSent, api.MostSize)
	take(t, l, bad)
	says(t, l, api.ReqSent, api.MostSize, pack(api.ConfNak, came, opt(api.Size, 40)))
	l.Tick()
	next.ID = 3
	says(t, l, api.ReqSent, api.MostSize, next)
}

// TestE3CountedAnew: an answer lets it ask MaxConf times once more.
func TestE3CountedAnew(t *testing.T) {
	l, _ := at(t, api.ReqSent)
	ticks(l, 3*api.Wait) // asked 4 times by now
	l.Out()
	take(t, l, pack(api.ConfNak, 4))
	says(t, l, api.ReqSent, api.MostSize, asks(5))
	if got, ok := asked(l, api.ConfReq, 40); !ok || !slices.Equal(got, []int{3, 6, 9}) {
		t.Errorf("said at %v", got)
	}
	l, _ = at(t, api.Opened) // counted anew by the answer, and asked once since
	take(t, l, pack(api.TermRsp, came))
	says(t, l, api.ReqSent, 50, asks(2))
	if got, ok := asked(l, api.ConfReq, 40); !ok || !slices.Equal(got, []int{3, 6, 9}) {
		t.Errorf("said at %v", got)
	}
}

func TestE4PacketsThatMayNotBe(t *testing.T) {
	cases := []struct {
		p   api.Packet
		err error
	}{
		{pack(0, 1), api.ErrBound}, {pack(7, 1), api.ErrBound}, {pack(math.MinInt, 1), api.ErrBound},
		{pack(api.ConfReq, 256), api.ErrBound}, {pack(api.ConfAck, -1), api.ErrBound},
		{pack(api.ConfReq, 1, opt(api.Size, 256)), api.ErrBound}, {pack(api.ConfNak, 1, opt(-1, 50)), api.ErrBound},
		{pack(api.ConfReq, 1, opt(1, 50), opt(1, 50)), api.ErrShape},
		{pack(api.TermReq, 1, opt(1, 50)), api.ErrShape}, {pack(api.TermRsp, 1, opt(1, 50)), api.ErrShape},
		{pack(api.ConfRej, 1, make([]option, 9)...), api.ErrMany},
	}
	for s := api.Initial; s <= api.Opened; s++ {
		l, _ := at(t, s)
		before := *l
		for _, c := range cases {
			if err := l.Take(c.p); err != c.err {
				t.Errorf("in %d: Take(%v): %v, want %v", s, c.p, err, c.err)
			}
		}
		if !reflect.DeepEqual(before, *l) {
			t.Errorf("in %d: it changed", s)
		}
	}
}

// TestE4OtherNumbers: an answer to another question than the last one is none, ahead of whether it comes at all.
func TestE4OtherNumbers(t *testing.T) {
	for s := api.Initial; s <= api.Opened; s++ {
		l, own := at(t, s)
		before := *l
		for _, p := range []api.Packet{
			acks((own + 1) % 256), acks((own + 255) % 256), pack(api.ConfAck, own+1),
			pack(api.ConfNak, own+1, opt(api.Size, 60)), pack(api.ConfRej, own+1, opt(api.Size, 60)),
		} {
			if err := l.Take(p); err != api.ErrNone {
				t.Errorf("in %d: Take(%v): %v, want %v", s, p, err, api.ErrNone)
			}
		}
		if !reflect.DeepEqual(before, *l) {
			t.Errorf("in %d: it changed", s)
		}
	}
}

// TestE4AckOfSomethingElse: an answer that agrees with other things than were asked for is none.
func TestE4AckOfSomethingElse(t *testing.T) {
	for s := api.Initial; s <= api.Opened; s++ {
		l, own := at(t, s)
		before := *l
		for _, p := range []api.Packet{
			pack(api.ConfAck, own, opt(1, 90)), pack(api.ConfAck, own, opt(5, 7)), pack(api.ConfAck, own, opt(5, 7), opt(1, 90)),
			pack(api.ConfAck, own, opt(1, 91), opt(5, 7)), pack(api.ConfAck, own, opt(1, 90), opt(5, 8)), pack(api.ConfAck, own, opt(1, 90), opt(5, 7), opt(3, 0)),
		} {
			if err := l.Take(p); err != api.ErrNone {
				t.Errorf("in %d: Take(%v): %v, want %v", s, p, err, api.ErrNone)
			}
		}
		if own > 0 && l.Take(pack(api.ConfAck, own)) != api.ErrNone {
			t.Errorf("in %d: an ack of nothing", s)
		}
		if !reflect.DeepEqual(before, *l) {
			t.Errorf("in %d: it changed", s)
		}
	}
}

// TestE4AckOfWhatWasAskedLast: not of what was asked at first, nor of what it would ask for now.
func TestE4AckOfWhatWasAskedLast(t *testing.T) {
	l, _ := at(t, api.ReqSent)
	take(t, l, pack(api.ConfNak, 1, opt(api.Size, 60)))
	l.Out()
	if err := l.Take(acks(2)); err != api.ErrNone {
		t.Errorf("an ack of what it asked at first: %v", err)
	}
	take(t, l, pack(api.ConfAck, 2, opt(api.Size, 60), opt(api.Magic, ownMagic)))
	says(t, l, api.AckRcvd, api.MostSize)

	l, _ = at(t, api.ReqSent)
	take(t, l, pack(api.ConfRej, 1, opt(api.Size, 0), opt(api.Magic, 0)))
	says(t, l, api.ReqSent, api.MostSize, pack(api.ConfReq, 2))
	take(t, l, pack(api.ConfAck, 2))
	says(t, l, api.AckRcvd, api.MostSize)

	l, _ = at(t, api.ReqSent) // the policy is that of New again when it stops, what was asked last is not
	take(t, l, pack(api.ConfNak, 1, opt(api.Size, 60)))
	ticks(l, api.MaxConf*api.Wait)
	l.Out()
	if err := l.Take(acks(5)); err != api.ErrNone {
		t.Errorf("stopped: an ack of what it would ask for: %v", err)
	}
	take(t, l, pack(api.ConfAck, 5, opt(api.Size, 60), opt(api.Magic, ownMagic)))
	says(t, l, api.Stopped, api.MostSize, pack(api.TermRsp, 5))
}

// TestE4Size: what the other end asked for with Size is what it takes, behind each request that is good while they talk.
func TestE4Size(t *testing.T) {
	for _, s := range []int{api.Stopped, api.ReqSent, api.AckRcvd, api.AckSent, api.Opened} {
		for _, c := range []struct {
			in   []option
			want int
		}{
			{[]option{opt(api.Size, 40)}, 40}, {[]option{opt(api.Magic, 99), opt(api.Size, 41)}, 41},
			{[]option{opt(api.Magic, 99)}, api.MostSize}, {nil, api.MostSize}, {[]option{opt(api.Size, 255)}, 255},
		} {
			l, _ := at(t, s)
			take(t, l, pack(api.ConfReq, came, c.in...))
			if l.Size() != c.want {
				t.Errorf("in %d: asked for %v, it takes %d, want %d", s, c.in, l.Size(), c.want)
			}
		}
	}
}

// TestE4SizeStays: what is asked while nobody talks, or is not good, changes no size.
func TestE4SizeStays(t *testing.T) {
	small := pack(api.ConfReq, came, opt(api.Size, 60))
	for _, s := range []int{api.Closed, api.Closing, api.Stopping} {
		l, _ := at(t, s)
		take(t, l, small)
		if l.Size() != api.MostSize {
			t.Errorf("in %d: it takes %d", s, l.Size())
		}
	}
	for _, s := range []int{api.Initial, api.Starting} {
		l, _ := at(t, s)
		if err := l.Take(small); err != api.ErrState || l.Size() != api.MostSize {
			t.Errorf("in %d: %v, it takes %d", s, err, l.Size())
		}
	}
	l, _ := at(t, api.Opened)
	take(t, l, pack(api.ConfReq, came, opt(api.Size, 60), opt(api.Magic, ownMagic)))
	says(t, l, api.ReqSent, 50, asks(2), pack(api.ConfNak, came, opt(api.Magic, ownMagic+1)))
	take(t, l, pack(api.ConfReq, came, opt(api.Size, 60), opt(2, 2)))
	says(t, l, api.ReqSent, 50, pack(api.ConfRej, came, opt(2, 2)))
}

// TestE4ToldOnlyWhileTheyTalk: refusals are heard from ReqSent on.
func TestE4ToldOnlyWhileTheyTalk(t *testing.T) {
	for _, s := range []int{api.Closing, api.Stopping} {
		l, own := at(t, s)
		take(t, l, pack(api.ConfNak, own, opt(api.Size, 60)), pack(api.ConfRej, own, opt(api.Magic, 0)))
		says(t, l, s, api.MostSize)
		if l.now != l.first {
			t.Errorf("in %d: it asks for %v", s, l.now)
		}
	}
	for _, s := range []int{api.ReqSent, api.AckRcvd, api.AckSent, api.Opened} {
		l, _ := at(t, s)
		take(t, l, pack(api.ConfNak, 1, opt(api.Size, 60), opt(api.Magic, 0)))
		want := pack(api.ConfReq, 2, opt(api.Size, 60), opt(api.Magic, ownMagic))
		if got := l.Out(); !samePackets(got, []api.Packet{want}) {
			t.Errorf("in %d: it said %v, want %v", s, got, want)
		}
		take(t, l, pack(api.ConfRej, 2, opt(api.Magic, 3), opt(9, 9)))
		want = pack(api.ConfReq, 3, opt(api.Size, 60))
		if got := l.Out(); !samePackets(got, []api.Packet{want}) {
			t.Errorf("in %d: it said %v, want %v", s, got, want)
		}
	}
}

// TestE4JudgedByThePolicyOfNow: who asks for another magic number by now, judges by that one.
func TestE4JudgedByThePolicyOfNow(t *testing.T) {
	l, _ := at(t, api.ReqSent)
	take(t, l, pack(api.ConfNak, 1, opt(api.Magic, 33)))
	l.Out()
	take(t, l, pack(api.ConfReq, came, opt(api.Magic, 33)))
	says(t, l, api.ReqSent, api.MostSize, pack(api.ConfNak, came, opt(api.Magic, 34)))
	take(t, l, pack(api.ConfReq, came, opt(api.Magic, ownMagic)))
	says(t, l, api.AckSent, api.MostSize, pack(api.ConfAck, came, opt(api.Magic, ownMagic)))
}

// TestE4WhileStopped: one who asks wakes an end that stopped, with its own request ahead of the answer.
func TestE4WhileStopped(t *testing.T) {
	l, own := at(t, api.Stopped)
	take(t, l, bad)
	says(t, l, api.ReqSent, api.MostSize, asks(own+1), pack(api.ConfNak, came, opt(api.Size, 40)))
	l, own = at(t, api.Stopped)
	take(t, l, good)
	says(t, l, api.AckSent, 50, asks(own+1), pack(api.ConfAck, came, good.Options...))
}

func TestZ2LinkSharesNoMemory(t *testing.T) {
	l, _ := at(t, api.ReqSent)
	in := []option{opt(api.Size, 50), opt(api.Magic, 9)}
	take(t, l, pack(api.ConfReq, came, in...))
	in[0] = opt(77, 77)
	out := l.Out()
	if !samePackets(out, []api.Packet{pack(api.ConfAck, came, opt(api.Size, 50), opt(api.Magic, 9))}) {
		t.Errorf("it said %v", out)
	}
	out[0].Options[1] = opt(88, 88)
	if in[1] != opt(api.Magic, 9) {
		t.Error("what was handed in changed")
	}

	ticks(l, api.Wait)
	out = l.Out()
	out[0].Options[0] = opt(66, 66) // the caller's: what was asked last is known all the same
	take(t, l, acks(2))
	says(t, l, api.Opened, 50)

	do(t, l, api.Close)
	first := l.Out()
	take(t, l, pack(api.TermReq, 1))
	_ = append(first, pack(9, 9))
	says(t, l, api.Closing, 50, pack(api.TermRsp, 1))
	if !samePackets(first, []api.Packet{pack(api.TermReq, 3)}) {
		t.Errorf("what was answered became %v", first)
	}
}

// talk: both hear all that the other one says, and time goes on.
func talk(a, b *Link, rounds int) {
	for range rounds {
		for _, p := range a.Out() {
			_ = b.Take(p)
		}
		for _, p := range b.Out() {
			_ = a.Take(p)
		}
		a.Tick()
		b.Tick()
	}
}

// pair of ends with numbers of their own: two with the same one, who go in step, pick the next one in step, too.
func pair(t *testing.T, n int) (*Link, *Link) {
	t.Helper()
	a, err := New(40+n, 1+n)
	if err != nil {
		t.Fatal(err)
	}
	b, err := New(255-n, 2+n)
	if err != nil {
		t.Fatal(err)
	}
	do(t, a, api.Open, api.Up)
	do(t, b, api.Open, api.Up)
	return a, b
}

func agreed(t *testing.T, a, b *Link, sizeA, sizeB int) {
	t.Helper()
	if a.State() != api.Opened || b.State() != api.Opened || a.Size() != sizeB || b.Size() != sizeA {
		t.Errorf("states %d and %d, sizes %d and %d, want %d and %d", a.State(), b.State(), a.Size(), b.Size(), sizeB, sizeA)
	}
}

func TestW3TwoComeToAgree(t *testing.T) {
	for n := range 200 {
		a, b := pair(t, n)
		talk(a, b, 8)
		agreed(t, a, b, 40+n, 255-n)
		talk(a, b, 30)
		agreed(t, a, b, 40+n, 255-n)
		if len(a.Out())+len(b.Out()) > 0 {
			t.Error("they agree, and talk still")
		}
	}
}

// TestW3WhoeverBeginsAnew: by Down and Up, or as another end altogether.
func TestW3WhoeverBeginsAnew(t *testing.T) {
	for n := range 100 {
		a, b := pair(t, n)
		talk(a, b, n%12)
		if n%2 == 0 {
			a, b = b, a
		}
		if n%4 < 2 {
			do(t, a, api.Down, api.Up)
		} else {
			a, _ = New(60, 250)
			do(t, a, api.Open, api.Up)
		}
		talk(a, b, 12)
		agreed(t, a, b, a.first.Size, b.first.Size)
	}
}

// TestW3BehindLosses: whatever was lost, when one begins anew and nothing more is lost, they agree.
func TestW3BehindLosses(t *testing.T) {
	seed := uint32(1)
	drawn := func(most uint32) bool {
		seed = seed*1664525 + 1013904223
		return (seed>>16)%most == 0
	}
	for n := range 200 {
		a, b := pair(t, n)
		for range 60 {
			for _, p := range a.Out() {
				if drawn(2) {
					_ = b.Take(p)
				}
			}
			for _, p := range b.Out() {
				if drawn(2) {
					_ = a.Take(p)
				}
			}
			if drawn(3) {
				a.Tick()
			}
			if drawn(3) {
				b.Tick()
			}
			if drawn(20) {
				do(t, b, api.Down, api.Up)
			}
		}
		do(t, a, api.Down, api.Up)
		talk(a, b, 30)
		agreed(t, a, b, 40+n, 255-n)
	}
}

func TestW3WhoIsNotAnsweredStops(t *testing.T) {
	l := start(t)
	do(t, l, api.Open, api.Up)
	ticks(l, 1000)
	says(t, l, api.Stopped, api.MostSize, asks(1), asks(2), asks(3), asks(4))
}
