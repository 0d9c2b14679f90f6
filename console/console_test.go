package console

import (
	"fmt"
	"slices"
	"strings"
	"testing"

	"towpath/api"
	"towpath/frame"
	"towpath/net"
)

const (
	barn = "net 4 1 0 2 0 5 2 1 3 0 5 1 1 3 1 20 3 2 4 0 2" // of the document's session
	pair = "net 2 1 0 2 0 5"
)

// kinds of lines, each as it may be in a net of three routers and a cable.
func kinds() []string {
	return []string{
		"net 3", "net 3 1 0 2 0 5", "plug 0", "draw 0", "tick 1", "restart 1", "deliver 0 0 5", "spoil 0 0 0 1",
		"round 1", "send 1 2 hay", "hops 1", "states 1", "links 1", "inbox 1",
	}
}

func run(t *testing.T, lines ...string) []string {
	t.Helper()
	out, err := Run(lines)
	if err != nil || len(out) != len(lines) {
		t.Fatalf("Run(%q) = %q, %v", lines, out, err)
	}
	return out
}

// last: what the last of these lines is answered.
func last(t *testing.T, lines ...string) string {
	t.Helper()
	out := run(t, lines...)
	return out[len(out)-1]
}

// behind: lines that stand behind others.
func behind(l []string, more ...string) []string { return append(slices.Clone(l), more...) }

// asked: a session of lines, each with what it is to be answered behind ' => '.
func asked(t *testing.T, session string) {
	t.Helper()
	var lines, want []string
	for _, x := range strings.Split(strings.Trim(session, "\n"), "\n") {
		line, answer, ok := strings.Cut(x, " => ")
		if !ok {
			t.Fatalf("no answer stands in %q", x)
		}
		lines, want = append(lines, line), append(want, answer)
	}
	for i, got := range run(t, lines...) {
		if got != want[i] {
			t.Errorf("line %d, %q: %q, not %q", i, lines[i], got, want[i])
		}
	}
}

// settled: lines of two routers who know of each other.
func settled() []string { return []string{pair, "plug 0", "round 9"} }

func TestM1TheDocumentsSession(t *testing.T) {
	asked(t, `
links 1 => error 7
net 4 1 0 2 0 5 2 1 3 0 5 1 1 3 1 20 3 2 4 0 2 => ok
plug 0 => ok
plug 1 => ok
plug 2 => ok
plug 3 => ok
links 1 => 6 0; 6 0; 1 0
round 1 => ok
links 1 => 9 0; 9 0; 1 0
round 8 => ok
links 1 => 9 2 both; 9 3 both; 1 0
states 1 => 1 3 2=5 3=20; 2 3 1=5 3=5; 3 4 1=20 2=5 4=2; 4 2 3=2
hops 1 => 2 5 2; 3 10 2; 4 12 2
hops 4 => 1 12 3; 2 7 3; 3 2 3
send 1 4 hay for the barn => ok
round 1 => ok
inbox 4 => 5 hay for the barn
draw 1 => ok
hops 1 => 2 5 2; 3 10 2; 4 12 2
round 8 => ok
hops 1 => 2 5 2; 3 20 3; 4 22 3
send 1 4 by the long way => ok
round 1 => ok
inbox 4 => 6 by the long way
restart 3 => ok
hops 3 => -
round 8 => ok
hops 3 => 1 20 1; 2 25 1; 4 2 4
states 3 => 1 5 2=5 3=20; 2 4 1=5; 3 6 1=20 4=2; 4 4 3=2
draw 3 => ok
round 8 => ok
hops 1 => 2 5 2; 3 20 3
send 1 4 nobody => ok
round 1 => ok
inbox 4 => -
deliver 0 0 5 => ok
tick 9 => error 6
net 2 1 0 1 0 5 => error 8
net 2 1 0 3 0 5 => error 1
net 9 => error 1
send 1 2 => error 4
fly high => error 4
`)
}

func TestM1HowManyLines(t *testing.T) {
	for _, many := range []int{0, 1, api.MaxLines - 1, api.MaxLines} {
		for _, line := range []string{"net 2", "fly", ""} {
			out, err := Run(slices.Repeat([]string{line}, many))
			if err != nil || len(out) != many {
				t.Errorf("%d times %q: %d answers, %v", many, line, len(out), err)
			}
		}
	}
	for _, many := range []int{api.MaxLines + 1, api.MaxLines + 2, 10 * api.MaxLines} {
		for _, line := range []string{"net 2", "fly", "", strings.Repeat("x", api.MaxLine+1)} {
			out, err := Run(slices.Repeat([]string{line}, many))
			if err != error(api.ErrMany) || len(out) != 0 {
				t.Errorf("%d times %q: %q, %v", many, line, out, err)
			}
		}
	}
	if out, err := Run(nil); err != nil || len(out) != 0 {
		t.Errorf("no lines: %q, %v", out, err)
	}
}

func TestM1EachKindOfLine(t *testing.T) {
	want := []string{"ok", "ok", "ok", "ok", "ok", "ok", "ok", "ok", "ok", "ok", "-", "1 1", "6 0; 1 0; 1 0", "-"}
	for i, line := range kinds() {
		lines := []string{"net 3 1 0 2 0 5", "plug 0", line}
		if line == "plug 0" {
			lines = []string{"net 3 1 0 2 0 5", line}
		}
		if got := last(t, lines...); got != want[i] {
			t.Errorf("%q: %q, not %q", line, got, want[i])
		}
	}
}

func TestM1NumbersThatAreNone(t *testing.T) {
	wrong := []string{
		"", "00", "01", "001", "010", "000", "1000", "0001", "0000", "99999999999999999999",
		"+1", "-1", "+", "-", "-0", "1x", "x1", "x", "1.", "1.0", ".5", "1e1", "0x1", "0b1", "1_0", "1,", ";", "/", ":",
		"1\t", "\t1", "1\n", "\x00", "1\x00", "\xff", "\u0663", "\uff11", "one",
	}
	for _, line := range kinds() {
		words := strings.Split(line, " ")
		for i := 1; i < len(words) && words[i] != "hay"; i++ {
			for _, w := range wrong {
				spelt := slices.Clone(words)
				spelt[i] = w
				x := strings.Join(spelt, " ")
				if got := last(t, "net 3 1 0 2 0 5", "plug 0", x); got != "error 4" {
					t.Errorf("%q: %q", x, got)
				}
			}
		}
	}
}

func TestM1NumbersThatMayBe(t *testing.T) {
	asked(t, `
net 6 1 0 2 0 20 => ok
hops 0 => error 6
hops 7 => error 6
hops 10 => error 6
hops 100 => error 6
hops 999 => error 6
plug 0 => ok
deliver 0 0 0 => ok
deliver 0 0 10 => ok
deliver 0 0 999 => ok
deliver 0 10 999 => error 6
spoil 0 0 909 0 => error 1
round 0 => ok
round 10 => ok
round 100 => ok
round 999 => ok
hops 1 => 2 20 2
`)
}

func TestM1HowManyNumbers(t *testing.T) {
	needed := map[string][]int{
		"plug": {1}, "draw": {1}, "tick": {1}, "restart": {1}, "round": {1}, "deliver": {3}, "spoil": {4},
		"hops": {1}, "states": {1}, "links": {1}, "inbox": {1}, "net": {1, 6, 11},
	}
	for word, l := range needed {
		for many := range 13 {
			line := word + strings.Repeat(" 1", many)
			got := last(t, "net 3 1 0 2 0 5 2 1 3 0 5", line)
			if read := got != "error 4"; read != slices.Contains(l, many) {
				t.Errorf("%q: %q", line, got)
			}
		}
	}
}

func TestM1BlanksTooMany(t *testing.T) {
	for _, line := range kinds() {
		wrong := []string{" " + line, "\t" + line, strings.Replace(line, " ", "  ", 1), strings.Replace(line, " ", "\t", 1), strings.Replace(line, " ", "", 1)}
		if !strings.HasPrefix(line, "send") { // whose text may end so
			wrong = append(wrong, line+" ", line+"\t", line+"\n", line+"\r", line+"  ", line+" x")
			at := strings.LastIndex(line, " ")
			wrong = append(wrong, line[:at]+" "+line[at:], line[:at]+"\u00a0"+line[at+1:])
		}
		for _, x := range wrong {
			if got := last(t, "net 3 1 0 2 0 5", "plug 0", x); got != "error 4" {
				t.Errorf("%q: %q", x, got)
			}
		}
	}
	for _, x := range []string{"send 1  2 hay", "send  1 2 hay", " send 1 2 hay", "send 1 2", "send 1", "send 1 ", "send", "send ", "send  ", "send   "} {
		if got := last(t, append(settled(), x)...); got != "error 4" {
			t.Errorf("%q: %q", x, got)
		}
	}
}

func TestM1NetHasEachNumberInItsPlace(t *testing.T) {
	asked(t, `
net 3 1 2 3 1 7 2 0 3 0 4 => ok
plug 0 => ok
links 1 => 1 0; 1 0; 6 0
links 2 => 1 0; 1 0; 1 0
links 3 => 1 0; 6 0; 1 0
plug 1 => ok
links 2 => 6 0; 1 0; 1 0
links 3 => 6 0; 6 0; 1 0
round 9 => ok
states 2 => 1 2 3=7; 2 2 3=4; 3 3 1=7 2=4
hops 1 => 2 11 3; 3 7 3
links 3 => 9 2 both; 9 1 both; 1 0
`)
}

func TestM1NetsThatMayNotBe(t *testing.T) {
	for _, c := range []struct{ line, want string }{
		{"net 0", "error 1"}, {"net 7", "error 1"}, {"net 999", "error 1"}, {"net 1", "ok"}, {"net 6", "ok"},
		{"net 2 1 0 2 0 0", "error 1"}, {"net 2 1 0 2 0 1", "ok"}, {"net 2 1 0 2 0 20", "ok"}, {"net 2 1 0 2 0 21", "error 1"},
		{"net 2 0 0 2 0 5", "error 1"}, {"net 2 3 0 2 0 5", "error 1"}, {"net 2 1 3 2 0 5", "error 1"}, {"net 2 1 2 2 2 5", "ok"},
		{"net 2 1 0 0 0 5", "error 1"}, {"net 2 1 0 3 0 5", "error 1"}, {"net 2 1 0 2 3 5", "error 1"},
		{"net 2 1 0 1 0 5", "error 8"}, {"net 2 1 0 1 1 5", "ok"}, {"net 3 1 0 2 0 5 3 0 2 0 5", "error 8"},
		{"net 0 1 0 1 0 5", "error 1"}, {"net 2 1 0 1 0 21", "error 1"}, {"net 2 1 0 1 0 5 1 0 2 0 21", "error 8"},
		{"net", "error 4"}, {"net 2 1", "error 4"}, {"net 2 1 0 2", "error 4"}, {"net 2 1 0 2 0", "error 4"}, {"net 2 1 0 2 0 5 1", "error 4"},
		{"net 6 1 0 2 0 1 1 1 2 1 1 1 2 2 2 1 3 0 4 0 1 3 1 4 1 1 3 2 4 2 1 5 0 6 0 1 5 1 6 1 1 5 2 6 2 1", "ok"},
	} {
		if got := last(t, c.line); got != c.want {
			t.Errorf("%q: %q, not %q", c.line, got, c.want)
		}
		if got := last(t, barn, "plug 0", c.line); got != c.want {
			t.Errorf("%q, where there is a net: %q, not %q", c.line, got, c.want)
		}
	}
}

func TestM1WhichNetIsThereBehindOneThatMayNotBe(t *testing.T) {
	for _, c := range []struct{ line, want string }{{"net 7", "error 1"}, {"net 2 1 0 1 0 5", "error 8"}, {"net 2 1", "error 4"}, {"net", "error 4"}} {
		asked(t, strings.ReplaceAll(`
net 2 1 0 2 0 5 => ok
plug 0 => ok
round 9 => ok
send 1 1 kept => ok
WRONG
hops 1 => 2 5 2
plug 0 => error 7
inbox 1 => 8 kept
`, "WRONG", c.line+" => "+c.want))
		asked(t, c.line+" => "+c.want+"\nhops 1 => error 7\ntick 9 => error 7\n"+pair+" => ok\nhops 1 => -")
	}
}

func TestM1ANetIsThereInPlaceOfAnother(t *testing.T) {
	asked(t, `
net 2 1 0 2 0 5 => ok
plug 0 => ok
round 9 => ok
send 1 1 lost => ok
net 2 1 0 2 0 5 => ok
hops 1 => -
states 1 => 1 1
links 1 => 1 0; 1 0; 1 0
inbox 1 => -
draw 0 => error 7
plug 0 => ok
net 3 => ok
states 3 => 3 1
plug 0 => error 6
`)
}

func TestM1PlugAndDraw(t *testing.T) {
	asked(t, `
net 3 1 0 2 0 5 2 1 3 0 5 => ok
draw 0 => error 7
plug 1 => ok
links 2 => 1 0; 6 0; 1 0
plug 1 => error 7
draw 0 => error 7
plug 0 => ok
links 2 => 6 0; 6 0; 1 0
plug 2 => error 6
draw 2 => error 6
draw 1 => ok
draw 1 => error 7
links 2 => 6 0; 1 0; 1 0
draw 0 => ok
links 2 => 1 0; 1 0; 1 0
plug 0 => ok
round 9 => ok
links 1 => 9 2 both; 1 0; 1 0
draw 0 => ok
links 1 => 1 0; 1 0; 1 0
`)
}

func TestM1TickAndRestart(t *testing.T) {
	asked(t, `
net 2 1 0 2 0 5 => ok
plug 0 => ok
round 9 => ok
links 1 => 9 2 both; 1 0; 1 0
tick 1 => ok
tick 1 => ok
tick 1 => ok
links 1 => 9 2 both; 1 0; 1 0
tick 1 => ok
links 1 => 9 0; 1 0; 1 0
links 2 => 9 1 both; 1 0; 1 0
hops 1 => -
restart 2 => ok
links 1 => 6 0; 1 0; 1 0
states 2 => 2 1
states 1 => 1 3; 2 2 1=5
tick 0 => error 6
tick 3 => error 6
restart 0 => error 6
restart 3 => error 6
round 9 => ok
hops 1 => 2 5 2
`)
}

// half: lines that lead to a message of 1 that is half at 2, half on the cable.
func half(many int) []string {
	return behind(settled(), "send 1 2 hay", fmt.Sprint("deliver 0 0 ", many))
}

func TestM1Deliver(t *testing.T) {
	if got := last(t, behind(half(999), "inbox 2")...); got != "7 hay" {
		t.Errorf("all of it: %q", got)
	}
	if got := last(t, behind(half(1), "inbox 2")...); got != "-" {
		t.Errorf("a byte of it: %q", got)
	}
	if got := last(t, behind(half(1), "deliver 0 0 999", "inbox 2")...); got != "7 hay" {
		t.Errorf("a byte of it, then all: %q", got)
	}
	f, err := frame.Make("M\x02\x07hay")
	if err != nil {
		t.Fatal(err)
	}
	if got := last(t, behind(half(len(f)), "inbox 2")...); got != "7 hay" {
		t.Errorf("so many bytes as it has: %q", got)
	}
	if got := last(t, behind(half(len(f)-1), "inbox 2")...); got != "-" {
		t.Errorf("one less: %q", got)
	}
	if got := last(t, behind(half(0), "deliver 0 1 999", "inbox 2")...); got != "-" {
		t.Errorf("the other way: %q", got)
	}
	asked(t, pair+` => ok
deliver 0 0 9 => ok
deliver 1 0 9 => error 6
deliver 0 2 9 => error 6
deliver 1 2 0 => error 6
`)
}

func TestM1SpoilTurnsModulo256(t *testing.T) {
	comes := func(spoils ...string) string {
		return last(t, append(behind(half(0), spoils...), "deliver 0 0 999", "inbox 2")...)
	}
	for _, turn := range []int{1, 2, 128, 255, 257, 511, 513, 999} {
		if got := comes(fmt.Sprint("spoil 0 0 4 ", turn)); got != "-" {
			t.Errorf("turned by %d it came: %q", turn, got)
		}
		if got := comes(fmt.Sprint("spoil 0 0 4 ", turn), fmt.Sprint("spoil 0 0 4 ", turn%256)); got != "7 hay" {
			t.Errorf("turned by %d, and by %d: %q", turn, turn%256, got)
		}
		if got := comes(fmt.Sprint("spoil 0 0 4 ", turn), fmt.Sprint("spoil 0 0 4 ", turn%256^64)); got != "-" {
			t.Errorf("turned by %d, and by %d, it came: %q", turn, turn%256^64, got)
		}
	}
	for _, turn := range []int{0, 256, 512, 768} {
		if got := comes(fmt.Sprint("spoil 0 0 4 ", turn)); got != "7 hay" {
			t.Errorf("turned by %d: %q", turn, got)
		}
	}
	asked(t, pair+` => ok
spoil 0 0 0 1 => error 1
plug 0 => ok
spoil 0 0 0 1 => ok
spoil 0 1 0 1 => ok
spoil 0 1 999 1 => error 1
spoil 0 2 0 1 => error 6
spoil 1 0 0 1 => error 6
spoil 1 0 999 256 => error 6
`)
}

func TestM1SoManyRounds(t *testing.T) {
	look := []string{"links 1", "links 4", "states 1", "states 4", "hops 1", "hops 4"}
	ahead := []string{barn, "plug 0", "plug 1", "plug 3"}
	seen := map[string]bool{}
	for many := range 10 {
		atOnce := run(t, append(behind(ahead, fmt.Sprint("round ", many)), look...)...)
		oneByOne := run(t, append(behind(ahead, slices.Repeat([]string{"round 1"}, many)...), look...)...)
		at, by := strings.Join(atOnce[5:], "\n"), strings.Join(oneByOne[4+many:], "\n")
		if at != by {
			t.Errorf("%d rounds at once:\n%s\none by one:\n%s", many, at, by)
		}
		seen[at] = true
	}
	if len(seen) < 5 { // else it would not be told how many they were
		t.Errorf("there was no more to be seen than %d", len(seen))
	}
}

// How many rounds were done can't be seen any more in a net that has settled, but for what they cost.
func TestM1TwentyRoundsAtMost(t *testing.T) {
	cost := func(many int) float64 {
		lines := []string{barn, "plug 0", "plug 1", "plug 2", "plug 3", fmt.Sprint("round ", many), "hops 1"}
		if out := run(t, lines...); out[5] != "ok" || out[6] != "2 5 2; 3 10 2; 4 12 2" {
			t.Errorf("%d rounds: %q", many, out)
		}
		return testing.AllocsPerRun(3, func() { _, _ = Run(lines) })
	}
	twenty := cost(20)
	one := twenty - cost(19)
	if one < 10 {
		t.Fatalf("a round costs but %v", one)
	}
	if fifteen := cost(15); twenty-fifteen < 4.5*one || twenty-fifteen > 5.5*one {
		t.Errorf("five rounds cost %v, one costs %v", twenty-fifteen, one)
	}
	for _, many := range []int{21, 22, 40, 100, 999} {
		if more := cost(many) - twenty; more < -one/2 || more > one/2 {
			t.Errorf("%d rounds cost %v more than 20, one costs %v", many, more, one)
		}
	}
}

func TestM1TextsOfMessages(t *testing.T) {
	for _, text := range []string{
		"", " ", "  ", "x", " x", "x ", "a b", "a  b", " a b ", "1", "1 2", "; ", "-", "ok", "error 4", "send 1 2 x",
		"\t", "\n", "\x00", "\x7d\x7e\xff", "\xc3", "h\u00e9", strings.Repeat("x", api.MaxText), strings.Repeat(" ", api.MaxText),
	} {
		got := last(t, append(settled(), "send 1 2 "+text, "round 1", "inbox 2")...)
		if got != "7 "+text {
			t.Errorf("%q: %q", text, got)
		}
		got = last(t, append(settled(), "send 2 2 "+text, "inbox 2")...)
		if got != "8 "+text {
			t.Errorf("to itself, %q: %q", text, got)
		}
	}
	for _, text := range []string{strings.Repeat("x", api.MaxText+1), strings.Repeat(" ", api.MaxText+1), strings.Repeat("x", api.MaxLine-len("send 1 2 "))} {
		if got := last(t, append(settled(), "send 1 2 "+text)...); got != "error 1" {
			t.Errorf("%q: %q", text, got)
		}
	}
}

func TestM1SendFromTheFirstToTheSecond(t *testing.T) {
	asked(t, `
net 3 1 0 2 0 5 2 1 3 0 5 => ok
plug 0 => ok
plug 1 => ok
round 9 => ok
send 1 3 to three => ok
send 3 1 to one => ok
round 1 => ok
inbox 1 => 6 to one
inbox 2 => -
inbox 3 => 6 to three
send 0 1 x => error 6
send 4 1 x => error 6
send 4 9 x => error 6
send 1 0 x => error 1
send 1 7 x => error 1
send 1 6 x => ok
round 1 => ok
inbox 1 => -
`)
}

func TestM1InboxIsAskedOnce(t *testing.T) {
	lines := behind(settled(), "inbox 2", "send 1 2 a; b", "send 2 2 ", "send 1 2 c", "round 1", "inbox 2", "inbox 2", "inbox 1", "inbox 0", "inbox 3")
	want := []string{"-", "ok", "ok", "ok", "ok", "8 ; 7 a; b; 7 c", "-", "-", "error 6", "error 6"}
	if got := run(t, lines...)[3:]; !slices.Equal(got, want) {
		t.Errorf("%q, not %q", got, want)
	}
}

func TestM1ListsOfARouter(t *testing.T) {
	asked(t, `
net 3 1 0 2 0 20 1 1 2 1 3 => ok
hops 1 => -
states 1 => 1 1
states 3 => 3 1
links 3 => 1 0; 1 0; 1 0
plug 0 => ok
plug 1 => ok
round 9 => ok
links 1 => 9 2 both; 9 2 both; 1 0
links 3 => 1 0; 1 0; 1 0
hops 1 => 2 3 2
hops 3 => -
states 1 => 1 3 2=3; 2 3 1=3
states 3 => 3 1
hops 4 => error 6
states 4 => error 6
links 4 => error 6
inbox 4 => error 6
hops 0 => error 6
states 0 => error 6
links 0 => error 6
inbox 0 => error 6
`)
}

func TestM1OneWhoIsHeardButDoesntHear(t *testing.T) {
	asked(t, `
net 2 1 0 2 0 5 => ok
plug 0 => ok
round 1 => ok
links 1 => 9 0; 1 0; 1 0
tick 2 => ok
deliver 0 1 999 => ok
links 1 => 9 2; 1 0; 1 0
links 2 => 9 0; 1 0; 1 0
states 1 => 1 1
tick 1 => ok
deliver 0 0 999 => ok
links 2 => 9 1 both; 1 0; 1 0
`)
}

func TestM2LinesThatAreNone(t *testing.T) {
	for _, line := range []string{
		"", " ", "  ", "fly", "fly high", "fly 1", "1", "0 0", "-", "ok", "error 4", "help", "N", "net N", "plug N",
		"Net 2", "NET 2", "nets 2", "ne 2", "network 2", "net2", "Plug 0", "plugs 0", "plug0", "unplug 0", "draws 0", "ticks 1",
		"Tick 1", "restarts 1", "deliver", "delivers 0 0 5", "spoils 0 0 0 1", "rounds 1", "Send 1 2 x", "sends 1 2 x", "hop 1",
		"state 1", "link 1", "in box 1", "inbox1", "on 0 0", "router 1", "dropped 1", "peer 1 0", "plug 0;", "plug 0; plug 0",
		"plug 0\nplug 0", "\x00", "\xff", "hops\t1", "hops one", "hops", "states", "links", "inbox", "tick", "round", "plug", "draw",
		"spoil", "spoil 0 0 0", "spoil 0 0 0 1 1", "deliver 0 0", "deliver 0 0 1 1", "restart",
	} {
		for _, ahead := range [][]string{{barn}, settled()} {
			if got := last(t, behind(ahead, line)...); got != "error 4" {
				t.Errorf("%q: %q", line, got)
			}
		}
	}
}

func TestM2LinesThatAreTooLong(t *testing.T) {
	long := func(many int) string { return "send 1 2 " + strings.Repeat("x", many-len("send 1 2 ")) }
	if got := last(t, pair, long(api.MaxLine)); got != "error 1" {
		t.Errorf("MaxLine bytes: %q", got)
	}
	for _, many := range []int{api.MaxLine + 1, api.MaxLine + 2, 10 * api.MaxLine} {
		for _, line := range []string{long(many), strings.Repeat("x", many), strings.Repeat(" ", many)} {
			if got := last(t, pair, line); got != "error 4" {
				t.Errorf("%d bytes: %q", many, got)
			}
			if got := last(t, line); got != "error 4" {
				t.Errorf("%d bytes, without a net: %q", many, got)
			}
		}
	}
	for _, ahead := range [][]string{nil, {pair}} {
		most := "net 6 1 0 2 0 10 1 1 2 1 10 1 2 2 2 10 3 0 4 0 10 3 1 4 1 10 3 2 4 2 1 5 0 6 0 1 5 1 6 1 1 5 2 6 2 1"
		if got := last(t, behind(ahead, most)...); len(most) != api.MaxLine || got != "ok" {
			t.Errorf("a net of %d bytes: %q", len(most), got)
		}
		if got := last(t, behind(ahead, most+"0")...); got != "error 4" {
			t.Errorf("a net of %d bytes: %q", len(most)+1, got)
		}
	}
	two := strings.Repeat("\u00e9", 46) // it is bytes that count
	if got := last(t, pair, "send 1 2 "+two); got != "error 4" {
		t.Errorf("%d bytes: %q", len("send 1 2 "+two), got)
	}
}

func TestM2WhileThereIsNoNet(t *testing.T) {
	lines := []string{
		"", " ", "fly", "fly high", "hops x", "hops", "round 01", "send 1 2", "send", "plug 0 ", " plug 0", "Net 2", "nets 2", "network", " net 2",
		"tick 9", "deliver 0 2 5", "spoil 0 0 999 1", "send 1 9 x", "send 1 2 " + strings.Repeat("x", 21), strings.Repeat("x", api.MaxLine),
	}
	for _, line := range kinds() {
		if !strings.HasPrefix(line, "net") {
			lines = append(lines, line)
		}
	}
	for _, line := range lines {
		if got := last(t, line); got != "error 7" {
			t.Errorf("%q: %q", line, got)
		}
		if got := last(t, "net 7", "net", line); got != "error 7" {
			t.Errorf("%q, behind nets that may not be: %q", line, got)
		}
	}
	for _, line := range []string{"net", "net ", "net  2", "net x", "net 02", "net 2 ", "net 2 1 0 2"} {
		if got := last(t, line); got != "error 4" {
			t.Errorf("%q: %q", line, got)
		}
	}
	if got := run(t, "round 1", "net 1", "round 1"); !slices.Equal(got, []string{"error 7", "ok", "ok"}) {
		t.Errorf("a net in the middle: %q", got)
	}
}

// No line can lead to some of the errors: all of them have their number.
func TestM2NumbersOfErrors(t *testing.T) {
	for e := api.ErrBound; e <= api.ErrExist; e++ {
		if got := numberOf(e); got != fmt.Sprint(int(e)) {
			t.Errorf("%v: %q", e, got)
		}
	}
}

// A line that is refused changes nothing, and lines that only ask change nothing but the inbox.
func TestM2WhatIsRefusedChangesNothing(t *testing.T) {
	ahead := []string{barn, "plug 0", "plug 1", "plug 3", "round 2"}
	refused := []string{
		"net 7", "net 2 1 0 1 0 5", "net", "plug 0", "plug 9", "draw 2", "draw 9", "tick 0", "tick 5", "restart 5", "deliver 9 0 9", "deliver 0 2 9",
		"spoil 0 0 999 1", "spoil 0 2 0 1", "round x", "send 1 7 x", "send 5 1 x", "send 1 2", "hops 5", "states 0", "links 5", "inbox 5", "fly",
		strings.Repeat("x", 101), "hops 1", "states 2", "links 3", "inbox 4",
	}
	rest := []string{"round 2", "states 1", "links 2", "hops 4", "send 1 4 hay", "round 6", "states 4", "inbox 4"}
	want := run(t, behind(ahead, rest...)...)[len(ahead):]
	got := run(t, append(behind(ahead, refused...), rest...)...)[len(ahead)+len(refused):]
	if !slices.Equal(got, want) {
		t.Errorf("%q, not %q", got, want)
	}
}

// die: numbers that look drawn, the same each time.
type die uint64

func (d *die) n(most int) int {
	*d = *d*6364136223846793005 + 1442695040888963407
	return int(uint64(*d>>33) % uint64(most))
}

// byHand: what a drawn line does to a net, and is to be answered, without any reading of lines.
func byHand(d *die, n *net.Net) (line, want string) {
	did := func(err error) string {
		for e := api.ErrBound; e <= api.ErrExist; e++ {
			if err == error(e) {
				return fmt.Sprintf("error %d", int(e))
			}
		}
		return "ok"
	}
	i, way, c := d.n(5), d.n(8)/3, d.n(5)
	switch d.n(12) {
	case 0:
		return fmt.Sprint("plug ", c), did(n.Plug(c, true))
	case 1:
		return fmt.Sprint("draw ", c), did(n.Plug(c, false))
	case 2:
		return fmt.Sprint("tick ", i), did(n.Tick(i))
	case 3:
		return fmt.Sprint("restart ", i), did(n.Restart(i))
	case 4:
		many := d.n(99)
		return fmt.Sprint("deliver ", c, " ", way, " ", many), did(n.Deliver(c, way, many))
	case 5:
		at, turn := d.n(30), d.n(1000)
		return fmt.Sprint("spoil ", c, " ", way, " ", at, " ", turn), did(n.Spoil(c, way, at, byte(turn)))
	case 6:
		many := d.n(5)
		for range many {
			n.Round()
		}
		return fmt.Sprint("round ", many), "ok"
	case 7:
		to, text := d.n(8), strings.Repeat(" hay", d.n(7))
		return fmt.Sprint("send ", i, " ", to, " ", text), did(n.Send(i, to, text))
	}
	return asksByHand(d, n, i, did)
}

func asksByHand(d *die, n *net.Net, i int, did func(error) string) (line, want string) {
	var l []string
	r, err := n.Router(i)
	switch d.n(4) {
	case 0:
		line = fmt.Sprint("hops ", i)
		if err == nil {
			for _, h := range r.Hops() {
				l = append(l, fmt.Sprintf("%d %d %d", h.To, h.Far, h.Next))
			}
		}
	case 1:
		line = fmt.Sprint("states ", i)
		if err == nil {
			for _, s := range r.States() {
				x := fmt.Sprintf("%d %d", s.Owner, s.Seq)
				for _, e := range s.Edges {
					x += fmt.Sprintf(" %d=%d", e.To, e.Metric)
				}
				l = append(l, x)
			}
		}
	case 2:
		line = fmt.Sprint("links ", i)
		for p := 0; err == nil && p < api.MaxPorts; p++ {
			state, _ := r.Link(p)
			who, _ := r.Peer(p)
			x := fmt.Sprintf("%d %d", state, who.Who)
			if who.Both {
				x += " both"
			}
			l = append(l, x)
		}
	default:
		line = fmt.Sprint("inbox ", i)
		in, _ := n.Inbox(i)
		for _, m := range in {
			l = append(l, fmt.Sprintf("%d %s", m.Hops, m.Text))
		}
	}
	if err != nil {
		return line, did(err)
	}
	if len(l) == 0 {
		return line, "-"
	}
	return line, strings.Join(l, "; ")
}

func TestM1DrawnSessions(t *testing.T) {
	d := die(7)
	for range 300 {
		n, err := net.New(4, []api.Cable{{A: 1, B: 2, Metric: 5}, {A: 2, PortA: 1, B: 3, Metric: 5}, {A: 1, PortA: 1, B: 3, PortB: 1, Metric: 20}, {A: 3, PortA: 2, B: 4, Metric: 2}})
		if err != nil {
			t.Fatal(err)
		}
		lines, want := []string{barn}, []string{"ok"}
		for len(lines) < api.MaxLines {
			line, answer := byHand(&d, n)
			lines, want = append(lines, line), append(want, answer)
		}
		for i, got := range run(t, lines...) {
			if got != want[i] {
				t.Fatalf("line %d, %q: %q, not %q; all lines: %q", i, lines[i], got, want[i], lines)
			}
		}
	}
}

// formed: is it an answer such as there are?
func formed(answer string) bool {
	switch answer {
	case "ok", "-", "error 1", "error 4", "error 6", "error 7", "error 8":
		return true
	}
	return answer != "" && answer[0] >= '0' && answer[0] <= '9'
}

func TestZ1LinesOfAnyBytes(t *testing.T) {
	d := die(9)
	for range 400 {
		lines := []string{barn, "plug 0", "plug 3"}
		for len(lines) < api.MaxLines {
			b := []byte(kinds()[d.n(len(kinds()))])
			for range d.n(4) {
				b[d.n(len(b))] = byte(d.n(256))
			}
			for range d.n(3) {
				at := d.n(len(b))
				b = slices.Insert(b, at, " 0123456789xsend"[d.n(16)])
			}
			lines = append(lines, string(b[:d.n(2*len(b))%len(b)+1]))
		}
		for i, answer := range run(t, lines...) {
			if !formed(answer) {
				t.Fatalf("%q: %q", lines[i], answer)
			}
		}
	}
}

func TestZ2SessionsHaveNothingInCommon(t *testing.T) {
	lines := append(settled(), "send 1 2 hay", "round 1", "inbox 2", "links 1", "states 1", "hops 1")
	kept := slices.Clone(lines)
	first := run(t, lines...)
	want := slices.Clone(first)
	for i := range first {
		first[i] = "x"
	}
	if second := run(t, lines...); !slices.Equal(second, want) || !slices.Equal(lines, kept) {
		t.Errorf("again: %q, not %q; lines: %q", second, want, lines)
	}
	if got := last(t, "hops 1"); got != "error 7" {
		t.Errorf("the net of an elder session is there: %q", got)
	}
	stand := append(slices.Clone(kept), "fly")[:len(kept)] // what stands behind is not read
	if got := run(t, stand...); !slices.Equal(got, want) || stand[:len(kept)+1][len(kept)] != "fly" {
		t.Errorf("%q, not %q", got, want)
	}
}
