package packet

import (
	"math"
	"slices"
	"strings"
	"testing"

	"towpath/api"
)

type option = api.Option

func opt(kind, n int) option { return option{Kind: kind, N: n} }

// kinds from 0 on: so many options that may stand together.
func kinds(many int) []option {
	var l []option
	for i := range many {
		l = append(l, opt(i, 255-i))
	}
	return l
}

func pack(code, id int, l ...option) api.Packet {
	return api.Packet{Code: code, ID: id, Options: l}
}

func same(a, b api.Packet) bool {
	return a.Code == b.Code && a.ID == b.ID && slices.Equal(a.Options, b.Options)
}

var cases = []struct {
	name string
	p    api.Packet
	err  error
	text string
}{
	{"a request", pack(api.ConfReq, 1, opt(api.Size, 255), opt(api.Magic, 9)), nil, "\x01\x01\x02\x01\xff\x05\x09"},
	{"an ack without options", pack(api.ConfAck, 0), nil, "\x02\x00\x00"},
	{"the order of options stays", pack(api.ConfNak, 255, opt(9, 0), opt(3, 1)), nil, "\x03\xff\x02\x09\x00\x03\x01"},
	{"the edges of options", pack(api.ConfRej, 7, opt(0, 255), opt(255, 0)), nil, "\x04\x07\x02\x00\xff\xff\x00"},
	{"an end is asked", pack(api.TermReq, 2), nil, "\x05\x02\x00"},
	{"an end is answered", pack(api.TermRsp, 3), nil, "\x06\x03\x00"},
	{"as many options as may be", pack(1, 0, kinds(8)...), nil, "\x01\x00\x08\x00\xff\x01\xfe\x02\xfd\x03\xfc\x04\xfb\x05\xfa\x06\xf9\x07\xf8"},

	{"code 0", pack(0, 1), api.ErrBound, ""},
	{"code 7", pack(7, 1), api.ErrBound, ""},
	{"code 257", pack(257, 1), api.ErrBound, ""},
	{"code below 0", pack(math.MinInt, 1), api.ErrBound, ""},
	{"number below 0", pack(1, -1), api.ErrBound, ""},
	{"number 256", pack(1, 256), api.ErrBound, ""},
	{"nine options", pack(1, 0, kinds(9)...), api.ErrMany, ""},
	{"TermReq with an option", pack(api.TermReq, 0, opt(1, 50)), api.ErrShape, ""},
	{"TermRsp with an option", pack(api.TermRsp, 0, opt(1, 50)), api.ErrShape, ""},
	{"kind below 0", pack(1, 0, opt(-1, 0)), api.ErrBound, ""},
	{"kind 256", pack(1, 0, opt(256, 0)), api.ErrBound, ""},
	{"N below 0", pack(1, 0, opt(1, -1)), api.ErrBound, ""},
	{"N 256", pack(1, 0, opt(1, 256)), api.ErrBound, ""},
	{"N beyond all", pack(1, 0, opt(1, math.MaxInt)), api.ErrBound, ""},
	{"a kind twice", pack(2, 0, opt(1, 50), opt(1, 50)), api.ErrShape, ""},
	{"a kind twice, others between", pack(2, 0, opt(4, 0), opt(1, 50), opt(2, 0), opt(1, 60)), api.ErrShape, ""},

	{"a bound ahead of too many", pack(0, 0, kinds(9)...), api.ErrBound, ""},
	{"the number's bound ahead of a shape", pack(5, 256, opt(1, 1)), api.ErrBound, ""},
	{"too many ahead of a shape", pack(5, 0, kinds(9)...), api.ErrMany, ""},
	{"too many ahead of an option's bound", pack(1, 0, append(kinds(8), opt(300, 0))...), api.ErrMany, ""},
	{"a shape ahead of an option's bound", pack(6, 0, opt(300, 0)), api.ErrShape, ""},
	{"an option's bound ahead of its shape", pack(1, 0, opt(1, 0), opt(1, 256)), api.ErrBound, ""},
	{"the first option's fault: a bound", pack(1, 0, opt(1, 256), opt(1, 0)), api.ErrBound, ""},
	{"the first option's fault: a shape", pack(1, 0, opt(1, 0), opt(1, 1), opt(2, 256)), api.ErrShape, ""},
}

func TestB1Check(t *testing.T) {
	for _, c := range cases {
		if err := Check(c.p); err != c.err {
			t.Errorf("%s: Check(%v) = %v, want %v", c.name, c.p, err, c.err)
		}
	}
}

func TestB2Bytes(t *testing.T) {
	for _, c := range cases {
		if s, err := Bytes(c.p); s != c.text || err != c.err {
			t.Errorf("%s: Bytes(%v) = %q, %v, want %q, %v", c.name, c.p, s, err, c.text, c.err)
		}
	}
}

func TestB2ParseWhatIsWritten(t *testing.T) {
	for _, c := range cases {
		if c.err != nil {
			continue
		}
		if p, err := Parse(c.text); err != nil || !same(p, c.p) {
			t.Errorf("%s: Parse(%q) = %v, %v, want %v", c.name, c.text, p, err, c.p)
		}
	}
}

func TestB2ParseWhatIsNoPacket(t *testing.T) {
	for name, s := range map[string]string{
		"nothing":                  "",
		"one byte":                 "\x01",
		"two bytes":                "\x01\x01",
		"an option short":          "\x01\x01\x01",
		"half an option":           "\x01\x01\x01\x05",
		"half an option too many":  "\x01\x01\x00\x05",
		"an option too many":       "\x01\x01\x01\x05\x01\x06\x01",
		"code 0":                   "\x00\x01\x00",
		"code 7":                   "\x07\x01\x00",
		"code 255":                 "\xff\x01\x00",
		"nine options":             "\x01\x00\x09" + "\x01\x00\x02\x00\x03\x00\x04\x00\x05\x00\x06\x00\x07\x00\x08\x00\x09\x00",
		"255 options, none there":  "\x01\x00\xff",
		"128 options, none there":  "\x01\x00\x80",
		"TermReq with an option":   "\x05\x00\x01\x01\x32",
		"TermRsp with an option":   "\x06\x00\x01\x01\x32",
		"a kind twice":             "\x01\x00\x02\x01\x32\x01\x33",
		"a packet, and one behind": "\x02\x00\x00\x02\x00\x00",
		"very long":                strings.Repeat("\x01", 100000),
	} {
		if p, err := Parse(s); err != api.ErrText || !same(p, api.Packet{}) {
			t.Errorf("%s: Parse(%q) = %v, %v, want ErrText", name, s[:min(len(s), 30)], p, err)
		}
	}
}

// What Parse takes is just what Bytes writes: all texts of three bytes, and of five with some options.
func TestW7PacketsReadAndWritten(t *testing.T) {
	ask := func(s string) {
		p, err := Parse(s)
		if err != nil {
			if err != api.ErrText || !same(p, api.Packet{}) {
				t.Errorf("Parse(%q) = %v, %v", s, p, err)
			}
			return
		}
		if back, err := Bytes(p); back != s || err != nil {
			t.Errorf("Bytes(Parse(%q)) = %q, %v", s, back, err)
		}
	}
	read := 0
	for code := range 256 {
		for id := range 256 {
			for _, rest := range []string{"\x00", "\x01", "\x01\x01\xff", "\x01\x00\x00", "\x02\x01\xff", "\x02\x01\x00\x05\x00", "\x02\x05\x00\x05\x00"} {
				s := string([]byte{byte(code), byte(id)}) + rest
				ask(s)
				if _, err := Parse(s); err == nil {
					read++
				}
			}
		}
	}
	// six codes without options; four of them with one or two that may stand together
	if want := 256 * (6 + 4*3); read != want {
		t.Errorf("%d texts are packets, want %d", read, want)
	}
}

func TestZ2OptionsAreTheCallers(t *testing.T) {
	behind := []option{opt(1, 40), opt(5, 7), opt(1, 300)}
	p := api.Packet{Code: 1, ID: 4, Options: behind[:2]}
	s, err := Bytes(p)
	if err != nil || !slices.Equal(behind, []option{opt(1, 40), opt(5, 7), opt(1, 300)}) {
		t.Errorf("Bytes: %v; the list handed in is %v now", err, behind)
	}
	a, _ := Parse(s)
	b, _ := Parse(s)
	a.Options[0].N = 99
	_ = append(a.Options[:1], opt(8, 8))
	if b.Options[0].N != 40 || b.Options[1] != opt(5, 7) {
		t.Errorf("two answers share memory: %v", b)
	}
}
