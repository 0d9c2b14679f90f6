package policy

import (
	"math"
	"slices"
	"testing"

	"towpath/api"
)

type option = api.Option

func opt(kind, n int) option { return option{Kind: kind, N: n} }

func list(l ...option) []option { return l }

func TestD1New(t *testing.T) {
	cases := []struct {
		size, magic int
		err         error
	}{
		{90, 7, nil}, {40, 1, nil}, {255, 255, nil}, {40, 255, nil}, {255, 1, nil},
		{39, 7, api.ErrBound}, {256, 7, api.ErrBound}, {0, 7, api.ErrBound}, {-40, 7, api.ErrBound},
		{math.MaxInt, 7, api.ErrBound}, {math.MinInt, 7, api.ErrBound},
		{90, 0, api.ErrBound}, {90, 256, api.ErrBound}, {90, -1, api.ErrBound},
		{90, math.MaxInt, api.ErrBound}, {90, math.MinInt, api.ErrBound}, {39, 0, api.ErrBound},
	}
	for _, c := range cases {
		p, err := New(c.size, c.magic)
		want := Policy{Size: c.size, Magic: c.magic}
		if c.err != nil {
			want = Policy{}
		}
		if p != want || err != c.err {
			t.Errorf("New(%d, %d) = %v, %v, want %v, %v", c.size, c.magic, p, err, want, c.err)
		}
	}
}

func TestD1Asks(t *testing.T) {
	cases := []struct {
		p    Policy
		want []option
	}{
		{Policy{Size: 90, Magic: 7}, list(opt(api.Size, 90), opt(api.Magic, 7))},
		{Policy{Size: 255, Magic: 255}, list(opt(api.Size, 255), opt(api.Magic, 255))},
		{Policy{Size: 1, Magic: 1}, list(opt(api.Size, 1), opt(api.Magic, 1))},
		{Policy{Size: 90}, list(opt(api.Size, 90))},
		{Policy{Magic: 7}, list(opt(api.Magic, 7))},
		{Policy{}, nil},
	}
	for _, c := range cases {
		if got := c.p.Asks(); !slices.Equal(got, c.want) {
			t.Errorf("%v.Asks() = %v, want %v", c.p, got, c.want)
		}
	}
}

var judged = []struct {
	name string
	p    Policy
	in   []option
	code int
	out  []option
}{
	{"nothing", Policy{Size: 90, Magic: 7}, nil, api.ConfAck, nil},
	{"both", Policy{Size: 90, Magic: 7}, list(opt(1, 50), opt(5, 8)), api.ConfAck, list(opt(1, 50), opt(5, 8))},
	{"both, the other way round", Policy{Size: 90, Magic: 7}, list(opt(5, 255), opt(1, 255)), api.ConfAck, list(opt(5, 255), opt(1, 255))},
	{"the least size", Policy{Size: 90, Magic: 7}, list(opt(1, 40)), api.ConfAck, list(opt(1, 40))},
	{"a size beyond its own", Policy{Size: 40, Magic: 7}, list(opt(1, 255)), api.ConfAck, list(opt(1, 255))},
	{"the least magic", Policy{Size: 90, Magic: 7}, list(opt(5, 1)), api.ConfAck, list(opt(5, 1))},
	{"what it doesn't ask itself", Policy{}, list(opt(1, 40), opt(5, 9)), api.ConfAck, list(opt(1, 40), opt(5, 9))},

	{"a size too small", Policy{Size: 90, Magic: 7}, list(opt(1, 39)), api.ConfNak, list(opt(1, 40))},
	{"no size", Policy{Size: 90, Magic: 7}, list(opt(1, 0)), api.ConfNak, list(opt(1, 40))},
	{"a size below 0", Policy{Size: 90, Magic: 7}, list(opt(1, math.MinInt)), api.ConfNak, list(opt(1, 40))},
	{"its own magic", Policy{Size: 90, Magic: 7}, list(opt(5, 7)), api.ConfNak, list(opt(5, 8))},
	{"no magic: the one behind its own", Policy{Size: 90, Magic: 7}, list(opt(5, 0)), api.ConfNak, list(opt(5, 8))},
	{"its own magic, 254", Policy{Size: 90, Magic: 254}, list(opt(5, 254)), api.ConfNak, list(opt(5, 255))},
	{"its own magic, 255", Policy{Size: 90, Magic: 255}, list(opt(5, 255)), api.ConfNak, list(opt(5, 1))},
	{"no magic, 255", Policy{Size: 90, Magic: 255}, list(opt(5, 0)), api.ConfNak, list(opt(5, 1))},
	{"no magic, and none of its own", Policy{Size: 90}, list(opt(5, 0)), api.ConfNak, list(opt(5, 1))},
	{"both are wrong, in order", Policy{Size: 90, Magic: 7}, list(opt(5, 7), opt(1, 3)), api.ConfNak, list(opt(5, 8), opt(1, 40))},
	{"only what is wrong is named", Policy{Size: 90, Magic: 7}, list(opt(1, 50), opt(5, 7)), api.ConfNak, list(opt(5, 8))},
	{"only the size is wrong", Policy{Size: 90, Magic: 7}, list(opt(1, 39), opt(5, 9)), api.ConfNak, list(opt(1, 40))},
	{"a magic that is a size", Policy{Size: 90, Magic: 7}, list(opt(1, 7), opt(5, 90)), api.ConfNak, list(opt(1, 40))},

	{"another kind", Policy{Size: 90, Magic: 7}, list(opt(3, 9)), api.ConfRej, list(opt(3, 9))},
	{"other kinds, in order", Policy{Size: 90, Magic: 7}, list(opt(9, 0), opt(1, 50), opt(0, 255), opt(5, 8), opt(2, 1)), api.ConfRej, list(opt(9, 0), opt(0, 255), opt(2, 1))},
	{"another kind ahead of what is wrong", Policy{Size: 90, Magic: 7}, list(opt(1, 0), opt(5, 7), opt(6, 40)), api.ConfRej, list(opt(6, 40))},
	{"kinds out of bounds", Policy{Size: 90, Magic: 7}, list(opt(-1, -1), opt(256, 256), opt(math.MaxInt, 0)), api.ConfRej, list(opt(-1, -1), opt(256, 256), opt(math.MaxInt, 0))},
}

func TestD2Judge(t *testing.T) {
	for _, c := range judged {
		code, out := c.p.Judge(c.in)
		if code != c.code || !slices.Equal(out, c.out) {
			t.Errorf("%s: %v.Judge(%v) = %d, %v, want %d, %v", c.name, c.p, c.in, code, out, c.code, c.out)
		}
	}
}

// TestD2BetterIsTaken: what is told in the place of something wrong is right itself.
func TestD2BetterIsTaken(t *testing.T) {
	for magic := 1; magic <= 255; magic++ {
		p := Policy{Size: 40, Magic: magic}
		for _, n := range []int{0, magic} {
			code, better := p.Judge(list(opt(5, n), opt(1, n%40)))
			if code != api.ConfNak || len(better) != 2 {
				t.Fatalf("%v: magic %d: %d, %v", p, n, code, better)
			}
			if again, _ := p.Judge(better); again != api.ConfAck {
				t.Errorf("%v: %v is answered by %d", p, better, again)
			}
		}
	}
}

func TestD3Told(t *testing.T) {
	both := Policy{Size: 90, Magic: 7}
	cases := []struct {
		name string
		p    Policy
		code int
		in   []option
		want Policy
	}{
		{"size is refused", both, api.ConfRej, list(opt(1, 90)), Policy{Magic: 7}},
		{"magic is refused", both, api.ConfRej, list(opt(5, 7)), Policy{Size: 90}},
		{"both are refused, whatever the numbers", both, api.ConfRej, list(opt(5, 0), opt(1, -3)), Policy{}},
		{"others are refused", both, api.ConfRej, list(opt(0, 90), opt(3, 7)), both},
		{"nothing is refused", both, api.ConfRej, nil, both},

		{"another size", both, api.ConfNak, list(opt(1, 40)), Policy{Size: 40, Magic: 7}},
		{"the most", both, api.ConfNak, list(opt(1, 255)), Policy{Size: 255, Magic: 7}},
		{"a size too small", both, api.ConfNak, list(opt(1, 39)), both},
		{"a size below 0", both, api.ConfNak, list(opt(1, math.MinInt)), both},
		{"another magic", both, api.ConfNak, list(opt(5, 8)), Policy{Size: 90, Magic: 8}},
		{"the least magic", both, api.ConfNak, list(opt(5, 1)), Policy{Size: 90, Magic: 1}},
		{"no magic", both, api.ConfNak, list(opt(5, 0)), both},
		{"a magic below 0", both, api.ConfNak, list(opt(5, -1)), both},
		{"both", both, api.ConfNak, list(opt(5, 9), opt(1, 50)), Policy{Size: 50, Magic: 9}},
		{"one behind the other", both, api.ConfNak, list(opt(1, 50), opt(1, 60), opt(1, 3)), Policy{Size: 60, Magic: 7}},
		{"others", both, api.ConfNak, list(opt(2, 50), opt(4, 60)), both},
		{"a size that it doesn't ask for", Policy{Magic: 7}, api.ConfNak, list(opt(1, 50), opt(5, 8)), Policy{Magic: 8}},
		{"a magic that it doesn't ask for", Policy{Size: 90}, api.ConfNak, list(opt(5, 8), opt(1, 50)), Policy{Size: 50}},
		{"it asks for nothing", Policy{}, api.ConfNak, list(opt(5, 8), opt(1, 50)), Policy{}},
	}
	for _, c := range cases {
		if got := c.p.Told(c.code, c.in); got != c.want {
			t.Errorf("%s: %v.Told(%d, %v) = %v, want %v", c.name, c.p, c.code, c.in, got, c.want)
		}
	}
}

func TestD3OtherCodesChangeNothing(t *testing.T) {
	p := Policy{Size: 90, Magic: 7}
	for _, code := range []int{-1, 0, api.ConfReq, api.ConfAck, api.TermReq, api.TermRsp, 7, 255, 259, 260, math.MaxInt, math.MinInt} {
		if got := p.Told(code, list(opt(1, 50), opt(5, 8))); got != p {
			t.Errorf("Told(%d) = %v", code, got)
		}
	}
}

// TestD3WhatIsToldIsKept: a call changes no policy but that which it answers.
func TestD3WhatIsToldIsKept(t *testing.T) {
	p := Policy{Size: 90, Magic: 7}
	_ = p.Told(api.ConfRej, list(opt(1, 0), opt(5, 0)))
	if p != (Policy{Size: 90, Magic: 7}) {
		t.Errorf("it became %v", p)
	}
}

func TestZ2PolicySharesNoMemory(t *testing.T) {
	for _, c := range judged {
		in := slices.Clone(c.in)
		room := append(in, opt(200, 200), opt(1, 1))[:len(in)] // what stands behind is nobody's business
		_, out := c.p.Judge(room)
		if !slices.Equal(out, c.out) {
			t.Errorf("%s: %v", c.name, out)
		}
		_ = append(out, opt(99, 99))
		for i := range out {
			out[i] = opt(77, 77)
		}
		if !slices.Equal(room, c.in) || room[:len(in)+1][len(in)] != opt(200, 200) {
			t.Errorf("%s: what was handed in became %v", c.name, room[:len(in)+1])
		}
		_ = c.p.Told(c.code, room)
		if !slices.Equal(room, c.in) {
			t.Errorf("%s: Told made it %v", c.name, room)
		}
	}
	p := Policy{Size: 90, Magic: 7}
	a, b := p.Asks(), p.Asks()
	a[0] = opt(9, 9)
	if b[0] != opt(api.Size, 90) {
		t.Error("what is asked shares memory")
	}
}
