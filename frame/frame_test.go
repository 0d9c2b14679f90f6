package frame

import (
	"math/bits"
	"slices"
	"strings"
	"testing"

	"towpath/api"
)

// drawn bytes, the same each time: many of them are signs of the frame.
func drawn(seed uint32, many int) string {
	b := make([]byte, many)
	for i := range b {
		seed = seed*1664525 + 1013904223
		b[i] = []byte{flag, escape, 0, 31, 32, 0x5e, byte(seed >> 16), 'a'}[seed>>29]
	}
	return string(b)
}

// plainSum: the same sum the other way round, by the highest bit first.
func plainSum(s string) int {
	x := uint16(ones)
	for _, c := range []byte(s) {
		x ^= uint16(bits.Reverse8(c)) << 8
		for range 8 {
			high := x >> 15
			x <<= 1
			if high == 1 {
				x ^= 0x1021
			}
		}
	}
	return int(bits.Reverse16(x)) ^ ones
}

// bare bytes between flags, with their sum, none of them escaped: what Make never writes.
func bare(s string) string {
	n := Sum(s)
	return s + string([]byte{byte(n), byte(n >> 8)})
}

// wire: what Make would write between the flags, were there no bound.
func wire(s string) string {
	out := ""
	for _, c := range []byte(bare(s)) {
		if c < 32 || c == flag || c == escape {
			out += "}"
			c ^= 32
		}
		out += string([]byte{c})
	}
	return out
}

func made(t *testing.T, s string) string {
	t.Helper()
	f, err := Make(s)
	if err != nil {
		t.Fatalf("Make(%q): %v", s, err)
	}
	return f
}

func TestA1SumOfKnownTexts(t *testing.T) {
	for s, want := range map[string]int{"": 0, "a": 33527, "123456789": 36974, "hay for the barn": 49490, "~}\x1f\x00 ": 33958, strings.Repeat("\x00", 60): 24026} {
		if got := Sum(s); got != want {
			t.Errorf("Sum(%q) = %d, want %d", s, got, want)
		}
	}
}

func TestA1SumOfAllBytesAndLengths(t *testing.T) {
	for c := range 256 {
		s := string([]byte{byte(c)})
		if got, want := Sum(s), plainSum(s); got != want {
			t.Errorf("Sum(%q) = %d, want %d", s, got, want)
		}
	}
	for _, many := range []int{2, 59, 60, 61, 300, 5000} {
		s := drawn(uint32(many), many)
		if got, want := Sum(s), plainSum(s); got != want {
			t.Errorf("Sum of %d bytes = %d, want %d", many, got, want)
		}
	}
}

func TestA2MakeKnownFrames(t *testing.T) {
	for s, want := range map[string]string{
		"":                 "~} } ~",
		"a":                "~a\xf7\x82~",
		"hay for the barn": "~hay for the barnR\xc1~",
		"~}\x1f\x00 ":      "~}^}]}?}  \xa6\x84~",
		// the sum's own bytes are escaped too, or not
		"!+": "~!+}]\xaa~",
		" c": "~ c\xe9}]~",
		" 1": "~ 1}^},~",
		" P": "~ P\xf1}^~",
		"!V": "~!V}?}\"~",
		"$6": "~$6\xa1}?~",
		" {": "~ { \xe1~",
		"!E": "~!E}% ~",
	} {
		if got := made(t, s); got != want {
			t.Errorf("Make(%q) = %q, want %q", s, got, want)
		}
	}
}

func TestA2MakeEscapesJustTheSigns(t *testing.T) {
	for c := range 256 {
		s := string([]byte{byte(c), 'x'})
		want := s[:1]
		if c < 32 || c == 125 || c == 126 {
			want = string([]byte{125, byte(c) ^ 32})
		}
		if got := made(t, s); !strings.HasPrefix(got, "~"+want+"x") {
			t.Errorf("Make(%q) = %q, want it to begin with %q", s, got, "~"+want+"x")
		}
	}
}

func TestA2MakeBound(t *testing.T) {
	most := strings.Repeat("\x00", api.MaxBody)
	if got, want := made(t, most), "~"+strings.Repeat("} ", api.MaxBody)+"\xda]~"; got != want {
		t.Errorf("Make of %d bytes = %q, want %q", api.MaxBody, got, want)
	}
	for _, many := range []int{api.MaxBody + 1, 1000} {
		if got, err := Make(strings.Repeat("a", many)); got != "" || err != api.ErrMany {
			t.Errorf("Make of %d bytes = %q, %v, want ErrMany", many, got, err)
		}
	}
}

func TestA3TakeOneByOne(t *testing.T) {
	var r Reader
	f := made(t, "hay") + made(t, "")
	end := len(made(t, "hay")) - 1
	for i, c := range []byte(f) {
		s, done, err := r.Take(c)
		wantText, wantDone := "", i == end || i == len(f)-1
		if i == end {
			wantText = "hay"
		}
		if s != wantText || done != wantDone || err != nil {
			t.Errorf("byte %d: Take(%d) = %q, %v, %v, want %q, %v", i, c, s, done, err, wantText, wantDone)
		}
	}
}

func TestA3FlagsAlone(t *testing.T) {
	var r Reader
	for range 5 {
		if s, done, err := r.Take(flag); s != "" || done || err != nil {
			t.Errorf("a flag behind nothing: %q, %v, %v", s, done, err)
		}
	}
}

// ends: what is said of these bytes by the flag behind them; none of them says anything itself.
func ends(t *testing.T, r *Reader, s string) (string, bool, error) {
	t.Helper()
	for _, c := range []byte(s) {
		if s, done, err := r.Take(c); s != "" || done || err != nil {
			t.Errorf("Take(%d) = %q, %v, %v ahead of a flag", c, s, done, err)
		}
	}
	return r.Take(flag)
}

func TestA3Ends(t *testing.T) {
	sixty := strings.Repeat("a", 60)
	for _, c := range []struct {
		name, in, out string
		err           error
	}{
		{"from the beginning on, without a flag ahead", bare("123456789"), "123456789", nil},
		{"nothing but a sum", "} } ", "", nil},
		{"an escape of what needs none", "}A\xf7\x82", "a", nil},
		{"as many as may be", wire(sixty), sixty, nil},
		{"one more", wire(sixty + "a"), "", api.ErrText},
		{"many more", wire(strings.Repeat("a", 1000)), "", api.ErrText},
		{"as many as may be, all escaped", wire(strings.Repeat("\x00", 60)), strings.Repeat("\x00", 60), nil},
		{"one more, and it is escaped", wire(sixty) + "}A", "", api.ErrText},
		{"one byte", "a", "", api.ErrText},
		{"one byte, escaped", "} ", "", api.ErrText},
		{"an escape alone", "}", "", api.ErrText},
		{"an escape at the end", bare("123456789") + "}", "", api.ErrText},
		{"an escape behind as many as may be", wire(sixty) + "}", "", api.ErrText},
		{"two escapes", "}}", "", api.ErrText},
		{"two escapes ahead of what is well", "}}" + bare("123456789"), "", api.ErrText},
		{"two escapes and a byte", "}}]ab", "", api.ErrText},
		{"an escape and a byte below 32", "}\x1fab", "", api.ErrText},
		{"a byte below 32 ahead", "\x00" + bare("123456789"), "", api.ErrText},
		{"a byte below 32 behind", bare("123456789") + "\x1f", "", api.ErrText},
		{"a byte below 32 alone", "\x1f", "", api.ErrText},
		{"a byte below 32 that is carried bare", bare("\x07" + "abc"), "", api.ErrText},
		{"another sum", "a\xf7\x83", "", api.ErrSum},
		{"a sum with the higher byte first", "a\x82\xf7", "", api.ErrSum},
		{"two bytes that are no sum of none", "ab", "", api.ErrSum},
		{"32 stands for itself", bare(" {"), " {", nil},
	} {
		var r Reader
		s, done, err := ends(t, &r, c.in)
		if s != c.out || !done || err != c.err {
			t.Errorf("%s: %q, %v, %v, want %q, true, %v", c.name, s, done, err, c.out, c.err)
		}
		if s, done, err := r.Take(flag); s != "" || done || err != nil {
			t.Errorf("%s: another flag: %q, %v, %v", c.name, s, done, err)
		}
		if s, done, err := ends(t, &r, bare("123456789")); s != "123456789" || !done || err != nil {
			t.Errorf("%s: the next frame: %q, %v, %v", c.name, s, done, err)
		}
	}
}

func TestA3EscapedBytes(t *testing.T) {
	for c := range 256 {
		if c == flag {
			continue
		}
		body := string([]byte{byte(c) ^ 32})
		n := Sum(body)
		in := []byte{escape, byte(c)}
		for _, x := range []byte{byte(n), byte(n >> 8)} {
			in = append(in, escape, x^32)
		}
		if slices.ContainsFunc(in[2:], func(x byte) bool { return x == flag }) || in[3] < 32 || in[5] < 32 || in[3] == escape || in[5] == escape {
			continue // this sum can't be written with escapes
		}
		want, wantErr := body, error(nil)
		if c < 32 || c == escape {
			want, wantErr = "", api.ErrText
		}
		var r Reader
		if s, done, err := ends(t, &r, string(in)); s != want || !done || err != wantErr {
			t.Errorf("125 and %d: %q, %v, %v, want %q, %v", c, s, done, err, want, wantErr)
		}
	}
}

func TestA3All(t *testing.T) {
	var r Reader
	in := "noise" + made(t, "one") + made(t, "") + "\x01~" + "~~" + made(t, "two")[1:] + "ab~" + made(t, "three")[:4]
	out, bad := r.All(in)
	if want := []string{"one", "", "two"}; !slices.Equal(out, want) || bad != 3 {
		t.Errorf("All = %q, %d, want %q, 3", out, bad, want)
	}
	out, bad = r.All(made(t, "three")[4:])
	if want := []string{"three"}; !slices.Equal(out, want) || bad != 0 {
		t.Errorf("All of the rest = %q, %d, want %q, 0", out, bad, want)
	}
	if out, bad = r.All(""); len(out) != 0 || bad != 0 {
		t.Errorf("All of nothing = %q, %d", out, bad)
	}
}

func TestA3CopiesReadOnByThemselves(t *testing.T) {
	var r Reader
	f := bare("123456789")
	r.All(f[:4])
	other := r
	other.All("zzzz~")
	if s, done, err := ends(t, &r, f[4:]); s != "123456789" || !done || err != nil {
		t.Errorf("behind what a copy read: %q, %v, %v", s, done, err)
	}
}

func TestW7FramesInAnyPieces(t *testing.T) {
	var want []string
	all := ""
	for many := range api.MaxBody + 1 {
		s := drawn(uint32(many)+7, many)
		want = append(want, s)
		all += made(t, s)
	}
	for _, piece := range []int{1, 2, 3, 7, 64, 1000, len(all)} {
		var r Reader
		var got []string
		for rest := all; rest != ""; {
			k := min(piece, len(rest))
			out, bad := r.All(rest[:k])
			if bad != 0 {
				t.Errorf("pieces of %d: %d are bad", piece, bad)
			}
			got = append(got, out...)
			rest = rest[k:]
		}
		if !slices.Equal(got, want) {
			t.Errorf("pieces of %d: %q, want %q", piece, got, want)
		}
	}
}

func TestZ1AnyBytes(t *testing.T) {
	var r Reader
	for seed := range uint32(300) {
		for _, c := range []byte(drawn(seed, 200)) {
			if s, done, err := r.Take(c); err != nil && (s != "" || !done) || !done && s != "" || c != flag && done {
				t.Fatalf("Take(%d) = %q, %v, %v", c, s, done, err)
			}
		}
	}
}
