// Package frame: bytes on a cable, and what they carry.
package frame

import "towpath/api"

const (
	flag   = 126 // ahead of a frame, and behind it
	escape = 125 // the byte behind it stands for itself xor turn
	turn   = 32
	least  = 32 // bytes below it don't go bare over a cable
	poly   = 33800
	ones   = 65535
	sumLen = 2
)

// Reader of frames: what came since the last flag.
// An array, not a slice, holds it: a copy of a reader reads on by itself, and a cable without flags fills no memory.
type Reader struct {
	body    [api.MaxBody + sumLen]byte
	many    int  // how many of body came
	escaped bool // the last byte was an escape
	bad     bool // whatever else comes, it can't be read
}

// Sum of bytes: sixteen bits.
func Sum(s string) int {
	x := ones
	for i := range len(s) {
		x ^= int(s[i])
		for range 8 {
			odd := x%2 == 1
			x /= 2
			if odd {
				x ^= poly
			}
		}
	}
	return x ^ ones
}

// Make a frame: a flag, what it carries with its sum, another flag; signs are escaped.
func Make(s string) (string, error) {
	if len(s) > api.MaxBody {
		return "", api.ErrMany
	}
	sum := Sum(s)
	out := []byte{flag}
	for _, c := range append([]byte(s), byte(sum), byte(sum>>8)) {
		if c == flag || c == escape || c < least {
			out = append(out, escape, c^turn)
		} else {
			out = append(out, c)
		}
	}
	return string(append(out, flag)), nil
}

// Take a byte: what a frame carries that ends with it; done: one ends, well or (then with an error) not.
func (r *Reader) Take(c byte) (s string, done bool, err error) {
	if c != flag {
		r.add(c)
		return "", false, nil
	}
	s, done, err = r.told()
	*r = Reader{}
	return s, done, err
}

// All that bytes carry, one behind the other: what is well; how many were bad.
func (r *Reader) All(s string) (out []string, bad int) {
	for i := range len(s) {
		t, done, err := r.Take(s[i])
		if err != nil {
			bad++
		} else if done {
			out = append(out, t)
		}
	}
	return out, bad
}

// add a byte that is no flag.
func (r *Reader) add(c byte) {
	if c < least || c == escape && r.escaped {
		r.bad = true
		return
	}
	if c == escape {
		r.escaped = true
		return
	}
	if r.escaped {
		c ^= turn
		r.escaped = false
	}
	if r.many == len(r.body) {
		r.bad = true
		return
	}
	r.body[r.many] = c
	r.many++
}

// told: what came since the last flag, now that another one ends it.
func (r *Reader) told() (string, bool, error) {
	if r.bad || r.escaped {
		return "", true, api.ErrText
	}
	if r.many == 0 { // nothing stands between two flags: the same one may end a frame and begin another
		return "", false, nil
	}
	if r.many < sumLen {
		return "", true, api.ErrText
	}
	k := r.many - sumLen
	s := string(r.body[:k])
	if Sum(s) != int(r.body[k])+256*int(r.body[k+1]) {
		return "", true, api.ErrSum
	}
	return s, true, nil
}
