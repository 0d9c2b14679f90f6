// Package packet: what two ends of a link tell each other.
package packet

import (
	"slices"

	"towpath/api"
)

const (
	maxOptions = 8
	maxByte    = 255
	head       = 3 // bytes ahead of the options: the code, the number, how many
)

// Check a packet.
func Check(p api.Packet) error {
	if p.Code < api.ConfReq || p.Code > api.TermRsp || !isByte(p.ID) {
		return api.ErrBound
	}
	if len(p.Options) > maxOptions {
		return api.ErrMany
	}
	if p.Code >= api.TermReq && len(p.Options) > 0 {
		return api.ErrShape
	}
	return checkOptions(p.Options)
}

// checkOptions one by one: a later one's bound is not asked ahead of an earlier one's shape.
func checkOptions(l []api.Option) error {
	for i, o := range l {
		if !isByte(o.Kind) || !isByte(o.N) {
			return api.ErrBound
		}
		if slices.ContainsFunc(l[:i], func(ahead api.Option) bool { return ahead.Kind == o.Kind }) {
			return api.ErrShape
		}
	}
	return nil
}

func isByte(n int) bool { return n >= 0 && n <= maxByte }

// Bytes of a packet: its code, its number, how many options, of each two.
func Bytes(p api.Packet) (string, error) {
	if err := Check(p); err != nil {
		return "", err
	}
	out := []byte{byte(p.Code), byte(p.ID), byte(len(p.Options))}
	for _, o := range p.Options {
		out = append(out, byte(o.Kind), byte(o.N))
	}
	return string(out), nil
}

// Parse a packet.
func Parse(s string) (api.Packet, error) {
	if len(s) < head || len(s) != head+2*int(s[2]) {
		return api.Packet{}, api.ErrText
	}
	p := api.Packet{Code: int(s[0]), ID: int(s[1])}
	for i := head; i < len(s); i += 2 {
		p.Options = append(p.Options, api.Option{Kind: int(s[i]), N: int(s[i+1])})
	}
	if Check(p) != nil { // what may not be said was said by nobody
		return api.Packet{}, api.ErrText
	}
	return p, nil
}
