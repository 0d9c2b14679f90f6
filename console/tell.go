package console

import (
	"strconv"
	"strings"

	"towpath/api"
	"towpath/router"
)

const (
	between = "; "
	nothing = "-"
	isBoth  = "both"
)

// tell what is asked of a router.
func (s *session) tell(word string, i int) (string, error) {
	if word == forInbox {
		l, err := s.over.Inbox(i)
		if err != nil {
			return "", err
		}
		return list(inbox(l)...), nil
	}
	r, err := s.over.Router(i)
	if err != nil {
		return "", err
	}
	switch word {
	case forHops:
		return list(hops(r.Hops())...), nil
	case forStates:
		return list(states(r.States())...), nil
	}
	l, err := links(r)
	return list(l...), err
}

func inbox(l []api.Message) []string {
	var out []string
	for _, m := range l {
		out = append(out, row(m.Hops)+blank+m.Text)
	}
	return out
}

func hops(l []api.Hop) []string {
	var out []string
	for _, h := range l {
		out = append(out, row(h.To, h.Far, h.Next))
	}
	return out
}

func states(l []api.State) []string {
	var out []string
	for _, s := range l {
		told := row(s.Owner, s.Seq)
		for _, e := range s.Edges {
			told += blank + row(e.To) + "=" + row(e.Metric)
		}
		out = append(out, told)
	}
	return out
}

func links(r *router.Router) ([]string, error) {
	var out []string
	for i := range api.MaxPorts {
		told, err := linkAt(r, i)
		if err != nil {
			return nil, err
		}
		out = append(out, told)
	}
	return out, nil
}

func linkAt(r *router.Router, i int) (string, error) {
	state, err := r.Link(i)
	if err != nil {
		return "", err
	}
	who, err := r.Peer(i)
	if err != nil {
		return "", err
	}
	told := row(state, who.Who)
	if who.Both {
		told += blank + isBoth
	}
	return told, nil
}

// row of any number of numbers.
func row(numbers ...int) string {
	var words []string
	for _, n := range numbers {
		words = append(words, strconv.Itoa(n))
	}
	return strings.Join(words, blank)
}

// list of any number of things.
func list(things ...string) string {
	if len(things) == 0 {
		return nothing
	}
	return strings.Join(things, between)
}
