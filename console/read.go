package console

import (
	"strings"

	"towpath/api"
)

// The first words of lines.
const (
	forNet     = "net"
	forPlug    = "plug"
	forDraw    = "draw"
	forTick    = "tick"
	forRestart = "restart"
	forDeliver = "deliver"
	forSpoil   = "spoil"
	forRound   = "round"
	forSend    = "send"
	forHops    = "hops"
	forStates  = "states"
	forLinks   = "links"
	forInbox   = "inbox"
)

const (
	blank        = " "
	maxDigits    = 3
	cableNumbers = 5
	sendWords    = 3 // ahead of its text
)

// order: what a line asks for.
type order struct {
	word    string
	numbers []int // as many as the word needs
	text    string
}

// asks: is it answered by a list?
func (o order) asks() bool {
	switch o.word {
	case forHops, forStates, forLinks, forInbox:
		return true
	}
	return false
}

func firstWord(line string) string {
	word, _, _ := strings.Cut(line, blank)
	return word
}

func read(line string) (order, error) {
	words, text, ok := split(line)
	if !ok {
		return order{}, api.ErrText
	}
	numbers, ok := numbersOf(words[1:]...)
	if !ok || !needs(words[0], len(numbers)) {
		return order{}, api.ErrText
	}
	return order{word: words[0], numbers: numbers, text: text}, nil
}

// split a line into its words, and what stands behind them as it is, where such a thing must be.
func split(line string) (words []string, text string, ok bool) {
	if firstWord(line) != forSend {
		return strings.Split(line, blank), "", true
	}
	words = strings.SplitN(line, blank, sendWords+1)
	if len(words) <= sendWords {
		return nil, "", false
	}
	return words[:sendWords], words[sendWords], true
}

// needs: is it so many numbers that a line with that first word has?
func needs(word string, many int) bool {
	switch word {
	case forNet:
		return many%cableNumbers == 1
	case forPlug, forDraw, forTick, forRestart, forRound, forHops, forStates, forLinks, forInbox:
		return many == 1
	case forSend:
		return many == 2
	case forDeliver:
		return many == 3
	case forSpoil:
		return many == 4
	}
	return false
}

func numbersOf(words ...string) ([]int, bool) {
	var out []int
	for _, w := range words {
		n, ok := number(w)
		if !ok {
			return nil, false
		}
		out = append(out, n)
	}
	return out, true
}

// number of at most maxDigits digits; strconv would let signs and noughts ahead pass.
func number(word string) (int, bool) {
	if word == "" || len(word) > maxDigits || len(word) > 1 && word[0] == '0' {
		return 0, false
	}
	n := 0
	for i := range len(word) {
		if word[i] < '0' || word[i] > '9' {
			return 0, false
		}
		n = 10*n + int(word[i]-'0')
	}
	return n, true
}
