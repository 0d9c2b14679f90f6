package auto

import (
	"math"
	"strings"
	"testing"

	"towpath/api"
)

// table of the document, to the letter: held against what Step answers, cell by cell.
const table = `
| Up | 2 | ir 6 | - | - | - | - | - | - | - | - |
| Down | - | - | 0 | s 1 | 0 | 1 | 1 | 1 | 1 | d 1 |
| Open | s 1 | 1 | ir 6 | 3 | 5 | 5 | 6 | 7 | 8 | 9 |
| Close | 0 | f 0 | 2 | 2 | 4 | 4 | it 4 | it 4 | it 4 | dit 4 |
| Again | - | - | - | - | t 4 | t 5 | r 6 | r 6 | r 8 | - |
| Over | - | - | - | - | f 2 | f 3 | f 3 | f 3 | f 3 | - |
| Good | - | - | k 2 | ira 8 | 4 | 5 | a 8 | au 9 | a 8 | dra 8 |
| Bad | - | - | k 2 | irn 6 | 4 | 5 | n 6 | n 7 | n 6 | drn 6 |
| Acked | - | - | k 2 | k 3 | 4 | 5 | i 7 | r 6 | iu 9 | dr 6 |
| Naked | - | - | k 2 | k 3 | 4 | 5 | ir 6 | r 6 | ir 8 | dr 6 |
| Ending | - | - | k 2 | k 3 | k 4 | k 5 | k 6 | k 6 | k 6 | dzk 5 |
| Ended | - | - | 2 | 3 | f 2 | f 3 | 6 | 6 | 8 | dr 6 |
`

var named = []struct {
	name  string
	event int
}{
	{"Up", api.Up}, {"Down", api.Down}, {"Open", api.Open}, {"Close", api.Close}, {"Again", api.Again}, {"Over", api.Over},
	{"Good", api.Good}, {"Bad", api.Bad}, {"Acked", api.Acked}, {"Naked", api.Naked}, {"Ending", api.Ending}, {"Ended", api.Ended},
}

var stateNumbers = []int{api.Initial, api.Starting, api.Closed, api.Stopped, api.Closing, api.Stopping, api.ReqSent, api.AckRcvd, api.AckSent, api.Opened}

// outOfBounds: numbers that no state has, and no event.
var outOfBounds = []int{-1, 12, 13, 255, 256, 1 << 32, math.MaxInt, math.MinInt}

func TestC2StepByTheTable(t *testing.T) {
	rows := strings.Split(strings.TrimSpace(table), "\n")
	if len(rows) != len(named) {
		t.Fatalf("%d rows", len(rows))
	}
	for i, row := range rows {
		cells := strings.Split(strings.Trim(row, "|"), "|")
		if name := strings.TrimSpace(cells[0]); name != named[i].name {
			t.Fatalf("row %d is of %s", i, name)
		}
		for j, s := range stateNumbers {
			checkCell(t, s, named[i].event, strings.Fields(cells[1+j]))
		}
	}
}

// checkCell: its words are "-", or the next state, or letters and the next state.
func checkCell(t *testing.T, state, event int, words []string) {
	t.Helper()
	do, next, err := Step(state, event)
	last := words[len(words)-1]
	if last == "-" {
		if do != "" || next != 0 || err != api.ErrState {
			t.Errorf("Step(%d, %d) = %q, %d, %v, want no letters, 0, %v", state, event, do, next, err, api.ErrState)
		}
		return
	}
	letters := strings.Join(words[:len(words)-1], "")
	if do != letters || next != int(last[0]-'0') || err != nil {
		t.Errorf("Step(%d, %d) = %q, %d, %v, want %q, %s", state, event, do, next, err, letters, last)
	}
}

func TestC2LettersAreThoseOfApi(t *testing.T) {
	known := string([]rune{api.ThisUp, api.ThisDown, api.Begins, api.Finishes, api.Counter, api.NoCounter, api.Request, api.Ack, api.Nak, api.Terminate, api.TermAck})
	for _, s := range stateNumbers {
		for _, e := range named {
			do, _, _ := Step(s, e.event)
			if strings.Trim(do, known) != "" {
				t.Errorf("Step(%d, %d) does %q", s, e.event, do)
			}
		}
	}
}

func TestC2OutOfBounds(t *testing.T) {
	check := func(state, event int) {
		t.Helper()
		if do, next, err := Step(state, event); do != "" || next != 0 || err != api.ErrBound {
			t.Errorf("Step(%d, %d) = %q, %d, %v, want %v", state, event, do, next, err, api.ErrBound)
		}
	}
	for _, n := range outOfBounds {
		for _, m := range outOfBounds {
			check(n, m)
		}
		for _, s := range stateNumbers {
			check(s, n)
		}
		for _, e := range named {
			check(n, e.event)
		}
	}
	for _, e := range named { // events there are more of than states
		check(10, e.event)
		check(11, e.event)
	}
}

func TestC1Timed(t *testing.T) {
	want := []bool{false, false, false, false, true, true, true, true, true, false}
	for i, s := range stateNumbers {
		if Timed(s) != want[i] {
			t.Errorf("Timed(%d) = %v", s, !want[i])
		}
	}
	for _, n := range append([]int{10, 11}, outOfBounds...) {
		if Timed(n) {
			t.Errorf("Timed(%d): there is no such state", n)
		}
	}
}

// TestC1TimedIsWhereTimeComes: whoever waits for a time has something to do when it is over, and nobody else has.
func TestC1TimedIsWhereTimeComes(t *testing.T) {
	for _, s := range stateNumbers {
		for _, e := range []int{api.Again, api.Over} {
			if _, _, err := Step(s, e); (err == nil) != Timed(s) {
				t.Errorf("Step(%d, %d): %v, Timed: %v", s, e, err, Timed(s))
			}
		}
	}
}
