package conf

import (
	"strings"

	"warrener/api"
	"warrener/lines"
)

// blank parts words.
const blank = " "

// many is how many words a line has.
const many = 8

// What there are names of.
const (
	schemes = iota
	orders
	modes
	stops
	kinds
)

// names stand by what they are of, and then by the numbers whose names they are. Where no number has a name it is empty, as no word is.
var names = [kinds][4]string{
	schemes: {api.Manual: "manual", api.Hazard: "hazard", api.Epoch: "epoch", api.Quiet: "quiet"},
	orders:  {api.SC: "sc", api.TSO: "tso"},
	modes:   {api.Full: "full", api.Dpor: "dpor", api.Cache: "cache"},
	stops:   {0: "all", stop: "stop"},
}

// Line answers the line of a config and an ask that may be.
func Line(c api.Config, a api.Ask) (string, api.Errno) {
	if err := checkBoth(c, a); err != api.OK {
		return "", err
	}
	decimal := func(n int) string {
		return lines.Decimal(int64(n))
	}
	return lines.Join(
		names[schemes][c.Scheme],
		names[orders][c.Order],
		decimal(c.Threshold),
		decimal(c.Fuel),
		decimal(c.Depth),
		names[modes][a.Mode],
		decimal(a.Budget),
		names[stops][flag(a.Stop)],
	), api.OK
}

// Parse answers the config and the ask whose line it is, be there more blanks in it. Any word that is none of those asked for is told ahead of any number that may not be.
func Parse(s string) (api.Config, api.Ask, api.Errno) {
	// All words would be laid out, however many there are: more than one behind the last one would tell nothing new.
	words := lines.Words(front(s, many+1))
	if len(words) != many {
		return api.Config{}, api.Ask{}, api.ErrForm
	}
	form := true
	name := func(kind int, word string) int {
		n, ok := number(kind, word)
		form = form && ok
		return n
	}
	decimal := func(word string) int {
		n, ok := lines.Number(word)
		form = form && ok
		return bounded(n)
	}
	c := api.Config{
		Scheme:    name(schemes, words[0]),
		Order:     name(orders, words[1]),
		Threshold: decimal(words[2]),
		Fuel:      decimal(words[3]),
		Depth:     decimal(words[4]),
	}
	a := api.Ask{
		Mode:   name(modes, words[5]),
		Budget: decimal(words[6]),
		Stop:   name(stops, words[7]) == stop,
	}
	if !form {
		return api.Config{}, api.Ask{}, api.ErrForm
	}
	if err := checkBoth(c, a); err != api.OK {
		return api.Config{}, api.Ask{}, err
	}
	return c, a, api.OK
}

// front answers s as far as its first words go, so many of them; all of it, if there are fewer.
func front(s string, words int) string {
	left := s
	for range words {
		_, left, _ = strings.Cut(strings.TrimLeft(left, blank), blank)
	}
	return s[:len(s)-len(left)]
}

// number answers the number of that kind whose name the word is, and true; 0 and false where there is none.
func number(kind int, word string) (int, bool) {
	for n, name := range names[kind] {
		if name == word {
			return n, true
		}
	}
	return 0, false
}

// bounded answers n, or of a number beyond all that may be another such one: where an int has less room than n, what is left of n could be a number that may be.
func bounded(n int64) int {
	return int(max(-1, min(n, api.MaxBudget+1)))
}
