package machine_test

import (
	"math"
	"slices"
	"strconv"
	"strings"
	"testing"

	"warrener/api"
	"warrener/asm"
	"warrener/code"
	"warrener/machine"
)

const (
	least = math.MinInt
	most  = math.MaxInt
)

// noAgents are numbers of no agent, however many there are: those beside the bounds, those that are one when they are cut to fewer bits, and both ends.
var noAgents = []int{-1, -2, -4, -8, 8, 9, 16, 100, 256, 257, 1 << 16, 1 << 31, 1 << 32, 1<<32 + 1, -1 << 32, -1<<32 + 1, least, least + 1, most - 1, most}

// program is the one with so much of "roots cells slots", and the instructions of each thread, a semicolon between each two.
func program(t *testing.T, much string, threads ...string) api.Prog {
	t.Helper()
	text := "warrener " + much + "\n"
	for _, th := range threads {
		text += "thread\n" + strings.ReplaceAll(th, ";", "\n") + "\n"
	}
	p, at, e := asm.Parse(text)
	if e != api.OK {
		t.Fatalf("line %d of the program is wrong, by %d:\n%s", at, e, text)
	}
	return p
}

// config is the one of "scheme order threshold fuel depth".
func config(t *testing.T, line string) api.Config {
	t.Helper()
	words := strings.Fields(line)
	schemes, orders := []string{"manual", "hazard", "epoch", "quiet"}, []string{"sc", "tso"}
	var n []int
	for _, word := range words[2:] {
		i, err := strconv.Atoi(word)
		if err != nil {
			t.Fatal(err)
		}
		n = append(n, i)
	}
	return api.Config{Scheme: slices.Index(schemes, words[0]), Order: slices.Index(orders, words[1]), Threshold: n[0], Fuel: n[1], Depth: n[2]}
}

// begun is a machine at its beginning.
func begun(t *testing.T, p api.Prog, c api.Config) *machine.Machine {
	t.Helper()
	m, e := machine.New(p, c)
	if m == nil || e != api.OK {
		t.Fatalf("New(%+v, %+v) = %v, %d", p, c, m, e)
	}
	return m
}

// sameState tells whether both have the same octets: a nil list and an empty one are one.
func sameState(a api.State, b api.State) bool {
	return string(code.Put(a)) == string(code.Put(b))
}

// sameFoot tells whether both have the same places in the same order.
func sameFoot(a api.Foot, b api.Foot) bool {
	return slices.Equal(a.Reads, b.Reads) && slices.Equal(a.Writes, b.Writes)
}

// keysText is what keys are called here: the kind's name, thread and place, a comma between each two keys.
func keysText(l []api.Key) string {
	names := []string{"?", "uaf", "doublefree", "doubleretire", "aba", "wild", "leak"}
	var texts []string
	for _, k := range l {
		texts = append(texts, names[k.Kind]+" "+strconv.Itoa(k.Thread)+" "+strconv.Itoa(k.Pc))
	}
	return strings.Join(texts, ", ")
}

// wordText is a plain word's number; a pointer's cell and life, with an @ between; all three numbers of a word that is neither.
func wordText(w api.Word) string {
	n, cell, gen := strconv.FormatInt(w.N, 10), strconv.Itoa(w.Cell), strconv.Itoa(w.Gen)
	switch {
	case w.Cell == 0 && w.Gen == 0:
		return n
	case w.Cell > 0 && w.N == int64(w.Cell):
		return cell + "@" + gen
	}
	return n + "/" + cell + "/" + gen
}

// placeText is a place's kind and numbers.
func placeText(x api.Place) string {
	return strconv.Itoa(x.Kind) + "." + strconv.Itoa(x.I) + "." + strconv.Itoa(x.J)
}

// texts has the text of each of a list, a blank between each two.
func texts[T any](l []T, text func(T) string) string {
	var all []string
	for _, x := range l {
		all = append(all, text(x))
	}
	return strings.Join(all, " ")
}

// numberText is a decimal.
func numberText[T int | int64](n T) string {
	return strconv.FormatInt(int64(n), 10)
}

// fact is what the state says of one thing: "reg 0 1", "root 0", "slot 0 1", "field 2 0", "cell 1", "pc 0", "fuel 0", "status 0", "micro 0", "seen 0", "bag 0", "snap 0", "old 0", "buffer 0", "epoch", "mark 0", "count 0", "free".
func fact(s api.State, slots int, name string) string {
	words := strings.Fields(name)
	var n [2]int
	for i, word := range words[1:] {
		n[i], _ = strconv.Atoi(word)
	}
	switch words[0] {
	case "root":
		return wordText(s.Roots[n[0]])
	case "slot":
		return wordText(s.Slots[n[0]*slots+n[1]])
	case "field":
		return wordText(s.Cells[n[0]-1].F[n[1]])
	case "cell":
		c := s.Cells[n[0]-1]
		return []string{"free", "live", "retired"}[c.Status] + " " + texts([]int{c.Gen, c.By, c.Pc}, numberText)
	case "epoch":
		return numberText(s.Epoch)
	case "mark":
		return numberText(s.Marks[n[0]])
	case "count":
		return numberText(s.Counts[n[0]])
	case "free":
		return texts(s.Free, numberText)
	case "buffer":
		return texts(s.Buffers[n[0]], func(e api.Entry) string {
			return placeText(e.Place) + "=" + wordText(e.Word) + "," + numberText(e.Gen) + "," + numberText(e.Pc)
		})
	}
	return threadFact(s.Threads[n[0]], words[0], n[1])
}

// threadFact is what the thread says of one thing.
func threadFact(th api.Thread, name string, n int) string {
	switch name {
	case "reg":
		return wordText(th.Regs[n])
	case "pc":
		return numberText(th.Pc)
	case "fuel":
		return numberText(th.Fuel)
	case "status":
		return []string{"running", "halted", "trapped"}[th.Status]
	case "micro":
		return []string{"none", "enter", "guards", "release", "date", "marks", "advance", "snapshot", "counts"}[th.Micro.Kind] + " " + numberText(th.Micro.I) + " " + numberText(th.Micro.N)
	case "seen":
		return texts(th.Micro.Seen, numberText)
	case "bag":
		return texts(th.Bag, func(b api.Bagged) string {
			return numberText(b.Cell) + "@" + numberText(b.Gen) + ":" + numberText(b.N)
		})
	case "snap":
		return texts(th.Snap, numberText)
	case "old":
		return numberText(th.Old)
	}
	return "no such thing: " + name
}

// chance is a row of numbers without a short beat.
type chance uint64

func (c *chance) next(below int) int {
	*c = *c*6364136223846793005 + 1442695040888963407
	return int(uint64(*c) >> 33 % uint64(below))
}

// cut parts a fact's line at its first colon.
func cut(line string) (string, string, bool) {
	name, what, ok := strings.Cut(line, ":")
	return name, strings.TrimPrefix(what, " "), ok
}
