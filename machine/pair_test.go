package machine_test

import (
	"slices"
	"testing"

	"warrener/api"
	"warrener/code"
	"warrener/machine"
)

// pair is a machine, and the worlds of all its steps so far, the beginning first. trail is what was done, for those who look for a fault.
type pair struct {
	t     *testing.T
	m     *machine.Machine
	was   []world
	steps int
	trail []int
}

func newPair(t *testing.T, p api.Prog, c api.Config) *pair {
	t.Helper()
	b := &pair{t: t, m: begun(t, p, c), was: []world{beginning(p, c)}}
	b.hold()
	return b
}

func (b *pair) now() world {
	return b.was[len(b.was)-1]
}

func (b *pair) fail(form string, of ...any) {
	b.t.Helper()
	b.t.Fatalf("%+v, %+v, behind %v (%d is to undo, %d to clone): "+form, append([]any{b.now().p, b.now().c, b.trail, undone, cloned}, of...)...)
}

// What stands in a trail for what is no step.
const (
	undone = -7
	cloned = -8
)

// hold looks at all that the machine tells of itself, the state and its sum twice, as telling changes nothing.
func (b *pair) hold() {
	b.t.Helper()
	b.holdState()
	w := b.now()
	if b.m.Over() != w.over() || b.m.Steps() != b.steps || b.m.Agents() != w.agents() {
		b.fail("Over() = %v, Steps() = %d, Agents() = %d, want %v, %d, %d", b.m.Over(), b.m.Steps(), b.m.Agents(), w.over(), b.steps, w.agents())
	}
	for a := -1; a <= w.agents(); a++ {
		b.holdAgent(a)
	}
	b.holdState()
}

// holdState looks at the state and its sum.
func (b *pair) holdState() {
	b.t.Helper()
	want := b.now().s
	if s := b.m.State(); !sameState(s, want) {
		b.fail("State() = %+v, want %+v", s, want)
	}
	if got := b.m.Hash(); got != code.Hash(want) {
		b.fail("Hash() = %d, want %d", got, code.Hash(want))
	}
}

// holdAgent looks at what the machine tells of the agent.
func (b *pair) holdAgent(a int) {
	b.t.Helper()
	w := b.now()
	if got := b.m.Can(a); got != w.can(a) {
		b.fail("Can(%d) = %v", a, got)
	}
	f, ok := b.m.Foot(a)
	if want, wantOK := w.foot(a); !sameFoot(f, want) || ok != wantOK {
		b.fail("Foot(%d) = %v, %v, want %v, %v", a, f, ok, want, wantOK)
	}
}

// try has both step, and holds what they tell; what is there behind it is not looked at.
func (b *pair) try(a int) ([]api.Key, bool) {
	b.t.Helper()
	keys, ok := b.m.Step(a)
	w, want, wantOK := b.now().step(a)
	if !slices.Equal(keys, want) || ok != wantOK {
		b.fail("Step(%d) = %v, %v, want %v, %v", a, keys, ok, want, wantOK)
	}
	if ok {
		b.was, b.trail = append(b.was, w), append(b.trail, a)
		b.steps++
	}
	return keys, ok
}

// step has both step, and looks at all that is told behind it.
func (b *pair) step(a int) ([]api.Key, bool) {
	b.t.Helper()
	keys, ok := b.try(a)
	b.hold()
	return keys, ok
}

// undo has both go back.
func (b *pair) undo() bool {
	b.t.Helper()
	ok := b.m.Undo()
	if want := b.steps > 0; ok != want {
		b.fail("Undo() = %v", ok)
	}
	if ok {
		b.was, b.trail = b.was[:len(b.was)-1], append(b.trail, undone)
		b.steps--
	}
	b.hold()
	return ok
}

// clone is another one at the same state.
func (b *pair) clone() *pair {
	b.t.Helper()
	c := &pair{t: b.t, m: b.m.Clone(), was: []world{b.now().copied()}, trail: append(slices.Clone(b.trail), cloned)}
	if c.m == nil || c.m == b.m {
		b.fail("Clone() = %p of %p", c.m, b.m)
	}
	if c.m.Undo() {
		c.fail("Undo() = true")
	}
	c.hold()
	b.hold()
	return c
}

// able are the agents that can step.
func (b *pair) able() []int {
	var l []int
	for a := range b.m.Agents() {
		if b.m.Can(a) {
			l = append(l, a)
		}
	}
	return l
}

// run does the picks, all of which can be done, and answers what each of them told.
func (b *pair) run(picks ...int) []string {
	b.t.Helper()
	var told []string
	for _, a := range picks {
		keys, ok := b.step(a)
		if !ok {
			b.fail("%d can't step", a)
		}
		told = append(told, keysText(keys))
	}
	return told
}

// holdFacts fails if one of the facts, each with its name, a colon and a blank ahead, is not so.
func (b *pair) holdFacts(facts ...string) {
	b.t.Helper()
	s := b.m.State()
	for _, line := range facts {
		name, want, _ := cut(line)
		if got := fact(s, b.now().p.Slots, name); got != want {
			b.fail("%s is %q, want %q", name, got, want)
		}
	}
}
