package meter_test

import (
	"math"
	"slices"
	"testing"

	"warrener/api"
	"warrener/meter"
)

// most is the greatest number of tokens that the chapter gives.
const most = 1 << 20

// counts are what may be asked for, and the tokens that are had: ordinary ones, both bounds and what is about them, those that are some number from 0 to 2^20 when they are cut to fewer bits, and both ends.
var counts = []struct{ asked, had int }{
	{0, 0}, {1, 1}, {2, 2}, {3, 3}, {4, 4}, {7, 7}, {18, 18}, {100, 100}, {127, 127}, {128, 128}, {255, 255}, {256, 256}, {257, 257},
	{1000, 1000}, {4095, 4095}, {4096, 4096}, {65535, 65535}, {65536, 65536}, {65537, 65537}, {1 << 19, 1 << 19}, {1000000, 1000000},
	{most - 2, most - 2}, {most - 1, most - 1}, {most, most}, {most + 1, most}, {most + 2, most}, {most + 255, most}, {2*most - 1, most}, {2 * most, most}, {2*most + 1, most},
	{-1, 0}, {-2, 0}, {-7, 0}, {-255, 0}, {-256, 0}, {-65536, 0}, {-most + 1, 0}, {-most, 0}, {-most - 1, 0}, {-1 << 31, 0}, {-1<<31 - 1, 0}, {-1<<32 + 5, 0},
	{1<<31 - 1, most}, {1 << 31, most}, {1<<31 + 5, most}, {1 << 32, most}, {1<<32 + 5, most}, {1<<62 + 7, most},
	{math.MinInt, 0}, {math.MinInt + 1, 0}, {math.MinInt + 5, 0}, {math.MaxInt, most}, {math.MaxInt - 1, most},
}

// spendable are those of counts that are spent to the end: all but most of those that have the greatest number of tokens, as that takes its time.
func spendable() []struct{ asked, had int } {
	l := slices.Clone(counts)
	return slices.DeleteFunc(l, func(c struct{ asked, had int }) bool {
		return c.had > 70000 && !slices.Contains([]int{most - 1, most, most + 1, math.MaxInt}, c.asked)
	})
}

// strangers are meters that New did not make, each of them new.
func strangers() []*meter.Meter {
	return []*meter.Meter{nil, {}, new(meter.Meter)}
}

// model is a meter by the chapter's words: the tokens that are left, and those that went.
type model struct {
	left, spent int
}

func (m *model) spend() bool {
	if m.left == 0 {
		return false
	}
	m.left--
	m.spent++
	return true
}

// chance is a row of numbers without a short beat.
type chance uint64

func (c *chance) next(below int) int {
	*c = *c*6364136223846793005 + 1442695040888963407
	return int(uint64(*c) >> 33 % uint64(below))
}

// with is a meter of so many tokens, and its model.
func with(t *testing.T, tokens int) (*meter.Meter, *model) {
	t.Helper()
	m := meter.New(tokens)
	if m == nil {
		t.Fatalf("New(%d) = nil", tokens)
	}
	return m, &model{left: min(max(tokens, 0), most)}
}

// holdState looks at all that a meter tells without being changed, twice and in both orders, as telling changes nothing.
func holdState(t *testing.T, m *meter.Meter, k *model) {
	t.Helper()
	left, spent := m.Left(), m.Spent()
	if left != k.left || spent != k.spent {
		t.Fatalf("Left() = %d, Spent() = %d, want %d, %d", left, spent, k.left, k.spent)
	}
	spent, left = m.Spent(), m.Left()
	if left != k.left || spent != k.spent {
		t.Fatalf("asked again, Left() = %d, Spent() = %d, want %d, %d", left, spent, k.left, k.spent)
	}
}

func holdSpend(t *testing.T, m *meter.Meter, k *model) {
	t.Helper()
	if got, want := m.Spend(), k.spend(); got != want {
		t.Fatalf("Spend() = %v, want %v, with %d left and %d spent", got, want, k.left, k.spent)
	}
	holdState(t, m, k)
}

// holdStranger looks at every call of a meter that New did not make, in an order in which none helps the next one.
func holdStranger(t *testing.T, m *meter.Meter) {
	t.Helper()
	for range 3 {
		if m.Spend() {
			t.Error("Spend() = true")
		}
		if n := m.Left(); n != 0 {
			t.Errorf("Left() = %d", n)
		}
		if n := m.Spent(); n != 0 {
			t.Errorf("Spent() = %d", n)
		}
	}
}

// P6.1: the bound that the chapter writes out is the limit of package api.
func TestMost(t *testing.T) {
	if api.MaxBudget != most {
		t.Fatalf("MaxBudget = %d, want %d", api.MaxBudget, most)
	}
}

// P6.1: New has the tokens that were asked for, or the nearest to them, and none is spent.
func TestNew(t *testing.T) {
	for _, c := range counts {
		m := meter.New(c.asked)
		if m == nil {
			t.Fatalf("New(%d) = nil", c.asked)
		}
		if m.Left() != c.had || m.Spent() != 0 {
			t.Errorf("New(%d): Left() = %d, Spent() = %d, want %d, 0", c.asked, m.Left(), m.Spent(), c.had)
		}
		if got := m.Spend(); got != (c.had > 0) {
			t.Errorf("New(%d): Spend() = %v", c.asked, got)
		}
	}
}

// P6.1: the chapter's example: one token: Spend, and then false.
func TestExample(t *testing.T) {
	m := meter.New(1)
	if !m.Spend() || m.Spend() {
		t.Fatal("Spend, and then false")
	}
}

// P6.1 and P6.2: every token is had, and no more than that: Left and Spent stand right behind each Spend, and beyond the last one nothing changes.
func TestSpendAll(t *testing.T) {
	for _, c := range spendable() {
		m, k := with(t, c.asked)
		holdState(t, m, k)
		for range c.had + 4 {
			holdSpend(t, m, k)
		}
		if m.Left() != 0 || m.Spent() != c.had {
			t.Fatalf("New(%d), spent: Left() = %d, Spent() = %d, want 0, %d", c.asked, m.Left(), m.Spent(), c.had)
		}
	}
	for tokens := range 600 {
		m, k := with(t, tokens)
		for range tokens + 2 {
			holdSpend(t, m, k)
		}
	}
}

// P6.1: by Spend alone, with nothing asked between, just as many are true as there are tokens, the first ones.
func TestSpendAlone(t *testing.T) {
	for _, c := range spendable() {
		m := meter.New(c.asked)
		for i := range c.had {
			if !m.Spend() {
				t.Fatalf("New(%d): Spend() %d of %d is false", c.asked, i+1, c.had)
			}
		}
		for i := range 5 {
			if m.Spend() {
				t.Fatalf("New(%d): Spend() %d beyond the last of %d is true", c.asked, i+1, c.had)
			}
		}
		if m.Left() != 0 || m.Spent() != c.had {
			t.Fatalf("New(%d): Left() = %d, Spent() = %d, want 0, %d", c.asked, m.Left(), m.Spent(), c.had)
		}
	}
}

// P6.1: a Spend that is false changes nothing, however often it is tried, even oftener than there were tokens.
func TestSpendBeyond(t *testing.T) {
	for _, tokens := range []int{0, 1, 2, 3, 50, -1, math.MinInt} {
		m, k := with(t, tokens)
		for range k.left {
			holdSpend(t, m, k)
		}
		for range 2*k.spent + 300 {
			if m.Spend() {
				t.Fatalf("%d tokens: a Spend() beyond the last is true", tokens)
			}
			holdState(t, m, k)
		}
	}
}

// P6.2: by what the meter tells alone: Left and Spent are together the tokens, at the start, behind each Spend and beyond the last one.
func TestSum(t *testing.T) {
	for _, c := range spendable() {
		m := meter.New(c.asked)
		for i := range c.had + 3 {
			if sum := m.Left() + m.Spent(); sum != c.had {
				t.Fatalf("New(%d), %d tried: Left() + Spent() = %d, want %d", c.asked, i, sum, c.had)
			}
			if m.Left() < 0 || m.Spent() < 0 {
				t.Fatalf("New(%d), %d tried: Left() = %d, Spent() = %d", c.asked, i, m.Left(), m.Spent())
			}
			m.Spend()
		}
		if sum := m.Left() + m.Spent(); sum != c.had {
			t.Fatalf("New(%d), all tried: Left() + Spent() = %d, want %d", c.asked, sum, c.had)
		}
	}
}

// P6.1 and P3: two meters go on apart, of as many tokens and of others, made one behind the other or one while the other is spent.
func TestApart(t *testing.T) {
	for _, pair := range [][2]int{{3, 3}, {1, 5}, {5, 1}, {0, 4}, {4, 0}, {-1, 2}, {300, 301}, {most, most}, {most + 1, 2}} {
		a, ak := with(t, pair[0])
		b, bk := with(t, pair[1])
		for range 6 {
			holdSpend(t, a, ak)
			holdState(t, b, bk)
		}
		holdSpend(t, b, bk)
		holdState(t, a, ak)
		c, ck := with(t, pair[0])
		holdState(t, c, ck)
		for range 6 {
			holdSpend(t, c, ck)
			holdState(t, a, ak)
			holdSpend(t, b, bk)
			holdState(t, c, ck)
		}
		holdState(t, a, ak)
	}
}

// P6.1 and P3: many meters, spent and made anew in any order: each does as if it were alone.
func TestMany(t *testing.T) {
	c := chance(6)
	ms, ks := make([]*meter.Meter, 9), make([]*model, 9)
	for i := range ms {
		ms[i], ks[i] = with(t, i*i)
	}
	for range 6000 {
		at := c.next(len(ms))
		switch c.next(40) {
		case 0:
			ms[at], ks[at] = with(t, c.next(60)-5)
		case 1:
			holdState(t, ms[at], ks[at])
		default:
			holdSpend(t, ms[at], ks[at])
		}
	}
	for i := range ms {
		holdState(t, ms[i], ks[i])
	}
}

// P6.1: nil, and a meter that New did not make, spend nothing, and have nothing.
func TestStranger(t *testing.T) {
	for _, m := range strangers() {
		holdStranger(t, m)
	}
}

// P6.1: each call of a stranger stands by itself, too, with none ahead of it.
func TestStrangerFirst(t *testing.T) {
	calls := []func(m *meter.Meter) bool{
		func(m *meter.Meter) bool { return !m.Spend() },
		func(m *meter.Meter) bool { return m.Left() == 0 },
		func(m *meter.Meter) bool { return m.Spent() == 0 },
	}
	for i, call := range calls {
		for j, m := range strangers() {
			if !call(m) {
				t.Errorf("call %d of stranger %d", i, j)
			}
			holdStranger(t, m)
		}
	}
}

// P6.1: meters that New made stand as they stood while strangers are tried.
func TestStrangerBeside(t *testing.T) {
	m, k := with(t, 3)
	holdSpend(t, m, k)
	for _, s := range strangers() {
		holdStranger(t, s)
		holdState(t, m, k)
	}
	holdSpend(t, m, k)
	holdSpend(t, m, k)
	holdSpend(t, m, k)
}
