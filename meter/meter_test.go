package meter

import (
	"fmt"
	"math"
	"math/big"
	"testing"
)

const (
	most  = math.MaxInt
	least = math.MinInt
)

// meterOf is a meter that counted just that; Live is at most Peak in it.
func meterOf(t Tally) *Meter {
	m := New()
	m.Add(t)
	return m
}

func wantTally(t *testing.T, what string, m *Meter, want Tally) {
	t.Helper()
	if got := m.Tally(); got != want {
		t.Errorf("%s: %+v, want %+v", what, got, want)
	}
}

func TestME1New(t *testing.T) {
	m, other := New(), New()
	if m == nil || m == other {
		t.Fatal("New is a meter of its own")
	}
	wantTally(t, "New", m, Tally{})
	m.Take(3)
	m.Road(Exact)
	wantTally(t, "another meter", other, Tally{})
	wantTally(t, "New behind it", New(), Tally{})
}

func TestME1Example(t *testing.T) {
	m := New()
	m.Take(5)
	m.Take(3)
	m.Give(6)
	wantTally(t, "Take(5), Take(3), Give(6)", m, Tally{Live: 2, Peak: 8})
}

func TestME1Take(t *testing.T) {
	for _, c := range []struct{ was, words, live int }{
		{0, 1, 1}, {0, 2, 2}, {7, 1, 8}, {7, 5, 12}, {1024, 128, 1152},
		{0, 0, 0}, {0, -1, 0}, {0, least, 0}, {7, 0, 7}, {7, -1, 7}, {7, -7, 7}, {7, -8, 7}, {7, least, 7}, {7, least + 1, 7}, {most, least, most}, {most, -1, most}, {most, 0, most},
		{0, most, most}, {1, most - 1, most}, {1, most - 2, most - 1}, {1, most, most}, {2, most - 1, most}, {most - 1, 1, most}, {most, 1, most}, {most - 1, 2, most}, {most, most, most}, {most - 1, most - 1, most}, {most/2 + 1, most / 2, most}, {most/2 + 1, most/2 + 1, most},
	} {
		m := meterOf(Tally{Live: c.was, Exact: 4, Table: 5, Slow: 6})
		m.Take(c.words)
		wantTally(t, fmt.Sprintf("%d live, Take(%d)", c.was, c.words), m, Tally{c.live, c.live, 4, 5, 6})
	}
}

func TestME1TakeBelowPeak(t *testing.T) {
	for _, c := range []struct{ words, live, peak int }{
		{1, 3, 8}, {5, 7, 8}, {6, 8, 8}, {7, 9, 9}, {most, most, most}, {0, 2, 8}, {-1, 2, 8}, {least, 2, 8},
	} {
		m := meterOf(Tally{Live: 2, Peak: 8})
		m.Take(c.words)
		wantTally(t, fmt.Sprintf("2 live, Peak 8, Take(%d)", c.words), m, Tally{Live: c.live, Peak: c.peak})
	}
}

func TestME1Give(t *testing.T) {
	for _, c := range []struct{ was, words, live int }{
		{8, 1, 7}, {8, 6, 2}, {8, 7, 1}, {8, 8, 0}, {most, 1, most - 1}, {most, most - 1, 1}, {most, most, 0},
		{8, 9, 0}, {8, most, 0}, {0, 1, 0}, {0, most, 0}, {1, most, 0}, {most - 1, most, 0},
		{8, 0, 8}, {8, -1, 8}, {8, least, 8}, {8, least + 1, 8}, {0, 0, 0}, {0, -1, 0}, {0, least, 0}, {most, -1, most}, {most, least, most},
	} {
		m := meterOf(Tally{Live: c.was, Exact: 4, Table: 5, Slow: 6})
		m.Give(c.words)
		wantTally(t, fmt.Sprintf("%d live, Give(%d)", c.was, c.words), m, Tally{c.live, c.was, 4, 5, 6})
	}
}

func TestME1GiveMoreThanLivesIsForgotten(t *testing.T) {
	m := New()
	m.Take(3)
	m.Give(10)
	m.Take(2)
	wantTally(t, "Take(3), Give(10), Take(2)", m, Tally{Live: 2, Peak: 3})
}

func TestME1Road(t *testing.T) {
	was := Tally{Live: 2, Peak: 8, Exact: 40, Table: 50, Slow: 60}
	for _, c := range []struct {
		kind int
		want Tally
	}{
		{Exact, Tally{2, 8, 41, 50, 60}}, {Table, Tally{2, 8, 40, 51, 60}}, {Slow, Tally{2, 8, 40, 50, 61}},
		{0, was}, {4, was}, {5, was}, {9, was}, {-1, was}, {-2, was}, {-3, was}, {least, was}, {most, was}, {Exact + 1<<8, was}, {Slow + 1<<16, was}, {Table + 1<<32, was},
	} {
		m := meterOf(was)
		m.Road(c.kind)
		wantTally(t, fmt.Sprintf("Road(%d)", c.kind), m, c.want)
	}
}

func TestME1RoadsAreNumbered(t *testing.T) {
	if Exact != 1 || Table != 2 || Slow != 3 {
		t.Errorf("roads: %d, %d, %d", Exact, Table, Slow)
	}
}

func TestME1RoadOften(t *testing.T) {
	m := New()
	for range 5 {
		m.Road(Exact)
		m.Road(Slow)
		m.Road(Slow)
		m.Road(0)
		m.Road(4)
	}
	m.Road(Table)
	wantTally(t, "roads", m, Tally{Exact: 5, Table: 1, Slow: 10})
}

func TestME1RoadAtMostGreatestInt(t *testing.T) {
	for _, kind := range []int{Exact, Table, Slow} {
		m := meterOf(Tally{Exact: most - 1, Table: most - 1, Slow: most - 1})
		for _, want := range []int{most, most, most} {
			m.Road(kind)
			if got := m.Count(kind); got != want {
				t.Errorf("Count(%d): %d, want %d", kind, got, want)
			}
		}
		for _, other := range []int{Exact, Table, Slow} {
			if other != kind && m.Count(other) != most-1 {
				t.Errorf("Road(%d): Count(%d) is %d", kind, other, m.Count(other))
			}
		}
	}
}

func TestME2Asked(t *testing.T) {
	for _, want := range []Tally{
		{}, {2, 8, 40, 50, 60}, {8, 8, 1, 0, 0}, {0, 8, 0, 1, 0}, {0, 0, 0, 0, 1}, {most, most, most, most, most}, {0, most, 1, 2, 3},
	} {
		m := meterOf(want)
		for range 2 { // what is asked changes nothing
			if m.Live() != want.Live || m.Peak() != want.Peak {
				t.Errorf("%+v: Live %d, Peak %d", want, m.Live(), m.Peak())
			}
			for kind, n := range map[int]int{Exact: want.Exact, Table: want.Table, Slow: want.Slow, 0: 0, 4: 0, 5: 0, -1: 0, -2: 0, -3: 0, least: 0, most: 0, Exact + 1<<8: 0, Table + 1<<32: 0} {
				if got := m.Count(kind); got != n {
					t.Errorf("%+v: Count(%d): %d, want %d", want, kind, got, n)
				}
			}
			wantTally(t, "Tally", m, want)
		}
	}
}

func TestME2TallyIsACopy(t *testing.T) {
	m := meterOf(Tally{2, 8, 40, 50, 60})
	x := m.Tally()
	x.Live, x.Peak, x.Exact = 1000, 1000, 1000
	wantTally(t, "a Tally that was changed", m, Tally{2, 8, 40, 50, 60})
	x = m.Tally()
	m.Take(100)
	m.Road(Slow)
	if x != (Tally{2, 8, 40, 50, 60}) {
		t.Errorf("a Tally of before: %+v", x)
	}
}

func TestME2Reset(t *testing.T) {
	for _, was := range []Tally{{}, {2, 8, 40, 50, 60}, {0, 8, 0, 0, 1}, {most, most, most, most, most}} {
		m := meterOf(was)
		if got := m.Reset(); got != was {
			t.Errorf("Reset: %+v, want %+v", got, was)
		}
		wantTally(t, "behind Reset", m, Tally{})
		if got := m.Reset(); got != (Tally{}) {
			t.Errorf("Reset again: %+v", got)
		}
		m.Give(3)
		m.Take(5)
		m.Give(2)
		m.Road(Table)
		m.Road(7)
		wantTally(t, "counted behind Reset", m, Tally{Live: 3, Peak: 5, Table: 1})
	}
}

func TestME2Add(t *testing.T) {
	for _, c := range []struct{ was, add, want Tally }{
		{Tally{}, Tally{}, Tally{}},
		{Tally{2, 8, 40, 50, 60}, Tally{}, Tally{2, 8, 40, 50, 60}},
		{Tally{2, 8, 40, 50, 60}, Tally{1, 0, 2, 3, 4}, Tally{3, 8, 42, 53, 64}},
		{Tally{2, 8, 40, 50, 60}, Tally{Exact: 1}, Tally{2, 8, 41, 50, 60}},
		{Tally{2, 8, 40, 50, 60}, Tally{Table: 1}, Tally{2, 8, 40, 51, 60}},
		{Tally{2, 8, 40, 50, 60}, Tally{Slow: 1}, Tally{2, 8, 40, 50, 61}},
		// Peak: of the meter, of t, of Live then
		{Tally{Live: 2, Peak: 8}, Tally{Live: 6}, Tally{Live: 8, Peak: 8}},
		{Tally{Live: 2, Peak: 8}, Tally{Live: 7}, Tally{Live: 9, Peak: 9}},
		{Tally{Live: 2, Peak: 8}, Tally{Live: 7, Peak: 4}, Tally{Live: 9, Peak: 9}},
		{Tally{Live: 2, Peak: 8}, Tally{Live: 7, Peak: 9}, Tally{Live: 9, Peak: 9}},
		{Tally{Live: 2, Peak: 8}, Tally{Live: 7, Peak: 10}, Tally{Live: 9, Peak: 10}},
		{Tally{Live: 2, Peak: 8}, Tally{Live: 1, Peak: 7}, Tally{Live: 3, Peak: 8}},
		{Tally{Live: 2, Peak: 8}, Tally{Peak: 1}, Tally{Live: 2, Peak: 8}},
		{Tally{Live: 2, Peak: 8}, Tally{Peak: 9}, Tally{Live: 2, Peak: 9}},
		{Tally{Live: 2, Peak: 8}, Tally{Live: 3, Peak: 9}, Tally{Live: 5, Peak: 9}},
		{Tally{}, Tally{Peak: most}, Tally{Peak: most}},
		{Tally{}, Tally{Live: 5, Peak: 3}, Tally{Live: 5, Peak: 5}},
		// below 0
		{Tally{2, 8, 40, 50, 60}, Tally{-1, -1, -1, -1, -1}, Tally{2, 8, 40, 50, 60}},
		{Tally{2, 8, 40, 50, 60}, Tally{least, least, least, least, least}, Tally{2, 8, 40, 50, 60}},
		{Tally{}, Tally{-5, -5, -5, -5, -5}, Tally{}},
		{Tally{}, Tally{least, least, least, least, least}, Tally{}},
		{Tally{2, 8, 40, 50, 60}, Tally{-9, 3, -100, 1, -1}, Tally{2, 8, 40, 51, 60}},
		{Tally{2, 8, 40, 50, 60}, Tally{-1, 11, 1, -1, least}, Tally{2, 11, 41, 50, 60}},
		{Tally{2, 8, 40, 50, 60}, Tally{10, -1, 0, 0, 0}, Tally{12, 12, 40, 50, 60}},
		{Tally{most, most, most, most, most}, Tally{least, least, least, least, least}, Tally{most, most, most, most, most}},
		// at the greatest int and past it
		{Tally{2, 8, 40, 50, 60}, Tally{most - 2, 0, most - 40, most - 50, most - 60}, Tally{most, most, most, most, most}},
		{Tally{2, 8, 40, 50, 60}, Tally{most - 3, 0, most - 41, most - 51, most - 61}, Tally{most - 1, most - 1, most - 1, most - 1, most - 1}},
		{Tally{2, 8, 40, 50, 60}, Tally{most - 1, 0, most - 39, most - 49, most - 59}, Tally{most, most, most, most, most}},
		{Tally{1, 1, 1, 1, 1}, Tally{most, most, most, most, most}, Tally{most, most, most, most, most}},
		{Tally{most, most, most, most, most}, Tally{most, most, most, most, most}, Tally{most, most, most, most, most}},
		{Tally{most, most, most, most, most}, Tally{1, 1, 1, 1, 1}, Tally{most, most, most, most, most}},
	} {
		m := meterOf(c.was)
		wantTally(t, "ahead of Add", m, c.was)
		m.Add(c.add)
		wantTally(t, fmt.Sprintf("%+v, Add(%+v)", c.was, c.add), m, c.want)
	}
}

func TestME2Text(t *testing.T) {
	for _, c := range []struct {
		was  Tally
		want string
	}{
		{Tally{}, "live 0 peak 0 exact 0 table 0 slow 0"},
		{Tally{Live: 2, Peak: 8, Table: 1}, "live 2 peak 8 exact 0 table 1 slow 0"},
		{Tally{10, 200, 3000, 40000, 500000}, "live 10 peak 200 exact 3000 table 40000 slow 500000"},
		{Tally{0, 1, 2, 3, 4}, "live 0 peak 1 exact 2 table 3 slow 4"},
		{Tally{most, most, most, most, most}, "live 9223372036854775807 peak 9223372036854775807 exact 9223372036854775807 table 9223372036854775807 slow 9223372036854775807"},
		{Tally{0, most, 0, most - 1, 0}, "live 0 peak 9223372036854775807 exact 0 table 9223372036854775806 slow 0"},
	} {
		m := meterOf(c.was)
		if got := m.Text(); got != c.want {
			t.Errorf("Text of %+v: %q", c.was, got)
		}
		wantTally(t, "behind Text", m, c.was)
	}
}

func TestME2NilMeter(t *testing.T) {
	var m *Meter
	noughts := func(what string) {
		t.Helper()
		if m.Live() != 0 || m.Peak() != 0 || m.Tally() != (Tally{}) || m.Text() != "live 0 peak 0 exact 0 table 0 slow 0" {
			t.Errorf("a nil Meter behind %s: %+v", what, m.Tally())
		}
		for _, kind := range []int{Exact, Table, Slow, 0, 4, -1, least, most} {
			if m.Count(kind) != 0 {
				t.Errorf("a nil Meter behind %s: Count(%d) is %d", what, kind, m.Count(kind))
			}
		}
	}
	noughts("nothing")
	for _, words := range []int{3, 0, -1, least, most} {
		m.Take(words)
		noughts("Take")
		m.Give(words)
		noughts("Give")
	}
	for _, kind := range []int{Exact, Table, Slow, 0, 4, -1, least, most} {
		m.Road(kind)
		noughts("Road")
	}
	for _, x := range []Tally{{}, {1, 2, 3, 4, 5}, {most, most, most, most, most}, {-1, -1, -1, -1, -1}, {least, least, least, least, least}} {
		m.Add(x)
		noughts("Add")
	}
	if got := m.Reset(); got != (Tally{}) {
		t.Errorf("Reset of a nil Meter: %+v", got)
	}
	noughts("Reset")
}

// model is what the rules say of a meter, in numbers without a bound that are cut after each step.
type model struct {
	live, peak big.Int
	counts     [3]big.Int
}

func grow(n *big.Int, by int) {
	if by > 0 {
		n.Add(n, big.NewInt(int64(by)))
	}
	if !n.IsInt64() {
		n.SetInt64(most)
	}
}

func (x *model) raise(by *big.Int) {
	if by.Cmp(&x.peak) > 0 {
		x.peak.Set(by)
	}
}

func (x *model) tally() Tally {
	return Tally{int(x.live.Int64()), int(x.peak.Int64()), int(x.counts[0].Int64()), int(x.counts[1].Int64()), int(x.counts[2].Int64())}
}

// play does one thing with both, and says which.
func (x *model) play(m *Meter, what, n, other int) string {
	switch what {
	case 0:
		m.Take(n)
		grow(&x.live, n)
		x.raise(&x.live)
		return fmt.Sprintf("Take(%d)", n)
	case 1:
		m.Give(n)
		if n > 0 {
			x.live.Sub(&x.live, big.NewInt(int64(n)))
		}
		if x.live.Sign() < 0 {
			x.live.SetInt64(0)
		}
		return fmt.Sprintf("Give(%d)", n)
	case 2:
		m.Road(n)
		if n >= 1 && n <= 3 {
			grow(&x.counts[n-1], 1)
		}
		return fmt.Sprintf("Road(%d)", n)
	case 3:
		add := Tally{n, other, n, other, n}
		m.Add(add)
		grow(&x.live, n)
		x.raise(big.NewInt(int64(other)))
		x.raise(&x.live)
		grow(&x.counts[0], n)
		grow(&x.counts[1], other)
		grow(&x.counts[2], n)
		return fmt.Sprintf("Add(%+v)", add)
	}
	m.Reset()
	*x = model{}
	return "Reset"
}

// chance is a row of numbers that is the same in each run.
type chance uint64

func (c *chance) next(n int) int {
	*c = *c*6364136223846793005 + 1442695040888963407
	return int(uint64(*c) >> 33 % uint64(n))
}

var edges = []int{0, 1, 2, 3, 4, 5, 7, 100, -1, -2, -100, least, least + 1, most, most - 1, most - 3, most / 2, most/2 + 1, -most / 2}

func TestME3LiveAtMostPeakWhateverIsDone(t *testing.T) {
	var c chance = 4
	m, x := New(), new(model)
	for i := range 200000 {
		what := c.next(4)
		if c.next(40) == 0 {
			what = 4
		}
		before := m.Tally()
		done := x.play(m, what, edges[c.next(len(edges))], edges[c.next(len(edges))])
		now := m.Tally()
		if now != x.tally() {
			t.Fatalf("step %d: %+v, %s: %+v, want %+v", i, before, done, now, x.tally())
		}
		if now.Live > now.Peak || now.Live < 0 || now.Exact < 0 || now.Table < 0 || now.Slow < 0 {
			t.Fatalf("step %d: %+v, %s: %+v", i, before, done, now)
		}
		if done != "Reset" && now.Peak < before.Peak {
			t.Fatalf("step %d: %+v, %s: Peak fell to %d", i, before, done, now.Peak)
		}
	}
}

func TestME3EveryShortRow(t *testing.T) {
	words := []int{0, 1, 3, -1, most, most - 1}
	var rows func(done []string, replay func() (*Meter, *model), left int)
	rows = func(done []string, replay func() (*Meter, *model), left int) {
		if left == 0 {
			return
		}
		for what := range 5 {
			for _, n := range words {
				step := ""
				again := func() (*Meter, *model) {
					m, x := replay()
					step = x.play(m, what, n, 2)
					return m, x
				}
				m, x := again()
				if m.Tally() != x.tally() || m.Live() > m.Peak() {
					t.Fatalf("%v, %s: %+v, want %+v", done, step, m.Tally(), x.tally())
				}
				rows(append(done[:len(done):len(done)], step), again, left-1)
			}
		}
	}
	rows(nil, func() (*Meter, *model) { return New(), new(model) }, 3)
}

func TestME3TakenAndGivenBackLeavesLive(t *testing.T) {
	var c chance = 44
	for _, was := range []int{0, 1, 17, 1 << 40} {
		for range 2000 {
			m := meterOf(Tally{Live: was, Peak: was + 5})
			out, row := 0, ""
			for range c.next(12) {
				if c.next(2) == 0 {
					n := c.next(1 << (1 + c.next(30)))
					m.Take(n)
					out += n
					row += fmt.Sprintf(" +%d", n)
				} else {
					n := c.next(out + 1)
					m.Give(n)
					out -= n
					row += fmt.Sprintf(" -%d", n)
				}
				if m.Live() != was+out {
					t.Fatalf("%d live,%s: Live %d, want %d", was, row, m.Live(), was+out)
				}
			}
			m.Give(out)
			if m.Live() != was || m.Peak() < was+5 {
				t.Fatalf("%d live,%s, all given back: %+v", was, row, m.Tally())
			}
		}
	}
}
