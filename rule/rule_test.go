package rule_test

import (
	"math"
	"slices"
	"testing"

	"hortator/api"
	"hortator/rule"
)

const (
	low  = math.MinInt64
	high = math.MaxInt64
)

func machine() api.Config {
	return api.Config{Cores: 3, Syncs: 2, Lag: 2, Move: 1, Res: []int{1, 0, 1}}
}

func plain() api.Task {
	return api.Task{C: 10, D: 20, T: 30}
}

func section(res int, at, length int64) api.Section {
	return api.Section{Res: res, At: at, Len: length}
}

// near are numbers around both ends of what may be, and far off, where a sum or a difference would run over.
func near(first, last int64) []int64 {
	return []int64{first - 1, first, first + 1, last - 1, last, last + 1,
		low, low + 1, -1 << 32, first + 1<<32, last - 1<<32, -1, 0, 1 << 62, high - 1, high}
}

// between holds what may be against a range: of each number near its ends.
func between(t *testing.T, what string, first, last int64, may func(v int64) bool) {
	t.Helper()
	for _, v := range near(first, last) {
		if got := may(v); got != (first <= v && v <= last) {
			t.Errorf("P7.1: %s %d: %v", what, v, got)
		}
	}
}

func TestConfigEachNumberHasItsEnds(t *testing.T) {
	for _, x := range []struct {
		what        string
		first, last int64
		set         func(c *api.Config, v int64)
	}{
		{"Cores", 1, 6, func(c *api.Config, v int64) { c.Cores = int(v) }},
		{"Syncs", 0, 3, func(c *api.Config, v int64) { c.Syncs = int(v) }},
		{"Lag", 0, 5, func(c *api.Config, v int64) { c.Lag = v }},
		{"Move", 0, 5, func(c *api.Config, v int64) { c.Move = v }},
	} {
		between(t, x.what, x.first, x.last, func(v int64) bool {
			c := api.Config{Cores: 1}
			x.set(&c, v)
			return rule.Config(c)
		})
	}
}

func TestConfigAtBothEndsOfAll(t *testing.T) {
	for _, c := range []api.Config{
		machine(),
		{Cores: 1},
		{Cores: 6, Syncs: 3, Lag: 5, Move: 5, Res: []int{2, 2, 1, 0, 1, 2}},
		{Cores: 1, Syncs: 3},
		{Cores: 1, Res: []int{}},
	} {
		if !rule.Config(c) {
			t.Errorf("P7.1: Config %v may not be", c)
		}
	}
	if rule.Config(api.Config{}) {
		t.Error("P7.1: a machine without cores")
	}
}

func TestConfigEachResourceLiesWithAnAgent(t *testing.T) {
	for syncs := range 4 {
		for n := 1; n <= 6; n++ {
			for at := range n {
				between(t, "agent", 0, int64(syncs-1), func(v int64) bool {
					c := api.Config{Cores: 1, Syncs: syncs, Res: make([]int, n)}
					c.Res[at] = int(v)
					return rule.Config(c)
				})
			}
		}
	}
}

func TestConfigHasAtMostSixResources(t *testing.T) {
	for _, n := range []int{0, 1, 2, 3, 4, 5, 6, 7, 8, 100, 1 << 20} {
		c := api.Config{Cores: 1, Syncs: 1, Res: make([]int, n)}
		if got := rule.Config(c); got != (n <= 6) {
			t.Errorf("P7.1: Config with %d of Res: %v", n, got)
		}
	}
}

func TestTaskTimesAsTheyAreOrdered(t *testing.T) {
	times := []int64{low, low + 1, -1, 0, 1, 2, 10, 20, 30, 199, 200, 201, 1 << 32, 1<<32 + 1, high - 1, high}
	for _, c := range times {
		for _, d := range times {
			for _, p := range times {
				want := 1 <= c && c <= d && d <= p && p <= 200
				if got := rule.Task(machine(), api.Task{C: c, D: d, T: p}); got != want {
					t.Errorf("P7.1: Task %d/%d/%d: %v", c, d, p, got)
				}
			}
		}
	}
}

func TestTaskEachNumberOfASectionHasItsEnds(t *testing.T) {
	for _, x := range []struct {
		what        string
		first, last int64
		make        func(v int64) api.Section
	}{
		{"Res", 0, 2, func(v int64) api.Section { return section(int(v), 5, 5) }},
		{"Len", 1, 200, func(v int64) api.Section { return section(0, 5, v) }},
		{"At", 1, 9, func(v int64) api.Section { return section(0, v, 5) }},
	} {
		between(t, x.what+" of the only one", x.first, x.last, func(v int64) bool {
			y := plain()
			y.Secs = []api.Section{x.make(v)}
			return rule.Task(machine(), y)
		})
	}
	for _, first := range []int64{1, 2, 5, 8, 9} {
		between(t, "At of the second one", first+1, 9, func(v int64) bool {
			y := plain()
			y.Secs = []api.Section{section(2, first, 1), section(2, v, 1)}
			return rule.Task(machine(), y)
		})
	}
}

func TestTaskBothSectionsCount(t *testing.T) {
	good := section(1, 5, 5)
	for _, bad := range []api.Section{
		section(3, 7, 5), section(-1, 7, 5), section(0, 7, 0), section(0, 7, 201), section(0, 10, 5), section(0, 5, 5), {},
	} {
		y := plain()
		y.Secs = []api.Section{good, bad}
		if rule.Task(machine(), y) {
			t.Errorf("P7.1: Task with %v behind", bad)
		}
		y.Secs = []api.Section{bad, section(1, 9, 5)}
		if bad.At != 5 && rule.Task(machine(), y) {
			t.Errorf("P7.1: Task with %v ahead", bad)
		}
	}
}

func TestTaskOfOneTickHasNoRoomForASection(t *testing.T) {
	for at := int64(-1); at <= 3; at++ {
		y := api.Task{C: 1, D: 200, T: 200, Secs: []api.Section{section(0, at, 1)}}
		if rule.Task(machine(), y) {
			t.Errorf("P7.1: C 1 with a section at %d", at)
		}
		y.C = 2
		if got := rule.Task(machine(), y); got != (at == 1) {
			t.Errorf("P7.1: C 2 with a section at %d: %v", at, got)
		}
	}
}

func TestTaskASectionMayBeLongerThanAll(t *testing.T) {
	y := api.Task{C: 3, D: 3, T: 3, Secs: []api.Section{section(0, 1, 200), section(0, 2, 200)}}
	if !rule.Task(machine(), y) {
		t.Error("P7.1: sections of 200 in a task of 3")
	}
}

func TestTaskHasAtMostTwoSections(t *testing.T) {
	for _, n := range []int{0, 1, 2, 3, 4, 100, 1 << 20} {
		y := api.Task{C: 200, D: 200, T: 200, Secs: make([]api.Section, n)}
		for i := range y.Secs {
			y.Secs[i] = section(0, int64(i+1), 1)
		}
		if got := rule.Task(machine(), y); got != (n <= 2) {
			t.Errorf("P7.1: Task with %d sections: %v", n, got)
		}
	}
}

func TestTaskOfAMachineWithoutResources(t *testing.T) {
	c := api.Config{Cores: 1, Syncs: 3}
	y := plain()
	if !rule.Task(c, y) {
		t.Error("P7.1: it asks for none")
	}
	y.Secs = []api.Section{section(0, 1, 1)}
	if rule.Task(c, y) {
		t.Error("P7.1: it asks for one")
	}
}

// wrong are machines that may not be.
func wrong() []api.Config {
	return []api.Config{
		{}, {Cores: low}, {Cores: 7}, {Cores: high},
		{Cores: 1, Syncs: -1}, {Cores: 1, Syncs: 4}, {Cores: 1, Lag: 6}, {Cores: 1, Lag: -1}, {Cores: 1, Move: 6}, {Cores: 1, Move: low},
		{Cores: 1, Res: []int{0, 0, 0}}, {Cores: 1, Syncs: 1, Res: []int{0, 0, 1}}, {Cores: 1, Syncs: low, Res: []int{0, 0, 0}},
		{Cores: 1, Syncs: 1, Res: make([]int, 7)},
	}
}

func TestNoTaskIsOfAMachineThatMayNotBe(t *testing.T) {
	y := plain()
	for _, c := range wrong() {
		if rule.Config(c) || rule.Task(c, y) {
			t.Errorf("P7.1: %v may be, or has a task", c)
		}
		with := y
		with.Secs = []api.Section{section(0, 1, 1)}
		if rule.Agents(c, y) != nil || rule.Agents(c, with) != nil {
			t.Errorf("P7.1: Agents of %v", c)
		}
	}
}

func TestLoadTimesAsTheyAreOrdered(t *testing.T) {
	times := []int64{low, low + 1, -1, 0, 1, 2, 199, 200, 201, 1 << 32, 1<<32 + 1, high - 1, high}
	for _, d := range times {
		for _, p := range times {
			fits := 1 <= d && d <= p && p <= 200
			for _, c := range near(1, 20000) {
				want := fits && 1 <= c && c <= 20000
				if got := rule.Load(api.Load{C: c, D: d, T: p}); got != want {
					t.Errorf("P7.1: Load %d/%d/%d: %v", c, d, p, got)
				}
			}
		}
	}
}

func TestPieceIsOnOneOfTheCores(t *testing.T) {
	for _, cores := range near(1, 6) {
		between(t, "Core", 0, max(cores, 0)-1, func(v int64) bool {
			return rule.Piece(api.Config{Cores: int(cores)}, api.Piece{Core: int(v), Len: 1, C: 1})
		})
	}
}

func TestPieceTimesAsTheyAreOrdered(t *testing.T) {
	times := []int64{low, low + 1, -200, -1, 0, 1, 2, 99, 100, 101, 199, 200, 201, 1 << 32, 1 << 62, high - 200, high - 1, high}
	for _, off := range times {
		for _, length := range times {
			for _, c := range times {
				// The sum is reckoned only of what is small enough for it.
				together := 0 <= off && off <= 200 && length <= 200 && off+length <= 200
				want := together && 1 <= c && c <= length
				p := api.Piece{Core: 1, Off: off, Len: length, C: c}
				if got := rule.Piece(machine(), p); got != want {
					t.Errorf("P7.1: Piece %v: %v", p, got)
				}
			}
		}
	}
}

func TestPieceOffAndLenTogether(t *testing.T) {
	for off := range int64(202) {
		between(t, "Len", 1, 200-off, func(v int64) bool {
			return rule.Piece(machine(), api.Piece{Off: off, Len: v, C: 1})
		})
	}
}

func TestSameIsAlikeInEveryField(t *testing.T) {
	two := func() api.Task {
		return api.Task{C: 10, D: 20, T: 30, Secs: []api.Section{section(2, 1, 5), section(1, 9, 200)}}
	}
	l := []api.Task{two(), two(), two(), two(), two(), two(), two(), two(), two(), two(), {},
		{C: 20, D: 10, T: 30}, {C: 10, D: 30, T: 20}, {C: low, D: high, T: -1, Secs: make([]api.Section, 1000)}}
	l[1].C++
	l[2].D++
	l[3].T++
	l[4].Secs[0].Res++
	l[5].Secs[0].At++
	l[6].Secs[1].Len--
	l[7].Secs = l[7].Secs[:1]
	l[8].Secs = nil
	slices.Reverse(l[9].Secs)
	for i, a := range l {
		for k, b := range l {
			b.Secs = slices.Clone(b.Secs)
			if got := rule.Same(a, b); got != (i == k) {
				t.Errorf("P7.1: Same(%d, %d) = %v", i, k, got)
			}
		}
	}
}

func TestSameNilLikeEmpty(t *testing.T) {
	for _, y := range []api.Task{{}, plain()} {
		a, b := y, y
		a.Secs, b.Secs = nil, make([]api.Section, 0, 3)
		if !rule.Same(a, b) || !rule.Same(b, a) || !rule.Same(a, a) || !rule.Same(b, b) {
			t.Error("P7.1: no sections and no sections")
		}
		a.Secs = make([]api.Section, 1)
		if rule.Same(a, b) || rule.Same(b, a) {
			t.Error("P7.1: one section and none")
		}
	}
}

func TestAgentsRisingEachOnce(t *testing.T) {
	c := api.Config{Cores: 1, Syncs: 3, Res: []int{2, 0, 1, 2, 0, 1}}
	for i, a := range c.Res {
		y := plain()
		y.Secs = []api.Section{section(i, 1, 1)}
		if got := rule.Agents(c, y); !slices.Equal(got, []int{a}) {
			t.Errorf("P7.1: Agents of Res %d: %v", i, got)
		}
		for k, b := range c.Res {
			y.Secs = []api.Section{section(i, 1, 1), section(k, 2, 1)}
			want := []int{min(a, b), max(a, b)}
			if a == b {
				want = want[:1]
			}
			if got := rule.Agents(c, y); !slices.Equal(got, want) {
				t.Errorf("P7.1: Agents of Res %d, %d: %v", i, k, got)
			}
		}
	}
	if got := rule.Agents(c, plain()); len(got) != 0 {
		t.Errorf("P7.1: Agents of none: %v", got)
	}
}

func TestAgentsOfATaskThatMayNotBe(t *testing.T) {
	for _, y := range []api.Task{
		{},
		{C: 21, D: 20, T: 30, Secs: []api.Section{section(0, 1, 1)}},
		{C: 10, D: 20, T: 30, Secs: []api.Section{section(3, 1, 1)}},
		{C: 10, D: 20, T: 30, Secs: []api.Section{section(0, 1, 1), section(low, 2, 1)}},
		{C: 10, D: 20, T: 30, Secs: []api.Section{section(0, 1, 1), section(1, 1, 1)}},
		{C: 10, D: 20, T: 30, Secs: []api.Section{section(0, 1, 1), section(1, 2, 1), section(1, 3, 1)}},
	} {
		if got := rule.Agents(machine(), y); got != nil {
			t.Errorf("P7.1: Agents of %v: %v", y, got)
		}
	}
}

func TestAgentsIsNewMemoryAndNothingIsChanged(t *testing.T) {
	res := []int{1, 0, 1, 77, 78}
	secs := []api.Section{section(2, 1, 5), section(1, 9, 200), section(9, 9, 9)}
	c, y := machine(), plain()
	c.Res, y.Secs = res[:3], secs[:2]
	first, second := rule.Agents(c, y), rule.Agents(c, y)
	whole := first[:cap(first)]
	for i := range whole {
		whole[i] = -1
	}
	if !slices.Equal(second, []int{0, 1}) || !slices.Equal(rule.Agents(c, y), []int{0, 1}) {
		t.Errorf("P0.3: another answer has become %v", second)
	}
	if !slices.Equal(res, []int{1, 0, 1, 77, 78}) {
		t.Errorf("P0.3: Res has become %v", res)
	}
	if !slices.Equal(secs, []api.Section{section(2, 1, 5), section(1, 9, 200), section(9, 9, 9)}) {
		t.Errorf("P0.3: Secs has become %v", secs)
	}
}
