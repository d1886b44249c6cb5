package wait_test

import (
	"math"
	"math/rand"
	"reflect"
	"slices"
	"testing"

	"hortator/api"
	"hortator/rule"
	"hortator/wait"
)

const (
	low  = math.MinInt64
	high = math.MaxInt64
)

// machine has three agents: the first has the resources 0, 3 and 5, the second 1 and 4, the third 2.
func machine() api.Config {
	return api.Config{Cores: 2, Syncs: 3, Lag: 2, Move: 5, Res: []int{0, 1, 2, 0, 1, 0}}
}

func task(secs ...api.Section) api.Task {
	return api.Task{C: 20, D: 100, T: 200, Secs: secs}
}

func sec(res int, at, length int64) api.Section {
	return api.Section{Res: res, At: at, Len: length}
}

func wantLongest(t *testing.T, c api.Config, one api.Task, agent int, want int64) {
	t.Helper()
	if got := wait.Longest(c, one, agent); got != want {
		t.Errorf("P12.1: Longest of %v on %v at %d: %d, not %d", one, c, agent, got, want)
	}
}

func wantSection(t *testing.T, c api.Config, all []api.Task, i, s int, want int64) {
	t.Helper()
	if got := wait.Section(c, all, i, s); got != want {
		t.Errorf("P12.1: Section %d of %d of %v on %v: %d, not %d", s, i, all, c, got, want)
	}
}

func wantTask(t *testing.T, c api.Config, all []api.Task, i int, want int64) {
	t.Helper()
	if got := wait.Task(c, all, i); got != want {
		t.Errorf("P12.1: Task %d of %v on %v: %d, not %d", i, all, c, got, want)
	}
}

// wantNothing holds that of all these nothing is answered, at whatever place.
func wantNothing(t *testing.T, c api.Config, all []api.Task) {
	t.Helper()
	for _, i := range []int{low, -1, 0, 1, 2, 11, 12, 13, 1 << 32, high} {
		wantTask(t, c, all, i, 0)
		for _, s := range []int{low, -1, 0, 1, 2, 1 << 32, high} {
			wantSection(t, c, all, i, s, 0)
		}
	}
}

func TestLongest(t *testing.T) {
	c := machine()
	for _, x := range []struct {
		one  api.Task
		want [3]int64
	}{
		{task(), [3]int64{}},
		{task(sec(0, 1, 7)), [3]int64{7, 0, 0}},
		{task(sec(4, 19, 1)), [3]int64{0, 1, 0}},
		{task(sec(2, 1, 200)), [3]int64{0, 0, 200}},
		{task(sec(0, 1, 7), sec(1, 2, 9)), [3]int64{7, 9, 0}},
		{task(sec(0, 1, 7), sec(0, 2, 9)), [3]int64{9, 0, 0}},
		{task(sec(0, 1, 9), sec(0, 2, 7)), [3]int64{9, 0, 0}},
		{task(sec(3, 1, 7), sec(5, 2, 9)), [3]int64{9, 0, 0}},
		{task(sec(5, 1, 9), sec(3, 2, 7)), [3]int64{9, 0, 0}},
		{task(sec(4, 1, 8), sec(1, 2, 8)), [3]int64{0, 8, 0}},
		{task(sec(2, 1, 3), sec(5, 2, 4)), [3]int64{4, 0, 3}},
	} {
		for agent, want := range x.want {
			wantLongest(t, c, x.one, agent, want)
		}
	}
}

func TestLongestAtAgentsThatAreNone(t *testing.T) {
	for _, agent := range []int{low, low + 1, -1 << 32, -1, 3, 4, 5, 6, 7, 1 << 32, 1<<32 + 1, high} {
		wantLongest(t, machine(), task(sec(0, 1, 7), sec(1, 2, 9)), agent, 0)
		wantLongest(t, machine(), task(), agent, 0)
		wantLongest(t, api.Config{Cores: 1}, task(), agent, 0)
	}
}

// By hand, with a Lag of 2: to the first agent go 7 and 3 of the tasks 0 and 2, to the second 9, 5, 8 of 0, 1, 3, to the third 4 of 1.
func some() []api.Task {
	return []api.Task{
		task(sec(0, 1, 7), sec(1, 2, 9)),
		task(sec(2, 3, 4), sec(4, 5, 5)),
		task(sec(3, 1, 3), sec(5, 19, 1)),
		task(sec(4, 1, 8)),
		task(),
	}
}

func TestSection(t *testing.T) {
	c, all := machine(), some()
	for i, want := range [][]int64{{4 + 7 + 3, 4 + 9 + 5 + 8}, {4 + 4, 4 + 5 + 9 + 8}, {4 + 3 + 7, 4 + 1 + 7}, {4 + 8 + 9 + 5}, {}} {
		for s, one := range want {
			wantSection(t, c, all, i, s, one)
		}
		for _, s := range []int{low, low + 1, -1 << 32, -1, len(want), len(want) + 1, 6, 1 << 32, 1<<32 + 1, high} {
			wantSection(t, c, all, i, s, 0)
		}
	}
}

func TestTask(t *testing.T) {
	c, all := machine(), some()
	for i, want := range []int64{40, 34, 26, 26, 0} {
		wantTask(t, c, all, i, want)
	}
}

func TestPlacesThatAreNone(t *testing.T) {
	for _, i := range []int{low, low + 1, -1 << 32, -2, -1, 5, 6, 11, 12, 1 << 32, 1<<32 + 1, high} {
		for _, s := range []int{low, -1, 0, 1, 2, high} {
			wantSection(t, machine(), some(), i, s, 0)
		}
		wantTask(t, machine(), some(), i, 0)
	}
	wantNothing(t, machine(), nil)
	wantNothing(t, machine(), []api.Task{})
	wantNothing(t, machine(), []api.Task{task()})
	wantNothing(t, machine(), some()[:0])
}

// Its own other section at the same agent does not count: it has its reply before it asks again.
func TestAlone(t *testing.T) {
	c := machine()
	all := []api.Task{task(sec(0, 1, 7), sec(3, 2, 9))}
	wantSection(t, c, all, 0, 0, 4+7)
	wantSection(t, c, all, 0, 1, 4+9)
	wantTask(t, c, all, 0, 24)
}

// Of another task at most one request is ahead, its longest there, wherever it stands in it; at another agent none.
func TestOthersCountOnceEach(t *testing.T) {
	c := machine()
	for _, other := range []api.Task{task(sec(0, 1, 30), sec(3, 2, 50)), task(sec(3, 1, 50), sec(5, 2, 30)), task(sec(5, 1, 50), sec(1, 2, 60)), task(sec(2, 1, 60), sec(0, 2, 50))} {
		for _, all := range [][]api.Task{{task(sec(0, 1, 7)), other}, {other, task(sec(0, 1, 7))}} {
			i := slices.IndexFunc(all, func(t api.Task) bool { return t.Secs[0].Len == 7 })
			wantSection(t, c, all, i, 0, 4+7+50)
			wantTask(t, c, all, i, 4+7+50)
		}
	}
}

// A task that is alike is another one, where it stands at another place.
func TestTasksThatAreAlike(t *testing.T) {
	c := machine()
	for n := 1; n <= 12; n++ {
		all := slices.Repeat([]api.Task{task(sec(1, 1, 7), sec(4, 2, 9))}, n)
		for i := range n {
			wantSection(t, c, all, i, 0, 4+7+9*int64(n-1))
			wantSection(t, c, all, i, 1, 4+9+9*int64(n-1))
			wantTask(t, c, all, i, 8+16+18*int64(n-1))
		}
	}
}

// Each section waits for both its ways, with Lag for each; Move counts for nothing.
func TestLag(t *testing.T) {
	for lag := int64(0); lag <= 5; lag++ {
		for move := int64(0); move <= 5; move++ {
			c := machine()
			c.Lag, c.Move = lag, move
			all := []api.Task{task(sec(1, 1, 7), sec(0, 2, 9)), task(sec(2, 1, 5)), task()}
			wantSection(t, c, all, 0, 0, 2*lag+7)
			wantSection(t, c, all, 0, 1, 2*lag+9)
			wantTask(t, c, all, 0, 4*lag+16)
			wantTask(t, c, all, 1, 2*lag+5)
			wantTask(t, c, all, 2, 0)
		}
	}
}

func TestTheLongest(t *testing.T) {
	c := api.Config{Cores: 1, Syncs: 1, Lag: 5, Res: []int{0}}
	all := slices.Repeat([]api.Task{{C: 3, D: 3, T: 3, Secs: []api.Section{sec(0, 1, 200), sec(0, 2, 200)}}}, 12)
	for i := range 12 {
		wantSection(t, c, all, i, 1, 10+200*12)
		wantTask(t, c, all, i, 2*(10+200*12))
	}
}

func TestTooManyTasks(t *testing.T) {
	for _, n := range []int{13, 14, 24, 1 << 16, 1 << 20} {
		wantNothing(t, machine(), make([]api.Task, n))
		wantNothing(t, machine(), slices.Repeat([]api.Task{task(sec(0, 1, 7))}, n))
	}
}

func TestConfigsThatMayNotBe(t *testing.T) {
	good := machine()
	bad := []api.Config{{}, {Syncs: 3, Res: good.Res}}
	for _, spoil := range []func(c *api.Config){
		func(c *api.Config) { c.Cores = 0 },
		func(c *api.Config) { c.Cores = 7 },
		func(c *api.Config) { c.Cores = low },
		func(c *api.Config) { c.Syncs = 4 },
		func(c *api.Config) { c.Syncs = 2 },
		func(c *api.Config) { c.Syncs = -1 },
		func(c *api.Config) { c.Syncs = high },
		func(c *api.Config) { c.Lag = -1 },
		func(c *api.Config) { c.Lag = 6 },
		func(c *api.Config) { c.Lag = low },
		func(c *api.Config) { c.Lag = high },
		func(c *api.Config) { c.Move = -1 },
		func(c *api.Config) { c.Move = 6 },
		func(c *api.Config) { c.Res[5] = 3 },
		func(c *api.Config) { c.Res[5] = -1 },
		func(c *api.Config) { c.Res = append(c.Res, 0) },
		func(c *api.Config) { c.Res = make([]int, 1<<16) },
	} {
		c := machine()
		spoil(&c)
		bad = append(bad, c)
	}
	for _, c := range bad {
		wantNothing(t, c, some())
		wantNothing(t, c, []api.Task{task()})
		for agent := -1; agent <= 3; agent++ {
			wantLongest(t, c, some()[0], agent, 0)
		}
	}
}

// One task that may not be spoils all, wherever it stands.
func TestTasksThatMayNotBe(t *testing.T) {
	c := machine()
	for _, bad := range []api.Task{
		{}, {C: 0, D: 1, T: 1}, {C: -1, D: 1, T: 1}, {C: 2, D: 1, T: 3}, {C: 1, D: 3, T: 2}, {C: 1, D: 1, T: 201}, {C: low, D: low, T: low}, {C: high, D: high, T: high},
		{C: 1, D: 1, T: 1, Secs: []api.Section{sec(0, 1, 1)}},
		task(sec(6, 1, 5)), task(sec(-1, 1, 5)), task(sec(high, 1, 5)), task(sec(low, 1, 5)),
		task(sec(0, 0, 5)), task(sec(0, 20, 5)), task(sec(0, -1, 5)), task(sec(0, high, 5)), task(sec(0, low, 5)),
		task(sec(0, 1, 0)), task(sec(0, 1, -5)), task(sec(0, 1, 201)), task(sec(0, 1, high)), task(sec(0, 1, low)),
		task(sec(0, 1, 5), sec(0, 1, 5)), task(sec(0, 2, 5), sec(0, 1, 5)), task(sec(0, 1, 5), sec(0, 2, 5), sec(0, 3, 5)),
		task(make([]api.Section, 1<<16)...),
	} {
		for place := range some() {
			wantNothing(t, c, slices.Insert(some(), place, bad))
		}
		wantNothing(t, c, []api.Task{bad})
		wantNothing(t, c, append(some(), bad))
		for agent := -1; agent <= 3; agent++ {
			wantLongest(t, c, bad, agent, 0)
		}
	}
}

func TestWithoutAgents(t *testing.T) {
	c := api.Config{Cores: 1}
	wantNothing(t, c, []api.Task{task(), task()})
	wantNothing(t, c, []api.Task{task(sec(0, 1, 5)), task()})
}

// thrown gives a machine, and n tasks that may be on it.
func thrown(r *rand.Rand, n int) (api.Config, []api.Task) {
	c := api.Config{Cores: 1, Syncs: 1 + r.Intn(3), Lag: r.Int63n(6), Move: r.Int63n(6)}
	for range 1 + r.Intn(6) {
		c.Res = append(c.Res, r.Intn(c.Syncs))
	}
	var all []api.Task
	for range n {
		one := api.Task{C: 3 + r.Int63n(50), D: 100, T: 200}
		first := 1 + r.Int63n(one.C-2)
		secs := []api.Section{sec(r.Intn(len(c.Res)), first, 1+r.Int63n(200)), sec(r.Intn(len(c.Res)), first+1, 1+r.Int63n(200))}
		one.Secs = secs[:r.Intn(3)]
		all = append(all, one)
	}
	return c, all
}

// plain reckons a section's wait from a table of the longest that each task asks of each agent.
func plain(c api.Config, all []api.Task, i, s int) int64 {
	table := make([]map[int]int64, len(all))
	for k, one := range all {
		table[k] = map[int]int64{}
		for _, section := range one.Secs {
			at := c.Res[section.Res]
			table[k][at] = max(table[k][at], section.Len)
		}
	}
	own := all[i].Secs[s]
	table[i] = map[int]int64{c.Res[own.Res]: own.Len}
	sum := c.Lag + c.Lag
	for _, row := range table {
		sum += row[c.Res[own.Res]]
	}
	return sum
}

func TestAgainstPlainReckoning(t *testing.T) {
	r := rand.New(rand.NewSource(12))
	for range 2000 {
		c, all := thrown(r, 1+r.Intn(12))
		for i, one := range all {
			if !rule.Task(c, one) {
				t.Fatalf("P7.1: %v on %v may not be", one, c)
			}
			sum := int64(0)
			for s := range one.Secs {
				sum += plain(c, all, i, s)
				wantSection(t, c, all, i, s, plain(c, all, i, s))
			}
			wantTask(t, c, all, i, sum)
		}
	}
}

// roomy gives tasks, sections and resources with spare room behind them, marked, and a view of all that room.
func roomy() (c api.Config, all []api.Task, view func() []any) {
	res := []int{0, 1, 2, 0, 9, 9}
	secs := []api.Section{sec(0, 1, 7), sec(1, 2, 9), sec(77, 77, 77), sec(77, 77, 77)}
	tasks := []api.Task{task(secs[:2]...), task(sec(3, 1, 5)), task(sec(77, 7, 7)), {C: -7}}
	c = machine()
	c.Res = res[:4]
	return c, tasks[:2], func() []any {
		return []any{slices.Clone(res), slices.Clone(secs), slices.Clone(tasks)}
	}
}

func TestListsAreLeftAlone(t *testing.T) {
	c, all, view := roomy()
	before := view()
	wait.Longest(c, all[0], 0)
	wait.Section(c, all, 0, 1)
	wait.Task(c, all, 0)
	if after := view(); !reflect.DeepEqual(after, before) {
		t.Errorf("P0.3: of what was handed in %v became %v", before, after)
	}
}
