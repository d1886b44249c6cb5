package load_test

import (
	"math"
	"math/big"
	"math/rand"
	"reflect"
	"slices"
	"testing"

	"hortator/api"
	"hortator/load"
	"hortator/rule"
	"hortator/wait"
)

const (
	low  = math.MinInt64
	high = math.MaxInt64
)

// machine has two agents: the first has the resources 0 and 2, the second 1.
func machine() api.Config {
	return api.Config{Cores: 4, Syncs: 2, Lag: 3, Move: 1, Res: []int{0, 1, 0}}
}

func sec(res int, at, length int64) api.Section {
	return api.Section{Res: res, At: at, Len: length}
}

// By hand, with a Lag of 3: the waits are 6+7+4, 6+9+5 of the first, none, 6+4+7 of the third, 6+5+9 of the fourth.
func some() []api.Task {
	return []api.Task{
		{C: 10, D: 80, T: 100, Secs: []api.Section{sec(0, 1, 7), sec(1, 2, 9)}},
		{C: 12, D: 30, T: 30},
		{C: 20, D: 60, T: 70, Secs: []api.Section{sec(2, 19, 4)}},
		{C: 5, D: 50, T: 200, Secs: []api.Section{sec(1, 4, 5)}},
	}
}

// The loads of some as a whole.
var wholes = [4]api.Load{{C: 10 + 17 + 20, D: 80, T: 100}, {C: 12, D: 30, T: 30}, {C: 20 + 17, D: 60, T: 70}, {C: 5 + 20, D: 50, T: 200}}

func on(core int, off, length, c int64) api.Piece {
	return api.Piece{Core: core, Off: off, Len: length, C: c}
}

// whole puts a task as a whole on a core.
func whole(core int, t api.Task) api.Plan {
	return api.Plan{Kind: api.PWhole, Pieces: []api.Piece{on(core, 0, t.D, t.C)}}
}

func split(kind int, pieces ...api.Piece) api.Plan {
	return api.Plan{Kind: kind, Pieces: pieces}
}

// same holds lists against each other: nil like empty, within, too; but a list of cores that is not there is none of cores with nothing.
func same(a, b [][]api.Load) bool {
	return slices.EqualFunc(a, b, func(a, b []api.Load) bool { return slices.Equal(a, b) })
}

func wantOf(t *testing.T, c api.Config, all []api.Task, i int, p api.Plan, want [][]api.Load) {
	t.Helper()
	if got := load.Of(c, all, i, p); !same(got, want) {
		t.Errorf("P13.1: Of %d of %v by %v on %v: %v, not %v", i, all, p, c, got, want)
	}
}

func wantAll(t *testing.T, c api.Config, all []api.Task, plans []api.Plan, want [][]api.Load) {
	t.Helper()
	if got := load.All(c, all, plans); !same(got, want) {
		t.Errorf("P13.1: All of %v by %v on %v: %v, not %v", all, plans, c, got, want)
	}
}

func wantShare(t *testing.T, l []api.Load, want int64) {
	t.Helper()
	if got := load.Share(l); got != want {
		t.Errorf("P13.1: Share of %v: %d, not %d", l, got, want)
	}
}

// wantNothing holds that of all these nothing is answered, at whatever place, by plans that are as many.
func wantNothing(t *testing.T, c api.Config, all []api.Task) {
	t.Helper()
	p := split(api.PWindow, on(0, 0, 9, 6))
	for _, i := range []int{low, -1, 0, 1, 2, 11, 12, 13, 1 << 32, high} {
		wantOf(t, c, all, i, p, nil)
		wantOf(t, c, all, i, api.Plan{}, nil)
	}
	wantAll(t, c, all, make([]api.Plan, len(all)), nil)
	wantAll(t, c, all, slices.Repeat([]api.Plan{p}, len(all)), nil)
}

func TestOfWhole(t *testing.T) {
	c, all := machine(), some()
	for i, one := range all {
		for core := range c.Cores {
			want := make([][]api.Load, c.Cores)
			want[core] = []api.Load{wholes[i]}
			wantOf(t, c, all, i, whole(core, one), want)
		}
	}
}

// Of a PWhole the task's own C, D count, whatever the piece says beside its core.
func TestOfWholeIsTheTasks(t *testing.T) {
	c, all := machine(), some()
	for _, piece := range []api.Piece{{Core: 2}, on(2, 1, 9, 6), on(2, 0, 200, 1), on(2, low, low, low), on(2, high, high, high)} {
		wantOf(t, c, all, 0, split(api.PWhole, piece), [][]api.Load{nil, nil, {wholes[0]}, nil})
	}
}

// What a whole task waits for hangs on all that ask its agents; a split one's loads do not.
func TestOfWaits(t *testing.T) {
	c := machine()
	one := api.Task{C: 10, D: 80, T: 100, Secs: []api.Section{sec(0, 1, 7)}}
	for n := 1; n <= 12; n++ {
		all := slices.Repeat([]api.Task{one}, n)
		for i := range n {
			wantOf(t, c, all, i, whole(1, one), [][]api.Load{nil, {{C: 10 + 6 + 7*int64(n), D: 80, T: 100}}, nil, nil})
			wantOf(t, c, all, i, split(api.PWindow, on(1, 0, 30, 9)), [][]api.Load{nil, {{C: 9, D: 30, T: 100}}, nil, nil})
		}
	}
}

// Every kind but PWhole goes by its pieces.
func TestOfPieces(t *testing.T) {
	c, all := machine(), some()
	for _, kind := range []int{api.PWindow, api.PZero, 0, 4, -1, 1 << 32, 1<<32 + 1, low, high} {
		wantOf(t, c, all, 1, split(kind, on(3, 0, 9, 8), on(0, 12, 10, 5)), [][]api.Load{{{C: 5, D: 10, T: 30}}, nil, nil, {{C: 8, D: 9, T: 30}}})
		wantOf(t, c, all, 1, split(kind, on(0, 0, 7, 6), on(1, 9, 8, 5), on(2, 19, 9, 4)), [][]api.Load{{{C: 6, D: 7, T: 30}}, {{C: 5, D: 8, T: 30}}, {{C: 4, D: 9, T: 30}}, nil})
		wantOf(t, c, all, 3, split(kind, on(1, 0, 7, 7)), [][]api.Load{nil, {{C: 7, D: 7, T: 200}}, nil, nil})
		wantOf(t, c, all, 0, split(kind), make([][]api.Load, 4))
	}
}

// Pieces of one core stay in their order, wherever their Off is; nothing but their core is asked.
func TestOfPiecesAsTheyAre(t *testing.T) {
	c, all := machine(), some()
	p := split(api.PWindow, on(2, 20, 9, 1), on(1, 5, 8, 2), on(2, 0, 7, 3), on(2, 10, 9, 1))
	wantOf(t, c, all, 1, p, [][]api.Load{nil, {{C: 2, D: 8, T: 30}}, {{C: 1, D: 9, T: 30}, {C: 3, D: 7, T: 30}, {C: 1, D: 9, T: 30}}, nil})
	p = split(api.PZero, on(2, low, high, low), on(3, high, low, high), on(0, -1, 0, -1))
	wantOf(t, c, all, 1, p, [][]api.Load{{{C: -1, T: 30}}, nil, {{C: low, D: high, T: 30}}, {{C: high, D: low, T: 30}}})
}

func TestAll(t *testing.T) {
	c, all := machine(), some()
	two := split(api.PWindow, on(3, 0, 9, 8), on(0, 12, 10, 5))
	wantAll(t, c, all, []api.Plan{whole(2, all[0]), two, whole(2, all[2]), whole(2, all[3])},
		[][]api.Load{{{C: 5, D: 10, T: 30}}, nil, {wholes[0], wholes[2], wholes[3]}, {{C: 8, D: 9, T: 30}}})
	wantAll(t, c, all, []api.Plan{whole(3, all[0]), two, whole(0, all[2]), whole(3, all[3])},
		[][]api.Load{{{C: 5, D: 10, T: 30}, wholes[2]}, nil, nil, {wholes[0], {C: 8, D: 9, T: 30}, wholes[3]}})
	wantAll(t, c, all, make([]api.Plan, 4), make([][]api.Load, 4))
	back := split(api.PZero, on(1, 30, 5, 2), on(0, 0, 6, 1), on(1, 0, 4, 3))
	wantAll(t, c, all[1:2], []api.Plan{back}, [][]api.Load{{{C: 1, D: 6, T: 30}}, {{C: 2, D: 5, T: 30}, {C: 3, D: 4, T: 30}}, nil, nil})
}

// Of no task there is nothing on each core; but of none there is no i-th.
func TestNoTasks(t *testing.T) {
	for cores := 1; cores <= 6; cores++ {
		c := api.Config{Cores: cores}
		want := make([][]api.Load, cores)
		wantAll(t, c, nil, nil, want)
		wantAll(t, c, []api.Task{}, []api.Plan{}, want)
		wantAll(t, c, some()[:0], make([]api.Plan, 4)[:0], want)
		wantAll(t, c, nil, make([]api.Plan, 1), nil)
		for _, i := range []int{low, -1, 0, 1, high} {
			wantOf(t, c, nil, i, api.Plan{}, nil)
			wantOf(t, c, []api.Task{}, i, api.Plan{Kind: api.PWhole}, nil)
		}
	}
}

func TestPlacesThatAreNone(t *testing.T) {
	c, all := machine(), some()
	for _, i := range []int{low, low + 1, -1 << 32, -2, -1, 4, 5, 11, 12, 1 << 32, 1<<32 + 1, high} {
		wantOf(t, c, all, i, whole(0, all[0]), nil)
		wantOf(t, c, all, i, split(api.PZero, on(0, 0, 1, 1)), nil)
		wantOf(t, c, all, i, api.Plan{}, nil)
	}
}

// One piece on a core that is none spoils all, wherever it stands, of whatever kind of plan.
func TestCoresThatAreNone(t *testing.T) {
	for cores := 1; cores <= 6; cores++ {
		c, all := machine(), some()
		c.Cores = cores
		for _, core := range []int{low, low + 1, -1 << 32, -2, -1, cores, cores + 1, 7, 1 << 32, 1<<32 + 1, high} {
			for _, kind := range []int{api.PWhole, api.PWindow, api.PZero, 0, 4} {
				for place := range 3 {
					p := split(kind, on(0, 0, 2, 1), on(cores-1, 9, 2, 1))
					p.Pieces = slices.Insert(p.Pieces, place, on(core, 5, 2, 1))
					wantOf(t, c, all, 1, p, nil)
					for i := range all {
						plans := make([]api.Plan, 4)
						plans[i] = p
						wantAll(t, c, all, plans, nil)
					}
				}
			}
		}
	}
}

func TestAsManyPlansAsTasks(t *testing.T) {
	c := machine()
	for tasks := range 5 {
		for n := range 6 {
			var want [][]api.Load
			if n == tasks {
				want = make([][]api.Load, c.Cores)
			}
			wantAll(t, c, some()[:tasks], make([]api.Plan, n), want)
		}
	}
	wantAll(t, c, some(), make([]api.Plan, 1<<20), nil)
}

func TestTooManyTasks(t *testing.T) {
	c := machine()
	for _, n := range []int{11, 12} {
		all := slices.Repeat(some()[1:2], n)
		plans := slices.Repeat([]api.Plan{whole(3, all[0])}, n)
		wantAll(t, c, all, plans, [][]api.Load{nil, nil, nil, slices.Repeat(wholes[1:2], n)})
		wantOf(t, c, all, n-1, plans[0], [][]api.Load{nil, nil, nil, wholes[1:2]})
	}
	for _, n := range []int{13, 14, 24, 1 << 16} {
		wantNothing(t, c, slices.Repeat(some()[1:2], n))
		wantNothing(t, c, make([]api.Task, n))
	}
}

func TestConfigsThatMayNotBe(t *testing.T) {
	for k, spoil := range []func(c *api.Config){
		func(c *api.Config) { *c = api.Config{} },
		func(c *api.Config) { c.Cores = 0 },
		func(c *api.Config) { c.Cores = -1 },
		func(c *api.Config) { c.Cores = 7 },
		func(c *api.Config) { c.Cores = low },
		func(c *api.Config) { c.Cores = high },
		func(c *api.Config) { c.Syncs = 1 },
		func(c *api.Config) { c.Syncs = 4 },
		func(c *api.Config) { c.Syncs = -1 },
		func(c *api.Config) { c.Lag = -1 },
		func(c *api.Config) { c.Lag = 6 },
		func(c *api.Config) { c.Lag = high },
		func(c *api.Config) { c.Move = -1 },
		func(c *api.Config) { c.Move = 6 },
		func(c *api.Config) { c.Move = low },
		func(c *api.Config) { c.Res[2] = 2 },
		func(c *api.Config) { c.Res[2] = -1 },
		func(c *api.Config) { c.Res = make([]int, 7) },
		func(c *api.Config) { c.Res = make([]int, 1<<16) },
	} {
		c := machine()
		spoil(&c)
		if rule.Config(c) {
			t.Errorf("P7.1, %d: %v may be", k, c)
		}
		wantNothing(t, c, some())
		wantNothing(t, c, some()[1:2])
		wantNothing(t, c, nil)
	}
}

// One task that may not be spoils all, wherever it stands, whichever is asked for.
func TestTasksThatMayNotBe(t *testing.T) {
	c := machine()
	for _, bad := range []api.Task{
		{}, {C: 0, D: 1, T: 1}, {C: -1, D: 1, T: 1}, {C: 2, D: 1, T: 3}, {C: 1, D: 3, T: 2}, {C: 1, D: 1, T: 201}, {C: low, D: low, T: low}, {C: high, D: high, T: high},
		{C: 1, D: 1, T: 1, Secs: []api.Section{sec(0, 1, 1)}},
		{C: 9, D: 9, T: 9, Secs: []api.Section{sec(3, 1, 5)}}, {C: 9, D: 9, T: 9, Secs: []api.Section{sec(-1, 1, 5)}},
		{C: 9, D: 9, T: 9, Secs: []api.Section{sec(0, 9, 5)}}, {C: 9, D: 9, T: 9, Secs: []api.Section{sec(0, 0, 5)}},
		{C: 9, D: 9, T: 9, Secs: []api.Section{sec(0, 1, 201)}}, {C: 9, D: 9, T: 9, Secs: []api.Section{sec(0, 1, 0)}},
		{C: 9, D: 9, T: 9, Secs: []api.Section{sec(0, 1, 5), sec(1, 1, 5)}}, {C: 9, D: 9, T: 9, Secs: make([]api.Section, 3)},
	} {
		for place := range 5 {
			wantNothing(t, c, slices.Insert(some(), place, bad))
		}
		wantNothing(t, c, []api.Task{bad})
	}
}

func TestShare(t *testing.T) {
	for _, x := range []struct {
		l    []api.Load
		want int64
	}{
		{nil, 0},
		{[]api.Load{}, 0},
		{[]api.Load{{C: 1, D: 1, T: 1}}, 10000},
		{[]api.Load{{C: 1, D: 2, T: 2}}, 5000},
		{[]api.Load{{C: 1, D: 3, T: 3}}, 3334},
		{[]api.Load{{C: 2, D: 3, T: 3}}, 6667},
		{[]api.Load{{C: 3, D: 3, T: 3}}, 10000},
		{[]api.Load{{C: 1, D: 1, T: 200}}, 50},
		{[]api.Load{{C: 1, D: 1, T: 199}}, 51},
		{[]api.Load{{C: 199, D: 200, T: 200}}, 9950},
		{[]api.Load{{C: 7, D: 1, T: 3}}, 23334},
		{[]api.Load{{C: 20000, D: 1, T: 1}}, 200000000},
		{[]api.Load{{C: 20000, D: 199, T: 199}}, 1005026},
		{[]api.Load{{C: 1, D: 3, T: 3}, {C: 1, D: 3, T: 3}, {C: 1, D: 3, T: 3}}, 3 * 3334},
		{[]api.Load{{C: 1, D: 2, T: 2}, {C: 1, D: 7, T: 7}, {C: 5, D: 6, T: 6}}, 5000 + 1429 + 8334},
		{slices.Repeat([]api.Load{{C: 20000, D: 1, T: 1}}, 24), 24 * 200000000},
		{slices.Repeat([]api.Load{{C: 1, D: 6, T: 6}}, 1000), 1667000},
	} {
		wantShare(t, x.l, x.want)
	}
}

// A share hangs on nothing but C and T.
func TestShareOfWhateverD(t *testing.T) {
	for _, d := range []int64{low, -1, 0, 1, 7, 201, high} {
		wantShare(t, []api.Load{{C: 2, D: d, T: 7}}, 2858)
	}
}

// What may not be has the share that its numbers make, as long as there is one.
func TestShareOfWhatMayNotBe(t *testing.T) {
	for _, x := range []struct{ c, t, want int64 }{
		{0, 1, 0}, {0, 7, 0}, {-1, 3, -3333}, {-2, 3, -6666}, {-3, 3, -10000}, {-7, 3, -23333}, {-1, 20000, 0},
		{20001, 200, 1000050}, {20001, 1, 200010000}, {1, 201, 50}, {1, 10000, 1}, {1, 10001, 1}, {2, 10001, 2}, {1, high, 1}, {-1, high, 0},
		{high, high, 10000}, {high - 1, high, 10000}, {low, high, -10000}, {1 << 62, 1 << 62, 10000}, {1<<62 - 1, 1 << 62, 10000}, {1 << 61, 1 << 62, 5000},
		{high, 10000, high}, {low, 10000, low}, {high, 9999, 0}, {low, 9999, 0}, {high, 1, 0}, {low, 1, 0}, {high, 10001, 9222449791875588249},
		{922337203685477, 1, 9223372036854770000}, {922337203685478, 1, 0}, {-922337203685477, 1, -9223372036854770000}, {-922337203685478, 1, 0},
	} {
		wantShare(t, []api.Load{{C: x.c, D: 1, T: x.t}}, x.want)
	}
}

// Without a T above 0 there is no share: it counts for nothing beside the others.
func TestShareWithoutT(t *testing.T) {
	for _, period := range []int64{low, low + 1, -10000, -1, 0} {
		for _, c := range []int64{low, -1, 0, 1, 20000, high} {
			bad := api.Load{C: c, D: 1, T: period}
			wantShare(t, []api.Load{bad}, 0)
			wantShare(t, []api.Load{{C: 1, D: 3, T: 3}, bad, {C: 2, D: 3, T: 3}}, 3334+6667)
		}
	}
}

// The whole sum counts: in between it may run over.
func TestShareThatRunsOver(t *testing.T) {
	most, least, one := api.Load{C: high, T: 10000}, api.Load{C: low, T: 10000}, api.Load{C: 1, T: 10000}
	wantShare(t, []api.Load{most, one}, 0)
	wantShare(t, []api.Load{most, most}, 0)
	wantShare(t, []api.Load{least, least}, 0)
	wantShare(t, []api.Load{least, most}, -1)
	wantShare(t, []api.Load{most, one, least}, 0)
	wantShare(t, []api.Load{most, most, least, one}, high)
	wantShare(t, []api.Load{most, most, least, one, one}, 0)
	wantShare(t, []api.Load{{C: 1, T: 1}, {C: high, T: 1}}, 0)
}

// exact reckons Share with whole numbers of any length.
func exact(l []api.Load) int64 {
	sum := new(big.Int)
	for _, one := range l {
		q := new(big.Int).Mul(big.NewInt(-one.C), big.NewInt(10000))
		// Div rounds down where what it divides by is above 0: of what is turned about that is up.
		sum.Sub(sum, q.Div(q, big.NewInt(one.T)))
	}
	if !sum.IsInt64() {
		return 0
	}
	return sum.Int64()
}

func TestShareAgainstExactReckoning(t *testing.T) {
	r := rand.New(rand.NewSource(13))
	for range 20000 {
		var l []api.Load
		bits := 1 + r.Intn(63)
		for range r.Intn(5) {
			one := api.Load{C: r.Int63()>>(63-bits) - r.Int63()>>(63-bits), D: 1, T: 1 + r.Int63n(200)}
			if r.Intn(2) == 0 {
				one.T = 1 + r.Int63()>>(1+r.Intn(62))
			}
			wantShare(t, []api.Load{one}, exact([]api.Load{one}))
			// Of one whose own share no int64 has nothing is said beside others.
			if one.C == 0 || exact([]api.Load{one}) != 0 {
				l = append(l, one)
			}
		}
		wantShare(t, l, exact(l))
	}
}

// thrown gives a machine, tasks that may be on it, and plans on its cores.
func thrown(r *rand.Rand, n int) (api.Config, []api.Task, []api.Plan) {
	c := api.Config{Cores: 1 + r.Intn(6), Syncs: 1 + r.Intn(3), Lag: r.Int63n(6), Move: r.Int63n(6)}
	for range 1 + r.Intn(6) {
		c.Res = append(c.Res, r.Intn(c.Syncs))
	}
	var all []api.Task
	var plans []api.Plan
	for range n {
		one := api.Task{C: 3 + r.Int63n(50), D: 60 + r.Int63n(40), T: 100 + r.Int63n(101)}
		first := 1 + r.Int63n(one.C-2)
		secs := []api.Section{sec(r.Intn(len(c.Res)), first, 1+r.Int63n(200)), sec(r.Intn(len(c.Res)), first+1, 1+r.Int63n(200))}
		one.Secs = secs[:r.Intn(3)]
		p := whole(r.Intn(c.Cores), one)
		if r.Intn(2) == 0 {
			p = split(2 + r.Intn(2))
			for range 1 + r.Intn(c.Cores) {
				p.Pieces = append(p.Pieces, on(r.Intn(c.Cores), r.Int63n(100), 1+r.Int63n(100), 1+r.Int63n(50)))
			}
		}
		all, plans = append(all, one), append(plans, p)
	}
	return c, all, plans
}

// plain gathers what lies on one core, task by task, piece by piece.
func plain(c api.Config, all []api.Task, plans []api.Plan, core int) []api.Load {
	var l []api.Load
	for i, p := range plans {
		for _, piece := range p.Pieces {
			switch {
			case piece.Core != core:
			case p.Kind == api.PWhole:
				l = append(l, api.Load{C: all[i].C + wait.Task(c, all, i), D: all[i].D, T: all[i].T})
			default:
				l = append(l, api.Load{C: piece.C, D: piece.Len, T: all[i].T})
			}
		}
	}
	return l
}

func TestAgainstPlainReckoning(t *testing.T) {
	r := rand.New(rand.NewSource(31))
	for range 2000 {
		c, all, plans := thrown(r, r.Intn(13))
		want, gathered := make([][]api.Load, c.Cores), make([][]api.Load, c.Cores)
		for core := range want {
			want[core] = plain(c, all, plans, core)
		}
		wantAll(t, c, all, plans, want)
		for i, p := range plans {
			for core, l := range load.Of(c, all, i, p) {
				gathered[core] = append(gathered[core], l...)
			}
		}
		if !same(gathered, want) {
			t.Errorf("P13.1: Of of all %v by %v on %v: %v, not %v", all, plans, c, gathered, want)
		}
	}
}

// roomy gives lists with spare room behind them, marked, and a view of all that room.
func roomy() (c api.Config, all []api.Task, plans []api.Plan, view func() []any) {
	mark := on(77, 77, 77, 77)
	res := []int{0, 1, 0, 9, 9}
	secs := []api.Section{sec(0, 1, 7), sec(1, 2, 9), sec(77, 77, 77)}
	tasks := append(some(), api.Task{C: -7}, api.Task{D: -7})
	tasks[0].Secs = secs[:2]
	pieces := []api.Piece{on(3, 0, 9, 8), on(3, 12, 10, 5), mark, mark}
	kept := []api.Plan{whole(2, tasks[0]), split(api.PWindow, pieces[:2]...), whole(2, tasks[2]), whole(3, tasks[3]), {Kind: 77}}
	c = machine()
	c.Res = res[:3]
	return c, tasks[:4], kept[:4], func() []any {
		return []any{slices.Clone(res), slices.Clone(secs), slices.Clone(tasks), slices.Clone(pieces), slices.Clone(kept)}
	}
}

func TestListsAreLeftAlone(t *testing.T) {
	c, all, plans, view := roomy()
	before := view()
	load.Of(c, all, 1, plans[1])
	l := load.All(c, all, plans)
	if after := view(); !reflect.DeepEqual(after, before) {
		t.Errorf("P0.3: of what was handed in %v became %v", before, after)
	}
	loads := l[3][:cap(l[3])]
	kept := slices.Clone(loads)
	load.Share(l[3])
	if !slices.Equal(loads, kept) {
		t.Errorf("P0.3: of what was handed in %v became %v", kept, loads)
	}
}

// scribble writes over all of an answer, its spare room, too.
func scribble(cores [][]api.Load) {
	for i := range cores[:cap(cores)] {
		l := cores[:cap(cores)][i]
		for k := range l[:cap(l)] {
			l[:cap(l)][k] = api.Load{C: -7, D: -7, T: -7}
		}
	}
	for i := range cores[:cap(cores)] {
		cores[:cap(cores)][i] = nil
	}
}

func TestAnswersAreNew(t *testing.T) {
	c, all, plans, view := roomy()
	before := view()
	one, both := load.Of(c, all, 1, plans[1]), load.All(c, all, plans)
	wantOne, wantBoth := [][]api.Load{nil, nil, nil, {{C: 8, D: 9, T: 30}, {C: 5, D: 10, T: 30}}}, [][]api.Load{nil, nil, {wholes[0], wholes[2]}, {{C: 8, D: 9, T: 30}, {C: 5, D: 10, T: 30}, wholes[3]}}
	scribble(load.Of(c, all, 1, plans[1]))
	scribble(load.All(c, all, plans))
	if !same(one, wantOne) || !same(both, wantBoth) {
		t.Errorf("P0.3: what was answered became %v, %v", one, both)
	}
	scribble(both[:3:3])
	if !same(both[3:], wantBoth[3:]) {
		t.Errorf("P0.3: the list of another core became %v", both[3])
	}
	wantOf(t, c, all, 1, plans[1], wantOne)
	wantAll(t, c, all, plans, wantBoth)
	if after := view(); !reflect.DeepEqual(after, before) {
		t.Errorf("P0.3: of what was handed in %v became %v", before, after)
	}
}

// That a PWhole has one piece is asked by plan.May alone: of none nothing is asked, of more of them the whole by each.
func TestWholeOfOtherThanOnePiece(t *testing.T) {
	c, all := machine(), some()
	wantOf(t, c, all, 0, split(api.PWhole), make([][]api.Load, 4))
	wantOf(t, c, all, 0, split(api.PWhole, on(3, 0, 9, 8), on(1, 9, 9, 8)), [][]api.Load{nil, {wholes[0]}, nil, {wholes[0]}})
	wantOf(t, c, all, 0, split(api.PWhole, make([]api.Piece, 1<<16)...), [][]api.Load{slices.Repeat(wholes[:1], 1<<16), nil, nil, nil})
}

func TestLongLists(t *testing.T) {
	n := 1 << 20
	c, all := machine(), some()
	long := split(api.PWindow, slices.Repeat([]api.Piece{on(1, 0, 9, 8)}, n)...)
	got := load.All(c, all[1:2], []api.Plan{long})
	if len(got) != 4 || len(got[1]) != n || load.Share(got[1]) != 2667*int64(n) {
		t.Error("P13.1: a plan of many pieces")
	}
	if got := load.Of(c, all, 1, long); len(got) != 4 || len(got[1]) != n {
		t.Error("P13.1: a plan of many pieces")
	}
}
