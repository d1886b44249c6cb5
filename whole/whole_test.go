package whole_test

import (
	"math"
	"math/rand"
	"reflect"
	"slices"
	"testing"

	"hortator/api"
	"hortator/busy"
	"hortator/demand"
	"hortator/load"
	"hortator/wait"
	"hortator/whole"
)

const (
	low  = math.MinInt64
	high = math.MaxInt64
)

func one(c, d, period int64) api.Load {
	return api.Load{C: c, D: d, T: period}
}

func times(n int, l api.Load) []api.Load {
	return slices.Repeat([]api.Load{l}, n)
}

func task(c, d, period int64) api.Task {
	return api.Task{C: c, D: d, T: period}
}

// planOn is the plan of P14.1 as the chapter writes it.
func planOn(core int, t api.Task) api.Plan {
	return api.Plan{Kind: 1, Pieces: []api.Piece{{Core: core, Off: 0, Len: t.D, C: t.C}}}
}

// triedCore lays l on every core, from the last to the first, and keeps the last that fits.
func triedCore(loads [][]api.Load, l api.Load) int {
	found := -1
	for i := len(loads) - 1; i >= 0; i-- {
		if demand.Fits(slices.Concat(loads[i], []api.Load{l})) {
			found = i
		}
	}
	return found
}

func wantCore(t *testing.T, loads [][]api.Load, l api.Load, want int) {
	t.Helper()
	if got := whole.Core(loads, l); got != want {
		t.Errorf("P14.1: Core of %v on %v: %d, not %d", l, loads, got, want)
	}
}

// wantPlace wants the plan on that core, or, where it is below 0, zero and false.
func wantPlace(t *testing.T, loads [][]api.Load, x api.Task, w int64, core int) {
	t.Helper()
	want := api.Plan{}
	if core >= 0 {
		want = planOn(core, x)
	}
	if got, ok := whole.Place(loads, x, w); ok != (core >= 0) || !reflect.DeepEqual(got, want) {
		t.Errorf("P14.1: Place of %v and %d on %v: %v, %v, not %v", x, w, loads, got, ok, want)
	}
}

// By hand: the first core leaves 4 ticks in each 10, the second 6, of these 1 up to 5, the third leaves none.
func TestTheLeastCoreThatTakesIt(t *testing.T) {
	loads := [][]api.Load{{one(6, 10, 10)}, {one(4, 5, 10)}, {one(4, 4, 4)}, {}}
	for _, x := range []struct {
		l    api.Load
		want int
	}{
		{one(1, 10, 10), 0},
		{one(4, 10, 10), 0},
		{one(4, 4, 10), 0},
		{one(5, 10, 10), 1},
		{one(6, 10, 10), 1},
		{one(7, 10, 10), 3},
		{one(5, 9, 10), 1},
		{one(6, 9, 10), 3},
		{one(10, 10, 10), 3},
		{one(200, 200, 200), 3},
		{one(1, 1, 1), 3},
		{one(1, 1, 200), 0},
		{one(201, 200, 200), -1},
		{one(11, 10, 10), -1},
	} {
		wantCore(t, loads, x.l, x.want)
		wantPlace(t, loads, task(x.l.C, x.l.D, x.l.T), 0, x.want)
	}
}

// Of cores that are alike the least one takes it, and one that is full is left out wherever it stands.
func TestTheOrderOfTheCores(t *testing.T) {
	full, half, free := []api.Load{one(5, 5, 5)}, []api.Load{one(5, 10, 10)}, []api.Load(nil)
	five := one(5, 10, 10)
	for _, x := range []struct {
		loads [][]api.Load
		want  int
	}{
		{[][]api.Load{free, free, free}, 0},
		{[][]api.Load{half, free, free}, 0},
		{[][]api.Load{full, half, free}, 1},
		{[][]api.Load{full, free, half}, 1},
		{[][]api.Load{full, full, half}, 2},
		{[][]api.Load{full, full, full, full, full, free}, 5},
		{[][]api.Load{full, full, full, full, full, full}, -1},
		{[][]api.Load{full, free, full, free}, 1},
	} {
		wantCore(t, x.loads, five, x.want)
		wantPlace(t, x.loads, task(5, 10, 10), 0, x.want)
	}
}

func TestNoCores(t *testing.T) {
	for _, loads := range [][][]api.Load{nil, {}, make([][]api.Load, 0, 6), make([][]api.Load, 6)[:0]} {
		wantCore(t, loads, one(1, 1, 1), -1)
		wantCore(t, loads, api.Load{}, -1)
		wantPlace(t, loads, task(1, 1, 1), 0, -1)
		wantPlace(t, loads, api.Task{}, 0, -1)
	}
}

// An empty list is a free core, whether it is nil or not.
func TestFreeCores(t *testing.T) {
	for _, free := range [][]api.Load{nil, {}, make([]api.Load, 0, 30)} {
		loads := [][]api.Load{{one(1, 1, 1)}, free}
		for _, l := range []api.Load{one(1, 1, 1), one(1, 1, 200), one(200, 200, 200), one(7, 7, 9)} {
			wantCore(t, loads, l, 1)
			wantPlace(t, loads, task(l.C, l.D, l.T), 0, 1)
		}
	}
}

// The chapter counts the cores by the list alone.
func TestManyCores(t *testing.T) {
	loads := slices.Repeat([][]api.Load{{one(1, 1, 1)}}, 1000)
	wantCore(t, loads, one(1, 200, 200), -1)
	loads[999] = nil
	wantCore(t, loads, one(1, 200, 200), 999)
	wantPlace(t, loads, task(1, 200, 200), 3, 999)
}

// What it waits for is counted on the core, but is no part of the piece.
func TestWhatItWaitsFor(t *testing.T) {
	loads := [][]api.Load{{one(6, 10, 10)}, {one(4, 5, 10)}, nil}
	for w, want := range map[int64]int{0: 0, 1: 0, 2: 1, 3: 1, 4: 2, 5: 2, 7: 2, 8: -1, 9: -1, 200: -1, 1 << 32: -1} {
		wantPlace(t, loads, task(3, 10, 10), w, want)
	}
	wantPlace(t, [][]api.Load{nil}, task(1, 200, 200), 199, 0)
	wantPlace(t, [][]api.Load{nil}, task(1, 200, 200), 200, -1)
	wantPlace(t, [][]api.Load{nil}, task(200, 200, 200), 1, -1)
}

// The chapter says C and w, so that a w below 0 takes from it.
func TestWaitsBelowNought(t *testing.T) {
	loads := [][]api.Load{{one(6, 10, 10)}, {one(4, 5, 10)}, nil}
	for w, want := range map[int64]int{-1: 1, -2: 1, -3: 0, -6: 0, -7: -1, -8: -1, -200: -1, low: -1, low + 1: -1} {
		wantPlace(t, loads, task(7, 10, 10), w, want)
	}
}

// Of two that wrap the sum looks like something that fits.
func TestSumsThatNoInt64Has(t *testing.T) {
	free := [][]api.Load{nil, {}}
	for _, x := range [][2]int64{
		{high, 1}, {high, high}, {1, high}, {low, -1}, {low, low}, {-1, low}, {low, low + 5}, {low + 5, low}, {low / 2, low/2 - 1},
		{high, 2 + low + high}, {high, low + 6}, {low + 6, high}, {20000, high - 19999}, {5, high - 4},
	} {
		want := -1
		// Just where nothing wraps does it fit.
		if x[0] == high && x[1] == low+6 || x[0] == low+6 && x[1] == high {
			want = 0
		}
		wantPlace(t, free, task(x[0], 10, 10), x[1], want)
	}
}

// A section is paid by w alone.
func TestSectionsAreNotAsked(t *testing.T) {
	loads := [][]api.Load{{one(6, 10, 10)}, nil}
	x := task(3, 10, 10)
	x.Secs = []api.Section{{Res: 1, At: 1, Len: 200}, {Res: -7, At: high, Len: low}, {}}
	wantPlace(t, loads, x, 1, 0)
	wantPlace(t, loads, x, 2, 1)
	wantPlace(t, loads, x, 8, -1)
}

func TestLoadsThatMayNotBeGoNowhere(t *testing.T) {
	loads := [][]api.Load{nil, {}, {one(1, 200, 200)}}
	for _, l := range []api.Load{
		{}, one(0, 1, 1), one(-1, 1, 1), one(low, 1, 1), one(high, 1, 1), one(20000, 200, 200), one(20001, 200, 200),
		one(1, 0, 5), one(1, -1, 5), one(1, 6, 5), one(1, high, 5), one(1, low, 5), one(1, 1, 0), one(1, 1, -5), one(1, 1, 201), one(1, 201, 201),
		one(1, 200, 1<<32+200), one(1, 1<<32+1, 200), one(1<<32+1, 200, 200), one(1, 1, high), one(low, low, low), one(high, high, high),
	} {
		wantCore(t, loads, l, -1)
		wantPlace(t, loads, task(l.C, l.D, l.T), 0, -1)
	}
}

// A core that holds what may not be, or what doesn't fit, takes nothing; the next one is asked.
func TestCoresThatMayNotBeAreLeftOut(t *testing.T) {
	good := one(1, 200, 200)
	for _, bad := range [][]api.Load{
		{{}}, {one(0, 1, 1)}, {one(-1, 1, 1)}, {one(-100, 200, 200)}, {one(low, 1, 1)}, {one(20001, 200, 200)}, {one(1, 0, 5)}, {one(1, 6, 5)}, {one(1, 1, 201)}, {one(1, 1, -5)},
		{good, {}}, {{}, good}, append(times(22, good), api.Load{}),
		{one(4, 3, 4)}, {one(2, 1, 200)}, {one(201, 200, 200)}, {one(1, 1, 200), one(1, 1, 200)}, {one(20000, 1, 200)},
	} {
		wantCore(t, [][]api.Load{bad}, good, -1)
		wantPlace(t, [][]api.Load{bad}, task(1, 200, 200), 0, -1)
		wantCore(t, [][]api.Load{bad, bad, nil, bad}, good, 2)
		wantPlace(t, [][]api.Load{bad, bad, nil, bad}, task(1, 200, 200), 0, 2)
	}
}

// demand takes 24 loads, so that 23 may lie there.
func TestHowManyLoads(t *testing.T) {
	little := one(1, 200, 200)
	for n, want := range map[int]int{0: 0, 1: 0, 22: 0, 23: 0, 24: 1, 25: 1, 26: 1, 1 << 16: 1} {
		wantCore(t, [][]api.Load{times(n, little), nil}, little, want)
		wantPlace(t, [][]api.Load{times(n, little), nil}, task(1, 200, 200), 0, want)
	}
	// A long list is not gone through, however many cores have it.
	long := slices.Repeat([][]api.Load{times(1<<20, little)}, 1<<16)
	if got := whole.Core(append(long, nil), little); got != 1<<16 {
		t.Errorf("P14.1: behind long lists: %d", got)
	}
}

// One tick more asks for less than the whole core, but its busy time would last longer than may be.
func TestTheBusyTimeSetsTheEnd(t *testing.T) {
	core := []api.Load{one(59, 164, 164), one(26, 177, 177)}
	if end, ok := busy.Time(append(slices.Clip(core), one(72, 146, 146))); end != api.MaxBusy || !ok {
		t.Fatalf("P9.1: Time: %d, %v", end, ok)
	}
	wantCore(t, [][]api.Load{core, nil}, one(72, 146, 146), 0)
	wantCore(t, [][]api.Load{core, nil}, one(73, 146, 146), 1)
	wantPlace(t, [][]api.Load{core, nil}, task(70, 146, 146), 2, 0)
	wantPlace(t, [][]api.Load{core, nil}, task(70, 146, 146), 3, 1)
}

// By hand, beside {2, 5, 10}: of each field one tick too many, or too few, moves it on.
func TestEachFieldCounts(t *testing.T) {
	loads := [][]api.Load{{one(2, 5, 10)}, nil}
	wantCore(t, loads, one(3, 5, 10), 0)
	wantCore(t, loads, one(4, 5, 10), 1)
	wantCore(t, loads, one(4, 6, 10), 0)
	wantCore(t, loads, one(8, 10, 10), 0)
	wantCore(t, loads, one(8, 9, 9), 1)
	wantCore(t, loads, one(3, 3, 6), 0)
	wantCore(t, loads, one(3, 3, 3), 1)
}

// thrown gives up to 7 cores, some of them free, some nearly full, and now and then one that is too full.
func thrown(r *rand.Rand) [][]api.Load {
	loads := make([][]api.Load, r.Intn(8))
	for i := range loads {
		n := int64(r.Intn(5))
		for range n {
			period := 1 + r.Int63n(200)
			d := 1 + r.Int63n(period)
			loads[i] = append(loads[i], one(1+r.Int63n(max(2*d/n, 1)), d, period))
		}
	}
	return loads
}

func TestAsItIsTried(t *testing.T) {
	r := rand.New(rand.NewSource(14))
	none, first, later := 0, 0, 0
	for range 6000 {
		loads := thrown(r)
		period := 1 + r.Int63n(200)
		d := 1 + r.Int63n(period)
		c, w := 1+r.Int63n(d), r.Int63n(30)-5
		wantCore(t, loads, one(c, d, period), triedCore(loads, one(c, d, period)))
		want := triedCore(loads, one(c+w, d, period))
		wantPlace(t, loads, task(c, d, period), w, want)
		switch {
		case want < 0:
			none++
		case want == 0:
			first++
		default:
			later++
		}
	}
	if none < 500 || first < 500 || later < 500 {
		t.Errorf("P14.1: too few kinds were thrown: none %d, first %d, later %d", none, first, later)
	}
}

// Place, wait and load speak of the same: what a plan asks, by load.Of, is what it was tried with.
func TestWithWhatItAsks(t *testing.T) {
	c := api.Config{Cores: 2, Syncs: 1, Lag: 1, Res: []int{0}}
	all := []api.Task{task(6, 10, 10), {C: 3, D: 10, T: 10, Secs: []api.Section{{Res: 0, At: 1, Len: 2}}}}
	w := wait.Task(c, all, 1)
	if w != 4 {
		t.Fatalf("P12.1: Task: %d", w)
	}
	loads := load.Of(c, all, 0, planOn(0, all[0]))
	p, ok := whole.Place(loads, all[1], w)
	if !ok || !reflect.DeepEqual(p, planOn(1, all[1])) {
		t.Fatalf("P14.1: Place %v, %v", p, ok)
	}
	asked := load.Of(c, all, 1, p)
	if len(asked) != 2 || len(asked[0]) != 0 || !slices.Equal(asked[1], []api.Load{one(7, 10, 10)}) {
		t.Errorf("P13.1: Of %v", asked)
	}
}

func TestListsAreLeftAlone(t *testing.T) {
	room := []api.Load{one(1, 5, 10), one(2, 8, 20), one(7, 9, 9), {C: -1}}
	cores := [][]api.Load{room[:1], room[1:2], nil, {one(3, 3, 3)}}
	keptRoom, keptCores := slices.Clone(room), slices.Clone(cores)
	loads := cores[:3]
	wantCore(t, loads, one(9, 10, 10), 0)
	wantPlace(t, loads, task(7, 10, 10), 3, 2)
	wantCore(t, loads, one(11, 10, 10), -1)
	if !slices.Equal(room, keptRoom) || !reflect.DeepEqual(cores, keptCores) {
		t.Errorf("P0.3: the lists, or their room, were changed: %v, %v", room, cores)
	}
	// What was told before is not kept.
	room[0] = one(10, 10, 10)
	wantCore(t, loads, one(9, 10, 10), 2)
	room[0] = keptRoom[0]
	wantCore(t, loads, one(9, 10, 10), 0)
}

func TestPlansAreTheCallersOwn(t *testing.T) {
	loads := [][]api.Load{nil}
	x := task(3, 10, 10)
	a, _ := whole.Place(loads, x, 0)
	b, _ := whole.Place(loads, x, 0)
	a.Pieces[0].C = 7
	if cap(a.Pieces) > 1 {
		_ = append(a.Pieces, api.Piece{Core: 5})
	}
	if !reflect.DeepEqual(b, planOn(0, x)) {
		t.Errorf("P0.3: another answer was changed: %v", b)
	}
	wantPlace(t, loads, x, 0, 0)
}
