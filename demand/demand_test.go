package demand_test

import (
	"math"
	"math/rand"
	"slices"
	"testing"

	"hortator/api"
	"hortator/busy"
	"hortator/demand"
)

const (
	low  = math.MinInt64
	high = math.MaxInt64
)

func load(c, d, period int64) api.Load {
	return api.Load{C: c, D: d, T: period}
}

func times(n int, l api.Load) []api.Load {
	return slices.Repeat([]api.Load{l}, n)
}

// counted lets each load come at 0 and at each period, and adds up what is due by t.
func counted(l []api.Load, t int64) int64 {
	sum := int64(0)
	for _, one := range l {
		for at := int64(0); at+one.D <= t; at += one.T {
			sum += one.C
		}
	}
	return sum
}

// tried goes from tick to tick and looks at each.
func tried(l []api.Load) (int64, bool) {
	end, _ := busy.Time(l)
	for t := int64(1); t <= end; t++ {
		if counted(l, t) > t {
			return t, true
		}
	}
	return 0, false
}

// worked lets a core do what is due first, tick by tick, while it is busy, and answers the first deadline that is missed.
func worked(l []api.Load) (int64, bool) {
	type job struct{ due, left int64 }
	var jobs []job
	end, _ := busy.Time(l)
	for at := range end {
		for _, one := range l {
			if at%one.T == 0 {
				jobs = append(jobs, job{at + one.D, one.C})
			}
		}
		slices.SortStableFunc(jobs, func(a, b job) int { return int(a.due - b.due) })
		if jobs[0].due <= at {
			return jobs[0].due, true
		}
		jobs[0].left--
		if jobs[0].left == 0 {
			jobs = jobs[1:]
		}
	}
	return 0, false
}

// thrown gives n loads that ask for some share of the core, with deadlines of all kinds.
func thrown(r *rand.Rand, n int, longest, share int64) []api.Load {
	var l []api.Load
	for range n {
		period := 1 + r.Int63n(longest)
		most := max(period*share/int64(100*n), 1)
		l = append(l, load(1+r.Int63n(most), 1+r.Int63n(period), period))
	}
	return l
}

func wantBound(t *testing.T, l []api.Load, at, want int64) {
	t.Helper()
	if got := demand.Bound(l, at); got != want {
		t.Errorf("P10.1: Bound of %v in %d ticks: %d, not %d", l, at, got, want)
	}
}

func wantFirst(t *testing.T, l []api.Load, want int64, wantOK bool) {
	t.Helper()
	if got, ok := demand.First(l); got != want || ok != wantOK {
		t.Errorf("P10.1: First of %v: %d, %v, not %d, %v", l, got, ok, want, wantOK)
	}
}

func wantFits(t *testing.T, l []api.Load, want bool) {
	t.Helper()
	if got := demand.Fits(l); got != want {
		t.Errorf("P10.1: Fits of %v: %v", l, got)
	}
}

func TestBoundGrowsAtDeadlines(t *testing.T) {
	l := []api.Load{load(3, 5, 7)}
	for at, want := range map[int64]int64{0: 0, 1: 0, 4: 0, 5: 3, 6: 3, 7: 3, 11: 3, 12: 6, 18: 6, 19: 9, 19996: 8568, 19997: 8571, 20000: 8571} {
		wantBound(t, l, at, want)
	}
	two := []api.Load{load(3, 5, 7), load(20, 10, 10)}
	for at, want := range map[int64]int64{0: 0, 4: 0, 5: 3, 9: 3, 10: 23, 11: 23, 12: 26, 19: 29, 20: 49, 20000: 8571 + 40000} {
		wantBound(t, two, at, want)
	}
}

func TestBoundOfADeadlineAtTheNextRelease(t *testing.T) {
	l := []api.Load{load(2, 4, 4)}
	for at, want := range map[int64]int64{0: 0, 3: 0, 4: 2, 7: 2, 8: 4, 12: 6} {
		wantBound(t, l, at, want)
	}
}

func TestBoundHasItsEnds(t *testing.T) {
	l := []api.Load{load(2, 1, 1)}
	wantBound(t, l, 0, 0)
	wantBound(t, l, 1, 2)
	wantBound(t, l, 19999, 39998)
	wantBound(t, l, 20000, 40000)
	for _, at := range []int64{-1, -2, 20001, 20002, 1 << 32, 1<<32 + 5, -1 << 32, low, low + 1, high - 1, high} {
		wantBound(t, l, at, 0)
	}
}

func TestBoundOfTheMost(t *testing.T) {
	wantBound(t, times(24, load(20000, 1, 1)), 20000, 24*20000*20000)
	wantBound(t, times(24, load(20000, 200, 200)), 20000, 24*20000*100)
	wantBound(t, times(24, load(20000, 200, 200)), 19999, 24*20000*99)
	wantBound(t, times(24, load(20000, 1, 200)), 20000, 24*20000*100)
}

func TestBoundAsItIsCounted(t *testing.T) {
	r := rand.New(rand.NewSource(10))
	for range 1000 {
		l := thrown(r, 1+r.Intn(24), 200, 1+r.Int63n(300))
		for _, at := range []int64{r.Int63n(20), r.Int63n(1000), r.Int63n(20001)} {
			wantBound(t, l, at, counted(l, at))
		}
	}
}

func TestNoLoads(t *testing.T) {
	for _, l := range [][]api.Load{nil, {}, make([]api.Load, 0, 30)} {
		wantFits(t, l, true)
		wantFirst(t, l, 0, false)
		for _, at := range []int64{low, -1, 0, 1, 20000, 20001, high} {
			wantBound(t, l, at, 0)
		}
	}
}

func TestHowManyLoads(t *testing.T) {
	one := load(1, 24, 200)
	for _, n := range []int{1, 23, 24} {
		wantBound(t, times(n, one), 24, int64(n))
		wantFits(t, times(n, one), true)
		wantFirst(t, times(n, one), 0, false)
	}
	wantFits(t, times(24, load(1, 23, 200)), false)
	wantFirst(t, times(24, load(1, 23, 200)), 23, true)
	for _, n := range []int{25, 26, 1 << 16, 1 << 20} {
		for _, d := range []int64{1, 200} {
			l := times(n, load(1, d, 200))
			first, ok := demand.First(l)
			if demand.Bound(l, 200) != 0 || demand.Fits(l) || first != 0 || ok {
				t.Errorf("P10.1: of %d loads: Bound %d, Fits %v, First %d, %v", n, demand.Bound(l, 200), demand.Fits(l), first, ok)
			}
		}
	}
}

func TestLoadsThatMayNotBe(t *testing.T) {
	good := load(1, 200, 200)
	for _, bad := range []api.Load{
		{}, load(0, 1, 1), load(-1, 1, 1), load(20001, 200, 200), load(high, 1, 1), load(low, 1, 1),
		load(1, 0, 5), load(1, -1, 5), load(1, 6, 5), load(1, high, 5), load(1, low, 5),
		load(1, 1, 0), load(1, 1, -5), load(1, 1, 201), load(1, 201, 201), load(1, 1, high), load(1, 1, low), load(low, low, low), load(high, high, high),
	} {
		for _, l := range [][]api.Load{{bad}, {bad, good}, {good, bad}, append(times(23, good), bad), {load(2, 1, 5), bad}} {
			wantFits(t, l, false)
			wantFirst(t, l, 0, false)
			for _, at := range []int64{0, 1, 5, 200, 20000} {
				wantBound(t, l, at, 0)
			}
		}
	}
}

func TestSome(t *testing.T) {
	for _, x := range []struct {
		l     []api.Load
		fits  bool
		first int64
	}{
		{[]api.Load{load(1, 1, 1)}, true, 0},
		{[]api.Load{load(200, 200, 200)}, true, 0},
		{[]api.Load{load(200, 199, 200)}, false, 199},
		{[]api.Load{load(2, 1, 2)}, false, 1},
		{[]api.Load{load(1, 1, 200), load(1, 1, 200)}, false, 1},
		{[]api.Load{load(1, 1, 200), load(1, 2, 200)}, true, 0},
		{[]api.Load{load(2, 4, 4), load(3, 6, 6)}, true, 0},
		{[]api.Load{load(2, 4, 4), load(3, 5, 6)}, true, 0},
		{[]api.Load{load(2, 4, 4), load(3, 4, 6)}, false, 4},
		{[]api.Load{load(2, 3, 4), load(3, 6, 6)}, true, 0},
		{[]api.Load{load(2, 2, 4), load(3, 5, 6)}, false, 6},
		{[]api.Load{load(2, 3, 4), load(3, 5, 6)}, false, 11},
		{[]api.Load{load(3, 5, 6), load(2, 3, 4)}, false, 11},
		{[]api.Load{load(1, 1, 3), load(2, 3, 3)}, true, 0},
	} {
		wantFits(t, x.l, x.fits)
		wantFirst(t, x.l, x.first, x.first > 0)
	}
}

// A core that is busy for ever has no First, whatever is missed on it.
func TestNoBusyTime(t *testing.T) {
	for _, l := range [][]api.Load{
		{load(201, 200, 200)}, {load(20000, 1, 200)}, {load(2, 1, 1)}, times(24, load(20000, 1, 1)),
		{load(5, 5, 5), load(1, 9, 200)},
		{load(40, 164, 164), load(50, 177, 177), load(77, 163, 163)},
		{load(40, 39, 164), load(50, 49, 177), load(77, 76, 163)},
	} {
		if end, ok := busy.Time(l); ok {
			t.Fatalf("P9.1: Time of %v: %d", l, end)
		}
		wantFits(t, l, false)
		wantFirst(t, l, 0, false)
	}
	wantBound(t, []api.Load{load(201, 200, 200)}, 200, 201)
}

// Busy times up to the last one that may be, and what is missed right ahead of their ends.
func TestLongBusyTimes(t *testing.T) {
	for _, x := range []struct {
		l     []api.Load
		end   int64
		first int64
	}{
		{[]api.Load{load(59, 164, 164), load(26, 177, 177), load(72, 146, 146)}, 20000, 0},
		{[]api.Load{load(59, 155, 164), load(26, 171, 177), load(72, 142, 146)}, 20000, 19999},
		{[]api.Load{load(38, 133, 145), load(36, 131, 137), load(76, 159, 160)}, 20000, 19999},
		{[]api.Load{load(59, 164, 164), load(26, 156, 177), load(72, 142, 146)}, 20000, 15910},
		{[]api.Load{load(56, 133, 137), load(7, 170, 187), load(98, 173, 177)}, 19999, 19998},
		{[]api.Load{load(51, 197, 197), load(48, 197, 197), load(97, 192, 195)}, 19109, 18912},
	} {
		if end, ok := busy.Time(x.l); end != x.end || !ok {
			t.Fatalf("P9.1: Time of %v: %d, %v", x.l, end, ok)
		}
		wantFits(t, x.l, x.first == 0)
		wantFirst(t, x.l, x.first, x.first > 0)
		n, ok := worked(x.l)
		if n != x.first || ok != (x.first > 0) {
			t.Errorf("P10.1: %v: %d is missed, not %d", x.l, n, x.first)
		}
	}
}

func TestFirstAsItIsTriedAndWorked(t *testing.T) {
	r := rand.New(rand.NewSource(110))
	fit, over, never := 0, 0, 0
	for range 3000 {
		l := thrown(r, 1+r.Intn(1+r.Intn(24)), 1+r.Int63n(200), 50+r.Int63n(200))
		_, ends := busy.Time(l)
		want, ok := tried(l)
		wantFirst(t, l, want, ok)
		wantFits(t, l, ends && !ok)
		if missed, is := worked(l); missed != want || is != ok {
			t.Errorf("P10.1: %v: %d, %v is missed, but %d, %v is over", l, missed, is, want, ok)
		}
		switch {
		case !ends:
			never++
		case ok:
			over++
		default:
			fit++
		}
	}
	if fit < 300 || over < 300 || never < 300 {
		t.Errorf("P10.1: too few kinds of loads were thrown: %d fit, %d do not, %d never end", fit, over, never)
	}
}

// What fits while the core is busy fits at every time.
func TestFitsForEachTime(t *testing.T) {
	r := rand.New(rand.NewSource(210))
	fit := 0
	for range 200 {
		l := thrown(r, 1+r.Intn(6), 60, 90)
		if !demand.Fits(l) {
			continue
		}
		fit++
		for at := int64(1); at <= api.MaxBusy; at += 1 + r.Int63n(3) {
			if n := demand.Bound(l, at); n > at {
				t.Fatalf("P10.1: %v Fits, but in %d ticks %d has to be done", l, at, n)
			}
		}
	}
	if fit < 50 {
		t.Errorf("P10.1: only %d of 200 fit", fit)
	}
}

func TestListsAreLeftAlone(t *testing.T) {
	room := []api.Load{load(3, 5, 6), load(2, 3, 4), load(7, 9, 9), {C: -1}}
	kept := slices.Clone(room)
	demand.Bound(room[:2], 100)
	demand.Fits(room[:2])
	demand.First(room[:2])
	if !slices.Equal(room, kept) {
		t.Errorf("P0.3: the list, or its room, was changed: %v", room)
	}
	l := room[:2]
	wantFirst(t, l, 11, true)
	l[1] = load(2, 4, 4)
	wantFirst(t, l, 0, false)
	wantFits(t, l, true)
	l[1] = load(2, 3, 4)
	wantFirst(t, l, 11, true)
	wantFits(t, l, false)
}
