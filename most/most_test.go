package most_test

import (
	"math"
	"math/rand"
	"slices"
	"testing"

	"hortator/api"
	"hortator/busy"
	"hortator/demand"
	"hortator/most"
)

const (
	low  = math.MinInt64
	high = math.MaxInt64
)

func load(c, d, period int64) api.Load {
	return api.Load{C: c, D: d, T: period}
}

func times(n int, l api.Load) []api.Load {
	return slices.Repeat([]api.Load{l}, n)
}

func with(l []api.Load, c, d, period int64) []api.Load {
	return append(slices.Clone(l), load(c, d, period))
}

func fitsWith(l []api.Load, c, d, period int64) bool {
	return demand.Fits(with(l, c, d, period))
}

// triedFit tries every C from 1 on, and keeps the last that fits.
func triedFit(l []api.Load, d, period, top int64) int64 {
	best := int64(0)
	for c := int64(1); demand.Fits(l) && c <= min(top, d); c++ {
		if fitsWith(l, c, d, period) {
			best = c
		}
	}
	return best
}

// climbed goes up as long as it fits.
func climbed(l []api.Load, period, top int64) int64 {
	best := int64(0)
	for demand.Fits(l) && best < min(top, period) && fitsWith(l, best+1, best+1, period) {
		best++
	}
	return best
}

// thrown gives n loads that ask for some share of the core, with deadlines down to some hundredths of their periods.
func thrown(r *rand.Rand, n int, longest, share, soonest int64) []api.Load {
	var l []api.Load
	for range n {
		period := 1 + r.Int63n(longest)
		c := 1 + r.Int63n(max(period*share/int64(100*n), 1))
		d := max(period*(soonest+r.Int63n(101-soonest))/100, 1)
		l = append(l, load(c, d, period))
	}
	return l
}

func wantFit(t *testing.T, l []api.Load, d, period, top, want int64) {
	t.Helper()
	if got := most.Fit(l, d, period, top); got != want {
		t.Errorf("P11.1: Fit of %v, %d, %d, %d: %d, not %d", l, d, period, top, got, want)
	}
}

func wantTight(t *testing.T, l []api.Load, period, top, want int64) {
	t.Helper()
	if got := most.Tight(l, period, top); got != want {
		t.Errorf("P11.1: Tight of %v, %d, %d: %d, not %d", l, period, top, got, want)
	}
}

func TestAFreeCoreTakesAll(t *testing.T) {
	for _, l := range [][]api.Load{nil, {}, make([]api.Load, 0, 30)} {
		wantFit(t, l, 7, 10, 200, 7)
		wantFit(t, l, 10, 10, 200, 10)
		wantFit(t, l, 1, 1, 200, 1)
		wantFit(t, l, 1, 200, 200, 1)
		wantFit(t, l, 200, 200, 200, 200)
		wantFit(t, l, 200, 200, 199, 199)
		wantTight(t, l, 1, 200, 1)
		wantTight(t, l, 10, 200, 10)
		wantTight(t, l, 200, 200, 200)
		wantTight(t, l, 200, 199, 199)
	}
}

// By hand: {4, 8, 10} leaves 6 ticks in each 10, and 4 up to its deadline.
func TestBesideOne(t *testing.T) {
	l := []api.Load{load(4, 8, 10)}
	wantFit(t, l, 10, 10, 200, 6)
	wantFit(t, l, 9, 10, 200, 5)
	wantFit(t, l, 8, 10, 200, 4)
	wantFit(t, l, 7, 10, 200, 4)
	wantFit(t, l, 4, 10, 200, 4)
	wantFit(t, l, 3, 10, 200, 3)
	wantFit(t, l, 20, 20, 200, 12)
	wantFit(t, l, 5, 5, 200, 3)
	wantTight(t, l, 10, 200, 4)
	wantTight(t, l, 20, 200, 4)
	wantTight(t, l, 5, 200, 2)
	wantTight(t, l, 4, 200, 2)
	wantTight(t, l, 3, 200, 1)
	wantTight(t, l, 2, 200, 1)
	wantTight(t, l, 1, 200, 0)
}

// What is without slack leaves the others nothing up to its deadline: none of them may be due by then. In 105 ticks, {30, 100, 200} and three times {25, 25, 40} are all that can be done.
func TestTightStopsAtTheOthersDeadlines(t *testing.T) {
	wantTight(t, []api.Load{load(1, 1, 200)}, 200, 200, 0)
	wantFit(t, []api.Load{load(1, 1, 200)}, 200, 200, 200, 199)
	wantFit(t, []api.Load{load(1, 1, 200)}, 1, 200, 200, 0)
	wantFit(t, []api.Load{load(1, 1, 200)}, 2, 200, 200, 1)
	wantTight(t, []api.Load{load(1, 2, 200)}, 200, 200, 1)
	wantTight(t, []api.Load{load(1, 200, 200)}, 200, 200, 199)
	wantTight(t, []api.Load{load(1, 150, 200), load(1, 90, 200)}, 200, 200, 89)
	wantTight(t, []api.Load{load(30, 100, 200), load(30, 200, 200)}, 200, 200, 70)
	wantTight(t, []api.Load{load(30, 100, 200), load(30, 200, 200)}, 40, 200, 25)
}

func TestTheMostThatIsAsked(t *testing.T) {
	l := []api.Load{load(4, 8, 10)}
	for top, want := range map[int64]int64{low: 0, low + 1: 0, -1 << 32: 0, -1: 0, 0: 0, 1: 1, 2: 2, 5: 5, 6: 6, 7: 6, 10: 6, 20: 6, 1 << 32: 6, high - 1: 6, high: 6} {
		wantFit(t, l, 10, 10, top, want)
		wantTight(t, l, 10, top, min(want, 4))
	}
	for top, want := range map[int64]int64{low: 0, -1: 0, 0: 0, 1: 1, 6: 6, 7: 7, 8: 7, 11: 7, 12: 7, 1 << 32: 7, high: 7} {
		wantFit(t, nil, 7, 11, top, want)
		wantTight(t, nil, 7, top, want)
	}
}

func TestTimesThatMayNotBe(t *testing.T) {
	for _, l := range [][]api.Load{nil, {load(4, 8, 10)}} {
		for _, x := range [][2]int64{
			{0, 10}, {-1, 10}, {low, 10}, {11, 10}, {high, 10}, {0, 0}, {1, 0}, {-5, 0}, {1, -1}, {-2, -1}, {low, low}, {1, low},
			{1, 201}, {200, 201}, {201, 201}, {201, 200}, {1, 1 << 32}, {1, 1<<32 + 100}, {1, high}, {high, high}, {low, high}, {0, 200},
		} {
			for _, top := range []int64{low, -1, 0, 1, 5, 200, high} {
				wantFit(t, l, x[0], x[1], top, 0)
			}
		}
		for _, period := range []int64{low, low + 1, -1, 0, 201, 202, 1 << 32, 1<<32 + 100, high - 1, high} {
			for _, top := range []int64{low, -1, 0, 1, 5, 200, high} {
				wantTight(t, l, period, top, 0)
			}
		}
	}
}

func TestHowManyLoads(t *testing.T) {
	one := load(1, 100, 200)
	for n, want := range map[int]int64{1: 99, 22: 78, 23: 77, 24: 0, 25: 0, 26: 0, 1 << 16: 0, 1 << 20: 0} {
		wantFit(t, times(n, one), 100, 200, 200, want)
		wantTight(t, times(n, one), 200, 200, want)
	}
	wantFit(t, times(23, one), 200, 200, 200, 177)
}

func TestLoadsThatMayNotBe(t *testing.T) {
	good := load(1, 200, 200)
	for _, bad := range []api.Load{
		{}, load(0, 1, 1), load(-1, 1, 1), load(-100, 200, 200), load(20001, 200, 200), load(high, 1, 1), load(low, 1, 1),
		load(1, 0, 5), load(1, -1, 5), load(1, 6, 5), load(1, high, 5), load(1, 1, 0), load(1, 1, -5), load(1, 1, 201), load(1, 201, 201), load(1, 1, high), load(low, low, low),
	} {
		for _, l := range [][]api.Load{{bad}, {bad, good}, {good, bad}, append(times(22, good), bad)} {
			wantFit(t, l, 200, 200, 200, 0)
			wantTight(t, l, 200, 200, 0)
		}
	}
}

// Beside loads that don't fit nothing does, whether it is due far behind them or far ahead.
func TestLoadsThatDoNotFit(t *testing.T) {
	for _, l := range [][]api.Load{
		{load(4, 3, 4)}, {load(2, 1, 200)}, {load(200, 199, 200)}, {load(201, 200, 200)}, {load(2, 1, 1)}, {load(20000, 1, 200)},
		{load(1, 1, 200), load(1, 1, 200)}, {load(2, 3, 4), load(3, 5, 6)}, times(23, load(1, 22, 200)),
		{load(59, 155, 164), load(26, 171, 177), load(72, 142, 146)},
	} {
		if demand.Fits(l) {
			t.Fatalf("P10.1: %v Fits", l)
		}
		for _, d := range []int64{1, 5, 200} {
			wantFit(t, l, d, 200, 200, 0)
		}
		wantTight(t, l, 200, 200, 0)
		wantTight(t, l, 5, 200, 0)
	}
}

func TestAFullCoreTakesNothing(t *testing.T) {
	for _, l := range [][]api.Load{
		{load(1, 1, 1)}, {load(200, 200, 200)}, {load(5, 5, 5)}, {load(2, 4, 4), load(3, 6, 6)}, {load(1, 1, 2), load(1, 2, 2)},
	} {
		if !demand.Fits(l) {
			t.Fatalf("P10.1: %v does not", l)
		}
		wantFit(t, l, 1, 200, 200, 0)
		wantFit(t, l, 200, 200, 200, 0)
		wantTight(t, l, 200, 200, 0)
		wantTight(t, l, 1, 200, 0)
	}
}

// One tick more asks for less than the whole core, but its busy time would last longer than may be.
func TestTheBusyTimeSetsTheEnd(t *testing.T) {
	for _, x := range []struct {
		l            []api.Load
		period, want int64
	}{
		{[]api.Load{load(40, 147, 149), load(11, 140, 140)}, 193, 125},
		{[]api.Load{load(61, 147, 148), load(47, 168, 169)}, 168, 51},
		{[]api.Load{load(48, 151, 151), load(64, 130, 132)}, 193, 37},
	} {
		if _, ok := busy.Time(with(x.l, x.want+1, x.period, x.period)); ok {
			t.Fatalf("P9.1: %v and %d: there is a busy time", x.l, x.want+1)
		}
		wantFit(t, x.l, x.period, x.period, 200, x.want)
		wantFit(t, x.l, x.period, x.period, x.want, x.want)
		wantFit(t, x.l, x.period, x.period, x.want-1, x.want-1)
	}
	l := []api.Load{load(59, 164, 164), load(26, 177, 177)}
	wantFit(t, l, 146, 146, 200, 72)
	if end, ok := busy.Time(with(l, 72, 146, 146)); end != api.MaxBusy || !ok {
		t.Errorf("P9.1: Time: %d, %v", end, ok)
	}
}

func TestAsItIsTried(t *testing.T) {
	r := rand.New(rand.NewSource(11))
	none, some, all := 0, 0, 0
	for range 1500 {
		l := thrown(r, r.Intn(1+r.Intn(23)), 2+r.Int63n(199), 1+r.Int63n(160), 1+r.Int63n(100))
		period := 1 + r.Int63n(200)
		d, top := 1+r.Int63n(period), r.Int63n(220)
		fit, tight := triedFit(l, d, period, top), climbed(l, period, top)
		wantFit(t, l, d, period, top, fit)
		wantTight(t, l, period, top, tight)
		switch fit {
		case 0:
			none++
		case min(d, top):
			all++
		default:
			some++
		}
	}
	if none < 100 || some < 100 || all < 100 {
		t.Errorf("P11.1: too few kinds were thrown: none %d, some %d, all %d", none, some, all)
	}
}

// On a small machine everything is tried.
func TestEveryPair(t *testing.T) {
	for p := int64(1); p <= 6; p++ {
		for d := int64(1); d <= p; d++ {
			for c := int64(1); c <= d+1; c++ {
				l := []api.Load{load(c, d, p)}
				for period := int64(1); period <= 12; period++ {
					for due := int64(0); due <= period+1; due++ {
						want := int64(0)
						if due >= 1 && due <= period {
							want = triedFit(l, due, period, 12)
						}
						wantFit(t, l, due, period, 12, want)
					}
					wantTight(t, l, period, 12, climbed(l, period, 12))
				}
			}
		}
	}
}

func TestListsAreLeftAlone(t *testing.T) {
	room := []api.Load{load(1, 5, 10), load(2, 8, 20), load(7, 9, 9), {C: -1}}
	kept := slices.Clone(room)
	first := most.Fit(room[:2], 10, 10, 200)
	tight := most.Tight(room[:2], 10, 200)
	if !slices.Equal(room, kept) {
		t.Errorf("P0.3: the list, or its room, was changed: %v", room)
	}
	if first == 0 || tight == 0 {
		t.Errorf("P11.1: Fit %d, Tight %d", first, tight)
	}
	l := room[:2]
	l[1] = load(19, 19, 20)
	wantFit(t, l, 10, 10, 200, 0)
	wantTight(t, l, 10, 200, 0)
	l[1] = kept[1]
	wantFit(t, l, 10, 10, 200, first)
	wantTight(t, l, 10, 200, tight)
}
