package busy_test

import (
	"math"
	"math/rand"
	"slices"
	"testing"

	"hortator/api"
	"hortator/busy"
)

const (
	low  = math.MinInt64
	high = math.MaxInt64
)

// load is one whose deadline is its period.
func load(c, period int64) api.Load {
	return api.Load{C: c, D: period, T: period}
}

func times(n int, l api.Load) []api.Load {
	return slices.Repeat([]api.Load{l}, n)
}

// counted adds up C at each tick at which a load comes, ahead of t.
func counted(l []api.Load, t int64) int64 {
	sum := int64(0)
	for at := range t {
		for _, one := range l {
			if at%one.T == 0 {
				sum += one.C
			}
		}
	}
	return sum
}

// worked goes tick by tick: what comes is laid down, a tick of it is done, until nothing is left.
func worked(l []api.Load) (int64, bool) {
	if len(l) == 0 {
		return 0, true
	}
	left := int64(0)
	for at := range int64(api.MaxBusy) {
		for _, one := range l {
			if at%one.T == 0 {
				left += one.C
			}
		}
		left--
		if left == 0 {
			return at + 1, true
		}
	}
	return 0, false
}

// thrown gives n loads that ask for some share of the core, from hardly any to too much.
func thrown(r *rand.Rand, n int, longest, share int64) []api.Load {
	var l []api.Load
	for range n {
		period := 1 + r.Int63n(longest)
		most := max(period*share/int64(100*n), 1)
		l = append(l, api.Load{C: 1 + r.Int63n(most), D: 1 + r.Int63n(period), T: period})
	}
	return l
}

func wantAsked(t *testing.T, l []api.Load, at, want int64) {
	t.Helper()
	if got := busy.Asked(l, at); got != want {
		t.Errorf("P9.1: Asked of %v in %d ticks: %d, not %d", l, at, got, want)
	}
}

func wantTime(t *testing.T, l []api.Load, want int64, wantOK bool) {
	t.Helper()
	if got, ok := busy.Time(l); got != want || ok != wantOK {
		t.Errorf("P9.1: Time of %v: %d, %v, not %d, %v", l, got, ok, want, wantOK)
	}
}

func TestAskedComesAtZeroAndAtEachPeriod(t *testing.T) {
	l := []api.Load{load(3, 7)}
	for at, want := range map[int64]int64{0: 0, 1: 3, 6: 3, 7: 3, 8: 6, 14: 6, 15: 9, 19999: 8571, 20000: 8574} {
		wantAsked(t, l, at, want)
	}
	two := []api.Load{load(3, 7), load(20, 10)}
	for at, want := range map[int64]int64{0: 0, 1: 23, 7: 23, 8: 26, 10: 26, 11: 46, 20000: 3*2858 + 20*2000} {
		wantAsked(t, two, at, want)
	}
}

func TestAskedLooksAtNoDeadline(t *testing.T) {
	for d := int64(1); d <= 9; d++ {
		l := []api.Load{{C: 4, D: d, T: 9}}
		for at := range int64(40) {
			wantAsked(t, l, at, counted(l, at))
		}
	}
}

func TestAskedHasItsEnds(t *testing.T) {
	l := []api.Load{load(2, 1)}
	wantAsked(t, l, 0, 0)
	wantAsked(t, l, 1, 2)
	wantAsked(t, l, 19999, 39998)
	wantAsked(t, l, 20000, 40000)
	for _, at := range []int64{-1, -2, 20001, 20002, 1 << 32, 1<<32 + 5, -1 << 32, low, low + 1, high - 1, high} {
		wantAsked(t, l, at, 0)
	}
}

func TestAskedOfTheMost(t *testing.T) {
	wantAsked(t, times(24, load(20000, 1)), 20000, 24*20000*20000)
	wantAsked(t, times(24, load(20000, 200)), 20000, 24*20000*100)
}

func TestAskedAsItIsCounted(t *testing.T) {
	r := rand.New(rand.NewSource(9))
	for range 200 {
		l := thrown(r, 1+r.Intn(24), 200, 1+r.Int63n(300))
		at := r.Int63n(1000)
		wantAsked(t, l, at, counted(l, at))
	}
}

func TestNoLoads(t *testing.T) {
	for _, l := range [][]api.Load{nil, {}, make([]api.Load, 0, 30)} {
		wantTime(t, l, 0, true)
		for _, at := range []int64{low, -1, 0, 1, 20000, 20001, high} {
			wantAsked(t, l, at, 0)
		}
	}
}

func TestHowManyLoads(t *testing.T) {
	one := load(1, 200)
	wantTime(t, times(23, one), 23, true)
	wantTime(t, times(24, one), 24, true)
	wantAsked(t, times(24, one), 1, 24)
	for _, n := range []int{25, 26, 1 << 16, 1 << 20} {
		l := times(n, one)
		if got, ok := busy.Time(l); got != 0 || ok {
			t.Errorf("P9.1: Time of %d loads: %d, %v", n, got, ok)
		}
		if got := busy.Asked(l, 1); got != 0 {
			t.Errorf("P9.1: Asked of %d loads: %d", n, got)
		}
	}
}

func TestLoadsThatMayNotBe(t *testing.T) {
	good := load(1, 200)
	for _, bad := range []api.Load{
		{}, {C: 0, D: 1, T: 1}, {C: -1, D: 1, T: 1}, {C: 20001, D: 200, T: 200}, {C: high, D: 1, T: 1}, {C: low, D: 1, T: 1},
		{C: 1, D: 0, T: 5}, {C: 1, D: -1, T: 5}, {C: 1, D: 6, T: 5}, {C: 1, D: high, T: 5}, {C: 1, D: low, T: 5},
		{C: 1, D: 1, T: 0}, {C: 1, D: 1, T: -5}, {C: 1, D: 1, T: 201}, {C: 1, D: 201, T: 201}, {C: 1, D: 1, T: high}, {C: 1, D: 1, T: low},
	} {
		for _, l := range [][]api.Load{{bad}, {bad, good}, {good, bad}, append(times(23, good), bad)} {
			wantTime(t, l, 0, false)
			wantAsked(t, l, 5, 0)
		}
	}
}

func TestTimeOfSome(t *testing.T) {
	for _, x := range []struct {
		l    []api.Load
		want int64
		ok   bool
	}{
		{[]api.Load{load(1, 1)}, 1, true},
		{[]api.Load{load(1, 200)}, 1, true},
		{[]api.Load{load(200, 200)}, 200, true},
		{[]api.Load{load(201, 200)}, 0, false},
		{[]api.Load{load(20000, 200)}, 0, false},
		{[]api.Load{load(2, 1)}, 0, false},
		{[]api.Load{load(2, 4), load(3, 6)}, 12, true},
		{[]api.Load{load(3, 6), load(2, 4)}, 12, true},
		{[]api.Load{load(2, 4), load(2, 6)}, 4, true},
		{[]api.Load{load(5, 5), load(1, 200)}, 0, false},
		{[]api.Load{load(1, 2), load(1, 3), load(1, 6)}, 6, true},
		{[]api.Load{load(100, 199), load(99, 200)}, 199, true},
		{[]api.Load{{C: 4, D: 1, T: 4}}, 4, true},
	} {
		wantTime(t, x.l, x.want, x.ok)
	}
}

// A busy time of 20,000 is one, a busy time of 20,001 is none.
func TestTimeHasItsEnd(t *testing.T) {
	for _, x := range []struct {
		l    []api.Load
		want int64
		ok   bool
	}{
		{[]api.Load{load(56, 137), load(7, 187), load(98, 177)}, 19999, true},
		{[]api.Load{load(59, 164), load(26, 177), load(72, 146)}, 20000, true},
		{[]api.Load{load(38, 145), load(36, 137), load(76, 160)}, 20000, true},
		{[]api.Load{load(40, 164), load(50, 177), load(77, 163)}, 0, false},
		{[]api.Load{load(4, 132), load(47, 113), load(98, 177)}, 0, false},
		{[]api.Load{load(23, 146), load(1, 131), load(121, 145)}, 0, false},
	} {
		wantTime(t, x.l, x.want, x.ok)
		if x.ok {
			wantAsked(t, x.l, x.want, x.want)
		}
	}
}

// Cores that are full, or nearly so, are busy for the longest.
func TestTimeOfNearlyFullCores(t *testing.T) {
	r := rand.New(rand.NewSource(20000))
	for range 2000 {
		a, b := 100+r.Int63n(101), 100+r.Int63n(101)
		c := 1 + r.Int63n(a-1)
		l := []api.Load{load(c, a), load(max(b-c*b/a-r.Int63n(2), 1), b)}
		want, ok := worked(l)
		wantTime(t, l, want, ok)
	}
	wantTime(t, []api.Load{load(32, 160), load(100, 125)}, 4000, true)
	wantTime(t, []api.Load{load(33, 160), load(100, 125)}, 0, false)
}

func TestTimeAsItIsWorked(t *testing.T) {
	r := rand.New(rand.NewSource(19))
	for range 1500 {
		l := thrown(r, 1+r.Intn(24), 1+r.Int63n(200), 1+r.Int63n(250))
		want, ok := worked(l)
		wantTime(t, l, want, ok)
	}
}

func TestTimeIsTheLeastAndAskedAgrees(t *testing.T) {
	r := rand.New(rand.NewSource(29))
	for range 300 {
		l := thrown(r, 1+r.Intn(6), 20, 150)
		n, ok := busy.Time(l)
		for at := int64(1); at < n; at++ {
			if busy.Asked(l, at) == at {
				t.Errorf("P9.1: %v: Time %d, though in %d ticks all is done", l, n, at)
			}
		}
		if ok && busy.Asked(l, n) != n {
			t.Errorf("P9.1: %v: Time %d, but not all is done then", l, n)
		}
	}
}

func TestListsAreLeftAlone(t *testing.T) {
	room := []api.Load{load(2, 4), load(3, 6), load(7, 9), {C: -1}}
	kept := slices.Clone(room)
	busy.Asked(room[:2], 100)
	busy.Time(room[:2])
	if !slices.Equal(room, kept) {
		t.Errorf("P0.3: the list, or its room, was changed: %v", room)
	}
	l := room[:2]
	first, _ := busy.Time(l)
	l[0] = load(1, 4)
	second, _ := busy.Time(l)
	l[0] = load(2, 4)
	third, _ := busy.Time(l)
	if first != 12 || second != 4 || third != 12 {
		t.Errorf("P0.3, P0.5: Time kept a list: %d, %d, %d", first, second, third)
	}
}
