package line_test

import (
	"math"
	"math/rand"
	"runtime"
	"slices"
	"testing"
	"weak"

	"hortator/line"
)

const (
	low  = math.MinInt64
	high = math.MaxInt64
)

// thing is one that is due then.
type thing struct {
	v   int
	due int64
}

// model is a line that is slow and plain: things in the order in which they were Put.
type model struct {
	room   int
	things []thing
}

func (m *model) put(v int, due int64) bool {
	if !m.drop(v) && len(m.things) >= m.room {
		return false
	}
	m.things = append(m.things, thing{v, due})
	return true
}

func (m *model) drop(v int) bool {
	i := slices.IndexFunc(m.things, func(x thing) bool { return x.v == v })
	if i < 0 {
		return false
	}
	m.things = slices.Delete(m.things, i, i+1)
	return true
}

func (m *model) next() (int64, bool) {
	if len(m.things) == 0 {
		return 0, false
	}
	least := m.things[0].due
	for _, x := range m.things {
		least = min(least, x.due)
	}
	return least, true
}

func (m *model) due(now int64) []int {
	var gone []int
	for {
		least, ok := m.next()
		if !ok || least > now {
			return gone
		}
		i := slices.IndexFunc(m.things, func(x thing) bool { return x.due == least })
		gone = append(gone, m.things[i].v)
		m.things = slices.Delete(m.things, i, i+1)
	}
}

// put puts what has to find room.
func put[T comparable](t *testing.T, l *line.Line[T], v T, due int64) {
	t.Helper()
	if !l.Put(v, due) {
		t.Errorf("P6.1: no room for %v", v)
	}
}

// wantDue holds Due(now) against what it should be, and Len against what should be left.
func wantDue[T comparable](t *testing.T, l *line.Line[T], now int64, left int, want ...T) {
	t.Helper()
	if got := l.Due(now); !slices.Equal(got, want) || l.Len() != left {
		t.Errorf("P6.1: Due(%d) = %v, and %d are left, not %v and %d", now, got, l.Len(), want, left)
	}
}

func wantNext[T comparable](t *testing.T, l *line.Line[T], due int64, is bool) {
	t.Helper()
	if got, ok := l.Next(); got != due || ok != is {
		t.Errorf("P6.1: Next %d, %v, not %d, %v", got, ok, due, is)
	}
}

func TestWhatIsDueAtNowOrAheadOfItComesByItsTime(t *testing.T) {
	l := line.New[string](10)
	put(t, l, "seven", 7)
	put(t, l, "five", 5)
	put(t, l, "below", -3)
	put(t, l, "six", 6)
	put(t, l, "nought", 0)
	wantDue(t, l, -4, 5)
	wantDue(t, l, 4, 3, "below", "nought")
	wantDue(t, l, 6, 1, "five", "six")
	wantDue(t, l, 6, 1)
	wantDue(t, l, 7, 0, "seven")
	wantDue(t, l, 7, 0)
}

func TestTimesAtBothEnds(t *testing.T) {
	l := line.New[string](10)
	put(t, l, "last", high)
	put(t, l, "late", high-1)
	put(t, l, "first", low)
	put(t, l, "early", low+1)
	wantNext(t, l, low, true)
	wantDue(t, l, low, 3, "first")
	wantNext(t, l, low+1, true)
	wantDue(t, l, 0, 2, "early")
	wantDue(t, l, high-1, 1, "late")
	wantNext(t, l, high, true)
	wantDue(t, l, high, 0, "last")
}

func TestOfOneTimeTheEarlierPutComesFirst(t *testing.T) {
	l := line.New[int](100)
	var want []int
	for v := range 100 {
		put(t, l, 99-v, 7)
		want = append(want, 99-v)
	}
	wantDue(t, l, 6, 100)
	wantDue(t, l, 7, 0, want...)
}

func TestOneThatIsThereIsDueThenFromNowOn(t *testing.T) {
	l := line.New[string](3)
	for _, v := range []string{"a", "b", "c"} {
		put(t, l, v, 5)
	}
	put(t, l, "a", 9)
	wantNext(t, l, 5, true)
	put(t, l, "b", 2)
	wantNext(t, l, 2, true)
	wantDue(t, l, 5, 1, "b", "c")
	wantDue(t, l, 9, 0, "a")
}

func TestAPutAnewComesBehindThoseOfItsTime(t *testing.T) {
	l := line.New[string](3)
	for _, v := range []string{"a", "b", "c"} {
		put(t, l, v, 1)
	}
	put(t, l, "a", 1) // the same time once more
	put(t, l, "b", 2)
	put(t, l, "b", 1) // away and back
	wantDue(t, l, 1, 0, "c", "a", "b")
	put(t, l, "a", 1)
	put(t, l, "b", 1)
	if !l.Drop("a") {
		t.Error("P6.1: Drop of one that is there")
	}
	put(t, l, "a", 1)
	wantDue(t, l, 1, 0, "b", "a")
}

func TestAFullLineTakesNoOtherAndStays(t *testing.T) {
	l := line.New[string](2)
	put(t, l, "x", 5)
	put(t, l, "y", 6)
	if l.Put("z", 1) || l.Put("", low) || l.Len() != 2 {
		t.Error("P6.1: room for a third of two")
	}
	if l.Drop("z") || l.Drop("") {
		t.Error("P6.1: what found no room is there")
	}
	wantNext(t, l, 5, true)
	put(t, l, "x", 7) // one that is there needs no room
	wantDue(t, l, 6, 1, "y")
	put(t, l, "z", 7)
	if l.Put("y", 7) {
		t.Error("P6.1: room for a third of two")
	}
	if !l.Drop("x") || !l.Put("y", 7) || l.Put("x", 7) {
		t.Error("P6.1: room that was left is not given again")
	}
	wantDue(t, l, 7, 0, "z", "y")
}

func TestRoomIsFromNoughtToAThousand(t *testing.T) {
	for _, x := range []struct{ room, want int }{
		{math.MinInt, 0}, {-1000, 0}, {-1, 0}, {0, 0}, {1, 1}, {2, 2}, {999, 999},
		{1000, 1000}, {1001, 1000}, {1 << 32, 1000}, {math.MaxInt, 1000},
	} {
		l := line.New[int](x.room)
		n := 0
		for n <= 1000 && l.Put(n, int64(-n)) {
			n++
		}
		if n != x.want || l.Len() != x.want {
			t.Errorf("P6.1: New(%d) has room for %d, not %d", x.room, n, x.want)
		}
		got := l.Due(0)
		if len(got) != n || !slices.IsSortedFunc(got, func(v, w int) int { return w - v }) {
			t.Errorf("P6.1: New(%d): %d are due, or out of order", x.room, len(got))
		}
	}
}

func TestDropFromAnyPlaceKeepsTheOrder(t *testing.T) {
	const n = 40
	for seed := range int64(10) {
		values := rand.New(rand.NewSource(seed)).Perm(n)
		for gone := range n {
			l := line.New[int](n)
			for _, v := range values {
				put(t, l, v, int64(v))
			}
			if !l.Drop(gone) || l.Drop(gone) || l.Len() != n-1 {
				t.Fatalf("P6.1: Drop(%d)", gone)
			}
			got := l.Due(n)
			if len(got) != n-1 || !slices.IsSorted(got) || slices.Contains(got, gone) {
				t.Fatalf("P6.1: without %d: %v", gone, got)
			}
		}
	}
}

func TestWhereThereIsNoneTheAnswerIsZero(t *testing.T) {
	l := line.New[int](3)
	wantNext(t, l, 0, false)
	wantDue(t, l, high, 0)
	put(t, l, 4, 5)
	if l.Drop(3) || l.Drop(0) || !l.Drop(4) || l.Drop(4) {
		t.Error("P6.1: Drop")
	}
	wantNext(t, l, 0, false)
	put(t, l, 4, 5)
	wantDue(t, l, 5, 0, 4)
	wantNext(t, l, 0, false)
	if l.Drop(4) {
		t.Error("P6.1: what was due is there still")
	}
}

func TestANilLineHasNothingAndNoRoom(t *testing.T) {
	for _, l := range []*line.Line[string]{nil, {}, new(line.Line[string])} {
		if l.Put("x", 1) || l.Drop("x") || l.Drop("") || l.Len() != 0 {
			t.Error("P6.1: Put, Drop or Len of none")
		}
		if got := l.Due(high); len(got) != 0 {
			t.Errorf("P6.1: Due %q", got)
		}
		wantNext(t, l, 0, false)
	}
	var none *line.Line[string]
	if none.Due(high) != nil {
		t.Error("P6.1: Due of a nil line is not nil")
	}
}

// A NaN is unlike itself: none is ever there, but each that was Put is due.
func TestWhatIsUnlikeItselfIsDue(t *testing.T) {
	nan := math.NaN()
	l := line.New[float64](3)
	put(t, l, nan, 2)
	put(t, l, 1, 3)
	put(t, l, nan, 1)
	if l.Put(nan, 0) || l.Drop(nan) || l.Len() != 3 {
		t.Error("P6.1: a NaN is there")
	}
	wantNext(t, l, 1, true)
	wantDue(t, l, 0, 3)
	if got := l.Due(1); len(got) != 1 || !math.IsNaN(got[0]) {
		t.Errorf("P6.1: Due(1) = %v", got)
	}
	wantNext(t, l, 2, true)
	if got := l.Due(3); len(got) != 2 || !math.IsNaN(got[0]) || got[1] != 1 {
		t.Errorf("P6.1: Due(3) = %v", got)
	}
	wantNext(t, l, 0, false)
	for range 3 {
		put(t, l, nan, 1)
	}
	if l.Len() != 3 || len(l.Due(1)) != 3 {
		t.Error("P6.1: three of them")
	}
}

// An interface may hold what can't be compared: it is like nothing.
func TestWhatCannotBeComparedDoesNotPanic(t *testing.T) {
	l := line.New[any](4)
	put[any](t, l, []int{3}, 3)
	put[any](t, l, []int{1}, 1)
	put[any](t, l, func() {}, 4)
	put[any](t, l, 7, 2)
	if l.Put([]int{1}, 0) || l.Drop([]int{1}) || l.Drop(func() {}) || l.Drop(nil) || l.Len() != 4 {
		t.Error("P0.1: what can't be compared is there")
	}
	wantNext(t, l, 1, true)
	put[any](t, l, 7, 0) // it stands among them and is found
	wantNext(t, l, 0, true)
	got := l.Due(3)
	if len(got) != 3 || got[0] != 7 || got[1].([]int)[0] != 1 || got[2].([]int)[0] != 3 {
		t.Errorf("P0.1: Due(3) = %v", got)
	}
	wantNext(t, l, 4, true)
	if len(l.Due(4)) != 1 || l.Len() != 0 {
		t.Error("P0.1: Due(4)")
	}
}

func TestLinesOfOtherTypes(t *testing.T) {
	type pair struct {
		s string
		n [2]int
	}
	l := line.New[pair](2)
	put(t, l, pair{"x", [2]int{1, 2}}, 1)
	put(t, l, pair{"x", [2]int{1, 3}}, 2)
	put(t, l, pair{"x", [2]int{1, 2}}, 3)
	wantDue(t, l, 3, 0, pair{"x", [2]int{1, 3}}, pair{"x", [2]int{1, 2}})

	e := line.New[struct{}](5)
	put(t, e, struct{}{}, 1)
	put(t, e, struct{}{}, 2)
	wantNext(t, e, 2, true)
	wantDue(t, e, 2, 0, struct{}{})
	put(t, e, struct{}{}, 1)
	if !e.Drop(struct{}{}) || e.Len() != 0 {
		t.Error("P6.1: Drop of an empty struct")
	}

	p := line.New[*int](2)
	a, b := new(int), new(int)
	put(t, p, a, 1)
	put(t, p, b, 1)
	put(t, p, a, 1)
	wantDue(t, p, 1, 0, b, a)
	put(t, p, nil, 1)
	wantDue(t, p, 1, 0, nil)

	big := line.New[[1 << 17]byte](1)
	put(t, big, [1 << 17]byte{1}, 1)
	if big.Put([1 << 17]byte{2}, 1) || !big.Drop([1 << 17]byte{1}) {
		t.Error("P6.1: a great thing")
	}
}

func TestLinesHaveNothingInCommon(t *testing.T) {
	k, l := line.New[int](2), line.New[int](2)
	put(t, k, 1, 1)
	if l.Len() != 0 || l.Drop(1) || len(l.Due(high)) != 0 {
		t.Error("P0.5: another line has it, too")
	}
	put(t, l, 2, 0)
	wantNext(t, k, 1, true)
}

func TestAnAnswerIsNewMemory(t *testing.T) {
	l := line.New[int](8)
	for v := range 8 {
		put(t, l, v, int64(v))
	}
	first := l.Due(2)
	for i := range first[:cap(first)] {
		first[:cap(first)][i] = -1
	}
	second := l.Due(5)
	if !slices.Equal(second, []int{3, 4, 5}) {
		t.Errorf("P0.3: Due %v, where an earlier answer was written over", second)
	}
	for i := range second[:cap(second)] {
		second[:cap(second)][i] = -2
	}
	if !slices.Equal(first, []int{-1, -1, -1}) {
		t.Errorf("P0.3: the earlier answer is %v", first)
	}
	wantDue(t, l, 9, 0, 6, 7)
}

func TestWhatHasGoneIsNotKept(t *testing.T) {
	l := line.New[*[64]int](8)
	var things []weak.Pointer[[64]int]
	for k := range 8 {
		p := new([64]int)
		things = append(things, weak.Make(p))
		put(t, l, p, int64(k))
	}
	l.Due(0)
	l.Drop(things[3].Value())
	l.Drop(things[7].Value())
	runtime.GC()
	for k, p := range things {
		gone := k == 0 || k == 3 || k == 7
		if (p.Value() == nil) != gone {
			t.Errorf("P6.1: %d: gone %v", k, p.Value() == nil)
		}
	}
	runtime.KeepAlive(l)
}

// walk does many things to a line and to the model, and holds all their answers against each other.
func walk(t *testing.T, seed int64, room, values int, times []int64) {
	dice := rand.New(rand.NewSource(seed))
	l, m := line.New[int](room), &model{room: room}
	for i := range 3000 {
		v, due := dice.Intn(values), times[dice.Intn(len(times))]
		switch dice.Intn(40) {
		case 0, 1, 2, 3, 4, 5:
			if got, want := l.Drop(v), m.drop(v); got != want {
				t.Fatalf("P6.1: %d: Drop(%d) = %v", i, v, got)
			}
		case 6:
			got, want := l.Due(due), m.due(due)
			if !slices.Equal(got, want) {
				t.Fatalf("P6.1: %d: Due(%d) = %v, not %v", i, due, got, want)
			}
		default:
			if got, want := l.Put(v, due), m.put(v, due); got != want {
				t.Fatalf("P6.1: %d: Put(%d, %d) = %v", i, v, due, got)
			}
		}
		next, ok := l.Next()
		if want, has := m.next(); next != want || ok != has || l.Len() != len(m.things) {
			t.Fatalf("P6.1: %d: Next = %d, %v, not %d, %v", i, next, ok, want, has)
		}
	}
	if got, want := l.Due(high), m.due(high); !slices.Equal(got, want) || l.Len() != 0 {
		t.Fatalf("P6.1: at last %v, not %v", got, want)
	}
}

func TestLongWalksAgainstTheModel(t *testing.T) {
	for seed := range int64(10) {
		walk(t, seed, 0, 3, []int64{0, 1})
		walk(t, seed, 1, 3, []int64{0, 1})
		walk(t, seed, 12, 20, []int64{low, -1, 0, 1, high})
		walk(t, seed, 60, 70, []int64{3})
		walk(t, seed, 100, 130, []int64{low, low + 1, -5, -4, 0, 9, 10, 11, high - 1, high})
	}
}
