package seat_test

import (
	"math"
	"math/rand"
	"runtime"
	"slices"
	"testing"
	"weak"

	"hortator/seat"
)

// fill adds what has to get the numbers from first on.
func fill[T any](t *testing.T, s *seat.Seats[T], first int, l ...T) {
	t.Helper()
	for i, v := range l {
		if id := s.Add(v); id != first+i {
			t.Fatalf("P4.1: Add(%v) = %d, not %d", v, id, first+i)
		}
	}
}

// holds says where s does not have just what m has.
func holds[T comparable](t *testing.T, s *seat.Seats[T], m map[int]T) {
	t.Helper()
	var ids []int
	for id := range 102 {
		v, ok := s.Get(id)
		want, there := m[id]
		if v != want || ok != there {
			t.Fatalf("P4.1: Get(%d) = %v, %v, not %v, %v", id, v, ok, want, there)
		}
		if there {
			ids = append(ids, id)
		}
	}
	if got := s.Ids(); !slices.Equal(got, ids) {
		t.Fatalf("P4.1: Ids %v, not %v", got, ids)
	}
}

// out are numbers that no seat has.
func out() []int {
	return []int{math.MinInt, math.MinInt + 1, -1 << 32, -101, -100, -2, -1, 0, 101, 102, 1<<32 + 1, math.MaxInt - 1, math.MaxInt}
}

// refuses says where one of the numbers is taken as one that is there.
func refuses[T comparable](t *testing.T, s *seat.Seats[T], v T, ids ...int) {
	t.Helper()
	for _, id := range ids {
		if got, ok := s.Get(id); got != *new(T) || ok {
			t.Fatalf("P4.1: Get(%d) = %v, %v", id, got, ok)
		}
		if s.Set(id, v) {
			t.Fatalf("P4.1: Set(%d) where there is none", id)
		}
		if s.Drop(id) {
			t.Fatalf("P4.1: Drop(%d) where there is none", id)
		}
	}
}

func TestTheLeastFreeNumberIsTaken(t *testing.T) {
	s := seat.New[string](5)
	holds(t, s, nil)
	fill(t, s, 1, "a", "b", "", "a", "e")
	holds(t, s, map[int]string{1: "a", 2: "b", 3: "", 4: "a", 5: "e"})
	for _, id := range []int{4, 2, 5} {
		if !s.Drop(id) {
			t.Errorf("P4.1: Drop(%d) of one that is there", id)
		}
	}
	holds(t, s, map[int]string{1: "a", 3: ""})
	fill(t, s, 2, "x")
	fill(t, s, 4, "y", "z")
	holds(t, s, map[int]string{1: "a", 2: "x", 3: "", 4: "y", 5: "z"})
}

func TestAFreeNumberBelowComesAheadOfOneThatWasNeverTaken(t *testing.T) {
	for gone := 1; gone <= 3; gone++ {
		s := seat.New[int](10)
		fill(t, s, 1, 10, 20, 30)
		s.Drop(gone)
		fill(t, s, gone, 40)
		fill(t, s, 4, 50)
	}
}

func TestWhereAllAreTakenNoneIsAdded(t *testing.T) {
	s := seat.New[int](3)
	fill(t, s, 1, 7, 8, 9)
	for range 3 {
		if id := s.Add(5); id != 0 {
			t.Errorf("P4.1: Add = %d where none is free", id)
		}
		holds(t, s, map[int]int{1: 7, 2: 8, 3: 9})
	}
	s.Drop(2)
	fill(t, s, 2, 5)
	if id := s.Add(6); id != 0 {
		t.Errorf("P4.1: Add = %d where none is free", id)
	}
	holds(t, s, map[int]int{1: 7, 2: 5, 3: 9})
}

func TestSetLaysAnotherOnATakenSeatAlone(t *testing.T) {
	s := seat.New[int](4)
	fill(t, s, 1, 7, 8, 9)
	if !s.Set(2, 20) || !s.Set(3, 0) || !s.Set(3, 0) {
		t.Error("P4.1: Set of one that is there")
	}
	holds(t, s, map[int]int{1: 7, 2: 20, 3: 0})
	refuses(t, s, 1, 4, 5)
	refuses(t, s, 1, out()...)
	s.Drop(1)
	refuses(t, s, 1, 1)
	holds(t, s, map[int]int{2: 20, 3: 0})
	fill(t, s, 1, 0)
	holds(t, s, map[int]int{1: 0, 2: 20, 3: 0})
}

func TestRoomIsFromNoughtToAHundred(t *testing.T) {
	for _, x := range []struct{ room, want int }{
		{math.MinInt, 0}, {-100, 0}, {-1, 0}, {0, 0}, {1, 1}, {2, 2}, {99, 99},
		{100, 100}, {101, 100}, {1 << 32, 100}, {math.MaxInt, 100},
	} {
		s := seat.New[int](x.room)
		m := map[int]int{}
		for range 102 {
			id := s.Add(1000 + len(m))
			if id == 0 {
				break
			}
			m[id] = 1000 + len(m)
		}
		if len(m) != x.want {
			t.Errorf("P4.1: New(%d) has %d seats, not %d", x.room, len(m), x.want)
		}
		holds(t, s, m)
		refuses(t, s, 1, x.want+1)
		refuses(t, s, 1, out()...)
		holds(t, s, m)
	}
}

func TestNilSeatsHaveNothingAndNoRoom(t *testing.T) {
	for _, s := range []*seat.Seats[string]{nil, {}, new(seat.Seats[string])} {
		if id := s.Add("x"); id != 0 {
			t.Errorf("P4.1: Add to none: %d", id)
		}
		for id := range 102 {
			refuses(t, s, "x", id)
		}
		refuses(t, s, "x", out()...)
		if l := s.Ids(); len(l) != 0 {
			t.Errorf("P4.1: Ids %v", l)
		}
	}
	var none *seat.Seats[string]
	if l := none.Ids(); l != nil {
		t.Errorf("P4.1: Ids of nil: %v", l)
	}
}

func TestIdsIsNewMemoryEachTime(t *testing.T) {
	s := seat.New[int](5)
	fill(t, s, 1, 7, 8, 9)
	first, second := s.Ids(), s.Ids()
	whole := first[:cap(first)]
	for i := range whole {
		whole[i] = -1
	}
	if !slices.Equal(second, []int{1, 2, 3}) {
		t.Errorf("P0.3: another answer has become %v", second)
	}
	fill(t, s, 4, 10)
	holds(t, s, map[int]int{1: 7, 2: 8, 3: 9, 4: 10})
	if !slices.Equal(second, []int{1, 2, 3}) {
		t.Errorf("P0.3: an answer has become %v", second)
	}
}

func TestSeatsOfOtherTypes(t *testing.T) {
	e := seat.New[struct{}](2)
	fill(t, e, 1, struct{}{}, struct{}{})
	if e.Add(struct{}{}) != 0 || !e.Drop(1) || e.Drop(1) || !slices.Equal(e.Ids(), []int{2}) {
		t.Error("P4.1: of things without size")
	}
	l := seat.New[[]int](2)
	fill(t, l, 1, nil, []int{1, 2})
	if v, ok := l.Get(1); v != nil || !ok {
		t.Errorf("P4.1: Get %v, %v", v, ok)
	}
	if v, ok := l.Get(2); !slices.Equal(v, []int{1, 2}) || !ok {
		t.Errorf("P4.1: Get %v, %v", v, ok)
	}
	f := seat.New[func() int](1)
	fill(t, f, 1, func() int { return 7 })
	if v, ok := f.Get(1); !ok || v() != 7 {
		t.Error("P4.1: of functions")
	}
	a := seat.New[any](3)
	fill[any](t, a, 1, map[int]int{1: 2}, nil, math.NaN())
	if v, ok := a.Get(2); v != nil || !ok {
		t.Errorf("P4.1: Get %v, %v", v, ok)
	}
	if v, ok := a.Get(3); v == v || !ok {
		t.Errorf("P4.1: Get %v, %v", v, ok)
	}
}

func TestSeatsHaveNothingInCommon(t *testing.T) {
	r, s := seat.New[int](2), seat.New[int](2)
	fill(t, r, 1, 1)
	holds(t, s, nil)
	fill(t, s, 1, 2, 3)
	holds(t, r, map[int]int{1: 1})
}

func TestWhatHasGoneIsNotKept(t *testing.T) {
	s := seat.New[*[64]int](8)
	var l []weak.Pointer[[64]int]
	for k := range 8 {
		p := new([64]int)
		l = append(l, weak.Make(p))
		fill(t, s, k+1, p)
	}
	s.Drop(1)
	s.Drop(8)
	s.Set(4, nil)
	runtime.GC()
	for k, p := range l {
		if (p.Value() == nil) != (k == 0 || k == 3 || k == 7) {
			t.Errorf("P4.1: seat %d: gone %v", k+1, p.Value() == nil)
		}
	}
	runtime.KeepAlive(s)
}

// least answers the least number that is free, or 0.
func least(m map[int]int, room int) int {
	for id := 1; id <= room; id++ {
		if _, there := m[id]; !there {
			return id
		}
	}
	return 0
}

// walk does many things to seats and to a plain map, and holds them against each other. Of nine throws so many are Adds.
func walk(t *testing.T, dice *rand.Rand, room, adds int) {
	s := seat.New[int](room)
	m := map[int]int{}
	for i := range 300 {
		id := dice.Intn(room+4) - 1
		_, there := m[id]
		switch throw := dice.Intn(9); {
		case throw < adds:
			want := least(m, room)
			if got := s.Add(i); got != want {
				t.Fatalf("P4.1: %d: Add = %d, not %d", i, got, want)
			}
			if want != 0 {
				m[want] = i
			}
		case throw == 8:
			if s.Set(id, -i) != there {
				t.Fatalf("P4.1: %d: Set(%d) = %v", i, id, !there)
			}
			if there {
				m[id] = -i
			}
		default:
			if s.Drop(id) != there {
				t.Fatalf("P4.1: %d: Drop(%d) = %v", i, id, !there)
			}
			delete(m, id)
		}
		holds(t, s, m)
	}
}

func TestLongWalksAgainstAPlainMap(t *testing.T) {
	for seed := range int64(10) {
		dice := rand.New(rand.NewSource(seed))
		for _, room := range []int{0, 1, 2, 3, 5, 8, 60, 100} {
			walk(t, dice, room, 3)
			walk(t, dice, room, 5)
			walk(t, dice, room, 7)
		}
	}
}
