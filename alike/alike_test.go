package alike_test

import (
	"math"
	"testing"

	"hortator/alike"
)

func TestSameIsEquality(t *testing.T) {
	type pair struct {
		s string
		v any
	}
	if !alike.Same(3, 3) || alike.Same(3, 4) || !alike.Same("", "") || alike.Same("a", "b") {
		t.Error("numbers or texts")
	}
	if !alike.Same(pair{"a", 1}, pair{"a", 1}) || alike.Same(pair{"a", 1}, pair{"a", "1"}) {
		t.Error("structs")
	}
	if alike.Same(math.NaN(), math.NaN()) || !alike.Same(0, math.Copysign(0, -1)) {
		t.Error("floats")
	}
	if !alike.Same[any](nil, nil) || alike.Same[any](nil, 0) || alike.Same[any](1, int64(1)) {
		t.Error("interfaces")
	}
}

func TestWhatCannotBeComparedIsLikeNothing(t *testing.T) {
	f := func() {}
	l := []int{1}
	if alike.Same[any](f, f) || alike.Same[any](l, l) || alike.Same[any]([1]any{l}, [1]any{l}) {
		t.Error("P0.1: what can't be compared is like itself")
	}
	if alike.Same[any](l, 1) || alike.Same[any](nil, l) {
		t.Error("P0.1: what can't be compared is like another")
	}
}
