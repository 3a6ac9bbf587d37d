package tests

import (
	"math"
	"slices"
	"testing"

	"loop.example/g00355/impl"
)

func newRound(t *testing.T, quanta ...int64) impl.Round {
	t.Helper()
	r, ok := impl.RoundNew(quanta)
	if !ok || !impl.RoundOk(r) {
		t.Fatalf("RoundNew(%v) = %v, %v", quanta, r, ok)
	}
	return r
}

func wait(t *testing.T, r impl.Round, class int64, sizes ...int64) impl.Round {
	t.Helper()
	for _, size := range sizes {
		n, ok := impl.Waits(r, class, size)
		if !ok || !impl.RoundOk(n) {
			t.Fatalf("Waits(%v, %d, %d) = %v, %v", r, class, size, n, ok)
		}
		r = n
	}
	return r
}

func sameRound(a, b impl.Round) bool {
	return slices.Equal(a.Quanta, b.Quanta) && slices.Equal(a.Deficit, b.Deficit) && a.Turn == b.Turn && a.Fresh == b.Fresh &&
		slices.EqualFunc(a.Sizes, b.Sizes, slices.Equal)
}

func isZeroRound(r impl.Round) bool {
	return sameRound(r, impl.Round{})
}

func cloneRound(r impl.Round) impl.Round {
	n := r
	n.Quanta, n.Deficit, n.Sizes = slices.Clone(r.Quanta), slices.Clone(r.Deficit), slices.Clone(r.Sizes)
	for i := range n.Sizes {
		n.Sizes[i] = slices.Clone(n.Sizes[i])
	}
	return n
}

func waiting(r impl.Round) int {
	return len(slices.Concat(r.Sizes...))
}

func manySizes(count int) []int64 {
	sizes := make([]int64, count)
	for i := range sizes {
		sizes[i] = int64(i*i%5) + 1
	}
	return sizes
}

// pickedByWords goes by the document's words, one after the other.
func pickedByWords(r impl.Round) (impl.Round, int64, int64) {
	r = cloneRound(r)
	if waiting(r) == 0 {
		return r, -1, 0
	}
	begin := func() {
		r.Turn++
		if r.Turn == int64(len(r.Quanta)) {
			r.Turn = 0
		}
		r.Fresh = true
	}
	for {
		class := r.Turn
		if len(r.Sizes[class]) == 0 {
			begin()
			continue
		}
		if r.Fresh {
			r.Deficit[class] += r.Quanta[class]
			r.Fresh = false
		}
		size := r.Sizes[class][0]
		if r.Deficit[class] < size {
			begin()
			continue
		}
		r.Sizes[class] = r.Sizes[class][1:]
		r.Deficit[class] -= size
		if len(r.Sizes[class]) == 0 {
			r.Deficit[class] = 0
			begin()
		}
		return r, class, size
	}
}

// rightRoundByWords is of rounds whose lists are of one length.
func rightRoundByWords(r impl.Round) bool {
	if r.Turn < 0 || r.Turn >= int64(len(r.Quanta)) {
		return false
	}
	for class, quantum := range r.Quanta {
		limit := int64(5)
		if int64(class) == r.Turn && !r.Fresh {
			limit = quantum + 5
		}
		deficit := r.Deficit[class]
		if quantum < 1 || quantum > 10 || deficit < 0 || deficit >= limit || len(r.Sizes[class]) == 0 && deficit != 0 {
			return false
		}
		for _, size := range r.Sizes[class] {
			if size < 1 || size > 5 {
				return false
			}
		}
	}
	return true
}

// refusesRound checks the answers that each function has for a round that is not right.
func refusesRound(t *testing.T, r impl.Round) {
	t.Helper()
	if impl.RoundOk(r) {
		t.Errorf("RoundOk(%v)", r)
	}
	for class := int64(-1); class <= 5; class++ {
		refusesWaits(t, r, class, 1)
	}
	if n, class, size := impl.Picked(r); class != -1 || size != 0 || !isZeroRound(n) {
		t.Errorf("Picked(%v) = %v, %d, %d", r, n, class, size)
	}
	for _, n := range []int64{0, 1, 200} {
		refusesPickedAll(t, r, n)
	}
}

func refusesWaits(t *testing.T, r impl.Round, class, size int64) {
	t.Helper()
	if n, ok := impl.Waits(r, class, size); ok || !isZeroRound(n) {
		t.Errorf("Waits(%v, %d, %d) = %v, %v", r, class, size, n, ok)
	}
}

func refusesPickedAll(t *testing.T, r impl.Round, n int64) {
	t.Helper()
	if x, l := impl.PickedAll(r, n); len(l) != 0 || !isZeroRound(x) {
		t.Errorf("PickedAll(%v, %d) = %v, %v", r, n, x, l)
	}
}

// checkPick holds Picked of a right round against the document's words, and answers what it answered.
func checkPick(t *testing.T, r impl.Round) (impl.Round, int64, int64) {
	t.Helper()
	n, class, size := impl.Picked(r)
	want, wantClass, wantSize := pickedByWords(r)
	if !sameRound(n, want) || class != wantClass || size != wantSize {
		t.Fatalf("Picked(%v) = %v, %d, %d, want %v, %d, %d", r, n, class, size, want, wantClass, wantSize)
	}
	if !impl.RoundOk(n) {
		t.Fatalf("Picked(%v) = %v: not right", r, n)
	}
	if (class == -1) != (waiting(r) == 0) {
		t.Fatalf("Picked(%v): class %d", r, class)
	}
	if class >= 0 && (size != r.Sizes[class][0] || !slices.Equal(n.Sizes[class], r.Sizes[class][1:])) {
		t.Fatalf("Picked(%v) = %v, %d, %d: not the first", r, n, class, size)
	}
	return n, class, size
}

func TestRoundNewLimits(t *testing.T) {
	for _, quanta := range [][]int64{{1}, {10}, {2, 4}, {1, 10, 1}, {1, 2, 3, 4}, {10, 10, 10, 10}} {
		r := newRound(t, quanta...)
		want := impl.Round{Quanta: quanta, Deficit: make([]int64, len(quanta)), Fresh: true, Sizes: make([][]int64, len(quanta))}
		if !sameRound(r, want) {
			t.Errorf("RoundNew(%v) = %v", quanta, r)
		}
		if n, class, size := impl.Picked(r); !sameRound(n, r) || class != -1 || size != 0 {
			t.Errorf("Picked(%v) = %v, %d, %d", r, n, class, size)
		}
	}
	for _, quanta := range [][]int64{
		nil, {}, {1, 1, 1, 1, 1}, make([]int64, 100000), {0}, {11}, {-1}, {math.MinInt64}, {math.MaxInt64},
		{0, 1}, {1, 0}, {1, 11}, {1, 1, 1, 0}, {1, 1, 1, 11}, {1, -1, 1}, {256 + 1},
	} {
		if r, ok := impl.RoundNew(quanta); ok || !isZeroRound(r) {
			t.Errorf("RoundNew(%v) = %v, %v", quanta, r, ok)
		}
	}
}

func TestRoundsOfDifferentLists(t *testing.T) {
	one, two := []int64{1}, []int64{1, 1}
	for _, r := range []impl.Round{
		{},
		{Fresh: true},
		{Quanta: one, Deficit: []int64{0}},
		{Quanta: one, Sizes: [][]int64{nil}},
		{Deficit: []int64{0}, Sizes: [][]int64{nil}},
		{Quanta: one, Deficit: []int64{0, 0}, Sizes: [][]int64{nil}},
		{Quanta: one, Deficit: []int64{0}, Sizes: [][]int64{nil, nil}},
		{Quanta: one, Deficit: []int64{0, 0}, Sizes: [][]int64{nil, nil}},
		{Quanta: two, Deficit: []int64{0}, Sizes: [][]int64{nil, nil}},
		{Quanta: two, Deficit: []int64{0, 0}, Sizes: [][]int64{nil}},
		{Quanta: two, Deficit: []int64{0}, Sizes: [][]int64{nil}},
		{Quanta: []int64{1, 1, 1, 1, 1}, Deficit: make([]int64, 5), Sizes: make([][]int64, 5)},
	} {
		refusesRound(t, r)
	}
	for n := 1; n <= 4; n++ {
		r := impl.Round{Quanta: []int64{1, 1, 1, 1}[:n], Deficit: make([]int64, n), Sizes: make([][]int64, n)}
		for r.Turn = 0; r.Turn < int64(n); r.Turn++ {
			if !impl.RoundOk(r) {
				t.Errorf("refused: %v", r)
			}
		}
		for _, turn := range []int64{math.MinInt64, -1, int64(n), 4, math.MaxInt64} {
			r.Turn = turn
			refusesRound(t, r)
		}
	}
}

func TestRoundLimitsOfSizes(t *testing.T) {
	for class := range 3 {
		with := func(sizes []int64) impl.Round {
			r := impl.Round{Quanta: []int64{3, 4, 5}, Deficit: make([]int64, 3), Sizes: [][]int64{{1, 5}, {5, 1}, {2}}, Turn: 1}
			r.Sizes[class] = sizes
			return r
		}
		for _, sizes := range [][]int64{nil, {}, {1}, {5}, {1, 2, 3, 4, 5}, manySizes(impl.MaxQueue)} {
			if !impl.RoundOk(with(sizes)) {
				t.Errorf("refused: %v", sizes)
			}
		}
		for _, sizes := range [][]int64{
			{0}, {6}, {-1}, {1, 0}, {1, 6}, {0, 1}, {6, 1}, {256 + 1}, {math.MinInt64}, {math.MaxInt64},
			append(manySizes(impl.MaxQueue-1), 0), append(manySizes(impl.MaxQueue-1), 6), manySizes(impl.MaxQueue + 1),
		} {
			refusesRound(t, with(sizes))
		}
	}
}

// TestRoundLimitsOfDeficits: of a class that has not the turn, of one whose turn is fresh, and of one whose turn is not.
func TestRoundLimitsOfDeficits(t *testing.T) {
	with := func(quantum, deficit, turn int64, fresh bool, sizes ...int64) impl.Round {
		return impl.Round{Quanta: []int64{2, quantum}, Deficit: []int64{0, deficit}, Turn: turn, Fresh: fresh, Sizes: [][]int64{{1}, sizes}}
	}
	for quantum := int64(1); quantum <= 10; quantum++ {
		for deficit := int64(-3); deficit <= 20; deficit++ {
			for _, fresh := range []bool{true, false} {
				other, own := with(quantum, deficit, 0, fresh, 5), with(quantum, deficit, 1, fresh, 5)
				if impl.RoundOk(other) != (deficit >= 0 && deficit <= 4) {
					t.Errorf("RoundOk(%v) = %v", other, impl.RoundOk(other))
				}
				if impl.RoundOk(own) != (deficit >= 0 && (deficit <= 4 || !fresh && deficit <= quantum+4)) {
					t.Errorf("RoundOk(%v) = %v", own, impl.RoundOk(own))
				}
				for turn := range int64(2) {
					if none := with(quantum, deficit, turn, fresh); impl.RoundOk(none) != (deficit == 0) {
						t.Errorf("RoundOk(%v) = %v", none, impl.RoundOk(none))
					}
				}
			}
		}
	}
	for _, fresh := range []bool{true, false} {
		for _, n := range []int64{math.MinInt64, -1, 15, math.MaxInt64} {
			refusesRound(t, with(10, n, 1, fresh, 1))
		}
		for _, n := range []int64{math.MinInt64, math.MinInt64 + 5, -1, 0, 11, math.MaxInt64 - 4, math.MaxInt64} {
			refusesRound(t, with(n, 1, 1, fresh, 1))
			refusesRound(t, with(n, 0, 1, fresh))
		}
	}
}

// smallRounds hands each round of two classes that comes of these pieces, right ones and others.
func smallRounds(hand func(impl.Round)) {
	quanta := []int64{0, 1, 3, 10, 11}
	deficits := []int64{-1, 0, 1, 4, 5, 7, 8, 14, 15}
	sizes := [][]int64{nil, {1}, {5}, {2, 5}, {5, 1, 4}, {0}, {1, 6}}
	var states []impl.Round
	for _, q := range quanta {
		for _, d := range deficits {
			for _, s := range sizes {
				states = append(states, impl.Round{Quanta: []int64{q}, Deficit: []int64{d}, Sizes: [][]int64{s}})
			}
		}
	}
	for _, a := range states {
		for _, b := range states {
			r := impl.Round{Quanta: slices.Concat(a.Quanta, b.Quanta), Deficit: slices.Concat(a.Deficit, b.Deficit), Sizes: slices.Concat(a.Sizes, b.Sizes)}
			for r.Turn = -1; r.Turn <= 2; r.Turn++ {
				r.Fresh = !r.Fresh
				hand(r)
				r.Fresh = !r.Fresh
				hand(r)
			}
		}
	}
}

func TestAllSmallRounds(t *testing.T) {
	right := 0
	smallRounds(func(r impl.Round) {
		if impl.RoundOk(r) != rightRoundByWords(r) {
			t.Fatalf("RoundOk(%v) = %v", r, impl.RoundOk(r))
		}
		if impl.RoundOk(r) {
			right++
			checkPick(t, r)
		}
	})
	// Of one class 39 states are right, and 67 when its turn is not fresh any more; either class may have the turn.
	if want := 2*39*39 + 2*67*39; right != want {
		t.Errorf("%d right rounds, want %d", right, want)
	}
}

func TestWaitsBehindAllOfItsClass(t *testing.T) {
	r := impl.Round{Quanta: []int64{1, 2, 3, 4}, Deficit: []int64{0, 4, 6, 0}, Turn: 2, Sizes: [][]int64{nil, {5}, {2, 1}, {4, 4, 4}}}
	for class := range int64(4) {
		for size := int64(1); size <= impl.MaxCells; size++ {
			want := cloneRound(r)
			want.Sizes[class] = append(want.Sizes[class], size)
			if n := wait(t, r, class, size); !sameRound(n, want) {
				t.Errorf("Waits(%v, %d, %d) = %v", r, class, size, n)
			}
		}
		for _, size := range []int64{math.MinInt64, -1, 0, 6, 256 + 1, math.MaxInt64} {
			refusesWaits(t, r, class, size)
		}
	}
	for _, class := range []int64{math.MinInt64, -1, 4, 5, math.MaxInt64} {
		refusesWaits(t, r, class, 1)
	}
	refusesWaits(t, newRound(t, 1, 1), 2, 1)
}

func TestWaitsToTheLimit(t *testing.T) {
	r := wait(t, newRound(t, 2, 4), 1, manySizes(impl.MaxQueue)...)
	if !slices.Equal(r.Sizes[1], manySizes(impl.MaxQueue)) {
		t.Error("not in order")
	}
	refusesWaits(t, r, 1, 1)
	refusesWaits(t, r, 1, 5)
	n := wait(t, r, 0, 3)
	if !slices.Equal(n.Sizes[0], []int64{3}) || len(n.Sizes[1]) != impl.MaxQueue {
		t.Errorf("%v", n)
	}
	// Each class has a limit of its own.
	r.Sizes[0] = manySizes(impl.MaxQueue - 1)
	r = wait(t, r, 0, 2)
	refusesWaits(t, r, 0, 2)
	r.Sizes[0] = nil
	n, class, size := checkPick(t, r)
	if class != 1 || size != 1 {
		t.Errorf("%d, %d", class, size)
	}
	n = wait(t, n, 1, 4)
	refusesWaits(t, n, 1, 4)
}

type pickStep struct {
	class, size int64
	deficit     []int64
	turn        int64
	fresh       bool
}

func checkSteps(t *testing.T, r impl.Round, steps []pickStep) {
	t.Helper()
	for i, s := range steps {
		n, class, size := checkPick(t, r)
		if class != s.class || size != s.size || !slices.Equal(n.Deficit, s.deficit) || n.Turn != s.turn || n.Fresh != s.fresh {
			t.Errorf("step %d: %v, %d, %d, want %v", i, n, class, size, s)
		}
		r = n
	}
}

func TestPickedOverClassesOfWhichNothingWaits(t *testing.T) {
	r := wait(t, newRound(t, 1, 2, 3, 4), 2, 2, 1, 1)
	checkSteps(t, r, []pickStep{
		{2, 2, []int64{0, 0, 1, 0}, 2, false},
		{2, 1, []int64{0, 0, 0, 0}, 2, false},
		{2, 1, []int64{0, 0, 0, 0}, 3, true},
		{-1, 0, []int64{0, 0, 0, 0}, 3, true},
	})
}

func TestPickedWhereNothingOfTheTurnWaits(t *testing.T) {
	r := impl.Round{Quanta: []int64{1, 2, 3}, Deficit: []int64{3, 0, 0}, Turn: 1, Sizes: [][]int64{{4, 1}, nil, nil}}
	checkSteps(t, r, []pickStep{
		{0, 4, []int64{0, 0, 0}, 0, false},
		{0, 1, []int64{0, 0, 0}, 1, true},
		{-1, 0, []int64{0, 0, 0}, 1, true},
	})
}

func TestPickedLastOfItsClass(t *testing.T) {
	r := wait(t, wait(t, newRound(t, 10, 10), 0, 1), 1, 1, 1)
	checkSteps(t, r, []pickStep{
		{0, 1, []int64{0, 0}, 1, true},
		{1, 1, []int64{0, 9}, 1, false},
		{1, 1, []int64{0, 0}, 0, true},
		{-1, 0, []int64{0, 0}, 0, true},
	})
	// What comes to a class later finds nothing saved up.
	n, _, _ := checkPick(t, r)
	checkSteps(t, wait(t, n, 0, 5, 5, 5), []pickStep{
		{1, 1, []int64{0, 9}, 1, false},
		{1, 1, []int64{0, 0}, 0, true},
		{0, 5, []int64{5, 0}, 0, false},
		{0, 5, []int64{0, 0}, 0, false},
		{0, 5, []int64{0, 0}, 1, true},
	})
}

func TestPickedDeficitTooSmallForSeveralTurns(t *testing.T) {
	r := wait(t, wait(t, newRound(t, 1, 1), 0, 5), 1, 1, 1, 1, 1, 1, 1)
	checkSteps(t, r, []pickStep{
		{1, 1, []int64{1, 0}, 1, false},
		{1, 1, []int64{2, 0}, 1, false},
		{1, 1, []int64{3, 0}, 1, false},
		{1, 1, []int64{4, 0}, 1, false},
		{0, 5, []int64{0, 0}, 1, true},
		{1, 1, []int64{0, 0}, 1, false},
		{1, 1, []int64{0, 0}, 0, true},
		{-1, 0, []int64{0, 0}, 0, true},
	})
}

func TestPickedOfOneClass(t *testing.T) {
	r := wait(t, newRound(t, 1), 0, 5, 5, 1)
	checkSteps(t, r, []pickStep{
		{0, 5, []int64{0}, 0, false},
		{0, 5, []int64{0}, 0, false},
		{0, 1, []int64{0}, 0, true},
		{-1, 0, []int64{0}, 0, true},
	})
	r = wait(t, newRound(t, 10), 0, 4, 4, 4, 4)
	checkSteps(t, r, []pickStep{
		{0, 4, []int64{6}, 0, false},
		{0, 4, []int64{2}, 0, false},
		{0, 4, []int64{8}, 0, false},
		{0, 4, []int64{0}, 0, true},
	})
}

func TestPickedBehindTheLastClass(t *testing.T) {
	r := impl.Round{Quanta: []int64{3, 3, 3, 2}, Deficit: []int64{1, 0, 0, 1}, Turn: 3, Sizes: [][]int64{{4, 2}, nil, nil, {2, 1}}}
	checkSteps(t, r, []pickStep{
		{0, 4, []int64{0, 0, 0, 1}, 0, false},
		{3, 2, []int64{0, 0, 0, 1}, 3, false},
		{3, 1, []int64{0, 0, 0, 0}, 0, true},
		{0, 2, []int64{0, 0, 0, 0}, 1, true},
	})
}

// anyRound makes a round by Waits and Picked alone.
func anyRound(t *testing.T, next func(int64) int64) impl.Round {
	t.Helper()
	quanta := make([]int64, next(4)+1)
	for i := range quanta {
		quanta[i] = next(10) + 1
	}
	r := newRound(t, quanta...)
	for range next(60) {
		if next(3) == 0 {
			r, _, _ = checkPick(t, r)
		} else {
			r = wait(t, r, next(int64(len(quanta))), next(5)+1)
		}
	}
	return r
}

func TestAllIsPickedInTheEnd(t *testing.T) {
	for seed := range uint32(300) {
		r := anyRound(t, numbers(seed))
		all := make([][]int64, len(r.Sizes))
		n := r
		for range waiting(r) {
			x, class, size := checkPick(t, n)
			all[class] = append(all[class], size)
			n = x
		}
		if !slices.EqualFunc(all, r.Sizes, slices.Equal) || waiting(n) != 0 || slices.Max(n.Deficit) != 0 {
			t.Fatalf("%v: picked %v, left %v", r, all, n)
		}
	}
}

func TestGreatRoundIsPickedInTheEnd(t *testing.T) {
	r := newRound(t, 1, 10, 3, 7)
	for class := range r.Sizes {
		r.Sizes[class] = manySizes(impl.MaxQueue)
	}
	count := make([]int, 4)
	for n := r; waiting(n) > 0; {
		x, l := impl.PickedAll(n, 200)
		if len(l) != 200 || !impl.RoundOk(x) {
			t.Fatalf("%d picks, RoundOk %v", len(l), impl.RoundOk(x))
		}
		for _, class := range l {
			count[class]++
		}
		n = x
	}
	if !slices.Equal(count, []int{impl.MaxQueue, impl.MaxQueue, impl.MaxQueue, impl.MaxQueue}) {
		t.Errorf("%v", count)
	}
}

func TestPickedAllIsPickedAgainAndAgain(t *testing.T) {
	for seed := range uint32(100) {
		r := anyRound(t, numbers(seed+1000))
		n := r
		var want []int64
		for count := range int64(waiting(r)) + 3 {
			if x, l := impl.PickedAll(r, count); !sameRound(x, n) || !slices.Equal(l, want) {
				t.Fatalf("PickedAll(%v, %d) = %v, %v, want %v, %v", r, count, x, l, n, want)
			}
			checkTwoPieces(t, r, count, want)
			var class int64
			if n, class, _ = impl.Picked(n); class >= 0 {
				want = append(want, class)
			}
		}
	}
}

func checkTwoPieces(t *testing.T, r impl.Round, count int64, want []int64) {
	t.Helper()
	whole, _ := impl.PickedAll(r, count)
	for first := range count + 1 {
		a, l := impl.PickedAll(r, first)
		b, m := impl.PickedAll(a, count-first)
		if !sameRound(b, whole) || !slices.Equal(slices.Concat(l, m), want) {
			t.Fatalf("PickedAll(%v): %d and %d picks: %v, %v, %v", r, first, count-first, b, l, m)
		}
	}
}

func TestPickedAllLimits(t *testing.T) {
	r := newRound(t, 2, 4)
	r.Sizes[0], r.Sizes[1] = manySizes(300), manySizes(300)
	if n, l := impl.PickedAll(r, 0); len(l) != 0 || !sameRound(n, r) {
		t.Errorf("0 picks: %v, %v", n, l)
	}
	n, l := impl.PickedAll(r, 200)
	if len(l) != 200 || waiting(n) != 400 {
		t.Errorf("200 picks: %v, %v", n, l)
	}
	for _, n := range []int64{math.MinInt64, -1, 201, 256 + 1, math.MaxInt64} {
		refusesPickedAll(t, r, n)
		refusesPickedAll(t, newRound(t, 1), n)
	}
	few := wait(t, newRound(t, 2, 4), 1, 5, 5)
	if n, l := impl.PickedAll(few, 200); !slices.Equal(l, []int64{1, 1}) || waiting(n) != 0 || n.Turn != 0 || !n.Fresh {
		t.Errorf("more than wait: %v, %v", n, l)
	}
	if n, l := impl.PickedAll(newRound(t, 3), 200); len(l) != 0 || !sameRound(n, newRound(t, 3)) {
		t.Errorf("of none: %v, %v", n, l)
	}
}

// TestCellsByQuanta: as long as both always have something waiting, what a class got and has saved are whole quanta,
// one for each of its turns, and neither has had two turns more than the other.
func TestCellsByQuanta(t *testing.T) {
	for first := int64(1); first <= 10; first++ {
		for second := int64(1); second <= 10; second++ {
			next := numbers(uint32(10*first + second))
			r := wait(t, wait(t, newRound(t, first, second), 0, 5), 1, 5)
			got := [2]int64{}
			for range 400 {
				for class := range int64(2) {
					for len(r.Sizes[class]) < 2 {
						r = wait(t, r, class, next(5)+1)
					}
				}
				n, class, size := impl.Picked(r)
				got[class] += size
				r = n
				checkShares(t, r, got)
			}
			if got[0] < 20 || got[1] < 20 {
				t.Errorf("quanta %d and %d: cells %v", first, second, got)
			}
		}
	}
}

func checkShares(t *testing.T, r impl.Round, got [2]int64) {
	t.Helper()
	var turns [2]int64
	for class, quantum := range r.Quanta {
		had := got[class] + r.Deficit[class]
		if had%quantum != 0 {
			t.Fatalf("%v: class %d got %d cells", r, class, got[class])
		}
		turns[class] = had / quantum
	}
	if turns[0] < turns[1] || turns[0] > turns[1]+1 {
		t.Fatalf("%v: cells %v, turns %v", r, got, turns)
	}
}

// TestCellsByQuantaOfTheSwitch has numbers that can be told without the round: of quanta 2 and 4 the second gets twice the cells.
func TestCellsByQuantaOfTheSwitch(t *testing.T) {
	r := newRound(t, 2, 4)
	for class, size := range []int64{2, 1} {
		for range 500 {
			r.Sizes[class] = append(r.Sizes[class], size)
		}
	}
	_, l := impl.PickedAll(r, 200)
	for i, class := range l {
		want := int64(1)
		if i%5 == 0 {
			want = 0
		}
		if class != want {
			t.Fatalf("pick %d: class %d of %v", i, class, l)
		}
	}
}
