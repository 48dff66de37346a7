package tests

import (
	"cmp"
	"math"
	"slices"

	"loop.example/g00895/impl"
)

func strategies() []int64 { return []int64{impl.StInmost, impl.StOutmost, impl.StLast} }

// noStrategies are numbers that are none of the three.
func noStrategies() []int64 {
	return []int64{
		0, 4, 5, 6, 7, -1, -2, -3, 1 << 32, 1<<32 + 1, 1<<32 + 2, 1<<32 + 3, -1<<32 + 1, 1<<8 + 1, 1<<16 + 3,
		math.MaxInt64, math.MaxInt64 - 1, math.MinInt64, math.MinInt64 + 1, math.MinInt64 + 2, math.MinInt64 + 3,
	}
}

// noFuels are numbers that are no fuel.
func noFuels() []int64 {
	return []int64{-1, -2, -60, 61, 62, 120, 1 << 32, 1<<32 + 5, -1<<32 + 5, math.MaxInt64, math.MaxInt64 - 1, math.MinInt64, math.MinInt64 + 5}
}

// redexSpots lists the spots of x with a redex.
func (b book) redexSpots(x tree) []spot {
	moves := b.moves(x)
	var found []spot
	for _, s := range x.spots() {
		isHere := func(m move) bool { return slices.Equal(m.path, s.path) }
		if slices.ContainsFunc(moves, isHere) {
			found = append(found, s)
		}
	}
	return found
}

// free lists those of the spots to which no other one is related as told.
func free(spots []spot, related func(s, other spot) bool) []spot {
	var found []spot
	for _, s := range spots {
		isHolding := func(other spot) bool { return other.at != s.at && related(s, other) }
		if !slices.ContainsFunc(spots, isHolding) {
			found = append(found, s)
		}
	}
	return found
}

// inmostOf lists those of the spots that have no other one inside.
func inmostOf(spots []spot) []spot {
	return free(spots, func(s, other spot) bool { return other.inside(s) })
}

// outmostOf lists those of the spots that are inside no other one.
func outmostOf(spots []spot) []spot { return free(spots, spot.inside) }

// standings lists where the spots stand.
func standings(spots []spot) []int64 {
	var found []int64
	for _, s := range spots {
		found = append(found, s.at)
	}
	return found
}

// choice returns the move from x that a strategy selects, and whether there is
// one. It may be to a tree that is too large.
func (b book) choice(x tree, strategy int64) (move, bool) {
	spots := b.redexSpots(x)
	if len(spots) == 0 {
		return move{}, false
	}
	var at int64
	switch strategy {
	case impl.StInmost:
		at = slices.Min(standings(inmostOf(spots)))
	case impl.StOutmost:
		at = slices.Min(standings(spots))
	case impl.StLast:
		at = slices.Max(standings(spots))
	}
	isElsewhere := func(m move) bool { return m.at != at }
	byRule := func(m, n move) int { return cmp.Compare(m.rule, n.rule) }
	return slices.MinFunc(slices.DeleteFunc(b.moves(x), isElsewhere), byRule), true
}

// course returns the moves from x that a strategy selects, at most so many and
// none to a tree that is too large, and whether no move is left.
func (b book) course(x tree, strategy, most int64) (trail, bool) {
	r := trail{from: x}
	for {
		m, is := b.choice(r.last(), strategy)
		if !is {
			return r, true
		}
		if int64(len(r.moves)) >= most || m.isLong() {
			return r, false
		}
		r.moves = append(r.moves, m)
	}
}
