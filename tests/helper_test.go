package tests

import (
	"math"

	"loop.example/g00403/impl"
)

// numbers is a row of numbers that is the same in every run.
type numbers uint64

// next is a number from low to high.
func (n *numbers) next(low, high int64) int64 {
	x := uint64(*n)
	x ^= x << 13
	x ^= x >> 7
	x ^= x << 17
	*n = numbers(x)
	return low + int64(x%uint64(high-low+1))
}

// point is a point with X and Y from low to high.
func (n *numbers) point(low, high int64) impl.Point {
	return impl.Point{X: n.next(low, high), Y: n.next(low, high)}
}

// points are count such points.
func (n *numbers) points(count int, low, high int64) []impl.Point {
	var list []impl.Point
	for range count {
		list = append(list, n.point(low, high))
	}
	return list
}

func at(x, y int64) impl.Point {
	return impl.Point{X: x, Y: y}
}

// lowest and highest are the bounds of X and Y.
const (
	lowest  = -impl.World
	highest = 4 * impl.World
)

// faulty are points out of bounds: by one, and so far that a program which
// reckons ahead of comparing would overflow.
func faulty() []impl.Point {
	var list []impl.Point
	for _, n := range []int64{lowest - 1, highest + 1, math.MinInt64, math.MaxInt64, math.MinInt64 + 1024, 1 << 32, -1 << 62} {
		list = append(list, at(n, 0), at(0, n), at(n, n), at(n, -n))
	}
	return list
}
