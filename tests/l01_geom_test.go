package tests

import (
	"math"
	"math/big"
	"slices"
	"testing"

	"loop.example/g00403/impl"
)

func TestCodesAreTheNumbersOfTheDocument(t *testing.T) {
	codes := []int64{impl.OK, impl.ErrForm, impl.ErrMany, impl.ErrRange, impl.ErrNone, impl.ErrText, impl.ErrTaken, impl.ErrFull, impl.ErrState}
	for i, code := range codes {
		if code != int64(i) {
			t.Errorf("code %d is %d", i, code)
		}
	}
	if impl.World != 1024 {
		t.Errorf("World is %d", impl.World)
	}
}

func TestPointFault(t *testing.T) {
	for _, x := range []int64{lowest, -1, 0, 1, impl.World, highest} {
		for _, y := range []int64{lowest, -1, 0, 1, impl.World, highest} {
			if code := impl.PointFault(at(x, y)); code != impl.OK {
				t.Errorf("%d,%d: %d", x, y, code)
			}
		}
	}
	for _, p := range faulty() {
		if code := impl.PointFault(p); code != impl.ErrRange {
			t.Errorf("%v: %d", p, code)
		}
	}
}

func TestCrossOf(t *testing.T) {
	cases := []struct {
		a, b, c impl.Point
		want    int64
	}{
		{at(0, 0), at(4, 0), at(4, 3), 12},
		{at(0, 0), at(4, 3), at(4, 0), -12},
		{at(1, 1), at(2, 2), at(3, 3), 0},
		{at(1, 1), at(1, 1), at(3, 9), 0},
		{at(-3, 2), at(5, -1), at(0, 7), 49},
		{at(lowest, lowest), at(highest, lowest), at(highest, highest), 5120 * 5120},
		{at(lowest, highest), at(highest, highest), at(lowest, lowest), -5120 * 5120},
	}
	for _, c := range cases {
		if got := impl.CrossOf(c.a, c.b, c.c); got != (impl.IntResult{Value: c.want}) {
			t.Errorf("%v: %v", c, got)
		}
	}
}

func TestDistanceOf(t *testing.T) {
	cases := []struct {
		a, b impl.Point
		want int64
	}{
		{at(0, 0), at(4, 3), 25},
		{at(7, -7), at(7, -7), 0},
		{at(2, 5), at(-1, 5), 9},
		{at(2, 5), at(2, -1), 36},
		{at(lowest, lowest), at(highest, highest), 2 * 5120 * 5120},
	}
	for _, c := range cases {
		if got := impl.DistanceOf(c.a, c.b); got != (impl.IntResult{Value: c.want}) {
			t.Errorf("%v: %v", c, got)
		}
	}
}

func TestCrossAndDistanceOfFaultyPoints(t *testing.T) {
	good, want := at(3, 4), impl.IntResult{Code: impl.ErrRange}
	for _, p := range faulty() {
		answers := []impl.IntResult{
			impl.CrossOf(p, good, good), impl.CrossOf(good, p, good), impl.CrossOf(good, good, p), impl.CrossOf(p, p, p),
			impl.DistanceOf(p, good), impl.DistanceOf(good, p), impl.DistanceOf(p, p),
		}
		for i, got := range answers {
			if got != want {
				t.Errorf("%v, %d: %v", p, i, got)
			}
		}
	}
}

func TestIsNear(t *testing.T) {
	a, b := at(0, 0), at(4, 0)
	cases := []struct {
		p, a, b impl.Point
		r       int64
		want    bool
	}{
		{at(4, 3), a, b, 3, true},
		{at(4, 3), a, b, 2, false},
		{at(2, -3), a, b, 3, true},
		{at(2, -3), a, b, 2, false},
		// beyond the ends, on the line itself and aside of it
		{at(-2, 0), a, b, 2, true},
		{at(-3, 0), a, b, 2, false},
		{at(6, 0), a, b, 2, true},
		{at(7, 0), a, b, 2, false},
		{at(7, 4), a, b, 5, true},
		{at(7, 4), a, b, 4, false},
		{at(-3, -4), a, b, 5, true},
		{at(-3, -4), a, b, 4, false},
		{at(8, 4), a, b, 5, false},
		// on the segment, at r 0
		{at(3, 0), a, b, 0, true},
		{at(3, 1), a, b, 0, false},
		{at(5, 0), a, b, 0, false},
		{at(-1, 0), a, b, 0, false},
		{at(2, 1), a, at(4, 2), 0, true},
		{at(2, 2), a, at(4, 2), 0, false},
		// slanting: the square of the distance is 16/5 from 4,0 to the way from 0,0 to 4,2
		{at(4, 0), a, at(4, 2), 2, true},
		{at(4, 0), a, at(4, 2), 1, false},
		// an upright one
		{at(3, 2), a, at(0, 4), 3, true},
		{at(3, 2), a, at(0, 4), 2, false},
		{at(3, 8), a, at(0, 4), 5, true},
		{at(3, 9), a, at(0, 4), 5, false},
		// both ends the same point
		{at(3, 4), a, a, 5, true},
		{at(3, 4), a, a, 4, false},
		{at(7, 7), at(7, 7), at(7, 7), 0, true},
		{at(7, 8), at(7, 7), at(7, 7), 0, false},
		// the greatest numbers
		{at(highest, highest), at(lowest, lowest), at(lowest, lowest), 4096, false},
		{at(highest, 0), at(0, lowest), at(0, highest), 4096, true},
		{at(highest, 0), at(0, lowest), at(0, highest), 4095, false},
		{at(highest, lowest), at(lowest, lowest), at(highest, highest), 3621, true},
		{at(highest, lowest), at(lowest, lowest), at(highest, highest), 3620, false},
	}
	for _, c := range cases {
		if got := impl.IsNear(c.p, c.a, c.b, c.r); got != c.want {
			t.Errorf("%v: %v", c, got)
		}
	}
}

func TestIsNearOfWrongArguments(t *testing.T) {
	good := at(3, 4)
	for _, r := range []int64{0, 1, 4096} {
		if !impl.IsNear(good, good, good, r) {
			t.Errorf("r %d", r)
		}
		for _, p := range faulty() {
			if impl.IsNear(p, good, good, r) || impl.IsNear(good, p, good, r) || impl.IsNear(good, good, p, r) || impl.IsNear(p, p, p, r) {
				t.Errorf("%v, r %d", p, r)
			}
		}
	}
	for _, r := range []int64{-1, 4097, -4096, math.MinInt64, math.MaxInt64, 1 << 32} {
		if impl.IsNear(good, good, good, r) {
			t.Errorf("r %d", r)
		}
	}
}

// nearByFractions finds the nearest point of the segment itself, as fractions
// of any size, and measures to it.
func nearByFractions(p, a, b impl.Point, r int64) bool {
	whole := func(n int64) *big.Rat { return new(big.Rat).SetInt64(n) }
	wx, wy := whole(b.X-a.X), whole(b.Y-a.Y)
	part := new(big.Rat)
	if a != b {
		up := (p.X-a.X)*(b.X-a.X) + (p.Y-a.Y)*(b.Y-a.Y)
		part.SetFrac64(up, (b.X-a.X)*(b.X-a.X)+(b.Y-a.Y)*(b.Y-a.Y))
	}
	if part.Sign() < 0 {
		part.SetInt64(0)
	}
	if part.Cmp(whole(1)) > 0 {
		part.SetInt64(1)
	}
	dx := new(big.Rat).Sub(whole(p.X-a.X), wx.Mul(wx, part))
	dy := new(big.Rat).Sub(whole(p.Y-a.Y), wy.Mul(wy, part))
	sum := new(big.Rat).Add(dx.Mul(dx, dx), dy.Mul(dy, dy))
	return sum.Cmp(whole(r*r)) <= 0
}

func TestIsNearIsExact(t *testing.T) {
	n := numbers(1)
	for i := range 20000 {
		low, high, most := int64(-6), int64(6), int64(8)
		if i%2 == 1 {
			low, high, most = lowest, highest, 4096
		}
		p, a, b, r := n.point(low, high), n.point(low, high), n.point(low, high), n.next(0, most)
		if got, want := impl.IsNear(p, a, b, r), nearByFractions(p, a, b, r); got != want {
			t.Fatalf("%v %v %v %d: %v", p, a, b, r, got)
		}
	}
}

func TestIsInside(t *testing.T) {
	square := []impl.Point{at(0, 0), at(8, 0), at(8, 8), at(0, 8)}
	diamond := []impl.Point{at(0, -4), at(4, 0), at(0, 4), at(-4, 0)}
	// its top has a level side within: from 2,4 to 6,4
	cup := []impl.Point{at(0, 0), at(8, 0), at(8, 8), at(6, 8), at(6, 4), at(2, 4), at(2, 8), at(0, 8)}
	// crosses itself at 4,4
	bow := []impl.Point{at(0, 0), at(8, 8), at(8, 0), at(0, 8)}
	cases := []struct {
		ring []impl.Point
		p    impl.Point
		want bool
	}{
		{square, at(4, 4), true},
		{square, at(9, 4), false},
		{square, at(-1, 4), false},
		{square, at(4, 9), false},
		{square, at(4, -1), false},
		// on its sides and corners: those of the least X and Y alone are inside
		{square, at(0, 4), true},
		{square, at(8, 4), false},
		{square, at(4, 0), true},
		{square, at(4, 8), false},
		{square, at(0, 0), true},
		{square, at(8, 0), false},
		{square, at(8, 8), false},
		{square, at(0, 8), false},
		// at the height of level sides, outside
		{square, at(-1, 0), false},
		{square, at(-1, 8), false},
		{square, at(9, 0), false},
		// at the height of a corner
		{diamond, at(0, 0), true},
		{diamond, at(-4, 0), true},
		{diamond, at(4, 0), false},
		{diamond, at(-5, 0), false},
		{diamond, at(5, 0), false},
		{diamond, at(-1, 4), false},
		{diamond, at(-1, -4), false},
		{diamond, at(0, -4), false},
		{diamond, at(0, 4), false},
		{diamond, at(-2, 2), true},
		{diamond, at(2, 2), false},
		{diamond, at(2, -2), false},
		{diamond, at(-2, -2), true},
		{cup, at(1, 4), true},
		{cup, at(1, 6), true},
		{cup, at(4, 6), false},
		{cup, at(4, 4), false},
		{cup, at(4, 3), true},
		{cup, at(7, 4), true},
		{cup, at(2, 4), false},
		{cup, at(2, 6), false},
		{cup, at(6, 4), true},
		{cup, at(-1, 4), false},
		{bow, at(4, 2), false},
		{bow, at(1, 4), true},
		{bow, at(7, 4), true},
		{bow, at(4, 6), false},
		{bow, at(4, 4), true},
		// no area at all
		{[]impl.Point{at(1, 1), at(1, 1), at(1, 1)}, at(1, 1), false},
		{[]impl.Point{at(0, 0), at(8, 0), at(4, 0)}, at(2, 0), false},
		{[]impl.Point{at(0, 0), at(0, 8), at(0, 4)}, at(0, 4), false},
		{[]impl.Point{at(0, 0), at(0, 8), at(0, 4)}, at(-1, 5), false},
		// the whole world
		{[]impl.Point{at(lowest, lowest), at(highest, lowest), at(highest, highest)}, at(highest-1, lowest), true},
		{[]impl.Point{at(lowest, lowest), at(highest, lowest), at(highest, highest)}, at(lowest, highest), false},
	}
	for _, c := range cases {
		if got := impl.IsInside(c.p, c.ring); got != c.want {
			t.Errorf("%v: %v", c, got)
		}
	}
}

// saw is a ring of count points of which the first two are a level side under
// all others, which go up and down.
func saw(count int) []impl.Point {
	list := []impl.Point{at(0, 0), at(100, 0)}
	for i := len(list); i < count; i++ {
		list = append(list, at(int64(100-2*i), int64(50+i%2)))
	}
	return list
}

func TestIsInsideByTheSizeOfTheRing(t *testing.T) {
	p := at(50, 1)
	for _, count := range []int{3, 4, 39, 40} {
		if !impl.IsInside(p, saw(count)) {
			t.Errorf("%d points", count)
		}
	}
	for _, count := range []int{41, 42, 1000} {
		if impl.IsInside(p, saw(count)) {
			t.Errorf("%d points", count)
		}
	}
	for count := range 3 {
		if impl.IsInside(at(0, 0), saw(3)[:count]) {
			t.Errorf("%d points", count)
		}
	}
	// of two points each way is a side: none of them makes an odd number
	if impl.IsInside(at(0, 1), nil) || impl.IsInside(at(0, 1), []impl.Point{at(1, 0), at(1, 4)}) {
		t.Error("fewer than a ring")
	}
}

func TestIsInsideOfFaultyPoints(t *testing.T) {
	for _, count := range []int{3, 4, 40} {
		for _, p := range faulty() {
			if impl.IsInside(p, saw(count)) {
				t.Errorf("%v", p)
			}
			for place := range count {
				ring := slices.Insert(saw(count-1), place, p)
				if impl.IsInside(at(50, 1), ring) {
					t.Errorf("%v at %d of %d", p, place, count)
				}
			}
		}
	}
	// far out, but such that its sides would be crossed an odd number of times
	if impl.IsInside(at(50, 1), []impl.Point{at(0, 0), at(4097, 0), at(50, 50)}) || impl.IsInside(at(4097, 1), []impl.Point{at(0, 0), at(4096, 0), at(4096, 4)}) {
		t.Error("out of bounds by one")
	}
}

// insideByFractions counts the sides that are met, each by the X at which it
// is met, as a fraction.
func insideByFractions(p impl.Point, ring []impl.Point) bool {
	met := 0
	for i, a := range ring {
		b := ring[(i+1)%len(ring)]
		if (a.Y > p.Y) == (b.Y > p.Y) {
			continue
		}
		x := big.NewRat((p.Y-a.Y)*(b.X-a.X), b.Y-a.Y)
		x.Add(x, new(big.Rat).SetInt64(a.X))
		if x.Cmp(new(big.Rat).SetInt64(p.X)) > 0 {
			met++
		}
	}
	return met%2 == 1
}

func TestIsInsideIsExact(t *testing.T) {
	n := numbers(2)
	for i := range 6000 {
		low, high := int64(-3), int64(3)
		if i%2 == 1 {
			low, high = lowest, highest
		}
		ring := n.points(int(n.next(3, 40)), low, high)
		p := n.point(low, high)
		if got, want := impl.IsInside(p, ring), insideByFractions(p, ring); got != want {
			t.Fatalf("%v %v: %v", p, ring, got)
		}
	}
}

func TestBoxOf(t *testing.T) {
	cases := []struct {
		list []impl.Point
		want impl.Box
	}{
		{[]impl.Point{at(5, -7)}, impl.Box{Low: at(5, -7), High: at(5, -7)}},
		{[]impl.Point{at(5, -7), at(-2, 3)}, impl.Box{Low: at(-2, -7), High: at(5, 3)}},
		{[]impl.Point{at(1, 9), at(4, 4), at(9, 1)}, impl.Box{Low: at(1, 1), High: at(9, 9)}},
		{[]impl.Point{at(-1, -9), at(-4, -4), at(-9, -1)}, impl.Box{Low: at(-9, -9), High: at(-1, -1)}},
		{[]impl.Point{at(lowest, highest), at(highest, lowest)}, impl.Box{Low: at(lowest, lowest), High: at(highest, highest)}},
		{saw(40), impl.Box{Low: at(0, 0), High: at(100, 51)}},
	}
	for _, c := range cases {
		if got := impl.BoxOf(c.list); got != (impl.BoxResult{Box: c.want}) {
			t.Errorf("%v: %v", c, got)
		}
	}
}

func TestBoxOfWrongLists(t *testing.T) {
	for _, list := range [][]impl.Point{nil, {}, saw(3)[:0]} {
		if got := impl.BoxOf(list); got != (impl.BoxResult{Code: impl.ErrNone}) {
			t.Errorf("none: %v", got)
		}
	}
	for _, p := range faulty() {
		for _, count := range []int{1, 2, 40} {
			for place := range count {
				list := slices.Insert(saw(40)[:count-1], place, p)
				if got := impl.BoxOf(list); got != (impl.BoxResult{Code: impl.ErrRange}) {
					t.Errorf("%v at %d of %d: %v", p, place, count, got)
				}
			}
		}
		// that there are too many is asked ahead of what is wrong in them
		if got := impl.BoxOf(append([]impl.Point{p}, saw(40)...)); got != (impl.BoxResult{Code: impl.ErrMany}) {
			t.Errorf("41 with %v: %v", p, got)
		}
	}
	for _, count := range []int{41, 42, 1000} {
		if got := impl.BoxOf(saw(count)); got != (impl.BoxResult{Code: impl.ErrMany}) {
			t.Errorf("%d: %v", count, got)
		}
	}
}

func TestDoMeet(t *testing.T) {
	box := func(x, y, x2, y2 int64) impl.Box { return impl.Box{Low: at(x, y), High: at(x2, y2)} }
	whole := box(math.MinInt64, math.MinInt64, math.MaxInt64, math.MaxInt64)
	cases := []struct {
		a, b impl.Box
		want bool
	}{
		{box(0, 0, 4, 4), box(2, 2, 6, 6), true},
		{box(0, 0, 9, 9), box(3, 3, 4, 4), true},
		{box(0, 3, 9, 4), box(3, 0, 4, 9), true},
		{box(0, 0, 4, 4), box(0, 0, 4, 4), true},
		// that only touch: at a side, at a corner, in one point
		{box(0, 0, 4, 4), box(4, 0, 8, 4), true},
		{box(0, 0, 4, 4), box(0, 4, 4, 8), true},
		{box(0, 0, 4, 4), box(4, 4, 8, 8), true},
		{box(0, 0, 4, 4), box(4, -4, 8, 0), true},
		{box(2, 2, 2, 2), box(2, 2, 2, 2), true},
		// apart in X alone, in Y alone, in both
		{box(0, 0, 4, 4), box(5, 0, 9, 4), false},
		{box(0, 0, 4, 4), box(0, 5, 4, 9), false},
		{box(0, 0, 4, 4), box(5, 5, 9, 9), false},
		{box(0, 0, 4, 4), box(5, -9, 9, -5), false},
		// no fault is asked for: neither Low above High, nor numbers out of bounds
		{box(4, 0, 0, 4), box(0, 0, 4, 4), true},
		{box(4, 0, 0, 4), box(1, 0, 3, 4), false},
		{box(5, 5, 1, 1), box(5, 5, 1, 1), false},
		{whole, box(3, 3, 3, 3), true},
		{whole, whole, true},
		{whole, box(math.MaxInt64, math.MinInt64, math.MaxInt64, math.MinInt64), true},
		{box(math.MinInt64, 0, math.MinInt64, 0), box(math.MaxInt64, 0, math.MaxInt64, 0), false},
		{box(0, math.MaxInt64, 0, math.MaxInt64), box(0, math.MinInt64, 0, math.MinInt64), false},
	}
	for _, c := range cases {
		if got := impl.DoMeet(c.a, c.b); got != c.want {
			t.Errorf("%v: %v", c, got)
		}
		if got := impl.DoMeet(c.b, c.a); got != c.want {
			t.Errorf("%v, the other way round: %v", c, got)
		}
	}
}
