package tests

import (
	"math"
	"slices"
	"testing"

	"loop.example/g00403/impl"
)

// strange are numbers at the bounds that the document names, beside them, and
// at the ends of what a number can be.
var strange = []int64{math.MinInt64, math.MinInt64 + 1, -1 << 32, lowest - 1, lowest, -1, 0, 1, 4096, 4097, 1 << 32, math.MaxInt64 - 1, math.MaxInt64}

func strangePoint(n *numbers) impl.Point {
	pick := func() int64 { return strange[n.next(0, int64(len(strange)-1))] }
	return at(pick(), pick())
}

func strangeList(n *numbers) []impl.Point {
	count := []int{0, 1, 2, 3, 4, 39, 40, 41, 60}[n.next(0, 8)]
	list := n.points(count, lowest, highest)
	if count > 0 && n.next(0, 2) > 0 {
		list[n.next(0, int64(count-1))] = strangePoint(n)
	}
	return list
}

// pointAnswers is what the layer of points answers of the same arguments.
type pointAnswers struct {
	fault           int64
	cross, distance impl.IntResult
	near, inside    bool
	box             impl.BoxResult
	meet            bool
}

func askPoints(a, b, c impl.Point, r int64, list []impl.Point) pointAnswers {
	return pointAnswers{
		fault:    impl.PointFault(a),
		cross:    impl.CrossOf(a, b, c),
		distance: impl.DistanceOf(a, b),
		near:     impl.IsNear(a, b, c, r),
		inside:   impl.IsInside(a, list),
		box:      impl.BoxOf(list),
		meet:     impl.DoMeet(impl.Box{Low: a, High: b}, impl.Box{Low: b, High: c}),
	}
}

// P1: an answer at every argument, and nothing of a list changed, not even
// what stands behind its end.
func TestPromise1AnswersAndChangesNothing(t *testing.T) {
	n := numbers(3)
	for range 20000 {
		list := append(strangeList(&n), n.points(2, 0, 9)...)
		before := slices.Clone(list)
		given := list[:len(list)-2]
		a, b, c := strangePoint(&n), strangePoint(&n), strangePoint(&n)
		got := askPoints(a, b, c, strange[n.next(0, int64(len(strange)-1))], given)
		if !slices.Equal(list, before) {
			t.Fatalf("%v became %v", before, list)
		}
		if got.cross.Code != impl.OK && got.cross.Value != 0 || got.distance.Code != impl.OK && got.distance.Value != 0 || got.box.Code != impl.OK && got.box.Box != (impl.Box{}) {
			t.Fatalf("beside a code: %v", got)
		}
		wrong := impl.PointFault(a) != impl.OK || impl.PointFault(b) != impl.OK || impl.PointFault(c) != impl.OK
		if wrong != (got.cross.Code == impl.ErrRange) || wrong && got.near {
			t.Fatalf("%v %v %v: %v", a, b, c, got)
		}
	}
}

// P1: the same arguments have the same answers, whatever was asked ahead, and
// in whatever memory they stand.
func TestPromise1HangsOnArgumentsAlone(t *testing.T) {
	type call struct {
		a, b, c impl.Point
		r       int64
		list    []impl.Point
	}
	n := numbers(4)
	var calls []call
	var first []pointAnswers
	for i := range 2000 {
		k := call{n.point(lowest, highest), n.point(lowest, highest), n.point(lowest, highest), n.next(0, 4096), n.points(int(n.next(0, 41)), lowest, highest)}
		if i%3 == 0 {
			k = call{strangePoint(&n), strangePoint(&n), strangePoint(&n), strange[n.next(0, int64(len(strange)-1))], strangeList(&n)}
		}
		calls = append(calls, k)
		first = append(first, askPoints(k.a, k.b, k.c, k.r, k.list))
	}
	for i, k := range slices.Backward(calls) {
		if got := askPoints(k.a, k.b, k.c, k.r, slices.Clone(k.list)); got != first[i] {
			t.Fatalf("%v: %v, then %v", k, first[i], got)
		}
	}
	if askPoints(at(1, 1), at(1, 1), at(1, 1), 1, nil) != askPoints(at(1, 1), at(1, 1), at(1, 1), 1, []impl.Point{}) {
		t.Error("an empty list is not nil")
	}
}

// bounds are ranges for points: so small that points are often alike or on a
// line, and the greatest.
var bounds = [][2]int64{{-2, 2}, {-9, 9}, {lowest, highest}}

// P2: an area by its corners in turn, and the other way round.
func TestPromise2Areas(t *testing.T) {
	n := numbers(5)
	for i := range 9000 {
		span := bounds[i%len(bounds)]
		a, b, c := n.point(span[0], span[1]), n.point(span[0], span[1]), n.point(span[0], span[1])
		area := impl.CrossOf(a, b, c)
		if area.Code != impl.OK || impl.CrossOf(b, c, a) != area || impl.CrossOf(c, a, b) != area {
			t.Fatalf("%v %v %v in turn: %v", a, b, c, area)
		}
		back := impl.IntResult{Value: -area.Value}
		if impl.CrossOf(a, c, b) != back || impl.CrossOf(c, b, a) != back || impl.CrossOf(b, a, c) != back {
			t.Fatalf("%v %v %v the other way round: %v", a, b, c, area)
		}
	}
}

// P2: a distance both ways; near the ends, both ways, and of what is farther.
func TestPromise2DistancesAndSegments(t *testing.T) {
	n := numbers(6)
	for i := range 9000 {
		span := bounds[i%len(bounds)]
		p, a, b := n.point(span[0], span[1]), n.point(span[0], span[1]), n.point(span[0], span[1])
		far := impl.DistanceOf(a, b)
		if far.Code != impl.OK || far != impl.DistanceOf(b, a) || (far.Value == 0) != (a == b) || far.Value < 0 {
			t.Fatalf("%v %v: %v", a, b, far)
		}
		near := false
		for _, r := range []int64{0, 1, 2, 3, n.next(4, 10), n.next(11, 1000), n.next(1001, 4095), 4096} {
			if !impl.IsNear(a, a, b, r) || !impl.IsNear(b, a, b, r) {
				t.Fatalf("an end of %v %v, r %d", a, b, r)
			}
			now := impl.IsNear(p, a, b, r)
			if now != impl.IsNear(p, b, a, r) || near && !now {
				t.Fatalf("%v of %v %v, r %d: %v", p, a, b, r, now)
			}
			near = now
		}
	}
}

// P2: what is inside is in the box, from whichever point and either way.
func TestPromise2Rings(t *testing.T) {
	n := numbers(7)
	for i := range 3000 {
		span := bounds[i%len(bounds)]
		ring := n.points(int(n.next(3, 12)), span[0], span[1])
		if i%10 == 0 {
			ring = n.points(40, span[0], span[1])
		}
		p := n.point(span[0], span[1])
		inside := impl.IsInside(p, ring)
		box := impl.BoxOf(ring)
		if box.Code != impl.OK || inside && !impl.DoMeet(box.Box, impl.Box{Low: p, High: p}) {
			t.Fatalf("%v of %v: not in %v", p, ring, box)
		}
		back := slices.Clone(ring)
		slices.Reverse(back)
		for k := range ring {
			if impl.IsInside(p, slices.Concat(ring[k:], ring[:k])) != inside || impl.IsInside(p, slices.Concat(back[k:], back[:k])) != inside {
				t.Fatalf("%v of %v from %d on", p, ring, k)
			}
		}
	}
}
