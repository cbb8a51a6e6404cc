package impl

const OK = 0
const ErrForm = 1
const ErrMany = 2
const ErrRange = 3
const ErrNone = 4
const ErrText = 5
const ErrTaken = 6
const ErrFull = 7
const ErrState = 8
const World = 1024

type Point struct {
	X int64
	Y int64
}
type Box struct {
	Low  Point
	High Point
}
type IntResult struct {
	Code  int64
	Value int64
}
type IntsResult struct {
	Code int64
	List []int64
}
type TextResult struct {
	Code int64
	Text string
}
type BoxResult struct {
	Code int64
	Box  Box
}

// The most points that a ring or a list has, and the greatest distance that
// may be asked for.
const (
	mostPoints  = 40
	greatestGap = 4096
)

// pair is a point to reckon with: X and Y as an array, so that both ways are
// done by one rule, and a point is copied and compared whole.
type pair [2]int64

func pairOf(p Point) pair {
	return pair{p.X, p.Y}
}

func (p pair) point() Point {
	return Point{X: p[0], Y: p[1]}
}

// PointFault tells whether a point is within the bounds in which nothing that
// is reckoned of points overflows.
func PointFault(p Point) int64 {
	for _, n := range pairOf(p) {
		if n < -World || n > 4*World {
			return ErrRange
		}
	}
	return OK
}

// faultIn is the PointFault of the first point that has one.
func faultIn(points ...Point) int64 {
	for _, p := range points {
		if code := PointFault(p); code != OK {
			return code
		}
	}
	return OK
}

// wayOf is how far one goes from a to b, in X and in Y.
func wayOf(a pair, b pair) pair {
	return pair{b[0] - a[0], b[1] - a[1]}
}

func dotOf(a pair, b pair) int64 {
	return a[0]*b[0] + a[1]*b[1]
}

func squareOf(a pair) int64 {
	return dotOf(a, a)
}

// turnOf is above 0 where c is to the left of the way from a to b.
func turnOf(a pair, b pair, c pair) int64 {
	there, aside := wayOf(a, b), wayOf(a, c)
	return there[0]*aside[1] - there[1]*aside[0]
}

// CrossOf tells twice the area of a, b and c, with the sign of the turn.
func CrossOf(a Point, b Point, c Point) IntResult {
	if code := faultIn(a, b, c); code != OK {
		return IntResult{Code: code}
	}
	return IntResult{Value: turnOf(pairOf(a), pairOf(b), pairOf(c))}
}

// DistanceOf tells the square of the distance, which is a whole number where
// the distance is not.
func DistanceOf(a Point, b Point) IntResult {
	if code := faultIn(a, b); code != OK {
		return IntResult{Code: code}
	}
	return IntResult{Value: squareOf(wayOf(pairOf(a), pairOf(b)))}
}

// gapOf is the square of the distance of p and the segment from a to b, as a
// fraction: a root or a quotient would not be exact.
func gapOf(p pair, a pair, b pair) (over int64, under int64) {
	if a == b { // one point: there is no way along which p could lie
		return squareOf(wayOf(a, p)), 1
	}
	there := wayOf(a, b)
	along, whole := dotOf(there, wayOf(a, p)), squareOf(there)
	switch {
	case along <= 0:
		return squareOf(wayOf(a, p)), 1
	case along >= whole:
		return squareOf(wayOf(b, p)), 1
	}
	turn := turnOf(a, b, p)
	return turn * turn, whole
}

// IsNear tells whether p is not farther than r from the segment from a to b.
func IsNear(p Point, a Point, b Point, r int64) bool {
	if r < 0 || r > greatestGap || faultIn(p, a, b) != OK {
		return false
	}
	over, under := gapOf(pairOf(p), pairOf(a), pairOf(b))
	return over <= r*r*under
}

// isCrossed tells whether the way from p to greater X crosses the side from a
// to b. Of a side the lower end counts and the upper one does not, so that a
// corner that two sides share is not counted twice where the ring goes on
// through it, and a level side is never crossed.
func isCrossed(p pair, a pair, b pair) bool {
	low, high := a, b
	if low[1] > high[1] {
		low, high = high, low
	}
	return low[1] <= p[1] && p[1] < high[1] && turnOf(low, high, p) > 0
}

// IsInside tells whether p is inside a ring of points, by the sides that are
// crossed on the way from it to greater X.
func IsInside(p Point, ring []Point) bool {
	if len(ring) < 3 || len(ring) > mostPoints {
		return false
	}
	if PointFault(p) != OK || faultIn(ring...) != OK {
		return false
	}
	inside := false
	from := pairOf(ring[len(ring)-1])
	for _, q := range ring {
		to := pairOf(q)
		if isCrossed(pairOf(p), from, to) {
			inside = !inside
		}
		from = to
	}
	return inside
}

// BoxOf tells the least box that has all points of the list.
func BoxOf(list []Point) BoxResult {
	if len(list) == 0 {
		return BoxResult{Code: ErrNone}
	}
	if len(list) > mostPoints {
		return BoxResult{Code: ErrMany}
	}
	if code := faultIn(list...); code != OK {
		return BoxResult{Code: code}
	}
	low := pairOf(list[0])
	high := low
	for _, p := range list {
		for way, n := range pairOf(p) {
			low[way] = min(low[way], n)
			high[way] = max(high[way], n)
		}
	}
	return BoxResult{Box: Box{Low: low.point(), High: high.point()}}
}

// isUpTo tells whether a is above b neither in X nor in Y.
func isUpTo(a Point, b Point) bool {
	return a.X <= b.X && a.Y <= b.Y
}

// DoMeet tells whether two boxes have a point in common; to touch is to meet.
func DoMeet(a Box, b Box) bool {
	return isUpTo(a.Low, b.High) && isUpTo(b.Low, a.High)
}
