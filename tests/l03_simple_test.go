package tests

import (
	"fmt"
	"math/big"
	"reflect"
	"slices"
	"testing"

	"loop.example/g00403/impl"
)

// units are what a pixel has of the world, zoom by zoom; a fourth is the grid.
var units = []int64{128, 64, 32, 16}

// noZooms are numbers that are no zoom.
var noZooms = append([]int64{-1, 4, 5, 63, 64, -64, 128}, far...)

func TestUnitAt(t *testing.T) {
	if impl.MaxZoom != 3 || impl.UnitTop != 128 {
		t.Error(impl.MaxZoom, impl.UnitTop)
	}
	for z, unit := range units {
		if got := impl.UnitAt(int64(z)); got != (impl.IntResult{Value: unit}) {
			t.Error(z, got)
		}
	}
	for _, z := range noZooms {
		if got := impl.UnitAt(z); got != (impl.IntResult{Code: impl.ErrRange}) {
			t.Error(z, got)
		}
	}
}

// snapped is the multiple of the grid that is nearest, found by looking at all.
func snapped(n, grid int64) int64 {
	best := int64(0)
	for m := int64(0); m <= impl.World; m += grid {
		if max(n-m, m-n) <= max(n-best, best-n) {
			best = m
		}
	}
	return best
}

func TestSnapPointAll(t *testing.T) {
	for z, unit := range units {
		for n := range int64(impl.World + 1) {
			other := impl.World - n
			want := impl.PointResult{Point: at(snapped(n, unit/4), snapped(other, unit/4))}
			if got := impl.SnapPoint(at(n, other), int64(z)); got != want {
				t.Fatalf("%d,%d at %d: %v, not %v", n, other, z, got, want)
			}
		}
	}
}

func TestSnapPoint(t *testing.T) {
	for _, c := range []struct {
		p    impl.Point
		z    int64
		want impl.Point
	}{
		{at(15, 16), 0, at(0, 32)},
		{at(0, 1024), 0, at(0, 1024)},
		{at(1024, 0), 3, at(1024, 0)},
		{at(1007, 1008), 0, at(992, 1024)},
		{at(7, 8), 1, at(0, 16)},
		{at(3, 4), 2, at(0, 8)},
		{at(1, 2), 3, at(0, 4)},
		{at(1021, 1022), 3, at(1020, 1024)},
		{at(47, 48), 0, at(32, 64)},
	} {
		if got := impl.SnapPoint(c.p, c.z); got != (impl.PointResult{Point: c.want}) {
			t.Errorf("%v at %d: %v", c.p, c.z, got)
		}
	}
}

// outside are points that no feature may have: just outside of the world, with
// a fault and without.
func outside() []impl.Point {
	return append(faulty(), at(-1, 0), at(0, -1), at(impl.World+1, 0), at(0, impl.World+1), at(lowest, 0), at(0, highest), at(-1, -1), at(highest, highest))
}

func TestSnapPointWrong(t *testing.T) {
	wrong := impl.PointResult{Code: impl.ErrRange}
	for _, p := range outside() {
		for z := range units {
			if got := impl.SnapPoint(p, int64(z)); got != wrong {
				t.Errorf("%v at %d: %v", p, z, got)
			}
		}
	}
	for _, z := range noZooms {
		if got := impl.SnapPoint(at(5, 5), z); got != wrong {
			t.Errorf("zoom %d: %v", z, got)
		}
		if got := impl.SnapPoint(faulty()[0], z); got != wrong {
			t.Errorf("zoom %d: %v", z, got)
		}
	}
}

func expectPoints(t *testing.T, what string, got impl.PointsResult, code int64, want ...impl.Point) {
	t.Helper()
	if got.Code != code || !slices.Equal(got.Points, want) {
		t.Errorf("%s: %v, not %d %v", what, got, code, want)
	}
}

func TestSnapAll(t *testing.T) {
	expectPoints(t, "nil", impl.SnapAll(nil, 0), impl.OK)
	expectPoints(t, "none", impl.SnapAll([]impl.Point{}, 3), impl.OK)
	expectPoints(t, "one", impl.SnapAll([]impl.Point{at(17, 15)}, 0), impl.OK, at(32, 0))
	expectPoints(t, "two alike", impl.SnapAll([]impl.Point{at(1, 2), at(3, 1)}, 0), impl.OK, at(0, 0))
	expectPoints(t, "two", impl.SnapAll([]impl.Point{at(1, 2), at(3, 1)}, 3), impl.OK, at(0, 4), at(4, 0))
	expectPoints(t, "alike behind one another", impl.SnapAll([]impl.Point{at(1, 0), at(2, 0), at(40, 0), at(30, 1), at(31, 2), at(90, 0)}, 0), impl.OK, at(0, 0), at(32, 0), at(96, 0))
	expectPoints(t, "there again", impl.SnapAll([]impl.Point{at(0, 0), at(32, 0), at(0, 0), at(32, 0)}, 0), impl.OK, at(0, 0), at(32, 0), at(0, 0), at(32, 0))
	expectPoints(t, "of the same X alone", impl.SnapAll([]impl.Point{at(0, 0), at(0, 32), at(32, 32)}, 0), impl.OK, at(0, 0), at(0, 32), at(32, 32))
	expectPoints(t, "twelve alike", impl.SnapAll(slices.Repeat([]impl.Point{at(500, 500)}, 12), 2), impl.OK, at(504, 504))
	n := numbers(40)
	many := n.points(12, 0, impl.World)
	if got := impl.SnapAll(many, 0); got.Code != impl.OK || len(got.Points) == 0 {
		t.Error("twelve", got)
	}
}

// The order of the codes: the zoom, how many, then point by point.
func TestSnapAllWrong(t *testing.T) {
	good := slices.Repeat([]impl.Point{at(1, 1)}, 14)
	for _, count := range []int{13, 14} {
		expectPoints(t, "too many", impl.SnapAll(good[:count], 1), impl.ErrMany)
	}
	for _, z := range noZooms {
		for _, count := range []int{0, 1, 12, 13} {
			expectPoints(t, fmt.Sprint("zoom ", z), impl.SnapAll(good[:count], z), impl.ErrRange)
		}
	}
	for _, p := range outside() {
		for place := range 12 {
			list := slices.Clone(good[:12])
			list[place] = p
			expectPoints(t, fmt.Sprint(p, place), impl.SnapAll(list, 0), impl.ErrRange)
		}
		expectPoints(t, fmt.Sprint(p, " of too many"), impl.SnapAll(append([]impl.Point{p}, good[:12]...), 0), impl.ErrMany)
	}
}

// gapAs is the square of the distance of p and the segment from a to b, in
// fractions of any size.
func gapAs(p, a, b impl.Point) *big.Rat {
	rat := func(n int64) *big.Rat { return new(big.Rat).SetInt64(n) }
	mul := func(x, y *big.Rat) *big.Rat { return new(big.Rat).Mul(x, y) }
	add := func(x, y *big.Rat) *big.Rat { return new(big.Rat).Add(x, y) }
	dx, dy, px, py := rat(b.X-a.X), rat(b.Y-a.Y), rat(p.X-a.X), rat(p.Y-a.Y)
	part, whole := rat(0), add(mul(dx, dx), mul(dy, dy))
	if whole.Sign() > 0 {
		part = new(big.Rat).Quo(add(mul(dx, px), mul(dy, py)), whole)
	}
	if part.Sign() < 0 {
		part = rat(0)
	}
	if part.Cmp(rat(1)) > 0 {
		part = rat(1)
	}
	x, y := new(big.Rat).Sub(px, mul(part, dx)), new(big.Rat).Sub(py, mul(part, dy))
	return add(mul(x, x), mul(y, y))
}

// thinAs thins as the document tells it, by calling itself; of the last point
// the caller knows.
func thinAs(list []impl.Point, r int64) []impl.Point {
	last := len(list) - 1
	if last < 1 {
		return nil
	}
	place, most := 0, new(big.Rat)
	for i := 1; i < last; i++ {
		if gap := gapAs(list[i], list[0], list[last]); gap.Cmp(most) > 0 {
			place, most = i, gap
		}
	}
	if most.Cmp(new(big.Rat).SetInt64(r*r)) <= 0 {
		return list[:1:1]
	}
	return slices.Concat(thinAs(list[:place+1], r), thinAs(list[place:], r))
}

func expectThin(t *testing.T, list []impl.Point, r int64) {
	t.Helper()
	want := slices.Clone(list)
	if len(list) > 2 {
		want = append(thinAs(list, r), list[len(list)-1])
	}
	if got := impl.ThinLine(list, r); got.Code != impl.OK || !slices.Equal(got.Points, want) {
		t.Fatalf("%v by %d: %v, not %v", list, r, got, want)
	}
}

func TestThinLineAgainstFractions(t *testing.T) {
	n := numbers(41)
	for i := range 6000 {
		span := [][2]int64{{-1, 1}, {-3, 3}, {-20, 20}, {0, impl.World}, {lowest, highest}}[i%5]
		count := n.next(0, 12)
		if i%50 == 0 {
			count = n.next(39, 40)
		}
		list := n.points(int(count), span[0], span[1])
		for _, r := range []int64{0, 1, n.next(0, 4), n.next(0, 40), n.next(0, 4096), 4096} {
			expectThin(t, list, r)
		}
	}
}

// Lines on which whole numbers in one word do not tell which point is farther.
func TestThinLineGreatFractions(t *testing.T) {
	n := numbers(42)
	for range 1500 {
		a, b := at(lowest+n.next(0, 3), lowest+n.next(0, 3)), at(highest-n.next(0, 3), highest-n.next(0, 3))
		list := []impl.Point{a}
		for range n.next(2, 6) {
			list = append(list, []impl.Point{at(lowest+n.next(0, 2), highest-n.next(0, 2)), at(highest-n.next(0, 2), lowest+n.next(0, 2)), n.point(0, 9), n.point(lowest, highest)}[n.next(0, 3)])
		}
		expectThin(t, append(list, b), n.next(0, 4096))
		expectThin(t, append(list, a), n.next(0, 4096))
	}
}

func thin(t *testing.T, what string, list []impl.Point, r int64, want ...impl.Point) {
	t.Helper()
	expectPoints(t, what, impl.ThinLine(list, r), impl.OK, want...)
}

func TestThinLine(t *testing.T) {
	hill := []impl.Point{at(0, 0), at(50, 3), at(100, 60), at(150, 2), at(200, 0)}
	thin(t, "nil", nil, 5)
	thin(t, "none", []impl.Point{}, 5)
	thin(t, "one", hill[:1], 0, at(0, 0))
	thin(t, "two", hill[:2], 4096, at(0, 0), at(50, 3))
	thin(t, "two alike", []impl.Point{at(4, 4), at(4, 4)}, 0, at(4, 4), at(4, 4))
	thin(t, "three alike", []impl.Point{at(4, 4), at(4, 4), at(4, 4)}, 0, at(4, 4), at(4, 4))
	thin(t, "just near", hill, 60, at(0, 0), at(200, 0))
	thin(t, "just not near", hill, 59, at(0, 0), at(100, 60), at(200, 0))
	thin(t, "both parts go on", hill, 10, hill...)
	thin(t, "straight", []impl.Point{at(0, 0), at(1, 1), at(3, 3), at(2, 2), at(5, 5)}, 0, at(0, 0), at(5, 5))
	thin(t, "beyond its end", []impl.Point{at(0, 0), at(9, 0), at(5, 0)}, 3, at(0, 0), at(9, 0), at(5, 0))
	thin(t, "just not beyond its end", []impl.Point{at(0, 0), at(9, 0), at(5, 0)}, 4, at(0, 0), at(5, 0))
	thin(t, "r at its end", []impl.Point{at(0, 0), at(0, 4096), at(0, 0)}, 4096, at(0, 0), at(0, 0))
	thin(t, "one less", []impl.Point{at(0, 0), at(0, 4096), at(0, 0)}, 4095, at(0, 0), at(0, 4096), at(0, 0))
	thin(t, "alike behind one another", []impl.Point{at(0, 0), at(5, 9), at(5, 9), at(10, 0)}, 1, at(0, 0), at(5, 9), at(10, 0))
	thin(t, "a line that comes back", []impl.Point{at(0, 0), at(3, 0), at(0, 0), at(3, 0), at(0, 0)}, 2, at(0, 0), at(3, 0), at(0, 0))
}

// Of two that are as far the first one stays, and the other one, which is near
// then, goes: it is seen which of them was taken.
func TestThinLineFirstOfTheFarthest(t *testing.T) {
	thin(t, "the first", []impl.Point{at(0, 0), at(20, 10), at(40, 10), at(50, 0)}, 9, at(0, 0), at(20, 10), at(50, 0))
	thin(t, "the first, mirrored", []impl.Point{at(50, 0), at(40, 10), at(20, 10), at(0, 0)}, 9, at(50, 0), at(40, 10), at(0, 0))
}

// Distances whose squares differ only as fractions: 27 and 54/241 is nearer than
// 27 and 217/241, and 16 than 16 and 113/241. In whole numbers the first one of
// each would be taken, and others stay then.
func TestThinLineFractions(t *testing.T) {
	thin(t, "27 and a part", []impl.Point{at(0, 0), at(9, -3), at(13, -2), at(15, 4)}, 2, at(0, 0), at(13, -2), at(15, 4))
	thin(t, "16 and a part", []impl.Point{at(0, 0), at(0, -4), at(12, -1), at(15, 4)}, 3, at(0, 0), at(0, -4), at(12, -1), at(15, 4))
}

func TestThinLineWrong(t *testing.T) {
	good := slices.Repeat([]impl.Point{at(1, 1), at(9, 9)}, 21)
	var bow []impl.Point // of which no three are in a row
	for i := range int64(40) {
		bow = append(bow, at(i, i*i))
	}
	thin(t, "forty", bow, 0, bow...)
	expectPoints(t, "41", impl.ThinLine(good[:41], 0), impl.ErrMany)
	expectPoints(t, "42", impl.ThinLine(good, 4096), impl.ErrMany)
	bad := slices.Clone(good)
	bad[0] = faulty()[0]
	for _, r := range append([]int64{-1, 4097}, far...) {
		for _, list := range [][]impl.Point{nil, good[:1], good[:40], good[:41], bad[:40], bad} {
			expectPoints(t, fmt.Sprint("r ", r), impl.ThinLine(list, r), impl.ErrRange)
		}
	}
	for _, p := range faulty() {
		for _, count := range []int{1, 2, 3, 40} {
			for _, place := range []int{0, count / 2, count - 1} {
				list := slices.Clone(good[:count])
				list[place] = p
				expectPoints(t, fmt.Sprint(p, place), impl.ThinLine(list, 4096), impl.ErrRange)
			}
		}
		expectPoints(t, fmt.Sprint(p, " of too many"), impl.ThinLine(append([]impl.Point{p}, good[:40]...), 0), impl.ErrMany)
	}
	thin(t, "at the bounds", []impl.Point{at(lowest, lowest), at(highest, lowest), at(highest, highest)}, 3000, at(lowest, lowest), at(highest, lowest), at(highest, highest))
}

// simple is a feature of that kind with points that were given.
func simple(kind int64, points ...impl.Point) impl.Feature {
	return impl.Feature{Id: 7, Layer: 3, Kind: kind, Width: 2, Points: points, Label: "name", Priority: 4}
}

func TestSimpleAt(t *testing.T) {
	for _, c := range []struct {
		what string
		z    int64
		f    impl.Feature
		want []impl.Point
	}{
		{"a point", 0, simple(impl.KindPoint, at(15, 16)), []impl.Point{at(0, 32)}},
		{"a point at its finest", 3, simple(impl.KindPoint, at(15, 17)), []impl.Point{at(16, 16)}},
		{"a line of two", 0, simple(impl.KindLine, at(1, 2), at(100, 110)), []impl.Point{at(0, 0), at(96, 96)}},
		{"a line that becomes one point", 0, simple(impl.KindLine, at(1, 2), at(10, 11), at(2, 3)), []impl.Point{at(0, 0), at(0, 0)}},
		{"that line, nearer", 3, simple(impl.KindLine, at(1, 2), at(10, 11), at(2, 3)), []impl.Point{at(0, 4), at(12, 12), at(4, 4)}},
		{"a line that is there and back", 0, simple(impl.KindLine, at(0, 0), at(32, 0), at(0, 0)), []impl.Point{at(0, 0), at(0, 0)}},
		{"a line that is there and back, farther", 0, simple(impl.KindLine, at(0, 0), at(64, 0), at(0, 0)), []impl.Point{at(0, 0), at(64, 0), at(0, 0)}},
		{"a line, just near by the grid", 2, simple(impl.KindLine, at(0, 0), at(40, 8), at(80, 0)), []impl.Point{at(0, 0), at(80, 0)}},
		{"a line, just not near by it", 2, simple(impl.KindLine, at(0, 0), at(40, 16), at(80, 0)), []impl.Point{at(0, 0), at(40, 16), at(80, 0)}},
		{"an area", 0, simple(impl.KindArea, at(0, 0), at(100, 0), at(100, 100)), []impl.Point{at(0, 0), at(96, 0), at(96, 96)}},
		{"an area is not thinned", 0, simple(impl.KindArea, at(0, 0), at(32, 0), at(64, 0), at(64, 64)), []impl.Point{at(0, 0), at(32, 0), at(64, 0), at(64, 64)}},
		{"a ring that closes", 0, simple(impl.KindArea, at(0, 0), at(64, 0), at(64, 64), at(0, 0)), []impl.Point{at(0, 0), at(64, 0), at(64, 64)}},
		{"a ring that comes to close", 0, simple(impl.KindArea, at(0, 0), at(64, 0), at(64, 64), at(9, 1)), []impl.Point{at(0, 0), at(64, 0), at(64, 64)}},
		{"a ring that ends at its first point twice", 0, simple(impl.KindArea, at(0, 0), at(64, 0), at(64, 64), at(9, 1), at(2, 2)), []impl.Point{at(0, 0), at(64, 0), at(64, 64)}},
		{"a ring that closes in between", 0, simple(impl.KindArea, at(0, 0), at(64, 0), at(0, 0), at(64, 64)), []impl.Point{at(0, 0), at(64, 0), at(0, 0), at(64, 64)}},
		{"a ring of two", 0, simple(impl.KindArea, at(0, 0), at(64, 0), at(65, 1)), []impl.Point{at(0, 0), at(64, 0), at(64, 0)}},
		{"a ring of two that closes", 0, simple(impl.KindArea, at(0, 0), at(64, 0), at(3, 3)), []impl.Point{at(0, 0), at(64, 0), at(64, 0)}},
		{"a ring that becomes one point", 0, simple(impl.KindArea, at(5, 0), at(3, 0), at(0, 3), at(1, 1)), []impl.Point{at(0, 0), at(0, 0), at(0, 0)}},
		{"that ring, nearer", 3, simple(impl.KindArea, at(5, 0), at(3, 0), at(0, 3), at(1, 1)), []impl.Point{at(4, 0), at(0, 4), at(0, 0)}},
		{"at the end of the world", 0, simple(impl.KindArea, at(1024, 1024), at(1024, 0), at(0, 1024)), []impl.Point{at(1024, 1024), at(1024, 0), at(0, 1024)}},
	} {
		want := c.f
		want.Points = c.want
		if got := impl.SimpleAt(c.f, c.z); !reflect.DeepEqual(got, impl.FeatureResult{Feature: want}) {
			t.Errorf("%s: %v, not %v", c.what, got, want)
		}
	}
}

// simpleAs are the points of SimpleAt by what the document says of them.
func simpleAs(f impl.Feature, z int64) []impl.Point {
	grid := units[z] / 4
	var list []impl.Point
	for _, p := range f.Points {
		list = append(list, at(snapped(p.X, grid), snapped(p.Y, grid)))
	}
	list = slices.Compact(list)
	switch f.Kind {
	case impl.KindLine:
		if len(list) == 1 {
			return append(list, list[0])
		}
		return append(thinAs(list, grid), list[len(list)-1])
	case impl.KindArea:
		for len(list) > 1 && list[len(list)-1] == list[0] {
			list = list[:len(list)-1]
		}
		for len(list) < 3 {
			list = append(list, list[len(list)-1])
		}
	}
	return list
}

// narrow is a feature whose points are so near one another that several of
// them become one.
func narrow(n *numbers) impl.Feature {
	f := n.feature(n.next(1, 999))
	low := n.point(0, impl.World-160)
	for i := range f.Points {
		step := n.point(0, []int64{8, 40, 160}[n.next(0, 2)])
		f.Points[i] = at(low.X+step.X, low.Y+step.Y)
	}
	if n.next(0, 3) == 0 {
		f.Points[len(f.Points)-1] = f.Points[0]
	}
	return f
}

func TestSimpleAtAgainstTheDocument(t *testing.T) {
	n := numbers(43)
	for i := range 6000 {
		f := narrow(&n)
		if i%4 == 0 {
			f = n.feature(f.Id)
		}
		z := n.next(0, 3)
		want := f
		want.Points = simpleAs(f, z)
		if got := impl.SimpleAt(f, z); !reflect.DeepEqual(got, impl.FeatureResult{Feature: want}) {
			t.Fatalf("%v at %d: %v, not %v", f, z, got, want)
		}
	}
}

// A zoom is asked ahead of the feature, and then the feature as ever.
func TestSimpleAtWrong(t *testing.T) {
	n := numbers(44)
	for i := range 4000 {
		f := strangeFeature(&n)
		z := noZooms[i%len(noZooms)]
		if got := impl.SimpleAt(f, z); !reflect.DeepEqual(got, impl.FeatureResult{Code: impl.ErrRange}) {
			t.Fatalf("%v at %d: %v", f, z, got)
		}
		code := impl.FeatureFault(f)
		got := impl.SimpleAt(f, n.next(0, 3))
		if got.Code != code || code != impl.OK && !reflect.DeepEqual(got.Feature, impl.Feature{}) {
			t.Fatalf("%v: %v, not %d", f, got, code)
		}
	}
	many := simple(impl.KindLine, slices.Repeat([]impl.Point{at(1, 1)}, 13)...)
	if got := impl.SimpleAt(many, 4); got.Code != impl.ErrRange {
		t.Error("the zoom first", got)
	}
	if got := impl.SimpleAt(many, 0); got.Code != impl.ErrMany {
		t.Error("13 points", got)
	}
	var zigzag []impl.Point
	for i := range int64(12) {
		zigzag = append(zigzag, at(80*i, i%2*500))
	}
	if got := impl.SimpleAt(simple(impl.KindLine, zigzag...), 0); got.Code != impl.OK || len(got.Feature.Points) != 12 {
		t.Error("12 points", got)
	}
	unnamed := simple(impl.KindPoint, at(-1, 0))
	unnamed.Label = "NAME"
	if got := impl.SimpleAt(unnamed, 1); got.Code != impl.ErrRange {
		t.Error("the point first", got)
	}
	unnamed.Points[0].X = 0
	if got := impl.SimpleAt(unnamed, 1); got.Code != impl.ErrText {
		t.Error("the label", got)
	}
}
