package tests

import (
	"math"
	"reflect"
	"testing"

	"loop.example/g00403/impl"
)

// isIn tells whether a point is in a box.
func isIn(p impl.Point, b impl.Box) bool {
	return b.Low.X <= p.X && p.X <= b.High.X && b.Low.Y <= p.Y && p.Y <= b.High.Y
}

// someFeature is a feature without a fault: near one another at times, at
// times over all the world.
func someFeature(n *numbers) impl.Feature {
	f := narrow(n)
	if n.next(0, 2) == 0 {
		return n.feature(f.Id)
	}
	return f
}

// P5: what is covered lies in the reach of the feature: in its box, and of a
// point or a line not farther than its reach from what is left of it.
func TestPromise5CoveredIsInReach(t *testing.T) {
	n := numbers(56)
	seen := 0
	for range 400 {
		f, z := someFeature(&n), n.next(0, 3)
		box, reach := impl.ReachBox(f, z), impl.ReachOf(f, z)
		if box.Code != impl.OK || reach.Code != impl.OK {
			t.Fatalf("%v at %d: %v %v", f, z, box, reach)
		}
		line := doubledAs(f, z)
		if f.Kind == impl.KindPoint {
			line = append(line, line[0])
		}
		for _, pixel := range covered(f, z) {
			seen++
			centre := impl.CentreOf(z, pixel.X, pixel.Y).Point
			if !isIn(centre, box.Box) || !impl.DoMeet(box.Box, impl.Box{Low: centre, High: centre}) {
				t.Fatalf("%v at %d: %v is not in %v", f, z, pixel, box)
			}
			if f.Kind != impl.KindArea && !isNearLine(centre, line, reach.Value) {
				t.Fatalf("%v at %d: %v is not near", f, z, pixel)
			}
		}
	}
	if seen < 5000 {
		t.Error("the test asks for little", seen)
	}
}

// P5: the greatest widths at the ends of the world, where a reach leaves it.
func TestPromise5ReachAtTheEndsOfTheWorld(t *testing.T) {
	for _, k := range kindBounds {
		for width := range int64(4) {
			for z := range int64(4) {
				for _, p := range []impl.Point{at(0, 0), at(1024, 0), at(0, 1024), at(1024, 1024)} {
					f := wide(k.kind, width, p)
					for int64(len(f.Points)) < k.least {
						f.Points = append(f.Points, at(512, 512+64*int64(len(f.Points))))
					}
					box := impl.ReachBox(f, z)
					for _, pixel := range covered(f, z) {
						if box.Code != impl.OK || !isIn(impl.CentreOf(z, pixel.X, pixel.Y).Point, box.Box) {
							t.Fatalf("%v at %d: %v is not in %v", f, z, pixel, box)
						}
					}
				}
			}
		}
	}
}

// isInFront tells whether a stands in front of b: it is behind it in order.
func isInFront(a, b impl.Feature) bool {
	return a.Layer > b.Layer || a.Layer == b.Layer && a.Id > b.Id
}

// expectFront asks what is painted at a pixel: it covers it, and nothing in
// front of it does; where nothing is painted, nothing covers it.
func expectFront(t *testing.T, list []impl.Feature, z, x, y int64) (painted bool) {
	t.Helper()
	got := impl.PaintedAt(list, z, x, y)
	front := impl.Feature{Layer: -1}
	for _, f := range list {
		if f.Id == got.Value {
			front = f
		}
	}
	if got.Code != impl.OK || (front.Layer < 0) != (got.Value == 0) || got.Value != 0 && !impl.DoesCover(front, z, x, y) {
		t.Fatalf("%v at %d, pixel %d,%d: %v does not cover it", list, z, x, y, got)
	}
	for _, f := range list {
		if isInFront(f, front) && impl.DoesCover(f, z, x, y) {
			t.Fatalf("%v at %d, pixel %d,%d: %v, but %v is in front", list, z, x, y, got, f)
		}
	}
	return got.Value != 0
}

// crowd are features without a fault, many of them over one another.
func crowd(n *numbers) []impl.Feature {
	list := n.features(int(n.next(0, 12)))
	for i := range list {
		if n.next(0, 1) == 0 {
			list[i].Layer = 4
		}
		if i > 0 && n.next(0, 2) == 0 {
			list[i].Kind, list[i].Points = list[i-1].Kind, list[i-1].Points
		}
	}
	return copyOf(list)
}

// P5: what is painted covers the pixel, and nothing in front of it does.
func TestPromise5PaintedIsInFront(t *testing.T) {
	n := numbers(57)
	seen := map[bool]int{}
	for range 1200 {
		list, z := crowd(&n), n.next(0, 3)
		for range 8 {
			x, y := n.next(0, counts[z]-1), n.next(0, counts[z]-1)
			if len(list) > 0 {
				x, y = n.pixelBy(list[0], z)
			}
			seen[expectFront(t, list, z, x, y)]++
			want := impl.PaintedAt(list, z, x, y)
			shuffle(&n, list)
			if got := impl.PaintedAt(list, z, x, y); got != want {
				t.Fatalf("%v at %d, pixel %d,%d: %v, and %v in another order", list, z, x, y, got, want)
			}
		}
	}
	if seen[true] < 2000 || seen[false] < 1000 {
		t.Error("the test asks for little", seen)
	}
}

// P5: the same at all pixels, the first and the last ones with them.
func TestPromise5PaintedAtAllPixels(t *testing.T) {
	n := numbers(58)
	for z, count := range counts {
		for range 12 >> z {
			list := crowd(&n)
			for y := range count {
				for x := range count {
					expectFront(t, list, int64(z), x, y)
				}
			}
		}
	}
}

// coverAnswers is what the layer of what covers answers of the same arguments.
type coverAnswers struct {
	count   impl.IntResult
	centre  impl.PointResult
	reach   impl.IntResult
	covers  bool
	box     impl.BoxResult
	painted impl.IntResult
}

func askCover(f impl.Feature, list []impl.Feature, z, x, y int64) coverAnswers {
	return coverAnswers{
		count:   impl.PixelCount(z),
		centre:  impl.CentreOf(z, x, y),
		reach:   impl.ReachOf(f, z),
		covers:  impl.DoesCover(f, z, x, y),
		box:     impl.ReachBox(f, z),
		painted: impl.PaintedAt(list, z, x, y),
	}
}

// zeroBesideACode tells whether all that stands beside a code is zero.
func zeroBesideACode(a coverAnswers) bool {
	return (a.count.Code == impl.OK || a.count.Value == 0) && (a.centre.Code == impl.OK || a.centre.Point == at(0, 0)) &&
		(a.reach.Code == impl.OK || a.reach.Value == 0) && (a.box.Code == impl.OK || a.box.Box == (impl.Box{})) &&
		(a.painted.Code == impl.OK || a.painted.Value == 0)
}

// coverCodes are the codes of these answers by what the document says of their
// order: zoom, feature (or features), pixel.
func coverCodes(f impl.Feature, list []impl.Feature, z, x, y int64) (count, centre, feature, painted int64) {
	if z < 0 || z > impl.MaxZoom {
		return impl.ErrRange, impl.ErrRange, impl.ErrRange, impl.ErrRange
	}
	feature, painted = impl.FeatureFault(f), impl.FeaturesFault(list)
	if last := counts[z] - 1; x < 0 || x > last || y < 0 || y > last {
		centre = impl.ErrRange
	}
	if painted == impl.OK {
		painted = centre
	}
	return impl.OK, centre, feature, painted
}

// P1, chapter 4: an answer at every argument, which changes none, is zero
// beside a code, and is the same again for the same arguments elsewhere.
func TestPromise1OfCover(t *testing.T) {
	n := numbers(59)
	zooms := []int64{-1, 0, 0, 1, 1, 2, 2, 3, 3, 4, math.MinInt64, math.MaxInt64, 1 << 32}
	places := []int64{-1, 0, 1, 3, 7, 8, 15, 16, 31, 32, 63, 64, math.MinInt64, math.MaxInt64, 1 << 32, 1<<32 + 1, -1 << 32}
	pick := func(list []int64) int64 { return list[n.next(0, int64(len(list)-1))] }
	seen := map[int64]int{}
	for range 8000 {
		f, list, z, x, y := strangeFeature(&n), strangeFeatures(&n), pick(zooms), pick(places), pick(places)
		f.Points = append(f.Points, at(1, 1))[:len(f.Points)]
		before := [][]impl.Feature{whole([]impl.Feature{f}), whole(list)}
		got := askCover(f, list, z, x, y)
		if !reflect.DeepEqual(before, [][]impl.Feature{whole([]impl.Feature{f}), whole(list)}) {
			t.Fatalf("%v %v: an argument was changed", f, list)
		}
		count, centre, feature, painted := coverCodes(f, list, z, x, y)
		if got.count.Code != count || got.centre.Code != centre || got.reach.Code != feature || got.box.Code != feature || got.painted.Code != painted {
			t.Fatalf("%v %v at %d, pixel %d,%d: %v", f, list, z, x, y, got)
		}
		if !zeroBesideACode(got) || got.covers && (feature != impl.OK || centre != impl.OK) {
			t.Fatalf("%v %v at %d, pixel %d,%d: beside a code %v", f, list, z, x, y, got)
		}
		if again := askCover(copyOf([]impl.Feature{f})[0], copyOf(list), z, x, y); again != got {
			t.Fatalf("%v, then %v", got, again)
		}
		seen[got.painted.Code]++
	}
	for _, code := range []int64{impl.OK, impl.ErrMany, impl.ErrRange, impl.ErrText, impl.ErrTaken} {
		if seen[code] < 20 {
			t.Error("the test asks for little", code, seen)
		}
	}
	if askCover(impl.Feature{}, nil, 1, 2, 3) != askCover(impl.Feature{Points: []impl.Point{}}, []impl.Feature{}, 1, 2, 3) {
		t.Error("an empty list is not nil")
	}
}

// P1, chapter 4: nothing is kept: what was answered ahead, and what became of
// the arguments then, changes no answer.
func TestPromise1OfCoverKeepsNothing(t *testing.T) {
	n := numbers(60)
	type call struct {
		list    []impl.Feature
		z, x, y int64
		want    coverAnswers
	}
	var calls []call
	for range 600 {
		list := n.features(int(n.next(1, 12)))
		c := call{list: copyOf(list), z: n.next(0, 3)}
		c.x, c.y = n.pixelBy(list[0], c.z)
		c.want = askCover(list[0], list, c.z, c.x, c.y)
		spoil(list)
		calls = append(calls, c)
	}
	shuffle(&n, calls)
	for _, c := range calls {
		if got := askCover(c.list[0], c.list, c.z, c.x, c.y); got != c.want {
			t.Fatalf("%v: %v", c, got)
		}
	}
}
