package tests

import (
	"fmt"
	"slices"
	"testing"

	"loop.example/g00403/impl"
)

// counts are how many pixels the world has on a side, zoom by zoom.
var counts = []int64{8, 16, 32, 64}

func TestPixelCount(t *testing.T) {
	if impl.TileSide != 8 {
		t.Error(impl.TileSide)
	}
	for z, count := range counts {
		if got := impl.PixelCount(int64(z)); got != (impl.IntResult{Value: count}) {
			t.Error(z, got)
		}
		if count*units[z] != impl.World {
			t.Error("the pixels are not the world at", z)
		}
	}
	for _, z := range noZooms {
		if got := impl.PixelCount(z); got != (impl.IntResult{Code: impl.ErrRange}) {
			t.Error(z, got)
		}
	}
}

func TestCentreOf(t *testing.T) {
	for _, c := range []struct {
		z, x, y int64
		want    impl.Point
	}{
		{1, 1, 0, at(192, 64)},
		{0, 0, 0, at(128, 128)},
		{0, 7, 7, at(1920, 1920)},
		{0, 0, 7, at(128, 1920)},
		{1, 15, 2, at(1984, 320)},
		{2, 31, 0, at(2016, 32)},
		{3, 0, 0, at(16, 16)},
		{3, 63, 62, at(2032, 2000)},
	} {
		if got := impl.CentreOf(c.z, c.x, c.y); got != (impl.PointResult{Point: c.want}) {
			t.Errorf("%d %d,%d: %v", c.z, c.x, c.y, got)
		}
	}
}

// A centre is in the middle between where its pixel begins and where the next
// one does, each of them at so many units.
func TestCentreOfAll(t *testing.T) {
	for z, count := range counts {
		for x := range count {
			for y := range count {
				low, high := at(x*units[z], y*units[z]), at((x+1)*units[z], (y+1)*units[z])
				want := impl.PointResult{Point: at(low.X+high.X, low.Y+high.Y)}
				if got := impl.CentreOf(int64(z), x, y); got != want {
					t.Fatalf("%d %d,%d: %v, not %v", z, x, y, got, want)
				}
			}
		}
	}
}

// noPixels are numbers of which none is an x or y at z.
func noPixels(z int64) []int64 {
	return append([]int64{-1, -2, counts[z], counts[z] + 1, 1024, 2048}, far...)
}

func TestCentreOfWrong(t *testing.T) {
	wrong := impl.PointResult{Code: impl.ErrRange}
	for z, count := range counts {
		for _, bad := range noPixels(int64(z)) {
			for _, good := range []int64{0, count - 1} {
				if a, b := impl.CentreOf(int64(z), bad, good), impl.CentreOf(int64(z), good, bad); a != wrong || b != wrong {
					t.Errorf("%d %d,%d: %v %v", z, bad, good, a, b)
				}
			}
			if got := impl.CentreOf(int64(z), bad, bad); got != wrong {
				t.Errorf("%d %d,%d: %v", z, bad, bad, got)
			}
		}
	}
	for _, z := range noZooms {
		for _, n := range append([]int64{-1, 0, 1, 7, 8}, far...) {
			if got := impl.CentreOf(z, n, n); got != wrong {
				t.Errorf("%d %d,%d: %v", z, n, n, got)
			}
		}
	}
}

// wide is a feature of that kind and width with points that were given.
func wide(kind, width int64, points ...impl.Point) impl.Feature {
	f := simple(kind, points...)
	f.Width = width
	return f
}

// kindPoints are points for a feature of each kind, far from one another.
var kindPoints = [][]impl.Point{nil, {at(64, 64)}, {at(64, 64), at(640, 192)}, {at(0, 0), at(512, 0), at(512, 512)}}

func TestReachOf(t *testing.T) {
	for _, k := range kindBounds {
		for width := range int64(4) {
			for z, unit := range units {
				f := wide(k.kind, width, kindPoints[k.kind]...)
				want := impl.IntResult{Value: unit}
				for range width {
					want.Value += unit
				}
				if got := impl.ReachOf(f, int64(z)); got != want {
					t.Errorf("%v at %d: %v, not %v", f, z, got, want)
				}
			}
		}
	}
}

// covered are the pixels of z that a feature covers, row by row.
func covered(f impl.Feature, z int64) []impl.Point {
	var list []impl.Point
	for y := range counts[z] {
		for x := range counts[z] {
			if impl.DoesCover(f, z, x, y) {
				list = append(list, at(x, y))
			}
		}
	}
	return list
}

func expectCovered(t *testing.T, what string, f impl.Feature, z int64, want ...impl.Point) {
	t.Helper()
	if got := covered(f, z); !slices.Equal(got, want) {
		t.Errorf("%s: %v at %d covers %v, not %v", what, f, z, got, want)
	}
}

func TestDoesCoverOfPoints(t *testing.T) {
	point := func(width, x, y int64) impl.Feature { return wide(impl.KindPoint, width, at(x, y)) }
	expectCovered(t, "in the middle", point(0, 64, 64), 0, at(0, 0))
	expectCovered(t, "just at the reach of two", point(0, 128, 64), 0, at(0, 0), at(1, 0))
	expectCovered(t, "just outside of one", point(0, 160, 64), 0, at(1, 0))
	expectCovered(t, "in the corner of four", point(0, 128, 128), 0)
	expectCovered(t, "in the corner of four, wider", point(1, 128, 128), 0, at(0, 0), at(1, 0), at(0, 1), at(1, 1))
	expectCovered(t, "at the beginning of the world", point(0, 0, 0), 0)
	expectCovered(t, "at the end of it", point(0, 1024, 960), 0, at(7, 7))
	expectCovered(t, "at its last corner", point(1, 1024, 1024), 0, at(7, 7))
	expectCovered(t, "snapped to what is just at the reach", point(0, 143, 64), 0, at(0, 0), at(1, 0))
	expectCovered(t, "snapped to what is just outside", point(0, 144, 64), 0, at(1, 0))
	expectCovered(t, "snapped away from a middle", point(0, 16, 17), 0, at(0, 0))
	expectCovered(t, "snapped away from all middles", point(0, 15, 17), 0)
	expectCovered(t, "the first pixel, nearest", point(0, 8, 8), 3, at(0, 0))
	expectCovered(t, "the last pixel, nearest", point(0, 1016, 1016), 3, at(63, 63))
	expectCovered(t, "between two, nearest", point(0, 1008, 1016), 3, at(62, 63), at(63, 63))
	expectCovered(t, "not as high as wide", point(0, 576, 832), 0, at(4, 6))
	expectCovered(t, "the greatest width", point(3, 64, 64), 0, at(0, 0), at(1, 0), at(2, 0), at(0, 1), at(1, 1), at(0, 2))
	expectCovered(t, "the greatest width, nearest", point(3, 1016, 8), 3, at(61, 0), at(62, 0), at(63, 0), at(62, 1), at(63, 1), at(63, 2))
}

func TestDoesCoverOfLines(t *testing.T) {
	line := func(points ...impl.Point) impl.Feature { return wide(impl.KindLine, 0, points...) }
	expectCovered(t, "a row", line(at(64, 64), at(448, 64)), 0, at(0, 0), at(1, 0), at(2, 0), at(3, 0))
	expectCovered(t, "that row, the other way round", line(at(448, 64), at(64, 64)), 0, at(0, 0), at(1, 0), at(2, 0), at(3, 0))
	expectCovered(t, "between two rows", line(at(64, 128), at(192, 128)), 0, at(0, 0), at(1, 0), at(0, 1), at(1, 1))
	expectCovered(t, "an end just at the reach", line(at(128, 64), at(320, 64)), 0, at(0, 0), at(1, 0), at(2, 0))
	expectCovered(t, "an end just outside", line(at(160, 64), at(320, 64)), 0, at(1, 0), at(2, 0))
	expectCovered(t, "each of its segments, but not the way back", line(at(64, 64), at(320, 64), at(320, 320), at(64, 320)), 0,
		at(0, 0), at(1, 0), at(2, 0), at(2, 1), at(0, 2), at(1, 2), at(2, 2))
	expectCovered(t, "a line of one point", line(at(60, 60), at(70, 70)), 0, at(0, 0))
	expectCovered(t, "a line of one point, in a corner of four", line(at(125, 125), at(130, 130)), 0)
	expectCovered(t, "a line of one point, just at the reach", line(at(130, 60), at(120, 70), at(128, 64)), 0, at(0, 0), at(1, 0))
	expectCovered(t, "a line that is there and back", line(at(64, 64), at(90, 64), at(64, 64)), 0, at(0, 0))
	// the point between goes at zoom 0, and with it what it alone would cover
	expectCovered(t, "a line that is thinned", line(at(64, 32), at(192, 0), at(320, 32)), 0, at(0, 0), at(1, 0), at(2, 0))
	expectCovered(t, "a line that is not thinned", line(at(64, 32), at(192, 224), at(320, 32)), 0, at(0, 0), at(2, 0), at(1, 1))
}

// The way of these lines is one of 20, 21 (or 119, 120): its length is a whole
// number, so that a middle may be just at the reach beside it.
func TestDoesCoverJustAtTheReach(t *testing.T) {
	for _, c := range []struct {
		what             string
		x, y             int64
		centre, from, to impl.Point
		covers           bool
	}{
		{"at it", 2, 2, at(640, 640), at(256, 160), at(896, 832), true},
		{"a 29th of a grid outside", 2, 2, at(640, 640), at(288, 192), at(928, 864), false},
		{"at it, from the other side", 5, 5, at(1408, 1408), at(768, 864), at(128, 192), true},
		{"a 29th outside, from the other side", 5, 5, at(1408, 1408), at(736, 832), at(96, 160), false},
	} {
		f := wide(impl.KindLine, 0, c.from, c.to)
		if impl.CentreOf(0, c.x, c.y).Point != c.centre || !slices.Equal(impl.SimpleAt(f, 0).Feature.Points, f.Points) {
			t.Errorf("%s: the test has it elsewhere", c.what)
		}
		if got := impl.DoesCover(f, 0, c.x, c.y); got != c.covers {
			t.Errorf("%s: %v", c.what, got)
		}
		f.Width++
		if !impl.DoesCover(f, 0, c.x, c.y) {
			t.Errorf("%s, wider: false", c.what)
		}
	}
}

// At the finest zoom the way 119, 120 (of length 169) beside a middle, in each
// width: a 169th of a grid is what is just outside there.
func TestDoesCoverJustAtTheReachNearest(t *testing.T) {
	centre := at(520, 520) // the middle of 32,32, not doubled
	if impl.CentreOf(3, 32, 32).Point != at(1040, 1040) {
		t.Fatal(impl.CentreOf(3, 32, 32))
	}
	seen := map[bool]int{}
	for width := range int64(4) {
		reach := 2 * (width + 1) // in grids of 4 of the world
		for x := int64(-60); x <= 0; x++ {
			for y := int64(-70); y <= 10; y++ {
				turn := 120*x - 119*y
				if turn < 0 || turn > 169*reach+3 || turn < 169*reach-3 {
					continue
				}
				from := at(centre.X+4*x, centre.Y+4*y)
				f := wide(impl.KindLine, width, from, at(from.X+4*119, from.Y+4*120))
				want := turn <= 169*reach
				seen[want]++
				if got := impl.DoesCover(f, 3, 32, 32); got != want {
					t.Errorf("%v, turn %d: %v", f, turn, got)
				}
			}
		}
	}
	if seen[true] == 0 || seen[false] == 0 {
		t.Error("the test asks for nothing", seen)
	}
}

func TestDoesCoverOfAreas(t *testing.T) {
	area := func(points ...impl.Point) impl.Feature { return wide(impl.KindArea, 0, points...) }
	box := func(low, high impl.Point) impl.Feature {
		return area(low, at(high.X, low.Y), high, at(low.X, high.Y))
	}
	expectCovered(t, "whole pixels", box(at(0, 0), at(256, 128)), 0, at(0, 0), at(1, 0))
	expectCovered(t, "sides through middles: those of least X and Y", box(at(64, 64), at(192, 192)), 0, at(0, 0))
	expectCovered(t, "sides just ahead of middles", box(at(32, 32), at(160, 160)), 0, at(0, 0))
	expectCovered(t, "sides just behind middles", box(at(96, 96), at(224, 224)), 0, at(1, 1))
	expectCovered(t, "a side that is snapped into middles", box(at(0, 0), at(207, 100)), 0, at(0, 0))
	expectCovered(t, "a side that is snapped behind them", box(at(0, 0), at(208, 100)), 0, at(0, 0), at(1, 0))
	expectCovered(t, "a slanted side through middles", area(at(0, 0), at(512, 0), at(0, 512)), 0, at(0, 0), at(1, 0), at(2, 0), at(0, 1), at(1, 1), at(0, 2))
	expectCovered(t, "a slanted side through middles, the other way", area(at(512, 512), at(512, 0), at(0, 512)), 0,
		at(3, 0), at(2, 1), at(3, 1), at(1, 2), at(2, 2), at(3, 2), at(0, 3), at(1, 3), at(2, 3), at(3, 3))
	expectCovered(t, "between middles", box(at(96, 96), at(160, 160)), 0)
	expectCovered(t, "one point at its zoom", box(at(60, 60), at(70, 70)), 0)
	expectCovered(t, "that area, nearer", box(at(60, 60), at(78, 78)), 3, at(4, 4))
	expectCovered(t, "two points at its zoom, through middles", area(at(0, 64), at(512, 64), at(512, 70)), 0)
	expectCovered(t, "two points at its zoom, closed", area(at(0, 64), at(512, 64), at(512, 70), at(3, 60)), 0)
	expectCovered(t, "a ring that closes", area(at(0, 0), at(128, 0), at(128, 128), at(0, 128), at(0, 0)), 0, at(0, 0))
	expectCovered(t, "a ring that goes round twice", area(at(0, 0), at(128, 0), at(128, 128), at(0, 128), at(0, 0), at(128, 0), at(128, 128), at(0, 128)), 0)
}

func TestDoesCoverOfAllTheWorld(t *testing.T) {
	all := wide(impl.KindArea, 0, at(0, 0), at(1024, 0), at(1024, 1024), at(0, 1024))
	for z, count := range counts {
		if got := covered(all, int64(z)); int64(len(got)) != count*count {
			t.Errorf("at %d: %d", z, len(got))
		}
	}
}

// An area is as wide as it is: its width reaches no pixel.
func TestDoesCoverOfAreasByWidth(t *testing.T) {
	n := numbers(51)
	for range 40 {
		f, z := wide(impl.KindArea, 0, n.points(int(n.next(3, 12)), 0, impl.World)...), n.next(0, 2)
		want := covered(f, z)
		for width := range int64(4) {
			f.Width = width
			expectCovered(t, "an area", f, z, want...)
		}
	}
}

// Two areas that share their sides share no pixel, and leave none out.
func TestDoesCoverOfNeighbours(t *testing.T) {
	n := numbers(52)
	for range 60 {
		z := n.next(0, 2)
		grid := units[z] / 4
		middle := at(grid*n.next(1, impl.World/grid-1), grid*n.next(1, impl.World/grid-1))
		corners := []impl.Point{at(0, 0), at(1024, 0), at(1024, 1024), at(0, 1024)}
		var all []impl.Point
		for i := range corners {
			all = append(all, covered(wide(impl.KindArea, 3, corners[i], corners[(i+1)%4], middle), z)...)
		}
		slices.SortFunc(all, func(a, b impl.Point) int { return int(a.Y-b.Y)*4096 + int(a.X-b.X) })
		if count := len(slices.Compact(slices.Clone(all))); count != len(all) || int64(count) != counts[z]*counts[z] {
			t.Errorf("%v at %d: %d pixels, %d of them others", middle, z, len(all), count)
		}
	}
}

// doubledAs are the points of a feature at a zoom, by the document, doubled.
func doubledAs(f impl.Feature, z int64) []impl.Point {
	var list []impl.Point
	for _, p := range simpleAs(f, z) {
		list = append(list, at(p.X+p.X, p.Y+p.Y))
	}
	return list
}

// coversAs is DoesCover by what the document says of it, in fractions of any
// size; points are doubledAs.
func coversAs(f impl.Feature, points []impl.Point, z, x, y int64) bool {
	unit := units[z]
	centre, reach := at(2*x*unit+unit, 2*y*unit+unit), f.Width*unit+unit
	switch f.Kind {
	case impl.KindPoint:
		return nearByFractions(centre, points[0], points[0], reach)
	case impl.KindLine:
		for i := range len(points) - 1 {
			if nearByFractions(centre, points[i], points[i+1], reach) {
				return true
			}
		}
		return false
	}
	return insideByFractions(centre, points)
}

// pixelBy is a pixel of z near one of the points of a feature, or any one.
func (n *numbers) pixelBy(f impl.Feature, z int64) (x, y int64) {
	last := counts[z] - 1
	if n.next(0, 2) == 0 {
		return n.next(0, last), n.next(0, last)
	}
	p := f.Points[n.next(0, int64(len(f.Points)-1))]
	return min(max(p.X/units[z]+n.next(-5, 5), 0), last), min(max(p.Y/units[z]+n.next(-5, 5), 0), last)
}

func TestDoesCoverAgainstTheDocument(t *testing.T) {
	n := numbers(53)
	seen := map[bool]int{}
	for i := range 2000 {
		f, z := narrow(&n), n.next(0, 3)
		if i%2 == 0 {
			f = n.feature(f.Id)
		}
		points := doubledAs(f, z)
		for range 30 {
			x, y := n.pixelBy(f, z)
			want := coversAs(f, points, z, x, y)
			seen[want]++
			if got := impl.DoesCover(f, z, x, y); got != want {
				t.Fatalf("%v at %d, pixel %d,%d: %v, not %v", f, z, x, y, got, want)
			}
		}
	}
	if seen[true] < 5000 || seen[false] < 5000 {
		t.Error("the test asks for little", seen)
	}
}

// What is no zoom, no pixel, or a feature with a fault is not covered, also
// where all of it would be near.
func TestDoesCoverWrong(t *testing.T) {
	for _, k := range kindBounds {
		f := wide(k.kind, 3, kindPoints[k.kind]...)
		for z, count := range counts {
			corner := wide(k.kind, 3, slices.Repeat([]impl.Point{at(0, 0)}, int(k.least))...)
			end := wide(k.kind, 3, slices.Repeat([]impl.Point{at(1024, 1024)}, int(k.least))...)
			for _, bad := range noPixels(int64(z)) {
				for _, g := range []impl.Feature{f, corner, end} {
					if impl.DoesCover(g, int64(z), bad, 0) || impl.DoesCover(g, int64(z), 0, bad) || impl.DoesCover(g, int64(z), bad, count-1) || impl.DoesCover(g, int64(z), count-1, bad) || impl.DoesCover(g, int64(z), bad, bad) {
						t.Errorf("%v at %d, pixel %d", g, z, bad)
					}
				}
			}
		}
		for _, z := range noZooms {
			for _, n := range append([]int64{0, 1, 7}, far...) {
				if impl.DoesCover(f, z, n, n) {
					t.Errorf("%v at %d, pixel %d", f, z, n)
				}
			}
		}
	}
}

// spoiled are features each of which covers the pixel 0,0 of each zoom, but
// for the one thing that is wrong, with the code of it.
func spoiled() map[int64][]impl.Feature {
	all := map[int64][]impl.Feature{}
	add := func(code int64, change func(f *impl.Feature)) {
		f := wide(impl.KindLine, 3, at(0, 0), at(0, 64))
		change(&f)
		all[code] = append(all[code], f)
	}
	for _, field := range fields {
		for _, bad := range append([]int64{field.low - 1, field.high + 1}, far...) {
			add(impl.ErrRange, func(f *impl.Feature) { *field.of(f) = bad })
		}
	}
	for _, bad := range append([]int64{0, 4, -1}, far...) {
		add(impl.ErrRange, func(f *impl.Feature) { f.Kind = bad })
	}
	for _, count := range []int{0, 1, 13, 40, 41} {
		add(impl.ErrMany, func(f *impl.Feature) { f.Points = slices.Repeat([]impl.Point{at(0, 0)}, count) })
	}
	add(impl.ErrMany, func(f *impl.Feature) { f.Kind = impl.KindPoint })
	add(impl.ErrMany, func(f *impl.Feature) { f.Kind = impl.KindArea })
	for _, p := range outside() {
		add(impl.ErrRange, func(f *impl.Feature) { f.Points[0] = p })
		add(impl.ErrRange, func(f *impl.Feature) { f.Points[1] = p })
	}
	for _, label := range []string{"abcdefg", "A", "a b", "\xff", "é", " "} {
		add(impl.ErrText, func(f *impl.Feature) { f.Label = label })
	}
	return all
}

// A feature with a fault: its code, behind that of a zoom, ahead of a pixel.
func TestCoverOfFaultyFeatures(t *testing.T) {
	for code, list := range spoiled() {
		for _, f := range list {
			for z := range int64(4) {
				if reach := impl.ReachOf(f, z); reach != (impl.IntResult{Code: code}) {
					t.Errorf("%v at %d: %v, not %d", f, z, reach, code)
				}
				if box := impl.ReachBox(f, z); box != (impl.BoxResult{Code: code}) {
					t.Errorf("%v at %d: %v, not %d", f, z, box, code)
				}
				for _, x := range []int64{0, counts[z] - 1, -1, counts[z]} {
					got := impl.PaintedAt([]impl.Feature{f}, z, x, 0)
					if got != (impl.IntResult{Code: code}) || impl.DoesCover(f, z, x, 0) {
						t.Errorf("%v at %d, pixel %d: %v, not %d", f, z, x, got, code)
					}
				}
			}
			for _, z := range noZooms {
				painted, reach := impl.PaintedAt([]impl.Feature{f}, z, 0, 0), impl.ReachOf(f, z)
				if wrong := (impl.IntResult{Code: impl.ErrRange}); painted != wrong || reach != wrong || impl.ReachBox(f, z) != (impl.BoxResult{Code: impl.ErrRange}) || impl.DoesCover(f, z, 0, 0) {
					t.Errorf("%v at %d: %v %v", f, z, painted, reach)
				}
			}
		}
	}
}

func TestReachBox(t *testing.T) {
	for _, c := range []struct {
		what      string
		f         impl.Feature
		z         int64
		low, high impl.Point
	}{
		{"a point", wide(impl.KindPoint, 0, at(576, 832)), 0, at(1024, 1536), at(1280, 1792)},
		{"a point, nearest", wide(impl.KindPoint, 0, at(576, 832)), 3, at(1136, 1648), at(1168, 1680)},
		{"a point that is snapped", wide(impl.KindPoint, 0, at(15, 16)), 0, at(-128, -64), at(128, 192)},
		{"the greatest width, where the world begins", wide(impl.KindPoint, 3, at(0, 0)), 0, at(-512, -512), at(512, 512)},
		{"the greatest width, where it ends", wide(impl.KindPoint, 3, at(1024, 1024)), 0, at(1536, 1536), at(2560, 2560)},
		{"a line", wide(impl.KindLine, 1, at(100, 10), at(10, 200)), 1, at(-96, -96), at(320, 544)},
		{"a line of one point", wide(impl.KindLine, 0, at(60, 60), at(70, 70)), 0, at(0, 0), at(256, 256)},
		{"a line that is thinned", wide(impl.KindLine, 0, at(64, 32), at(192, 0), at(320, 32)), 0, at(0, -64), at(768, 192)},
		{"an area has a reach", wide(impl.KindArea, 2, at(64, 64), at(128, 64), at(128, 256)), 2, at(32, 32), at(352, 608)},
		{"an area of one point", wide(impl.KindArea, 0, at(60, 60), at(70, 60), at(70, 70)), 0, at(0, 0), at(256, 256)},
		{"all the world", wide(impl.KindArea, 3, at(0, 0), at(1024, 0), at(1024, 1024)), 0, at(-512, -512), at(2560, 2560)},
	} {
		want := impl.BoxResult{Box: impl.Box{Low: c.low, High: c.high}}
		if got := impl.ReachBox(c.f, c.z); got != want {
			t.Errorf("%s: %v, not %v", c.what, got, want)
		}
	}
}

func TestReachBoxAgainstTheDocument(t *testing.T) {
	n := numbers(54)
	for i := range 4000 {
		f, z := narrow(&n), n.next(0, 3)
		if i%3 == 0 {
			f = n.feature(f.Id)
		}
		low, high := at(4096, 4096), at(-4096, -4096)
		reach := (f.Width + 1) * units[z]
		for _, p := range doubledAs(f, z) {
			low = at(min(low.X, p.X-reach), min(low.Y, p.Y-reach))
			high = at(max(high.X, p.X+reach), max(high.Y, p.Y+reach))
		}
		if got := impl.ReachBox(f, z); got != (impl.BoxResult{Box: impl.Box{Low: low, High: high}}) {
			t.Fatalf("%v at %d: %v, not %v %v", f, z, got, low, high)
		}
	}
}

// layered are features that all cover the pixel 0,0 of zoom 0, one of each
// kind and more, by Layer and Id.
func layered(order ...[2]int64) []impl.Feature {
	var list []impl.Feature
	for i, o := range order {
		f := wide(impl.KindPoint, 0, at(64, 64))
		switch i % 3 {
		case 1:
			f = wide(impl.KindLine, 1, at(64, 64), at(640, 64))
		case 2:
			f = wide(impl.KindArea, 0, at(0, 0), at(512, 0), at(0, 512))
		}
		f.Layer, f.Id, f.Priority = o[0], o[1], 9-o[0]
		list = append(list, f)
	}
	return list
}

func expectPainted(t *testing.T, what string, list []impl.Feature, z, x, y, code, want int64) {
	t.Helper()
	if got := impl.PaintedAt(list, z, x, y); got != (impl.IntResult{Code: code, Value: want}) {
		t.Errorf("%s: %v at %d, pixel %d,%d: %v, not %d %d", what, list, z, x, y, got, code, want)
	}
}

func TestPaintedAt(t *testing.T) {
	expectPainted(t, "nil", nil, 0, 0, 0, impl.OK, 0)
	expectPainted(t, "none", []impl.Feature{}, 3, 63, 63, impl.OK, 0)
	expectPainted(t, "one", layered([2]int64{0, 999}), 0, 0, 0, impl.OK, 999)
	expectPainted(t, "none that covers", layered([2]int64{0, 999}), 0, 1, 0, impl.OK, 0)
	expectPainted(t, "none of several that covers", layered([2]int64{0, 9}, [2]int64{1, 8}, [2]int64{2, 7}), 0, 7, 7, impl.OK, 0)
	expectPainted(t, "the greater Layer", layered([2]int64{1, 5}, [2]int64{2, 4}), 0, 0, 0, impl.OK, 4)
	expectPainted(t, "the greater Id of a Layer", layered([2]int64{2, 5}, [2]int64{2, 4}), 0, 0, 0, impl.OK, 5)
	expectPainted(t, "the Layer ahead of the Id", layered([2]int64{0, 999}, [2]int64{9, 1}, [2]int64{8, 998}), 0, 0, 0, impl.OK, 1)
	front := layered([2]int64{9, 7}, [2]int64{3, 5}, [2]int64{1, 3})
	expectPainted(t, "the one in front", front, 0, 0, 0, impl.OK, 7)
	expectPainted(t, "the one behind it, where it covers nothing", front, 0, 1, 0, impl.OK, 5)
	expectPainted(t, "the last one, where neither does", front, 0, 0, 2, impl.OK, 3)
	expectPainted(t, "nothing, where none does", front, 0, 7, 7, impl.OK, 0)
}

func TestPaintedAtInWhateverOrder(t *testing.T) {
	n := numbers(55)
	orders := [][2]int64{{0, 12}, {0, 500}, {1, 3}, {1, 4}, {5, 999}, {5, 998}, {5, 1}, {9, 2}, {9, 10}, {9, 9}, {2, 600}, {8, 700}}
	for range 300 {
		list := layered(orders...)
		shuffle(&n, list)
		for count := len(list); count > 0; count-- {
			last := slices.MaxFunc(list[:count], func(a, b impl.Feature) int { return int(a.Layer-b.Layer)*1000 + int(a.Id-b.Id) })
			expectPainted(t, "in whatever order", list[:count], 0, 0, 0, impl.OK, last.Id)
		}
	}
}

// The codes, in their order: the zoom, the features, the pixel.
func TestPaintedAtWrong(t *testing.T) {
	good := layered([2]int64{1, 5}, [2]int64{2, 4})
	unread := append(layered([2]int64{1, 5}), wide(impl.KindPoint, 0, at(64, 64)))
	unread[1].Label = "?"
	lists := []struct {
		list []impl.Feature
		code int64
	}{
		{nil, impl.OK},
		{good, impl.OK},
		{unread, impl.ErrText},
		{append(slices.Clone(good), good[0]), impl.ErrTaken},
		{append(slices.Clone(unread), good...), impl.ErrText},
		{append(slices.Clone(good), append(good, unread...)...), impl.ErrTaken},
		{slices.Repeat(good, 6), impl.ErrTaken},
		{slices.Repeat(good, 7), impl.ErrMany},
		{slices.Repeat(unread, 7), impl.ErrMany},
		{make([]impl.Feature, 13), impl.ErrMany},
		{make([]impl.Feature, 12), impl.ErrRange},
	}
	for i, c := range lists {
		what := fmt.Sprint("list ", i)
		for z := range int64(4) {
			if c.code != impl.OK {
				expectPainted(t, what, c.list, z, 0, 0, c.code, 0)
			}
			code := c.code
			if code == impl.OK {
				code = impl.ErrRange
			}
			for _, bad := range noPixels(z) {
				expectPainted(t, what, c.list, z, bad, 0, code, 0)
				expectPainted(t, what, c.list, z, counts[z]-1, bad, code, 0)
				expectPainted(t, what, c.list, z, bad, bad, code, 0)
			}
		}
		for _, z := range noZooms {
			expectPainted(t, what, c.list, z, 0, 0, impl.ErrRange, 0)
			expectPainted(t, what, c.list, z, z, z, impl.ErrRange, 0)
		}
	}
}

func TestPaintedAtOfTwelve(t *testing.T) {
	var orders [][2]int64
	for id := range int64(12) {
		orders = append(orders, [2]int64{3, id + 1})
	}
	expectPainted(t, "twelve", layered(orders...), 0, 0, 0, impl.OK, 12)
	expectPainted(t, "thirteen", layered(append(orders, [2]int64{3, 13})...), 0, 0, 0, impl.ErrMany, 0)
}
