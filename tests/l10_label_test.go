package tests

import (
	"fmt"
	"maps"
	"math"
	"reflect"
	"slices"
	"strings"
	"testing"

	"loop.example/g00403/impl"
)

func box(id, x, y, w, h int64) impl.Placed {
	return impl.Placed{Id: id, X: x, Y: y, W: w, H: h}
}

// named is a point in the middle of a pixel of z.
func named(id, priority, z, x, y int64, label string) impl.Feature {
	f := pixelOf(id, z, x, y)
	f.Priority, f.Label = priority, label
	return f
}

// pixelsOfX are numbers X with the pixel of each zoom in which they are, told by
// hand: those that are snapped over the border of a pixel are in the next one.
var pixelsOfX = []struct {
	x    int64
	want [4]int64
}{
	{0, [4]int64{0, 0, 0, 0}},
	{1, [4]int64{0, 0, 0, 0}},
	{13, [4]int64{0, 0, 0, 0}},
	{14, [4]int64{0, 0, 0, 1}},
	{15, [4]int64{0, 0, 0, 1}},
	{16, [4]int64{0, 0, 0, 1}},
	{27, [4]int64{0, 0, 0, 1}},
	{28, [4]int64{0, 0, 1, 1}},
	{29, [4]int64{0, 0, 1, 1}},
	{30, [4]int64{0, 0, 1, 2}},
	{31, [4]int64{0, 0, 1, 2}},
	{32, [4]int64{0, 0, 1, 2}},
	{55, [4]int64{0, 0, 1, 3}},
	{56, [4]int64{0, 1, 1, 3}},
	{59, [4]int64{0, 1, 1, 3}},
	{60, [4]int64{0, 1, 2, 3}},
	{63, [4]int64{0, 1, 2, 4}},
	{64, [4]int64{0, 1, 2, 4}},
	{65, [4]int64{0, 1, 2, 4}},
	{111, [4]int64{0, 1, 3, 7}},
	{112, [4]int64{1, 1, 3, 7}},
	{127, [4]int64{1, 2, 4, 8}},
	{128, [4]int64{1, 2, 4, 8}},
	{129, [4]int64{1, 2, 4, 8}},
	{511, [4]int64{4, 8, 16, 32}},
	{512, [4]int64{4, 8, 16, 32}},
	{880, [4]int64{7, 13, 27, 55}},
	{879, [4]int64{6, 13, 27, 55}},
	{1007, [4]int64{7, 15, 31, 63}},
	{1008, [4]int64{7, 15, 31, 63}},
	{1015, [4]int64{7, 15, 31, 63}},
	{1016, [4]int64{7, 15, 31, 63}},
	{1020, [4]int64{7, 15, 31, 63}},
	{1022, [4]int64{7, 15, 31, 63}},
	{1023, [4]int64{7, 15, 31, 63}},
	{1024, [4]int64{7, 15, 31, 63}},
}

func expectAnchor(t *testing.T, what string, f impl.Feature, z, x, y int64) {
	t.Helper()
	if got := impl.AnchorOf(f, z); got != (impl.PointResult{Point: at(x, y)}) {
		t.Errorf("%s: %v at %d: %v, not %d,%d", what, f, z, got, x, y)
	}
}

// Points at the borders of pixels and of the world, X by X and Y by Y.
func TestAnchorOf(t *testing.T) {
	for _, a := range pixelsOfX {
		for _, b := range pixelsOfX {
			for z := range int64(4) {
				expectAnchor(t, "a point", simple(impl.KindPoint, at(a.x, b.x)), z, a.want[z], b.want[z])
			}
		}
	}
}

// Each kind: its first point, wherever the others are, and however many there
// are.
func TestAnchorOfEachKind(t *testing.T) {
	others := []impl.Point{at(1024, 1024), at(0, 0), at(1024, 0), at(512, 300), at(512, 300), at(0, 1024), at(3, 3), at(900, 1), at(1, 900), at(77, 78), at(0, 0)}
	for _, k := range kindBounds {
		for _, count := range []int64{k.least, k.least + 1, 6, k.most} {
			count = min(count, k.most)
			for i, a := range pixelsOfX {
				b := pixelsOfX[len(pixelsOfX)-1-i]
				f := simple(k.kind, append([]impl.Point{at(a.x, b.x)}, others[:count-1]...)...)
				for z := range int64(4) {
					expectAnchor(t, "far from the others", f, z, a.want[z], b.want[z])
				}
				f.Points = slices.Repeat(f.Points[:1], int(count))
				for z := range int64(4) {
					expectAnchor(t, "all the same", f, z, a.want[z], b.want[z])
				}
			}
		}
	}
}

// What is left of a line or a ring by fewer points has the same first one.
func TestAnchorOfFewerPoints(t *testing.T) {
	line := simple(impl.KindLine, at(250, 250), at(251, 251), at(252, 250), at(900, 600))
	expectAnchor(t, "a line whose first ones become one", line, 0, 2, 2)
	expectAnchor(t, "and nearer", line, 3, 15, 15)
	back := simple(impl.KindLine, at(500, 130), at(900, 130), at(500, 130))
	expectAnchor(t, "a line there and back", back, 1, 7, 2)
	ring := simple(impl.KindArea, at(700, 300), at(900, 300), at(900, 900), at(700, 300))
	expectAnchor(t, "a ring that is closed", ring, 2, 22, 9)
	turn := simple(impl.KindArea, at(900, 900), at(700, 300), at(900, 300))
	expectAnchor(t, "the same ring from another point", turn, 2, 28, 28)
	speck := simple(impl.KindArea, at(1023, 14), at(1024, 13), at(1024, 0))
	expectAnchor(t, "a ring that becomes a point", speck, 0, 7, 0)
	expectAnchor(t, "and nearer", speck, 3, 63, 1)
}

// The anchor hangs on nothing but the point: not on the name, the width, the
// layer, the priority or the Id.
func TestAnchorOfWhateverElse(t *testing.T) {
	for _, label := range []string{"", "a", "abcdef"} {
		for _, id := range []int64{1, 999} {
			for other := range int64(10) {
				f := impl.Feature{Id: id, Layer: other, Kind: impl.KindPoint, Width: other % 4, Label: label, Priority: 9 - other, Points: []impl.Point{at(300, 1000)}}
				expectAnchor(t, "a point", f, 0, 2, 7)
				expectAnchor(t, "a point", f, 2, 9, 31)
			}
		}
	}
}

// pixelAs is the pixel of a point of the world, found by asking pixel by pixel.
func pixelAs(p impl.Point, z int64) impl.Point {
	pixel := func(n int64) int64 {
		for p := range counts[z] {
			if n < (p+1)*units[z] {
				return p
			}
		}
		return counts[z] - 1
	}
	return at(pixel(p.X), pixel(p.Y))
}

// anchorAs is the anchor of a feature by what the document says of it.
func anchorAs(f impl.Feature, z int64) impl.Point {
	return pixelAs(simpleAs(f, z)[0], z)
}

func TestAnchorOfAgainstTheDocument(t *testing.T) {
	for z, unit := range units {
		z := int64(z)
		for x := range int64(impl.World + 1) {
			for _, p := range []impl.Point{at(x, 0), at(1024, x), at(x, x), at(x, 1024-x)} {
				f := wide(impl.KindPoint, 0, p)
				want := at(min(snapped(p.X, unit/4)/unit, counts[z]-1), min(snapped(p.Y, unit/4)/unit, counts[z]-1))
				expectAnchor(t, "a point", f, z, want.X, want.Y)
			}
		}
	}
	n := numbers(121)
	for range 3000 {
		f, z := someFeature(&n), n.next(0, 3)
		want := anchorAs(f, z)
		expectAnchor(t, "any", f, z, want.X, want.Y)
	}
}

// expectNoAnchor asks for a code of both that are given a feature and a zoom.
func expectNoAnchor(t *testing.T, f impl.Feature, z, code int64) {
	t.Helper()
	if got := impl.AnchorOf(f, z); got != (impl.PointResult{Code: code}) {
		t.Errorf("the anchor of %v at %d: %v, not %d", f, z, got, code)
	}
	if got := impl.LabelBox(f, z); !reflect.DeepEqual(got, impl.PlacedResult{Code: code}) {
		t.Errorf("the box of %v at %d: %v, not %d", f, z, got, code)
	}
}

// A zoom is asked ahead of the feature, and that ahead of an empty name.
func TestAnchorsWrong(t *testing.T) {
	wrong, codes := wrongFeatures()
	for i, f := range wrong {
		for z := range int64(4) {
			expectNoAnchor(t, f, z, codes[i])
		}
		for _, z := range noZooms {
			expectNoAnchor(t, f, z, impl.ErrRange)
		}
		if codes[i] != impl.ErrText {
			f.Label = ""
			expectNoAnchor(t, f, 1, codes[i])
		}
	}
	for _, z := range noZooms {
		f := road()
		expectNoAnchor(t, f, z, impl.ErrRange)
		f.Label = ""
		expectNoAnchor(t, f, z, impl.ErrRange)
		f.Label = "?"
		expectNoAnchor(t, f, z, impl.ErrRange)
		expectNoAnchor(t, impl.Feature{Id: 1, Kind: impl.KindPoint}, z, impl.ErrRange)
	}
	expectNoAnchor(t, impl.Feature{}, 0, impl.ErrRange)
	expectNoAnchor(t, impl.Feature{Id: 1, Kind: impl.KindPoint}, 0, impl.ErrMany)
	expectNoAnchor(t, impl.Feature{Id: 1, Kind: impl.KindPoint, Points: []impl.Point{at(0, 1025)}}, 3, impl.ErrRange)
}

func expectBox(t *testing.T, what string, f impl.Feature, z int64, want impl.Placed) {
	t.Helper()
	if got := impl.LabelBox(f, z); !reflect.DeepEqual(got, impl.PlacedResult{Placed: []impl.Placed{want}}) {
		t.Errorf("%s: %v at %d: %v, not %v", what, f, z, got, want)
	}
}

func TestLabelBox(t *testing.T) {
	for i, label := range []string{"a", "zz", "abc", "abcd", "aaaaa", "abcdef"} {
		w := int64(2*i + 2)
		expectBox(t, label, named(1, 0, 0, 0, 0, label), 0, box(1, 0, 0, w, 3))
		expectBox(t, label, named(999, 9, 3, 40, 63, label), 3, box(999, 40, 63, w, 3))
		expectBox(t, label+" at the last pixel", named(5, 4, 2, 31, 31, label), 2, box(5, 31, 31, w, 3))
		expectBox(t, label+" at another zoom", named(5, 4, 2, 6, 17, label), 1, box(5, 3, 8, w, 3))
	}
	expectBox(t, "a road", road(), 0, box(7, 0, 0, 8, 3))
	expectBox(t, "a line", simple(impl.KindLine, at(1024, 600), at(0, 0)), 1, box(7, 15, 9, 8, 3))
	expectBox(t, "an area", simple(impl.KindArea, at(600, 1024), at(0, 0), at(0, 1024)), 1, box(7, 9, 15, 8, 3))
}

// An empty name has no box, but an anchor.
func TestLabelBoxOfNoName(t *testing.T) {
	for _, k := range kindBounds {
		for z := range int64(4) {
			f := wide(k.kind, 1, kindPoints[k.kind]...)
			f.Label = ""
			expectNonePlaced(t, fmt.Sprint(f, z), impl.LabelBox(f, z), impl.ErrNone)
			if got := impl.AnchorOf(f, z); got.Code != impl.OK {
				t.Errorf("%v at %d: %v", f, z, got)
			}
		}
	}
}

// boxFrom is the box of a label that begins at a pixel.
func boxFrom(f impl.Feature, anchor impl.Point) impl.Placed {
	b := box(f.Id, anchor.X, anchor.Y, 0, 3)
	for range f.Label {
		b.W += 2
	}
	return b
}

// boxAs is the box of a label by what the document says of it.
func boxAs(f impl.Feature, z int64) impl.Placed {
	return boxFrom(f, anchorAs(f, z))
}

func TestLabelBoxAgainstTheDocument(t *testing.T) {
	n := numbers(122)
	seen := map[int]int{}
	for range 3000 {
		f, z := someFeature(&n), n.next(0, 3)
		seen[len(f.Label)]++
		if f.Label == "" {
			expectNonePlaced(t, "no name", impl.LabelBox(f, z), impl.ErrNone)
			continue
		}
		expectBox(t, "any", f, z, boxAs(f, z))
	}
	if len(seen) != 7 || seen[0] < 200 || seen[6] < 200 {
		t.Error("the test asks for little", seen)
	}
}

// expectOverlap asks both ways.
func expectOverlap(t *testing.T, what string, a, b impl.Placed, want bool) {
	t.Helper()
	if impl.DoOverlap(a, b) != want || impl.DoOverlap(b, a) != want {
		t.Errorf("%s: %v and %v: %v, and the other way %v", what, a, b, impl.DoOverlap(a, b), impl.DoOverlap(b, a))
	}
}

func TestDoOverlap(t *testing.T) {
	four := box(1, 4, 6, 4, 3)
	for _, c := range []struct {
		what string
		b    impl.Placed
		want bool
	}{
		{"the same one", four, true},
		{"the same one of another Id", box(2, 4, 6, 4, 3), true},
		{"one within the other", box(2, 5, 7, 2, 1), true},
		{"one around the other", box(2, 3, 5, 6, 5), true},
		{"one across the other", box(2, 5, 0, 1, 20), true},
		{"one along the other", box(2, 0, 7, 20, 1), true},
		{"the first pixel", box(2, 4, 6, 1, 1), true},
		{"the last pixel", box(2, 7, 8, 1, 1), true},
		{"the last pixel of the first row", box(2, 7, 6, 1, 1), true},
		{"the first pixel of the last row", box(2, 4, 8, 1, 1), true},
		{"one pixel, up to it", box(2, 2, 3, 3, 4), true},
		{"one pixel, from it on", box(2, 7, 8, 5, 5), true},
		{"one pixel, to the right and above", box(2, 7, 4, 5, 3), true},
		{"one pixel, to the left and below", box(2, 1, 8, 4, 5), true},
		{"touching at the right", box(2, 8, 6, 4, 3), false},
		{"touching at the left", box(2, 0, 6, 4, 3), false},
		{"touching above", box(2, 4, 3, 4, 3), false},
		{"touching below", box(2, 4, 9, 4, 3), false},
		{"touching by a corner, below and right", box(2, 8, 9, 4, 3), false},
		{"touching by a corner, above and left", box(2, 0, 3, 4, 3), false},
		{"touching by a corner, above and right", box(2, 8, 3, 4, 3), false},
		{"touching by a corner, below and left", box(2, 0, 9, 4, 3), false},
		{"one pixel apart", box(2, 9, 6, 4, 3), false},
		{"in the same columns", box(2, 4, 20, 4, 3), false},
		{"in the same rows", box(2, -20, 6, 4, 3), false},
		{"far", box(2, -1000, 2000, 4, 3), false},
		{"no box", impl.Placed{X: 4, Y: 6}, false},
		{"nothing", impl.Placed{}, false},
	} {
		expectOverlap(t, c.what, four, c.b, c.want)
	}
	expectOverlap(t, "nothing and nothing", impl.Placed{}, impl.Placed{}, false)
	expectOverlap(t, "ahead of the first pixel", box(1, -4, -4, 4, 4), box(2, 0, 0, 1, 1), false)
	expectOverlap(t, "over the first pixel", box(1, -4, -4, 5, 5), box(2, 0, 0, 1, 1), true)
}

// hasPixel tells whether two boxes have a pixel in common, by looking at all
// pixels of the first one.
func hasPixel(a, b impl.Placed) bool {
	for x := a.X; x < a.X+a.W; x++ {
		for y := a.Y; y < a.Y+a.H; y++ {
			if x >= b.X && x-b.X < b.W && y >= b.Y && y-b.Y < b.H {
				return true
			}
		}
	}
	return false
}

// All small boxes, those without a pixel among them.
func TestDoOverlapSmall(t *testing.T) {
	seen := map[bool]int{}
	for place := range int64(7 * 7) {
		for sizes := range int64(4 * 4 * 4 * 4) {
			a := box(1, 0, 0, sizes%4, sizes/4%4)
			b := box(1, place%7-3, place/7-3, sizes/16%4, sizes/64)
			want := hasPixel(a, b)
			expectOverlap(t, "small", a, b, want)
			seen[want]++
		}
	}
	if seen[true] < 700 || seen[false] < 1000 {
		t.Error("the test asks for little", seen)
	}
}

// W and H at their bounds and outside: what is no box overlaps nothing, not
// even itself.
func TestDoOverlapSizes(t *testing.T) {
	for _, size := range []int64{1, 2, 9998, 9999} {
		for _, b := range []impl.Placed{box(1, 0, 0, size, 1), box(1, 0, 0, 1, size), box(1, 0, 0, size, size), box(1, -9999, -9999, size, size), box(1, 9999, 9999, size, 1)} {
			expectOverlap(t, "itself", b, b, true)
			expectOverlap(t, "its first pixel", b, box(2, b.X, b.Y, 1, 1), true)
			expectOverlap(t, "its last row and column", b, box(2, min(b.X+b.W-1, 9999), min(b.Y+b.H-1, 9999), 1, 1), true)
			if b.X+b.W <= 9999 {
				expectOverlap(t, "behind its row", b, box(2, b.X+b.W, b.Y, 1, 1), false)
			}
			if b.Y+b.H <= 9999 {
				expectOverlap(t, "behind its column", b, box(2, b.X, b.Y+b.H, 1, 1), false)
			}
		}
	}
	for _, size := range append(outsideOf(1, 9999), 0, 10000) {
		for _, b := range []impl.Placed{box(1, 0, 0, size, 1), box(1, 0, 0, 1, size), box(1, 0, 0, size, size), box(1, -9999, 0, size, 9999), box(1, 0, -9999, 9999, size)} {
			expectOverlap(t, "itself", b, b, false)
			expectOverlap(t, "its first pixel", b, box(2, b.X, b.Y, 1, 1), false)
			expectOverlap(t, "what is over it", b, box(2, -9999, -9999, 9999, 9999), false)
			expectOverlap(t, "what is behind it", b, box(2, 0, 0, 9999, 9999), false)
		}
	}
}

// X and Y at their bounds and outside.
func TestDoOverlapPlaces(t *testing.T) {
	for _, place := range []int64{-9999, -9998, 9998, 9999} {
		for _, b := range []impl.Placed{box(1, place, 0, 2, 2), box(1, 0, place, 2, 2), box(1, place, place, 2, 2), box(1, place, -place, 9999, 9999)} {
			expectOverlap(t, "itself", b, b, true)
			expectOverlap(t, "its first pixel", b, box(2, b.X, b.Y, 1, 1), true)
		}
	}
	expectOverlap(t, "up to the last place", box(1, 9999, 9999, 1, 1), box(2, 1, 1, 9999, 9999), true)
	expectOverlap(t, "up to the one ahead of it, X", box(1, 9999, 9999, 1, 1), box(2, 0, 1, 9999, 9999), false)
	expectOverlap(t, "up to the one ahead of it, Y", box(1, 9999, 9999, 1, 1), box(2, 1, 0, 9999, 9999), false)
	expectOverlap(t, "from the first place on", box(1, -9999, -9999, 9999, 9999), box(2, -1, -1, 1, 1), true)
	expectOverlap(t, "and no farther, X", box(1, -9999, -9999, 9999, 9999), box(2, 0, -1, 1, 1), false)
	expectOverlap(t, "and no farther, Y", box(1, -9999, -9999, 9999, 9999), box(2, -1, 0, 1, 1), false)
	for _, place := range append(outsideOf(-9999, 9999), -10000, 10000, math.MaxInt64-9999, math.MinInt64+9999) {
		for _, b := range []impl.Placed{box(1, place, 0, 9999, 9999), box(1, 0, place, 9999, 9999), box(1, place, place, 1, 1), box(1, place, place, 9999, 9999)} {
			expectOverlap(t, "itself", b, b, false)
			expectOverlap(t, "what is behind it", b, box(2, -9999, 0, 9999, 9999), false)
			expectOverlap(t, "what is ahead of it", b, box(2, 9999, 9999, 9999, 9999), false)
			expectOverlap(t, "what is in the middle", b, box(2, 0, 0, 9999, 9999), false)
		}
	}
}

// overlapAs tells whether two boxes overlap by what the document says of it,
// with the pixels of each row and column counted from the lower one on.
func overlapAs(a, b impl.Placed) bool {
	for _, p := range []impl.Placed{a, b} {
		if min(p.W, p.H) < 1 || max(p.W, p.H) > 9999 || min(p.X, p.Y) < -9999 || max(p.X, p.Y) > 9999 {
			return false
		}
	}
	common := func(from, count, other, otherCount int64) int64 {
		return min(from+count, other+otherCount) - max(from, other)
	}
	return common(a.X, a.W, b.X, b.W) > 0 && common(a.Y, a.H, b.Y, b.H) > 0
}

// strangePlaced is a box that is often none.
func strangePlaced(n *numbers) impl.Placed {
	b := box(strangeNumber(n), n.next(-3, 8), n.next(-3, 4), n.next(0, 12), n.next(0, 4))
	if n.next(0, 1) == 0 {
		return b
	}
	for range n.next(1, 2) {
		edges := []int64{-10000, -9999, -9998, -1, 0, 1, 9998, 9999, 10000, math.MinInt64, math.MaxInt64, 1 << 32, 1<<32 + 1, math.MaxInt64 - 5}
		field := []*int64{&b.X, &b.Y, &b.W, &b.H}[n.next(0, 3)]
		*field = edges[n.next(0, int64(len(edges)-1))]
	}
	return b
}

func TestDoOverlapAgainstTheDocument(t *testing.T) {
	n := numbers(123)
	seen := map[bool]int{}
	for range 30000 {
		a, b := strangePlaced(&n), strangePlaced(&n)
		want := overlapAs(a, b)
		expectOverlap(t, "any", a, b, want)
		seen[want]++
	}
	if seen[true] < 1500 || seen[false] < 1500 {
		t.Error("the test asks for little", seen)
	}
}

func expectPlaced(t *testing.T, what string, got impl.PlacedResult, want ...impl.Placed) {
	t.Helper()
	if got.Code != impl.OK || !slices.Equal(got.Placed, want) {
		t.Errorf("%s: %v, not %v", what, got, want)
	}
}

func expectNonePlaced(t *testing.T, what string, got impl.PlacedResult, code int64) {
	t.Helper()
	if !reflect.DeepEqual(got, impl.PlacedResult{Code: code}) {
		t.Errorf("%s: %v, not %d", what, got, code)
	}
}

func TestPlaceLabels(t *testing.T) {
	all := cam(0, 0, 0, 8, 8)
	for _, c := range []struct {
		what string
		list []impl.Feature
		want []impl.Placed
	}{
		{"nil", nil, nil},
		{"none", []impl.Feature{}, nil},
		{"one", []impl.Feature{named(5, 0, 0, 2, 3, "ab")}, []impl.Placed{box(5, 2, 3, 4, 3)}},
		{"no name", []impl.Feature{named(5, 0, 0, 2, 3, "")}, nil},
		{"a name between two without one", []impl.Feature{named(1, 0, 0, 2, 3, ""), named(2, 0, 0, 2, 3, "a"), named(3, 0, 0, 2, 3, "")},
			[]impl.Placed{box(2, 2, 3, 2, 3)}},
		{"two that touch at the side", []impl.Feature{named(1, 0, 0, 0, 0, "ab"), named(2, 0, 0, 4, 0, "ab")},
			[]impl.Placed{box(1, 0, 0, 4, 3), box(2, 4, 0, 4, 3)}},
		{"two that share a column", []impl.Feature{named(1, 0, 0, 0, 0, "ab"), named(2, 0, 0, 3, 0, "ab")},
			[]impl.Placed{box(1, 0, 0, 4, 3)}},
		{"two that touch below", []impl.Feature{named(1, 0, 0, 0, 0, "ab"), named(2, 0, 0, 0, 3, "ab")},
			[]impl.Placed{box(1, 0, 0, 4, 3), box(2, 0, 3, 4, 3)}},
		{"two that share a row", []impl.Feature{named(1, 0, 0, 0, 0, "ab"), named(2, 0, 0, 0, 2, "ab")},
			[]impl.Placed{box(1, 0, 0, 4, 3)}},
		{"two at one pixel", []impl.Feature{named(8, 3, 0, 5, 5, "a"), named(9, 3, 0, 5, 5, "abcdef")},
			[]impl.Placed{box(8, 5, 5, 2, 3)}},
		{"one left out that would overlap one that is left out",
			[]impl.Feature{named(1, 0, 0, 0, 0, "a"), named(2, 0, 0, 1, 1, "ab"), named(3, 0, 0, 3, 3, "a")},
			[]impl.Placed{box(1, 0, 0, 2, 3), box(3, 3, 3, 2, 3)}},
		{"in a row, each over the next one",
			[]impl.Feature{named(1, 0, 0, 0, 0, "ab"), named(2, 1, 0, 1, 0, "ab"), named(3, 2, 0, 4, 0, "ab"), named(4, 3, 0, 5, 0, "ab"), named(5, 4, 0, 7, 2, "ab"), named(6, 5, 0, 7, 3, "ab")},
			[]impl.Placed{box(1, 0, 0, 4, 3), box(3, 4, 0, 4, 3), box(6, 7, 3, 4, 3)}},
		{"one that overlaps two", []impl.Feature{named(1, 0, 0, 0, 0, "ab"), named(2, 0, 0, 6, 0, "ab"), named(3, 0, 0, 2, 1, "abc")},
			[]impl.Placed{box(1, 0, 0, 4, 3), box(2, 6, 0, 4, 3)}},
		{"one that overlaps the last one alone", []impl.Feature{named(1, 0, 0, 0, 0, "a"), named(2, 0, 0, 4, 4, "a"), named(3, 0, 0, 5, 6, "a")},
			[]impl.Placed{box(1, 0, 0, 2, 3), box(2, 4, 4, 2, 3)}},
	} {
		expectPlaced(t, c.what, impl.PlaceLabels(c.list, all), c.want...)
		back := slices.Clone(c.list)
		slices.Reverse(back)
		expectPlaced(t, c.what+", the other way round", impl.PlaceLabels(back, all), c.want...)
	}
}

// The more important one is placed and told first: by Priority, of the same by
// Id, whatever their order and their layers.
func TestPlaceLabelsOrder(t *testing.T) {
	all := cam(0, 0, 0, 8, 8)
	for _, c := range []struct {
		what string
		a, b [2]int64 // Priority and Id
		want int64
	}{
		{"the lower priority", [2]int64{0, 9}, [2]int64{1, 2}, 9},
		{"the lower priority of the greatest Id", [2]int64{8, 999}, [2]int64{9, 1}, 999},
		{"the lower Id", [2]int64{4, 10}, [2]int64{4, 9}, 9},
		{"the lower Id by one", [2]int64{9, 998}, [2]int64{9, 999}, 998},
		{"the lower of both", [2]int64{2, 3}, [2]int64{3, 4}, 3},
	} {
		for layer := range int64(10) {
			a, b := named(c.a[1], c.a[0], 0, 3, 3, "abc"), named(c.b[1], c.b[0], 0, 4, 4, "abc")
			a.Layer, b.Layer = layer, 9-layer
			want := impl.LabelBox(a, 0).Placed[0]
			if c.want == b.Id {
				want = impl.LabelBox(b, 0).Placed[0]
			}
			expectPlaced(t, c.what, impl.PlaceLabels([]impl.Feature{a, b}, all), want)
			expectPlaced(t, c.what, impl.PlaceLabels([]impl.Feature{b, a}, all), want)
		}
	}
	list := []impl.Feature{
		named(7, 2, 0, 0, 0, "a"), named(3, 9, 0, 2, 0, "a"), named(12, 0, 0, 4, 0, "a"), named(100, 2, 0, 6, 0, "a"),
		named(2, 9, 0, 0, 3, "a"), named(999, 0, 0, 2, 3, "a"), named(1, 5, 0, 4, 3, "a"), named(8, 2, 0, 6, 3, "a"),
	}
	expectPlaced(t, "all that fit", impl.PlaceLabels(list, all),
		box(12, 4, 0, 2, 3), box(999, 2, 3, 2, 3), box(7, 0, 0, 2, 3), box(8, 6, 3, 2, 3), box(100, 6, 0, 2, 3), box(1, 4, 3, 2, 3), box(2, 0, 3, 2, 3), box(3, 2, 0, 2, 3))
}

// Anchors at the first and the last pixel that are seen, and one outside on each
// side: those have no label, though it would reach into what is seen, and they
// take no room.
func TestPlaceLabelsSeen(t *testing.T) {
	for _, c := range []impl.Camera{cam(2, 9, 14, 5, 4), cam(3, 31, 31, 1, 1), cam(1, 4, 4, 8, 8), cam(3, 1, 1, 2, 7), cam(2, 23, 23, 8, 8), cam(1, 1, 7, 8, 1)} {
		right, below := c.X+c.W-1, c.Y+c.H-1
		for _, p := range []impl.Point{at(c.X, c.Y), at(right, c.Y), at(c.X, below), at(right, below)} {
			for _, label := range []string{"a", "abcdef"} {
				got := impl.PlaceLabels([]impl.Feature{named(4, 0, c.Z, p.X, p.Y, label)}, c)
				expectPlaced(t, fmt.Sprint(c, p), got, box(4, p.X, p.Y, int64(2*len(label)), 3))
			}
		}
		for _, p := range []impl.Point{
			at(c.X-1, c.Y), at(c.X, c.Y-1), at(c.X-1, c.Y-1), at(right+1, c.Y), at(right, c.Y-1), at(right+1, c.Y-1),
			at(c.X-1, below), at(c.X, below+1), at(c.X-1, below+1), at(right+1, below), at(right, below+1), at(right+1, below+1),
		} {
			out := named(4, 0, c.Z, p.X, p.Y, "abcdef")
			expectPlaced(t, fmt.Sprint(c, p), impl.PlaceLabels([]impl.Feature{out}, c))
			in := named(5, 9, c.Z, c.X, c.Y, "abcdef")
			expectPlaced(t, fmt.Sprint(c, p, "beside one"), impl.PlaceLabels([]impl.Feature{out, in}, c), box(5, c.X, c.Y, 12, 3))
		}
	}
}

// The anchor is that of the zoom of the camera: what is snapped out of its pixel
// is seen in the next one.
func TestPlaceLabelsOfTheZoom(t *testing.T) {
	f := impl.Feature{Id: 6, Kind: impl.KindPoint, Points: []impl.Point{at(127, 0)}, Label: "ab"}
	expectPlaced(t, "its own pixel", impl.PlaceLabels([]impl.Feature{f}, cam(0, 0, 0, 1, 1)))
	expectPlaced(t, "the next one", impl.PlaceLabels([]impl.Feature{f}, cam(0, 1, 0, 1, 1)), box(6, 1, 0, 4, 3))
	f.Points[0] = at(113, 0)
	expectPlaced(t, "nearer, its own pixel", impl.PlaceLabels([]impl.Feature{f}, cam(3, 7, 0, 1, 1)), box(6, 7, 0, 4, 3))
	expectPlaced(t, "nearer, the next one", impl.PlaceLabels([]impl.Feature{f}, cam(3, 8, 0, 1, 1)))
	near, far := named(1, 0, 3, 10, 10, "ab"), named(2, 0, 3, 14, 10, "ab")
	expectPlaced(t, "room for two", impl.PlaceLabels([]impl.Feature{near, far}, cam(3, 8, 8, 8, 8)), box(1, 10, 10, 4, 3), box(2, 14, 10, 4, 3))
	expectPlaced(t, "room for one", impl.PlaceLabels([]impl.Feature{near, far}, cam(2, 4, 4, 8, 8)), box(1, 5, 5, 4, 3))
}

// Each kind is anchored at its first point alone, whatever else of it is seen.
func TestPlaceLabelsOfEachKind(t *testing.T) {
	line := simple(impl.KindLine, at(40, 40), at(1000, 1000))
	area := simple(impl.KindArea, at(1000, 40), at(40, 1000), at(1000, 1000))
	area.Id = 3
	list := []impl.Feature{line, area}
	expectPlaced(t, "both", impl.PlaceLabels(list, cam(0, 0, 0, 8, 8)), box(3, 7, 0, 8, 3))
	expectPlaced(t, "the line", impl.PlaceLabels(list, cam(0, 0, 0, 7, 7)), box(7, 0, 0, 8, 3))
	expectPlaced(t, "neither", impl.PlaceLabels(list, cam(0, 0, 1, 8, 7)))
	expectPlaced(t, "both, farther apart", impl.PlaceLabels(list[:1], cam(1, 0, 0, 8, 8)), box(7, 0, 0, 8, 3))
}

// At the borders of the world: points behind the last pixel are anchored at it,
// and names go on where the world ends.
func TestPlaceLabelsAtTheBorderOfTheWorld(t *testing.T) {
	for z, count := range counts {
		z, last := int64(z), count-1
		corner := cam(z, last, last, 1, 1)
		end := impl.Feature{Id: 9, Kind: impl.KindPoint, Points: []impl.Point{at(1024, 1024)}, Label: "abcdef", Priority: 1}
		expectPlaced(t, "the end", impl.PlaceLabels([]impl.Feature{end}, corner), box(9, last, last, 12, 3))
		ahead := named(8, 2, z, last, last, "a")
		expectPlaced(t, "two of one pixel", impl.PlaceLabels([]impl.Feature{ahead, end}, corner), box(9, last, last, 12, 3))
		ahead.Priority = 0
		expectPlaced(t, "two of one pixel", impl.PlaceLabels([]impl.Feature{end, ahead}, corner), box(8, last, last, 2, 3))
		side := cam(z, count-8, count-8, 8, 8)
		right, below := end, end
		right.Points, right.Id = []impl.Point{at(1024, 0)}, 2
		below.Points, below.Id = []impl.Point{at(0, 1024)}, 3
		want := []impl.Placed{box(9, last, last, 12, 3)}
		if z == 0 {
			want = []impl.Placed{box(2, last, 0, 12, 3), box(3, 0, last, 12, 3)}
		}
		expectPlaced(t, "three corners", impl.PlaceLabels([]impl.Feature{end, right, below}, side), want...)
		first := named(1, 0, z, 0, 0, "abcdef")
		expectPlaced(t, "the first pixel", impl.PlaceLabels([]impl.Feature{first}, cam(z, 0, 0, 1, 1)), box(1, 0, 0, 12, 3))
		beside := named(4, 0, z, last, last-3, "a")
		expectPlaced(t, "one above the end", impl.PlaceLabels([]impl.Feature{beside, end}, side), box(4, last, last-3, 2, 3), box(9, last, last, 12, 3))
		beside = named(4, 0, z, last, last-2, "a")
		expectPlaced(t, "one over the end", impl.PlaceLabels([]impl.Feature{beside, end}, side), box(4, last, last-2, 2, 3))
	}
}

// placeAs are the labels that are placed by what the document says of it, with
// the pixels that are taken kept one by one, and how many are left out.
func placeAs(list []impl.Feature, c impl.Camera) (placed []impl.Placed, left int) {
	return placeBoxesAs(list, c, boxAs)
}

// placeBoxesAs does so with the box that is told of each label.
func placeBoxesAs(list []impl.Feature, c impl.Camera, boxOf func(f impl.Feature, z int64) impl.Placed) (placed []impl.Placed, left int) {
	taken := map[impl.Point]bool{}
	waiting := map[int64]impl.Placed{} // by what comes first
	for _, f := range list {
		b := boxOf(f, c.Z)
		if b.W > 0 && b.X >= c.X && b.X < c.X+c.W && b.Y >= c.Y && b.Y < c.Y+c.H {
			waiting[f.Priority*1000+f.Id] = b
		}
	}
	for _, first := range slices.Sorted(maps.Keys(waiting)) {
		b := waiting[first]
		var needed []impl.Point
		for place := range b.W * b.H {
			needed = append(needed, at(b.X+place%b.W, b.Y+place/b.W))
		}
		if slices.ContainsFunc(needed, func(p impl.Point) bool { return taken[p] }) {
			left++
			continue
		}
		for _, p := range needed {
			taken[p] = true
		}
		placed = append(placed, b)
	}
	return placed, left
}

// namedCrowd are features without a fault whose first points are in what a
// camera sees, or near it, many with a name, and many of one priority.
func namedCrowd(n *numbers, c impl.Camera) []impl.Feature {
	list := n.features(int(n.next(0, 12)))
	unit := units[c.Z]
	for i := range list {
		low, high := at((c.X-1)*unit, (c.Y-1)*unit), at((c.X+c.W+1)*unit, (c.Y+c.H+1)*unit)
		p := at(n.next(low.X, high.X), n.next(low.Y, high.Y))
		list[i].Points[0] = at(min(max(p.X, 0), impl.World), min(max(p.Y, 0), impl.World))
		if n.next(0, 2) > 0 {
			list[i].Label = strings.Repeat("b", int(n.next(1, 2)))
		}
		if n.next(0, 1) == 0 {
			list[i].Priority = 4
		}
	}
	return list
}

func TestPlaceLabelsAgainstTheDocument(t *testing.T) {
	n := numbers(124)
	seen, lefts := map[int]int{}, map[int]int{}
	for range 4000 {
		c := someCamera(&n)
		list := namedCrowd(&n, c)
		want, left := placeAs(list, c)
		got := impl.PlaceLabels(list, c)
		if got.Code != impl.OK || !slices.Equal(got.Placed, want) {
			t.Fatalf("%v of %v: %v, not %v", c, list, got, want)
		}
		seen[len(want)]++
		lefts[left]++
	}
	if seen[0] < 100 || seen[1] < 200 || seen[3] < 200 || seen[4] < 50 || lefts[0] < 200 || lefts[3] < 200 {
		t.Error("the test asks for little", seen, lefts)
	}
}

// As many features as there may be, all of them named.
func TestPlaceLabelsOfMany(t *testing.T) {
	var apart, over []impl.Feature
	var want []impl.Placed
	for i := range int64(impl.MaxFeatures) {
		apart = append(apart, named(i+1, 5, 3, i%4*2, i/4*3, "a"))
		over = append(over, named(i+1, 5, 3, 4, 4, "a"))
		want = append(want, box(i+1, i%4*2, i/4*3, 2, 3))
	}
	expectPlaced(t, "apart", impl.PlaceLabels(apart, cam(3, 0, 0, 8, 8)), want...)
	expectPlaced(t, "over one another", impl.PlaceLabels(over, cam(3, 0, 0, 8, 8)), box(1, 4, 4, 2, 3))
	expectNonePlaced(t, "one more", impl.PlaceLabels(append(apart, named(13, 0, 3, 30, 30, "a")), cam(3, 0, 0, 8, 8)), impl.ErrMany)
}

// The code of the camera, then that of the features, those without a name and
// those that are not seen among them.
func TestPlaceLabelsWrong(t *testing.T) {
	eachWrong(func(what string, list []impl.Feature, c impl.Camera, code int64) {
		expectNonePlaced(t, what, impl.PlaceLabels(list, c), code)
	})
}

func expectLabel(t *testing.T, what string, list []impl.Placed, x, y, want int64) {
	t.Helper()
	if got := impl.LabelAt(list, x, y); got != (impl.IntResult{Value: want}) {
		t.Errorf("%s: %v at %d,%d: %v, not %d", what, list, x, y, got, want)
	}
}

// Each border of a box, and one outside.
func TestLabelAt(t *testing.T) {
	for _, b := range []impl.Placed{box(5, 4, 6, 4, 3), box(5, 0, 0, 1, 1), box(999, 63, 63, 12, 3), box(1, -3, -2, 6, 3), box(2, -1, 5, 2, 3)} {
		list := []impl.Placed{b}
		for y := b.Y - 2; y <= b.Y+b.H+1; y++ {
			for x := b.X - 2; x <= b.X+b.W+1; x++ {
				want := int64(0)
				if x >= b.X && x < b.X+b.W && y >= b.Y && y < b.Y+b.H {
					want = b.Id
				}
				expectLabel(t, "one box", list, x, y, want)
			}
		}
	}
	four := []impl.Placed{box(5, 4, 6, 4, 3)}
	expectLabel(t, "the first pixel", four, 4, 6, 5)
	expectLabel(t, "the last pixel", four, 7, 8, 5)
	expectLabel(t, "behind the row", four, 8, 8, 0)
	expectLabel(t, "below the last row", four, 7, 9, 0)
	expectLabel(t, "ahead of the row", four, 3, 6, 0)
	expectLabel(t, "above the first row", four, 4, 5, 0)
}

func TestLabelAtOfSeveral(t *testing.T) {
	a, b, c := box(8, 0, 0, 4, 3), box(3, 2, 1, 4, 3), box(6, 20, 20, 1, 1)
	expectLabel(t, "nil", nil, 0, 0, 0)
	expectLabel(t, "none", []impl.Placed{}, 0, 0, 0)
	expectLabel(t, "the first of two", []impl.Placed{a, b, c}, 3, 2, 8)
	expectLabel(t, "the first of two, the other way round", []impl.Placed{c, b, a}, 3, 2, 3)
	expectLabel(t, "the first one alone", []impl.Placed{a, b, c}, 1, 2, 8)
	expectLabel(t, "the next one alone", []impl.Placed{a, b, c}, 4, 2, 3)
	expectLabel(t, "the last one", []impl.Placed{a, b, c}, 20, 20, 6)
	expectLabel(t, "between", []impl.Placed{a, b, c}, 10, 10, 0)
	expectLabel(t, "the Id as it is", []impl.Placed{box(-5, 1, 1, 1, 1)}, 1, 1, -5)
	expectLabel(t, "the greatest Id", []impl.Placed{box(math.MaxInt64, 1, 1, 1, 1)}, 1, 1, math.MaxInt64)
	expectLabel(t, "an Id of 0 in front", []impl.Placed{box(0, 1, 1, 1, 1), box(4, 1, 1, 1, 1)}, 1, 1, 0)
	expectLabel(t, "an Id twice", []impl.Placed{box(7, 1, 1, 1, 1), box(7, 3, 1, 1, 1)}, 3, 1, 7)
	expectLabel(t, "what is no box is passed by", []impl.Placed{box(1, 1, 1, 0, 3), box(2, 1, 1, 10000, 3), box(3, -10000, 1, 9999, 3), box(4, 1, 1, 1, 1)}, 1, 1, 4)
}

func TestLabelAtMany(t *testing.T) {
	var list []impl.Placed
	for i := range int64(13) {
		list = append(list, box(100+i, 2*i, 0, 2, 3))
	}
	for count := range 13 {
		for i := range int64(13) {
			want := 100 + i
			if i >= int64(count) {
				want = 0
			}
			expectLabel(t, "each one", list[:count], 2*i+1, 2, want)
		}
	}
	for _, many := range [][]impl.Placed{list, make([]impl.Placed, 13), make([]impl.Placed, 5000)} {
		for _, place := range []int64{0, 3, 1000, math.MinInt64, math.MaxInt64} {
			if got := impl.LabelAt(many, place, 0); got != (impl.IntResult{Code: impl.ErrMany}) {
				t.Errorf("%d at %d: %v", len(many), place, got)
			}
		}
	}
}

// Pixels far away: no box of one pixel is there, whatever the list has.
func TestLabelAtFar(t *testing.T) {
	list := []impl.Placed{
		box(1, 0, 0, 9999, 9999), box(2, -9999, -9999, 9999, 9999), box(3, 9999, 9999, 9999, 9999),
		box(4, 9999, -9999, 9999, 9999), box(5, -9999, 9999, 9999, 9999),
	}
	for _, c := range [][3]int64{
		{0, 0, 1}, {9998, 9998, 1}, {9998, 0, 1}, {-1, -1, 2}, {-9999, -9999, 2}, {9999, 9999, 3}, {9999, -9999, 4}, {9999, -1, 4},
		{-9999, 9999, 5}, {-1, 9999, 5}, {9998, 9999, 0}, {9999, 9998, 0}, {-1, 0, 0}, {0, -1, 0},
	} {
		expectLabel(t, "near", list, c[0], c[1], c[2])
	}
	for _, place := range append(outsideOf(-9999, 9999), -10000, 10000) {
		for _, beside := range []int64{-9999, -1, 0, 1, 9999} {
			expectLabel(t, "far", append(list, box(9, place, place, 1, 1)), place, beside, 0)
			expectLabel(t, "far", append(list, box(9, place, beside, 1, 1)), beside, place, 0)
			expectLabel(t, "far", append(list, box(9, place, place, 9999, 9999)), place, place, 0)
		}
	}
}
