package tests

import (
	"reflect"
	"slices"
	"testing"

	"loop.example/g00403/impl"
)

// comesAhead tells whether the name of a is more important than that of b.
func comesAhead(a, b impl.Feature) bool {
	return a.Priority < b.Priority || a.Priority == b.Priority && a.Id < b.Id
}

// ofId is the feature of a list that has an Id.
func ofId(t *testing.T, list []impl.Feature, id int64) impl.Feature {
	t.Helper()
	place := slices.IndexFunc(list, func(f impl.Feature) bool { return f.Id == id })
	if place < 0 {
		t.Fatalf("%v has no %d", list, id)
	}
	return list[place]
}

// isAnchored tells whether a feature has a name and its anchor is seen.
func isAnchored(f impl.Feature, c impl.Camera) bool {
	p := impl.AnchorOf(f, c.Z).Point
	return f.Label != "" && p.X >= c.X && p.X <= c.X+c.W-1 && p.Y >= c.Y && p.Y <= c.Y+c.H-1
}

// expectApart asks of labels that no two overlap, in a pixel or by what is told.
func expectApart(t *testing.T, placed []impl.Placed) {
	t.Helper()
	for i, a := range placed {
		for _, b := range placed[:i] {
			if impl.DoOverlap(a, b) || impl.DoOverlap(b, a) || hasPixel(a, b) {
				t.Fatalf("%v: %v and %v overlap", placed, a, b)
			}
		}
	}
}

// expectLabels asks for P11 of what is placed, and tells how many labels are,
// and how many are left out.
func expectLabels(t *testing.T, list []impl.Feature, c impl.Camera) (count, left int) {
	t.Helper()
	got := impl.PlaceLabels(list, c)
	if got.Code != impl.OK {
		t.Fatalf("%v of %v: %v", c, list, got)
	}
	expectApart(t, got.Placed)
	for i, p := range got.Placed {
		f := ofId(t, list, p.Id)
		if !isAnchored(f, c) || !reflect.DeepEqual(impl.LabelBox(f, c.Z).Placed, got.Placed[i:i+1]) {
			t.Fatalf("%v of %v: %v is not the label of %v there", c, list, p, f)
		}
		if i > 0 && !comesAhead(ofId(t, list, got.Placed[i-1].Id), f) {
			t.Fatalf("%v of %v: %v are not in order", c, list, got)
		}
	}
	for _, f := range list {
		isPlaced := slices.ContainsFunc(got.Placed, func(p impl.Placed) bool { return p.Id == f.Id })
		if isPlaced || !isAnchored(f, c) {
			continue
		}
		left++
		isOver := func(p impl.Placed) bool {
			return comesAhead(ofId(t, list, p.Id), f) && impl.DoOverlap(p, impl.LabelBox(f, c.Z).Placed[0])
		}
		if !slices.ContainsFunc(got.Placed, isOver) {
			t.Fatalf("%v of %v: %v, but there is room for %v", c, list, got, f)
		}
	}
	return len(got.Placed), left
}

// P11: no two labels overlap, each is anchored in what is seen, and each that is
// left out overlaps one that comes ahead of it.
func TestPromise11Labels(t *testing.T) {
	n := numbers(131)
	several, lefts := 0, 0
	for range 5000 {
		c := someCamera(&n)
		count, left := expectLabels(t, namedCrowd(&n, c), c)
		if count > 1 {
			several++
		}
		if left > 0 {
			lefts++
		}
	}
	if several < 1000 || lefts < 1000 {
		t.Error("the test asks for little", several, lefts)
	}
}

// P11: the same of all cameras that see names at all borders of the world and of
// tiles.
func TestPromise11LabelsAtBorders(t *testing.T) {
	n := numbers(132)
	several, lefts := 0, 0
	ends := []int64{0, 1, 255, 256, 511, 512, 513, 767, 768, 1023, 1024}
	for z := range int64(3) {
		for _, c := range camerasOf(z, []int64{1, 5, 8}, []int64{1, 4, 8}) {
			var list []impl.Feature
			for id := range n.next(2, 12) {
				f := wide(impl.KindPoint, id%4, at(ends[n.next(0, 10)], ends[n.next(0, 10)]))
				f.Id, f.Priority, f.Label = id+1, n.next(0, 2), n.label()
				list = append(list, f)
			}
			count, left := expectLabels(t, list, c)
			several += count
			lefts += left
		}
	}
	if several < 400 || lefts < 200 {
		t.Error("the test asks for little", several, lefts)
	}
}

// P11: of two names at each distance both are there, or the one ahead.
func TestPromise11EachTwo(t *testing.T) {
	c := cam(3, 24, 24, 8, 8)
	for dx := int64(-4); dx <= 3; dx++ {
		for dy := int64(-4); dy <= 3; dy++ {
			for _, labels := range [][2]string{{"a", "a"}, {"ab", "a"}, {"a", "ab"}, {"abcdef", "abcdef"}} {
				a, b := named(1, 4, 3, 28, 28, labels[0]), named(2, 4, 3, 28+dx, 28+dy, labels[1])
				count, left := expectLabels(t, []impl.Feature{b, a}, c)
				width := [2]int64{int64(2 * len(labels[0])), int64(2 * len(labels[1]))}
				isOver := dx < width[0] && -dx < width[1] && dy < 3 && -dy < 3
				if isOver && (count != 1 || left != 1) || !isOver && (count != 2 || left != 0) {
					t.Fatalf("%v by %d,%d: %d, and %d left out", labels, dx, dy, count, left)
				}
			}
		}
	}
}

// expectInItsTile asks of each feature for the tile in which its anchor is: it
// has the feature, built and served.
func expectInItsTile(t *testing.T, list []impl.Feature, z int64) {
	t.Helper()
	for _, f := range list {
		p := impl.AnchorOf(f, z)
		r := impl.RefAt(z, p.Point.X, p.Point.Y)
		if p.Code != impl.OK || r.Code != impl.OK {
			t.Fatalf("%v at %d: %v in %v", f, z, p, r)
		}
		built := impl.BuildTile(list, r.Ref)
		if !reflect.DeepEqual(ofId(t, built.Tile.Features, f.Id), impl.SimpleAt(f, z).Feature) {
			t.Fatalf("%v at %d: %v of %v has it not", f, z, built, r)
		}
		read := impl.ReadTile(r.Ref, impl.ServeTile(list, r.Ref).Bytes)
		if ofId(t, read.Tile.Features, f.Id).Label != f.Label {
			t.Fatalf("%v at %d: %v has not its name", f, z, read)
		}
	}
}

// P11: the tile in which the anchor of a feature is has it.
func TestPromise11TileOfTheAnchor(t *testing.T) {
	n := numbers(133)
	for range 400 {
		expectInItsTile(t, someMap(&n), n.next(0, 3))
		expectInItsTile(t, crowd(&n), n.next(0, 3))
		c := someCamera(&n)
		expectInItsTile(t, namedCrowd(&n, c), c.Z)
	}
	for _, list := range borderMaps(&n) {
		for z := range int64(4) {
			expectInItsTile(t, list, z)
		}
	}
}

// P11: the same of points of each width, on and beside each border of tiles and
// of the world, and of lines that go away from there.
func TestPromise11TileOfTheAnchorAtBorders(t *testing.T) {
	var ends []int64
	for border := int64(0); border <= impl.World; border += 128 {
		for _, x := range []int64{border - 17, border - 16, border - 2, border - 1, border, border + 1, border + 2} {
			if x >= 0 && x <= impl.World {
				ends = append(ends, x)
			}
		}
	}
	for _, width := range []int64{0, 3} {
		for i, x := range ends {
			for _, y := range []int64{0, x, ends[len(ends)-1-i], impl.World} {
				point := wide(impl.KindPoint, width, at(x, y))
				line := wide(impl.KindLine, width, at(x, y), at(1024-x, 1024-y))
				line.Id = 8
				for z := range int64(4) {
					expectInItsTile(t, []impl.Feature{line, point}, z)
				}
			}
		}
	}
}

// P11: what is placed comes of the tiles that are seen: these alone place the
// same.
func TestPromise11LabelsOfTheTiles(t *testing.T) {
	n := numbers(134)
	seen := 0
	for range 600 {
		c := someCamera(&n)
		list := namedCrowd(&n, c)
		var told []impl.Feature
		for _, f := range list {
			for _, r := range impl.VisibleRefs(c).Refs {
				has := func(one impl.Feature) bool { return one.Id == f.Id }
				if slices.ContainsFunc(impl.BuildTile(list, r).Tile.Features, has) && !slices.ContainsFunc(told, has) {
					told = append(told, f)
				}
			}
		}
		want := impl.PlaceLabels(list, c)
		expectPlaced(t, "of the tiles", impl.PlaceLabels(told, c), want.Placed...)
		seen += len(want.Placed)
	}
	if seen < 500 {
		t.Error("the test asks for little", seen)
	}
}

// labelAnswers is what the layer of labels answers of the same arguments.
type labelAnswers struct {
	anchor impl.PointResult
	box    impl.PlacedResult
	isOver bool
	placed impl.PlacedResult
	at     impl.IntResult
}

// labelCall are these arguments.
type labelCall struct {
	f     impl.Feature
	z     int64
	a, b  impl.Placed
	list  []impl.Feature
	c     impl.Camera
	boxes []impl.Placed
	x, y  int64
}

func (c labelCall) ask() labelAnswers {
	return labelAnswers{
		anchor: impl.AnchorOf(c.f, c.z),
		box:    impl.LabelBox(c.f, c.z),
		isOver: impl.DoOverlap(c.a, c.b),
		placed: impl.PlaceLabels(c.list, c.c),
		at:     impl.LabelAt(c.boxes, c.x, c.y),
	}
}

// copy is the same call in memory of its own.
func (c labelCall) copy() labelCall {
	c.f = copyOf([]impl.Feature{c.f})[0]
	c.list = copyOf(c.list)
	c.boxes = slices.Clone(c.boxes)
	return c
}

// memory is all that a call has in memory, what is behind the ends of its lists
// with it.
func (c labelCall) memory() labelCall {
	c.f = whole([]impl.Feature{c.f})[0]
	c.list = whole(c.list)
	c.boxes = slices.Clone(c.boxes[:cap(c.boxes)])
	return c
}

// spoil writes over all that a call has in memory.
func (c labelCall) spoil() {
	spoil([]impl.Feature{c.f})
	spoil(c.list)
	spoilPlaced(c.boxes)
}

// spoilPlaced writes over all that boxes have in memory.
func spoilPlaced(list []impl.Placed) {
	for i := range list[:cap(list)] {
		list[:cap(list)][i] = box(-7, -7, -7, -7, -7)
	}
}

// strangeBoxes are boxes of which some are none, with room behind their end.
func strangeBoxes(n *numbers) []impl.Placed {
	var list []impl.Placed
	for range n.next(1, 15) {
		list = append(list, strangePlaced(n))
	}
	return list[:len(list)-1]
}

// strangeLabelCall is a call of which anything may be wrong.
func strangeLabelCall(n *numbers) labelCall {
	c := labelCall{
		f: strangeFeature(n), z: n.next(-1, 4), a: strangePlaced(n), b: strangePlaced(n),
		list: strangeFeatures(n), c: strangeCamera(n), boxes: strangeBoxes(n), x: n.next(-3, 12), y: n.next(-3, 6),
	}
	switch n.next(0, 9) {
	case 0:
		c.z = strangeNumber(n)
	case 1:
		c.x = strangeNumber(n)
	case 2:
		c.y = strangeNumber(n)
	case 3:
		c.b = c.a
	}
	if impl.CameraFault(c.c) == impl.OK && n.next(0, 1) == 0 {
		c.list = append(namedCrowd(n, c.c), n.feature(1))
		c.list = c.list[:len(c.list)-1]
	}
	return c
}

// labelAs is the Id of the first of boxes that has a pixel, or 0.
func labelAs(boxes []impl.Placed, x, y int64) int64 {
	for _, b := range boxes {
		if overlapAs(b, box(0, x, y, 1, 1)) {
			return b.Id
		}
	}
	return 0
}

// codes are the codes that the document asks for, and what is told beside them
// where that is a number.
func (c labelCall) codes() []int64 {
	zoom, none, many := int64(impl.OK), int64(impl.OK), int64(impl.OK)
	if c.z < 0 || c.z > 3 {
		zoom = impl.ErrRange
	}
	if c.f.Label == "" {
		none = impl.ErrNone
	}
	value := labelAs(c.boxes, c.x, c.y)
	if len(c.boxes) > 12 {
		many, value = impl.ErrMany, 0
	}
	return []int64{
		firstOf(zoom, impl.FeatureFault(c.f)),
		firstOf(zoom, impl.FeatureFault(c.f), none),
		isSeenAs(overlapAs(c.a, c.b)),
		firstOf(cameraCodeAs(c.c), impl.FeaturesFault(c.list)),
		many,
		value,
	}
}

func (a labelAnswers) codes() []int64 {
	return []int64{a.anchor.Code, a.box.Code, isSeenAs(a.isOver), a.placed.Code, a.at.Code, a.at.Value}
}

// isZero tells whether all that stands beside a code is zero.
func (a labelAnswers) isZero() bool {
	return (a.anchor.Code == impl.OK || a.anchor.Point == impl.Point{}) &&
		(a.box.Code == impl.OK || a.box.Placed == nil) &&
		(a.placed.Code == impl.OK || a.placed.Placed == nil) &&
		(a.at.Code == impl.OK || a.at.Value == 0)
}

// P1, chapter 10: an answer at every argument.
func TestPromise1OfLabels(t *testing.T) {
	n := numbers(135)
	of := []int64{impl.ErrRange, impl.ErrMany, impl.ErrText}
	expectAnswers(t, 10000, func() labelCall { return strangeLabelCall(&n) },
		of, append(slices.Clone(of), impl.ErrNone), []int64{1}, append(slices.Clone(of), impl.ErrTaken), []int64{impl.ErrMany}, []int64{1, 999})
	for range 200 {
		c := labelCall{c: someCamera(&n), x: n.next(-3, 12)}
		other := c
		other.f.Points, other.list, other.boxes = []impl.Point{}, []impl.Feature{}, []impl.Placed{}
		if !reflect.DeepEqual(c.ask(), other.ask()) {
			t.Error("an empty list is not nil", c)
		}
	}
}

// P1, chapter 10: an answer shares no memory with an argument, nor with another
// answer, and none hangs on what became of those.
func TestPromise1OfLabelsNewMemory(t *testing.T) {
	n := numbers(136)
	seen := 0
	for range 2000 {
		c := labelCall{f: road(), z: n.next(0, 3), a: strangePlaced(&n), b: strangePlaced(&n), c: someCamera(&n)}
		c.list = append(namedCrowd(&n, c.c), n.feature(1))
		c.list = c.list[:len(c.list)-1]
		c.boxes = append(impl.PlaceLabels(c.list, c.c).Placed, box(5, 0, 0, 2, 3))
		c.boxes = c.boxes[:len(c.boxes)-1]
		c.x, c.y = c.c.X, c.c.Y
		given := c.memory()
		got, kept := c.ask(), c.ask()
		if firstOf(kept.anchor.Code, kept.box.Code, kept.placed.Code, kept.at.Code) != impl.OK {
			t.Fatalf("%v: %v", c, kept)
		}
		seen += len(kept.placed.Placed)
		spoilPlaced(got.box.Placed)
		spoilPlaced(got.placed.Placed)
		expectOwnMemory(t, c, given, kept, c.spoil)
	}
	if seen < 1000 {
		t.Error("the test asks for little", seen)
	}
}

// P1, chapter 10: what is placed does not hang on the order in which features
// came.
func TestPromise1OfLabelsInWhateverOrder(t *testing.T) {
	n := numbers(137)
	for range 1000 {
		c := someCamera(&n)
		list := namedCrowd(&n, c)
		expectInWhateverOrder(t, &n, list, func() impl.PlacedResult { return impl.PlaceLabels(list, c) })
	}
}
