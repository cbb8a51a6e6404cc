package tests

import (
	"fmt"
	"math"
	"reflect"
	"slices"
	"testing"

	"loop.example/g00403/impl"
)

// verdict is what is told of a viewer and a map.
type verdict struct {
	holds, frame, labels, picks bool
}

var allRight = verdict{true, true, true, true}

func judge(list []impl.Feature, v impl.Viewer) verdict {
	return verdict{impl.HoldsTrue(list, v), impl.FrameRight(list, v), impl.LabelsRight(list, v), impl.PickRight(list, v)}
}

func expectVerdict(t *testing.T, what string, list []impl.Feature, v impl.Viewer, want verdict) {
	t.Helper()
	if got := judge(list, v); got != want {
		t.Errorf("%s: %v of %v: %v, not %v", what, v, list, got, want)
	}
}

// holdsAs is HoldsTrue by what the document says of it.
func holdsAs(list []impl.Feature, v impl.Viewer) bool {
	for _, k := range v.Cache.Kept {
		want := tileAs(list, k.Tile.Ref)
		if len(want)+len(k.Tile.Features) > 0 && !reflect.DeepEqual(k.Tile.Features, want) {
			return false
		}
	}
	return true
}

// chart is a map with its points, doubled, of each zoom, and what was found of it
// pixel by pixel.
type chart struct {
	list   []impl.Feature
	points [4][][]impl.Point
	found  map[impl.Ref]int64 // by the pixel and its zoom
}

func chartOf(list []impl.Feature) *chart {
	m := &chart{list: list, found: map[impl.Ref]int64{}}
	for z := range m.points {
		for _, f := range list {
			m.points[z] = append(m.points[z], doubledAs(f, int64(z)))
		}
	}
	return m
}

// at is what the map has at a pixel by what the document says of it, in fractions
// of any size.
func (m *chart) at(z, x, y int64) int64 {
	if id, ok := m.found[ref(z, x, y)]; ok {
		return id
	}
	var front impl.Feature
	for i, f := range m.list {
		if (front.Id == 0 || isInFront(f, front)) && coversAs(f, m.points[z][i], z, x, y) {
			front = f
		}
	}
	m.found[ref(z, x, y)] = front.Id
	return front.Id
}

// seenBy is what the map has at a pixel of the world, as far as it has come to a
// viewer: of all tiles in which the middle of the pixel lies, but nearer ones, the
// one of the nearest zoom tells at which zoom the map is asked.
func (m *chart) seenBy(v impl.Viewer, x, y int64) int64 {
	unit := units[v.Camera.Z]
	zoom, spot := int64(-1), impl.Point{}
	for _, k := range v.Cache.Kept {
		r := k.Tile.Ref
		p := at((2*x+1)*unit/(2*units[r.Z]), (2*y+1)*unit/(2*units[r.Z]))
		if r.Z <= v.Camera.Z && r.Z > zoom && p.X/8 == r.X && p.Y/8 == r.Y {
			zoom, spot = r.Z, p
		}
	}
	if zoom < 0 {
		return 0
	}
	return m.at(zoom, spot.X, spot.Y)
}

// frameRightAs is FrameRight by what the document says of it.
func frameRightAs(list []impl.Feature, v impl.Viewer) bool {
	m := chartOf(list)
	for place, id := range frameIn(v) {
		x, y := v.Camera.X+int64(place)%v.Camera.W, v.Camera.Y+int64(place)/v.Camera.W
		if id != m.seenBy(v, x, y) {
			return false
		}
	}
	return true
}

// labelsRightAs is LabelsRight by what the document says of it.
func labelsRightAs(list []impl.Feature, v impl.Viewer) bool {
	placed, _ := placeAs(list, v.Camera)
	return !isCompleteAs(v) || slices.Equal(labelsAs(v), placed)
}

// picksRightAs is PickRight by what the document says of it.
func picksRightAs(list []impl.Feature, v impl.Viewer) bool {
	c, m := v.Camera, chartOf(list)
	placed, _ := placeAs(list, c)
	for place := range c.W * c.H {
		x, y := place%c.W, place/c.W
		id := m.at(c.Z, c.X+x, c.Y+y)
		for _, b := range placed {
			if hasPixel(b, box(0, c.X+x, c.Y+y, 1, 1)) {
				id = b.Id
			}
		}
		if pickAs(v, x, y) != id {
			return !isCompleteAs(v)
		}
	}
	return true
}

// judgeAs is the verdict of a viewer and a map without a fault.
func judgeAs(list []impl.Feature, v impl.Viewer) verdict {
	return verdict{holdsAs(list, v), frameRightAs(list, v), labelsRightAs(list, v), picksRightAs(list, v)}
}

// builtOf are the tiles of a map by what the document says of them.
func builtOf(list []impl.Feature, refs ...impl.Ref) []impl.Tile {
	var tiles []impl.Tile
	for _, r := range refs {
		tiles = append(tiles, impl.Tile{Ref: r, Features: tileAs(list, r)})
	}
	return tiles
}

// expectAnswered asks for the tile of r as the map has it: what is there then,
// and what is asked for.
func expectAnswered(t *testing.T, what string, list []impl.Feature, v impl.Viewer, r impl.Ref, cache impl.Cache, requests ...impl.Request) {
	t.Helper()
	want := v
	want.Cache, want.Requests = cache, requests
	if got := impl.AnswerOne(list, v, r); !reflect.DeepEqual(got, impl.ViewerResult{Took: true, Viewer: want}) {
		t.Errorf("%s: %v, not %v", what, got, want)
	}
}

// expectUnasked asks that nothing changes but the count.
func expectUnasked(t *testing.T, what string, list []impl.Feature, v impl.Viewer, r impl.Ref) {
	t.Helper()
	want := v
	want.Bad = min(v.Bad+1, 9999)
	expectViewer(t, what, impl.AnswerOne(list, v, r), nil, want)
}

// expectDrained asks for the tiles of all that was asked for.
func expectDrained(t *testing.T, what string, list []impl.Feature, v impl.Viewer, cache impl.Cache) {
	t.Helper()
	want := v
	want.Cache, want.Requests = cache, nil
	if got := impl.DrainViewer(list, v); !reflect.DeepEqual(got, impl.ViewerResult{Took: len(v.Requests) > 0, Viewer: want}) {
		t.Errorf("%s: %v, not %v", what, got, want)
	}
}

// harbour is a map that is not told in order, with features in one, two and four
// of the tiles that four sees, and one that is in none of them.
func harbour() []impl.Feature {
	sea := wide(impl.KindArea, 0, at(0, 300), at(1024, 300), at(1024, 1024), at(0, 1024))
	sea.Id, sea.Layer, sea.Label = 90, 0, ""
	pier := wide(impl.KindLine, 0, at(100, 200), at(340, 200))
	pier.Id, pier.Layer, pier.Label, pier.Priority = 50, 1, "pier", 6
	return []impl.Feature{
		named(12, 2, 2, 7, 7, "ab"),
		pier,
		named(400, 0, 2, 30, 2, "far"),
		named(7, 5, 2, 11, 10, "c"),
		sea,
	}
}

// Each of four tiles that are asked for, in whatever order that was: taken as it
// is on the map, and asked for no more.
func TestAnswerOne(t *testing.T) {
	list := harbour()
	v := impl.NewViewer(four(), 5).Viewer
	v.Cache = cacheOf(5, spotted(ref(3, 2, 2), 6))
	for range 4 {
		for place, q := range v.Requests {
			rest := slices.Delete(slices.Clone(v.Requests), place, place+1)
			tile := builtOf(list, q.Ref)[0]
			want := cacheAnd(v.Cache, keptAs(tile))
			expectAnswered(t, fmt.Sprint(q.Ref), list, v, q.Ref, want, rest...)
			got := impl.AnswerOne(list, v, q.Ref)
			if heard := impl.ReplyViewer(v, q.Ref, listAs(tile.Features)); !reflect.DeepEqual(got, heard) {
				t.Errorf("%v: %v, heard %v", q.Ref, got, heard)
			}
			// of a map with nothing on it, and of one that is told in another order
			expectAnswered(t, "nothing", nil, v, q.Ref, cacheAnd(v.Cache, keptAs(tileOf(q.Ref))), rest...)
			back := harbour()
			slices.Reverse(back)
			expectAnswered(t, "in another order", back, v, q.Ref, want, rest...)
		}
		v.Requests = append(v.Requests[1:], v.Requests[0])
	}
	// the time, the count, and when it is due are not asked
	late := looking(four(), 9000, cacheOf(4), req(ref(2, 1, 0), 0, 99), req(ref(2, 0, 0), 9999, 1))
	late.Bad = 9999
	expectAnswered(t, "late", list, late, ref(2, 1, 0), cacheOf(4, builtOf(list, ref(2, 1, 0))...), late.Requests[1])
}

// Each tile by itself: of all zooms, at the places of all refs.
func TestAnswerOneOfAllRefs(t *testing.T) {
	n := numbers(221)
	for _, r := range allRefs() {
		list := someMap(&n)
		v := impl.NewViewer(cam(r.Z, 8*r.X, 8*r.Y, 8, 8), 4).Viewer
		expectAnswered(t, fmt.Sprint(r), list, v, r, cacheOf(4, builtOf(list, r)...))
	}
}

// Refs that were not asked for, right ones: of what is there already, of what is
// seen and was not asked for, of what is not seen.
func TestAnswerOneNotAskedFor(t *testing.T) {
	for _, bad := range []int64{0, 1, 9998, 9999} {
		v := halfway()
		v.Bad = bad
		some := looking(four(), 5, cacheOf(4, spotted(ref(2, 0, 0), 3)), req(ref(2, 1, 1), 6, 1))
		some.Bad = bad
		none := looking(cam(0, 3, 3, 2, 2), 5, cacheOf(4, tileOf(ref(0, 0, 0))))
		none.Bad = bad
		for _, v := range []impl.Viewer{v, some, none} {
			for _, r := range allRefs() {
				if !slices.Contains(refsAsked(v.Requests), r) {
					expectUnasked(t, fmt.Sprint(r), harbour(), v, r)
					expectUnasked(t, fmt.Sprint(r), nil, v, r)
				}
			}
		}
	}
	v := impl.NewViewer(four(), 4).Viewer
	for _, q := range v.Requests {
		taken := impl.AnswerOne(harbour(), v, q.Ref).Viewer
		expectUnasked(t, "twice", harbour(), taken, q.Ref)
		away := impl.PanViewer(v, 20, 20).Viewer
		expectUnasked(t, "out of sight", harbour(), away, q.Ref)
	}
}

// A ref with a fault is no reply: it has a code, and is not counted.
func TestAnswerOneOfWrongRefs(t *testing.T) {
	for _, v := range []impl.Viewer{halfway(), impl.NewViewer(cam(0, 0, 0, 8, 8), 4).Viewer, looking(four(), 5, cacheOf(4))} {
		for _, r := range wrongRefs() {
			expectNoViewer(t, fmt.Sprint(r), impl.AnswerOne(harbour(), v, r), impl.ErrRange)
			expectNoViewer(t, fmt.Sprint(r), impl.AnswerOne(nil, v, r), impl.ErrRange)
		}
	}
}

// Into a cache that is full: what was not asked for for the longest time goes,
// also where it is seen.
func TestAnswerOneOfAFullCache(t *testing.T) {
	list, r := harbour(), ref(2, 1, 1)
	tile := builtOf(list, r)[0]
	old := []impl.Tile{spotted(ref(0, 0, 0), 1), spotted(ref(2, 0, 0), 5), spotted(ref(3, 7, 7), 2), spotted(ref(1, 1, 1), 3)}
	for range old {
		v := looking(four(), 5, cacheOf(4, old...), req(ref(2, 0, 1), 6, 1), req(r, 7, 1))
		expectAnswered(t, "full", list, v, r, cacheOf(4, old[1], old[2], old[3], tile), v.Requests[0])
		v.Cache.Size = 5
		expectAnswered(t, "with room for one", list, v, r, cacheOf(5, old[0], old[1], old[2], old[3], tile), v.Requests[0])
		old = append(old[1:], old[0])
	}
}

// No request, whatever is there or missing: nothing changes, and none was taken.
func TestDrainViewerOfNone(t *testing.T) {
	list := harbour()
	for _, cache := range []impl.Cache{cacheOf(4), cacheOf(10, spots(10)...), cacheOf(4, builtOf(list, refsAs(four())...)...), cacheOf(5, spotted(ref(2, 0, 0), 3))} {
		v := looking(four(), 50, cache)
		v.Bad = 12
		expectDrained(t, "none", list, v, cache)
		expectDrained(t, "none, and nothing on the map", nil, v, cache)
	}
}

// One, two, three and four requests, in whatever order: each is answered in that
// order. What is missing and was not asked for stays away.
func TestDrainViewer(t *testing.T) {
	n := numbers(222)
	seen := map[int]int{}
	for range 200 {
		list := someMap(&n)
		if n.next(0, 2) == 0 {
			list = harbour()
		}
		refs := refsAs(four())
		shuffle(&n, refs)
		refs = refs[:n.next(0, 4)]
		v := looking(four(), n.next(0, 9000), cacheOf(n.next(5, 10), spotted(ref(3, 5, 5), 4)))
		v.Bad = n.next(0, 9999)
		for _, r := range refs {
			v.Requests = append(v.Requests, req(r, n.next(0, 9999), n.next(1, 99)))
		}
		want := v.Cache
		for _, tile := range builtOf(list, refs...) {
			want = cacheAnd(want, keptAs(tile))
		}
		expectDrained(t, fmt.Sprint(refs), list, v, want)
		seen[len(refs)]++
	}
	for count := range 5 {
		if seen[count] < 15 {
			t.Error("the test asks for little", seen)
		}
	}
	half := halfway()
	tiles := builtOf(harbour(), ref(2, 0, 1), ref(2, 1, 0))
	expectDrained(t, "two of four", harbour(), half, cacheAnd(half.Cache, keptAs(tiles[0]), keptAs(tiles[1])))
}

// A cache that is full, of each Size: as many go as come, first those that were
// not asked for for the longest time, also where they are seen.
func TestDrainViewerOfAFullCache(t *testing.T) {
	list := harbour()
	refs := refsAs(four())
	for size := int64(4); size <= 10; size++ {
		old := []impl.Tile{}
		for i, r := range []impl.Ref{ref(3, 2, 1), ref(0, 0, 0), ref(2, 3, 3), ref(1, 0, 0), ref(3, 3, 3), ref(1, 1, 0), ref(2, 2, 0), ref(3, 0, 0), ref(1, 0, 1), ref(3, 7, 0)} {
			old = append(old, spotted(r, int64(i+1)))
		}
		old = old[:size]
		v := looking(four(), 5, cacheOf(size, old...), req(refs[2], 6, 1), req(refs[0], 6, 1), req(refs[3], 6, 1), req(refs[1], 6, 1))
		expectDrained(t, fmt.Sprint(size), list, v, cacheOf(size, append(old[4:], builtOf(list, refs[2], refs[0], refs[3], refs[1])...)...))
		// three come, and the fourth one, which is there and seen, stands ahead of all others
		seen := append(builtOf(list, refs[0]), old[:size-1]...)
		v = looking(four(), 5, cacheOf(size, seen...), req(refs[1], 6, 1), req(refs[2], 6, 1), req(refs[3], 6, 1))
		expectDrained(t, fmt.Sprint(size, ", one is seen"), list, v, cacheOf(size, append(seen[3:], builtOf(list, refs[1:]...)...)...))
		expectComplete(t, "it went", impl.DrainViewer(list, v).Viewer, false)
	}
}

// A cache of size one is no viewer's: nothing is drained into it.
func TestDrainViewerOfASmallCache(t *testing.T) {
	r := ref(2, 0, 0)
	for size := int64(1); size <= 3; size++ {
		for _, cache := range []impl.Cache{cacheOf(size), cacheOf(size, spotted(ref(2, 1, 0), 3))} {
			for _, v := range []impl.Viewer{looking(four(), 5, cache), looking(four(), 5, cache, req(r, 6, 1))} {
				expectNoViewer(t, "drained", impl.DrainViewer(harbour(), v), impl.ErrRange)
				expectNoViewer(t, "answered", impl.AnswerOne(harbour(), v, r), impl.ErrRange)
				expectVerdict(t, "small", harbour(), v, verdict{})
				expectVerdict(t, "small", nil, v, verdict{})
			}
		}
	}
}

// broadCamera is a camera without a fault that sees much, often four tiles.
func broadCamera(n *numbers) impl.Camera {
	c := cam(n.next(1, 3), 0, 0, n.next(5, 8), n.next(5, 8))
	c.X, c.Y = n.next(0, counts[c.Z]-c.W), n.next(0, counts[c.Z]-c.H)
	return c
}

// anyCamera is one of both.
func anyCamera(n *numbers) impl.Camera {
	if n.next(0, 1) == 0 {
		return broadCamera(n)
	}
	return someCamera(n)
}

// eager is a viewer who has asked for all that is missing, in any order.
func eager(n *numbers, v impl.Viewer) impl.Viewer {
	for _, r := range refsAs(v.Camera) {
		if !slices.Contains(refsIn(v.Cache), r) && !slices.Contains(refsAsked(v.Requests), r) {
			v.Requests = append(v.Requests, req(r, n.next(0, 9999), n.next(1, 99)))
		}
	}
	shuffle(n, v.Requests)
	return v
}

// someAsker is a viewer without a fault who may have asked for much.
func someAsker(n *numbers) impl.Viewer {
	v := someViewer(n)
	if n.next(0, 3) > 0 {
		v.Camera, v.Requests = broadCamera(n), nil
	}
	if n.next(0, 3) > 0 {
		v = eager(n, v)
	}
	return v
}

// To drain is to answer the first request as long as there is one.
func TestDrainViewerIsToAnswer(t *testing.T) {
	n := numbers(223)
	seen := map[int]int{}
	for range 300 {
		v, list := someAsker(&n), someMap(&n)
		seen[len(v.Requests)]++
		want := impl.ViewerResult{Viewer: copyViewer(v)}
		for len(want.Viewer.Requests) > 0 {
			want = impl.AnswerOne(list, want.Viewer, want.Viewer.Requests[0].Ref)
			if want.Code != impl.OK || !want.Took {
				t.Fatalf("%v of %v: %v", v, list, want)
			}
		}
		if got := impl.DrainViewer(list, v); !reflect.DeepEqual(got, want) {
			t.Fatalf("%v of %v: %v, not %v", v, list, got, want)
		}
	}
	if seen[0] < 40 || seen[1] < 40 || seen[2] < 40 || seen[4] < 40 {
		t.Error("the test asks for little", seen)
	}
}

// otherMaps are maps in which one thing is another one than on a map.
func otherMaps(list []impl.Feature, place int) map[string][]impl.Feature {
	maps := map[string][]impl.Feature{}
	add := func(what string, change func(f *impl.Feature)) {
		other := copyOf(list)
		change(&other[place])
		maps[what] = other
	}
	add("Id", func(f *impl.Feature) { f.Id = 999 })
	add("Layer", func(f *impl.Feature) { f.Layer = (f.Layer + 5) % 10 })
	add("Width", func(f *impl.Feature) { f.Width = (f.Width + 1) % 4 })
	add("Label", func(f *impl.Feature) { f.Label += "z" })
	add("Priority", func(f *impl.Feature) { f.Priority = (f.Priority + 3) % 10 })
	add("a point", func(f *impl.Feature) { f.Points[0].X = (f.Points[0].X + 200) % 1024 })
	if list[place].Kind == impl.KindArea {
		add("Kind", func(f *impl.Feature) { f.Kind = impl.KindLine })
	}
	maps["one fewer"] = slices.Delete(copyOf(list), place, place+1)
	return maps
}

// An empty cache, one tile, and as many as there may be: all of the map, in
// whatever order it is told, and one of another map, wherever it stands.
func TestHoldsTrue(t *testing.T) {
	list := harbour()
	expectVerdict(t, "an empty cache", list, looking(four(), 5, cacheOf(4)), allRight)
	expectVerdict(t, "an empty cache, nothing on the map", nil, looking(four(), 5, cacheOf(4)), allRight)
	for _, refs := range [][]impl.Ref{{ref(2, 0, 0)}, {ref(0, 0, 0)}, refsAs(four()), elevenRefs[:10]} {
		tiles := builtOf(list, refs...)
		back := harbour()
		slices.Reverse(back)
		for _, list := range [][]impl.Feature{list, back} {
			expectVerdict(t, "of the map", list, seeing(four(), tiles...), allRight)
		}
		for place := range tiles {
			other := slices.Clone(tiles)
			other[place].Features = []impl.Feature{named(33, 1, 1, 5, 5, "other")}
			if impl.HoldsTrue(list, seeing(four(), other...)) {
				t.Errorf("%d of %v is of another map", place, refs)
			}
			other[place].Features = nil
			if impl.HoldsTrue(list, seeing(four(), other...)) != (len(tiles[place].Features) == 0) {
				t.Errorf("%d of %v is empty", place, refs)
			}
		}
	}
	if impl.HoldsTrue(nil, seeing(four(), builtOf(list, ref(0, 0, 0))...)) {
		t.Error("nothing is on the map")
	}
	empty := seeing(four(), tileOf(ref(2, 0, 0)), tileOf(ref(0, 0, 0)))
	expectVerdict(t, "nothing is on the map, nor in the tiles", nil, empty, allRight)
}

// A map of which one thing of one feature is another one, also where it is not
// seen at all: the whole is of that map alone.
func TestHoldsTrueOfOtherMaps(t *testing.T) {
	list := harbour()
	whole := seeing(four(), builtOf(list, ref(0, 0, 0))...)
	for place := range list {
		for what, other := range otherMaps(list, place) {
			got := impl.HoldsTrue(other, whole)
			if want := holdsAs(other, whole); got != want || want && what != "a point" {
				t.Errorf("%s of %d: %v", what, place, got)
			}
			if !impl.HoldsTrue(other, seeing(four(), builtOf(other, ref(0, 0, 0))...)) {
				t.Errorf("%s of %d: the other map", what, place)
			}
		}
	}
	// what does not come near any tile that is there is not missed
	tiles := builtOf(list, refsAs(four())...)
	far := slices.DeleteFunc(harbour(), func(f impl.Feature) bool { return f.Id == 400 })
	expectVerdict(t, "far away", far, seeing(four(), tiles...), allRight)
	// a tile has its features as they are at its zoom, not as they are on the map
	own := named(8, 1, 3, 20, 20, "own")
	snapped := own
	snapped.Points = simpleAs(own, 0)
	for _, f := range []impl.Feature{own, snapped} {
		v := seeing(cam(0, 0, 0, 8, 8), tileOf(ref(0, 0, 0), f))
		if got := impl.HoldsTrue([]impl.Feature{own}, v); got != (f.Points[0] == snapped.Points[0]) {
			t.Errorf("%v: %v", f, got)
		}
	}
	if own.Points[0] == snapped.Points[0] {
		t.Error("the test asks for little", own)
	}
}

// All, some and none of four tiles are there, without a parent, with one, and
// with two.
func TestFrameRight(t *testing.T) {
	list := harbour()
	for _, c := range []impl.Camera{four(), cam(2, 7, 7, 2, 2), cam(2, 6, 5, 4, 6), cam(2, 4, 4, 1, 1), cam(2, 5, 4, 7, 1)} {
		for set := range 16 {
			for _, parents := range [][]impl.Ref{nil, {ref(1, 0, 0)}, {ref(0, 0, 0)}, {ref(0, 0, 0), ref(1, 0, 0)}, {ref(1, 1, 1), ref(3, 3, 3)}} {
				refs := slices.Clone(parents)
				for i, r := range refsAs(four()) {
					if set>>i&1 == 1 {
						refs = append(refs, r)
					}
				}
				expectVerdict(t, fmt.Sprint(refs), list, seeing(c, builtOf(list, refs...)...), allRight)
			}
		}
	}
}

// Each pixel by itself: one that is another one than on the map, in a tile that
// is there, or in a parent that stands in for it.
func TestFrameRightPixelByPixel(t *testing.T) {
	list := []impl.Feature{named(9, 0, 2, 8, 8, ""), named(3, 0, 1, 5, 5, "")}
	for _, c := range []impl.Camera{cam(2, 6, 6, 4, 4), cam(2, 6, 9, 3, 1), cam(2, 9, 5, 1, 8)} {
		for _, there := range [][]impl.Ref{refsAs(four()), {ref(1, 0, 0)}, {ref(0, 0, 0)}, {ref(1, 0, 0), ref(2, 0, 0)}} {
			v := seeing(c, builtOf(list, there...)...)
			expectVerdict(t, "as it is", list, v, allRight)
			for place := range v.Cache.Kept {
				expectSpotsFound(t, list, v, place)
			}
		}
	}
	// a row of Ids against a row, a column against a column
	for _, areRows := range []bool{true, false} {
		list := stripes(ref(2, 1, 1), 10, areRows).Features
		for _, c := range []impl.Camera{cam(2, 8, 8, 8, 8), cam(2, 10, 11, 5, 3), cam(2, 9, 12, 2, 4)} {
			v := seeing(c, builtOf(list, ref(2, 1, 1))...)
			expectVerdict(t, "stripes", list, v, allRight)
			other := stripes(ref(2, 1, 1), 11, areRows).Features
			if impl.FrameRight(other[:7], v) || impl.PickRight(other[:7], v) {
				t.Error("other stripes", c)
			}
		}
	}
}

// expectSpotsFound puts a spot over each pixel of a tile that is there, one after
// the other: just where it is seen, the frame is not right.
func expectSpotsFound(t *testing.T, list []impl.Feature, v impl.Viewer, place int) {
	t.Helper()
	r := v.Cache.Kept[place].Tile.Ref
	for pixel := range int64(64) {
		spot := pixelOf(77, r.Z, 8*r.X+pixel%8, 8*r.Y+pixel/8)
		spot.Layer, spot.Label = 9, ""
		other := copyViewer(v)
		tile := tileOf(r, append(tileAs(list, r), spot)...)
		other.Cache.Kept[place] = keptAs(tile)
		isSeen := slices.Contains(frameIn(other), 77)
		want := verdict{false, !isSeen, true, !isSeen || !isCompleteAs(v)}
		expectVerdict(t, fmt.Sprint(r, " spot ", pixel), list, other, want)
	}
}

// What a parent shows is right, though the map itself is another one there: a
// town that is one pixel is two by two, four by four and eight by eight of a
// nearer zoom; and what just the map itself shows there is not right.
func TestFrameRightOfParents(t *testing.T) {
	town := named(5, 1, 3, 41, 22, "")
	list := []impl.Feature{town}
	parents := []impl.Ref{ref(2, 2, 1), ref(1, 1, 0), ref(0, 0, 0)}
	for i, r := range parents {
		side := int64(2) << i
		x, y := 41/side*side, 22/side*side // where the pixel of the parent begins
		for place := range side * side {
			c := cam(3, x+place%side, y+place/side, 1, 1)
			itself := c.X == 41 && c.Y == 22
			right := seeing(c, builtOf(list, r)...)
			expectFrame(t, "the parent", right, 5)
			expectVerdict(t, "the parent", list, right, allRight)
			// nothing in the parent: right where the map is asked, but it is not
			empty := seeing(c, tileOf(r))
			expectVerdict(t, "an empty parent", list, empty, verdict{false, false, true, true})
			// the tile itself is there as well
			both := seeing(c, append(builtOf(list, ref(3, 5, 2)), tileOf(r))...)
			want := int64(0)
			if itself {
				want = 5
			}
			expectFrame(t, "the tile itself", both, want)
			expectVerdict(t, "the tile itself", list, both, verdict{false, true, true, true})
			// a nearer parent is right, one that is farther away is not asked
			if i > 0 {
				near := seeing(c, append(builtOf(list, parents[0]), tileOf(r))...)
				expectVerdict(t, "a nearer parent", list, near, verdict{false, c.X/16 == 2 && c.Y/16 == 1, true, true})
			}
		}
	}
}

// Where there is neither a tile nor a parent there is nothing, whatever the map
// has there.
func TestFrameRightOfNothing(t *testing.T) {
	lake := flat(ref(0, 0, 0), 5).Features
	for z := range int64(4) {
		c := cam(z, counts[z]/2-4, counts[z]/2-4, 8, 8)
		others := []impl.Ref{}
		for _, r := range []impl.Ref{ref(3, 0, 0), ref(3, 7, 7), ref(3, 0, 7), ref(2, 3, 0)} {
			if !slices.Contains(refsAs(c), r) {
				others = append(others, r)
			}
		}
		expectVerdict(t, "nothing", lake, looking(c, 5, cacheOf(4)), allRight)
		expectVerdict(t, "a new one", lake, impl.NewViewer(c, 4).Viewer, allRight)
		expectVerdict(t, "others", lake, seeing(c, builtOf(lake, others...)...), allRight)
		expectVerdict(t, "others of another map", nil, seeing(c, builtOf(lake, others...)...), verdict{false, true, true, true})
		// the kids of what is seen do not stand in for it
		if z < 3 {
			kids := builtOf(lake, impl.KidsOf(refsAs(c)[0]).Refs...)
			expectVerdict(t, "kids", lake, seeing(c, kids...), allRight)
			expectFrame(t, "kids", seeing(c, kids...), make([]int64, 64)...)
		}
	}
}

// Of another map, with the same Ids at all pixels, or where it is not seen: the
// frame is right, though the tiles are not.
func TestFrameRightOfOtherMaps(t *testing.T) {
	list := harbour()
	v := seeing(four(), builtOf(list, refsAs(four())...)...)
	for place := range list {
		for what, other := range otherMaps(list, place) {
			expectVerdict(t, fmt.Sprint(what, " of ", place), other, v, judgeAs(other, v))
		}
	}
	expectVerdict(t, "nothing on the map", nil, v, verdict{})
	sea := []impl.Feature{harbour()[4]}
	shore := copyOf(sea)
	shore[0].Points[0].X = 64 // is not seen from 4,4 on
	expectVerdict(t, "another shore", shore, seeing(four(), builtOf(sea, refsAs(four())...)...), verdict{false, true, true, true})
	road := copyOf(sea)
	road[0].Priority, road[0].Label = 9, "" // no name: nothing hangs on it
	if impl.FeaturesFault(road) != impl.OK || road[0].Priority == sea[0].Priority {
		t.Fatal("the test asks for nothing", road)
	}
	expectVerdict(t, "another priority", road, seeing(four(), builtOf(sea, refsAs(four())...)...), verdict{false, true, true, true})
}

// Labels that are anchored in one tile and seen in two and in four, and a feature
// that is in all of them: it has one label, and that is what the map has.
func TestLabelsRightOfSeveralTiles(t *testing.T) {
	for _, c := range []impl.Camera{four(), cam(2, 5, 6, 8, 7), cam(2, 7, 7, 2, 2), cam(2, 6, 6, 3, 8)} {
		for _, f := range []impl.Feature{
			named(12, 2, 2, 7, 7, "abc"),                                   // in four
			named(12, 2, 2, 7, 9, "abc"),                                   // in two beside one another
			named(12, 2, 2, 9, 7, "a"),                                     // in two below one another
			wide(impl.KindLine, 0, at(7*32+16, 7*32+16), at(12*32, 12*32)), // the feature itself is in four
			wide(impl.KindLine, 0, at(9*32, 9*32), at(0, 0)),
		} {
			list := []impl.Feature{f}
			v := seeing(c, builtOf(list, refsAs(c)...)...)
			anchor := anchorAs(f, 2)
			isSeen := anchor.X >= c.X && anchor.X < c.X+c.W && anchor.Y >= c.Y && anchor.Y < c.Y+c.H
			if got := impl.LabelsIn(v).Placed; (len(got) == 1) != isSeen || len(got) > 1 {
				t.Errorf("%v of %v: %v", c, f, got)
			}
			expectVerdict(t, "several tiles", list, v, allRight)
			slices.Reverse(v.Cache.Kept)
			expectVerdict(t, "the other way round", list, v, allRight)
			// one tile is missing: whatever it would have, nothing is asked
			for place := range v.Cache.Kept {
				some := copyViewer(v)
				some.Cache.Kept = slices.Delete(some.Cache.Kept, place, place+1)
				expectVerdict(t, "one is missing", list, some, allRight)
				other := copyOf(list)
				other[0].Label, other[0].Priority = "other", 9
				expectVerdict(t, "one is missing, of another map", other, some, verdict{holdsAs(other, some), true, true, true})
			}
		}
	}
}

// Labels that overlap: which one has room is what the map tells; of a map on
// which the other one has it, neither labels nor picks are right.
func TestLabelsRightInRoom(t *testing.T) {
	c := four()
	a, b := named(10, 3, 2, 6, 6, "abc"), named(20, 4, 2, 9, 8, "ab")
	list := []impl.Feature{a, b}
	v := seeing(c, builtOf(list, refsAs(c)...)...)
	expectPlaced(t, "one of two", impl.LabelsIn(v), box(10, 6, 6, 6, 3))
	expectVerdict(t, "one of two", list, v, allRight)
	other := copyOf(list)
	other[1].Priority = 2
	expectVerdict(t, "the other one", other, v, verdict{false, true, false, false})
	v = seeing(c, builtOf(other, refsAs(c)...)...)
	expectPlaced(t, "the other one", impl.LabelsIn(v), box(20, 9, 8, 4, 3))
	expectVerdict(t, "the other one", other, v, allRight)
	expectVerdict(t, "one of two", list, v, verdict{false, true, false, false})
	// of one priority, by Id
	same := copyOf(list)
	same[1].Priority = 3
	expectVerdict(t, "by Id", same, seeing(c, builtOf(same, refsAs(c)...)...), allRight)
	// one that is anchored outside of what is seen takes no room
	out := []impl.Feature{named(10, 0, 2, 3, 6, "abcdef"), b}
	v = seeing(c, builtOf(out, refsAs(c)...)...)
	expectPlaced(t, "outside", impl.LabelsIn(v), box(20, 9, 8, 4, 3))
	expectVerdict(t, "outside", out, v, allRight)
	expectVerdict(t, "not on the map", []impl.Feature{b}, v, verdict{false, true, true, true})
}

// What of labels is another thing, and what is picked is not, and the other way
// round.
func TestLabelsRightAndPickRight(t *testing.T) {
	c := four()
	a, b := named(10, 3, 2, 5, 6, "a"), named(20, 4, 2, 10, 8, "a")
	list := []impl.Feature{a, b}
	v := seeing(c, builtOf(list, refsAs(c)...)...)
	expectPlaced(t, "both", impl.LabelsIn(v), box(10, 5, 6, 2, 3), box(20, 10, 8, 2, 3))
	change := func(of func(a, b *impl.Feature)) []impl.Feature {
		other := copyOf(list)
		of(&other[0], &other[1])
		return other
	}
	for _, d := range []struct {
		what  string
		other []impl.Feature
		want  verdict
	}{
		{"the same", list, allRight},
		{"another name of that length", change(func(a, b *impl.Feature) { a.Label = "z" }), verdict{false, true, true, true}},
		{"another priority, in the same order", change(func(a, b *impl.Feature) { a.Priority = 2 }), verdict{false, true, true, true}},
		{"another priority, in another order", change(func(a, b *impl.Feature) { a.Priority = 5 }), verdict{false, true, false, true}},
		{"longer, all of that in the frame", change(func(a, b *impl.Feature) { a.Label = "aa" }), verdict{false, true, false, false}},
		{"longer, none of that in the frame", change(func(a, b *impl.Feature) { b.Label = "aaa" }), verdict{false, true, false, true}},
		{"no name", change(func(a, b *impl.Feature) { b.Label = "" }), verdict{false, true, false, false}},
		{"an Id more", change(func(a, b *impl.Feature) { b.Id = 21 }), verdict{false, false, false, false}},
		{"a pixel farther", change(func(a, b *impl.Feature) { a.Points[0].X += 32 }), verdict{false, false, false, false}},
		{"beneath a label", append(copyOf(list), named(30, 9, 2, 6, 7, "")), verdict{false, false, true, true}},
		{"beside a label", append(copyOf(list), named(30, 9, 2, 7, 7, "")), verdict{false, false, true, false}},
		{"one without a name fewer", []impl.Feature{b}, verdict{false, false, false, false}},
	} {
		expectVerdict(t, d.what, d.other, v, d.want)
		// where a tile is missing neither of them is asked
		for place := range v.Cache.Kept {
			missing := copyViewer(v)
			missing.Cache.Kept = slices.Delete(missing.Cache.Kept, place, place+1)
			if got := judge(d.other, missing); !got.labels || !got.picks {
				t.Errorf("%s, without %d: %v", d.what, place, got)
			}
		}
	}
}

// A full frame of labels, with as many as there may be; all of them, and all but
// one that is picked nowhere else.
func TestPickRightOfMany(t *testing.T) {
	c := four()
	var list []impl.Feature
	for k := range int64(impl.MaxFeatures) {
		list = append(list, named(100+k, 5, 2, c.X+k%4*2, c.Y+k/4*3, "a"))
	}
	v := seeing(c, builtOf(list, refsAs(c)...)...)
	if got := impl.LabelsIn(v).Placed; len(got) != impl.MaxFeatures {
		t.Error("the test asks for little", got)
	}
	expectVerdict(t, "many", list, v, allRight)
	for place := range list {
		other := copyOf(list)
		other[place].Label = ""
		expectVerdict(t, fmt.Sprint("all but ", place), other, v, verdict{false, true, false, false})
		expectVerdict(t, fmt.Sprint("without ", place), slices.Delete(copyOf(list), place, place+1), v, verdict{})
	}
	// four tiles of other features each: more of them than a map may have
	full := seeing(c, crammed(c)...)
	for i, tile := range crammed(c) {
		expectVerdict(t, fmt.Sprint("crammed ", i), tile.Features, full, judgeAs(tile.Features, full))
	}
}

// wrongMaps are features with a fault, with the code of it.
func wrongMaps() (maps [][]impl.Feature, codes []int64) {
	add := func(code int64, list ...impl.Feature) {
		maps, codes = append(maps, list), append(codes, code)
	}
	wrong, code := wrongFeatures()
	for i, f := range wrong {
		add(code[i], f)
		add(code[i], append(numbered(9, 8), f)...)
		add(code[i], append([]impl.Feature{f}, numbered(8, 8)...)...)
	}
	add(impl.ErrTaken, numbered(1, 1)...)
	add(impl.ErrTaken, append(harbour(), harbour()[2])...)
	add(impl.ErrTaken, append(numbered(9, 9), wrong...)[:12]...)
	add(impl.ErrMany, numbered(1, 2, 3, 4, 5, 6, 7, 8, 9, 10, 11, 12, 13)...)
	add(impl.ErrMany, make([]impl.Feature, 3000)...)
	add(impl.ErrRange, make([]impl.Feature, 12)...)
	return maps, codes
}

// expectNothing asks of all functions that take a map and a viewer for one code.
func expectNothing(t *testing.T, what string, list []impl.Feature, v impl.Viewer, r impl.Ref, code int64) {
	t.Helper()
	expectNoViewer(t, what, impl.AnswerOne(list, v, r), code)
	expectNoViewer(t, what, impl.DrainViewer(list, v), code)
	expectVerdict(t, what, list, v, verdict{})
}

// Features with a fault: their code, whatever is asked for, seen or there.
func TestAuditsOfWrongMaps(t *testing.T) {
	maps, codes := wrongMaps()
	viewers := []impl.Viewer{halfway(), impl.NewViewer(cam(0, 0, 0, 8, 8), 4).Viewer, looking(four(), 5, cacheOf(4)), seeing(four(), builtOf(nil, refsAs(four())...)...)}
	seen := map[int64]int{}
	for i, list := range maps {
		seen[codes[i]]++
		for _, v := range viewers {
			for _, r := range []impl.Ref{ref(2, 1, 0), ref(0, 0, 0), ref(4, 0, 0)} {
				expectNothing(t, fmt.Sprint(i), list, v, r, codes[i])
			}
		}
	}
	for _, code := range []int64{impl.ErrMany, impl.ErrRange, impl.ErrText, impl.ErrTaken} {
		if seen[code] < 3 {
			t.Error("the test asks for little", seen)
		}
	}
}

// A viewer with a fault: its code ahead of that of a ref; features with a fault
// beside it: theirs.
func TestAuditsOfWrongViewers(t *testing.T) {
	maps, codes := wrongMaps()
	refs := []impl.Ref{ref(2, 1, 0), ref(2, 0, 0), ref(4, 0, 0), ref(math.MinInt64, -1, math.MaxInt64)}
	others := 0
	for i, v := range faultyViewers() {
		code := viewerCodeAs(v)
		expectNothing(t, fmt.Sprint(i), harbour(), v, refs[i%4], code)
		expectNothing(t, fmt.Sprint(i, ", nothing on the map"), nil, v, refs[i%3], code)
		for k := range 3 {
			place := (3*i + k) * 31 % len(maps)
			expectNothing(t, fmt.Sprint(i, ", and the map"), maps[place], v, refs[i%4], codes[place])
			if codes[place] != code {
				others++
			}
		}
	}
	if others < 300 {
		t.Error("the test asks for little", others)
	}
	expectNothing(t, "nobody", nil, impl.Viewer{}, impl.Ref{}, impl.ErrRange)
	for _, c := range wrongCameras() {
		v := seeing(c, builtOf(nil, ref(0, 0, 0), ref(2, 1, 1))...)
		expectNothing(t, "no camera", nil, v, ref(2, 1, 0), impl.ErrRange)
	}
}

// Each two of three faults, told by hand, with codes that are not the same.
func TestAuditsOfSeveralFaults(t *testing.T) {
	taken := numbered(1, 1)
	unread := road()
	unread.Label = "?"
	stray := looking(four(), 5, cacheOf(4), req(ref(2, 3, 3), 5, 1))
	many := looking(four(), 5, cacheOf(4, spots(5)...))
	for _, d := range []struct {
		what string
		list []impl.Feature
		v    impl.Viewer
		r    impl.Ref
		want int64
	}{
		{"the map and the viewer", taken, stray, ref(2, 0, 0), impl.ErrTaken},
		{"the map and the ref", taken, halfway(), ref(2, 4, 0), impl.ErrTaken},
		{"the viewer and the ref", harbour(), stray, ref(2, 4, 0), impl.ErrState},
		{"all three", []impl.Feature{unread}, many, ref(-1, 0, 0), impl.ErrText},
		{"another map", make([]impl.Feature, 13), stray, ref(2, 0, 0), impl.ErrMany},
		{"another viewer", nil, many, ref(9, 9, 9), impl.ErrMany},
	} {
		expectNothing(t, d.what, d.list, d.v, d.r, d.want)
	}
}

// othered is a map of which one thing may be another one.
func othered(n *numbers, list []impl.Feature) []impl.Feature {
	other := copyOf(list)
	if len(other) == 0 {
		return other
	}
	place := n.next(0, int64(len(other)-1))
	f := &other[place]
	switch n.next(0, 6) {
	case 0:
		return slices.Delete(other, int(place), int(place+1))
	case 1:
		f.Label = n.label()
	case 2:
		f.Priority = n.next(0, 9)
	case 3:
		f.Layer = n.next(0, 9)
	case 4:
		f.Points[0] = at(min(max(f.Points[0].X+n.next(-90, 90), 0), impl.World), min(max(f.Points[0].Y+n.next(-90, 90), 0), impl.World))
	case 5:
		f.Width = n.next(0, 3)
	}
	return other
}

// withParents are refs with all their parents, in any order.
func withParents(n *numbers, refs []impl.Ref) []impl.Ref {
	list := slices.Clone(refs)
	for _, r := range refs {
		for ; r.Z > 0; r = impl.ParentOf(r).Ref {
			list = append(list, impl.ParentOf(r).Ref)
		}
	}
	list = eachOnce(list)
	shuffle(n, list)
	return list
}

// someSight is a viewer without a fault who looks at a map, to whom some or all
// tiles that are seen, of their parents and of others are there: all of that map,
// or some of one that is almost the same.
func someSight(n *numbers) (list []impl.Feature, v impl.Viewer) {
	c := anyCamera(n)
	list = namedCrowd(n, c)
	other := list
	if n.next(0, 1) == 0 {
		for range 3 {
			other = othered(n, other)
		}
	}
	v = looking(c, n.next(0, 9000), impl.Cache{Size: 10})
	v.Bad = n.next(0, 9999)
	often := n.next(1, 4)
	for _, r := range withParents(n, append(refsAs(c), someRef(n))) {
		if n.next(1, 4) > often || len(v.Cache.Kept) == 10 {
			continue
		}
		of := list
		if n.next(0, 1) == 0 {
			of = other
		}
		tile := impl.BuildTile(of, r).Tile
		v.Cache.Kept = append(v.Cache.Kept, impl.Kept{Tile: tile, Ids: impl.RasterTile(tile).List})
	}
	if n.next(0, 1) == 0 {
		v = eager(n, v)
	}
	return list, v
}

// Many viewers and maps, right and not.
func TestAuditsAgainstTheDocument(t *testing.T) {
	n := numbers(224)
	seen, complete := map[verdict]int{}, map[verdict]int{}
	for range 1200 {
		list, v := someSight(&n)
		want := judgeAs(list, v)
		if got := judge(list, v); got != want {
			t.Fatalf("%v of %v: %v, not %v", v, list, got, want)
		}
		seen[want]++
		if isCompleteAs(v) {
			complete[want]++
		}
	}
	if seen[allRight] < 300 || seen[verdict{false, true, true, true}] < 100 || seen[verdict{false, false, true, true}] < 40 ||
		complete[allRight] < 100 || complete[verdict{}] < 20 || complete[verdict{false, true, false, true}] < 5 ||
		complete[verdict{false, true, false, false}] < 10 || complete[verdict{false, false, true, false}] < 20 || complete[verdict{false, false, true, true}] < 5 {
		t.Error("the test asks for little", seen, complete)
	}
}

// Many viewers and maps: what is answered, of refs that are asked for and others.
func TestAnswersAgainstTheDocument(t *testing.T) {
	n := numbers(225)
	took, not, many := 0, 0, 0
	for range 600 {
		list, v := someSight(&n)
		if n.next(0, 2) == 0 {
			v = someAsker(&n)
		}
		r := someRef(&n)
		if count := int64(len(v.Requests)); count > 0 && n.next(0, 3) > 0 {
			r = v.Requests[n.next(0, count-1)].Ref
		}
		s := seatOf(v)
		want := impl.ViewerResult{Took: s.reply(r, listAs(tileAs(list, r)))}
		want.Viewer = s.viewer()
		if got := impl.AnswerOne(list, v, r); !reflect.DeepEqual(got, want) {
			t.Fatalf("%v of %v and %v: %v, not %v", r, v, list, got, want)
		}
		if want.Took {
			took++
		} else {
			not++
		}
		s = seatOf(v)
		want = impl.ViewerResult{Took: len(v.Requests) > 0}
		for _, q := range v.Requests {
			if !s.reply(q.Ref, listAs(tileAs(list, q.Ref))) {
				t.Fatal("the test drains nothing", v, q)
			}
		}
		want.Viewer = s.viewer()
		if got := impl.DrainViewer(list, v); !reflect.DeepEqual(got, want) {
			t.Fatalf("%v of %v: %v, not %v", v, list, got, want)
		}
		if len(v.Requests) > 1 {
			many++
		}
	}
	if took < 100 || not < 100 || many < 80 {
		t.Error("the test asks for little", took, not, many)
	}
}

// One viewer, by hand: nothing, one tile, a parent in the place of what is nearer,
// all of it, and the same seen as another map.
func TestOneAudit(t *testing.T) {
	lake := wide(impl.KindArea, 0, at(0, 0), at(512, 0), at(512, 1024), at(0, 1024))
	lake.Id, lake.Layer, lake.Label = 4, 0, ""
	town := impl.Feature{Id: 12, Layer: 1, Kind: impl.KindPoint, Points: []impl.Point{at(544, 544)}, Label: "a"}
	list := []impl.Feature{town, lake}
	v := impl.NewViewer(cam(0, 3, 3, 3, 2), 4).Viewer
	expectVerdict(t, "nothing yet", list, v, allRight)
	v = impl.AnswerOne(list, v, ref(0, 0, 0)).Viewer
	expectFrameText(t, "the whole", v, "4 0 0\n4 12 0\n")
	expectVerdict(t, "the whole", list, v, allRight)
	v = impl.ZoomViewer(v, 1).Viewer
	expectFrameText(t, "nearer, of the whole", v, "4 0 0\n4 12 12\n")
	expectVerdict(t, "nearer, of the whole", list, v, allRight)
	got := impl.DrainViewer(list, v)
	if !got.Took || len(got.Viewer.Requests) != 0 || got.Sent != nil {
		t.Error(got)
	}
	expectFrameText(t, "all", got.Viewer, "4 0 0\n4 12 0\n")
	expectVerdict(t, "all", list, got.Viewer, allRight)
	expectComplete(t, "all", got.Viewer, true)
	expectVerdict(t, "no town", list[1:], got.Viewer, verdict{})
	expectVerdict(t, "nothing", nil, got.Viewer, verdict{})
	again := impl.DrainViewer(list, got.Viewer)
	if again.Took || !reflect.DeepEqual(again.Viewer, got.Viewer) {
		t.Error(again)
	}
}
