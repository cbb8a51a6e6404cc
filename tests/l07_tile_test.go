package tests

import (
	"bytes"
	"fmt"
	"math"
	"reflect"
	"slices"
	"testing"

	"loop.example/g00403/impl"
)

// sides are how many tiles the world has on a side, zoom by zoom.
var sides = []int64{1, 2, 4, 8}

func ref(z, x, y int64) impl.Ref {
	return impl.Ref{Z: z, X: x, Y: y}
}

// refsOf are all refs of a zoom, rising by Y, then X.
func refsOf(z int64) []impl.Ref {
	var list []impl.Ref
	for y := range sides[z] {
		for x := range sides[z] {
			list = append(list, ref(z, x, y))
		}
	}
	return list
}

// allRefs are all refs that there are.
func allRefs() []impl.Ref {
	var list []impl.Ref
	for z := range sides {
		list = append(list, refsOf(int64(z))...)
	}
	return list
}

// wrongRefs are refs with a fault: by one on each side, and far.
func wrongRefs() []impl.Ref {
	var list []impl.Ref
	for z, side := range sides {
		z := int64(z)
		for _, bad := range append([]int64{-1, -2, side, side + 1, 2 * side, 64, 1024}, far...) {
			list = append(list, ref(z, bad, 0), ref(z, 0, bad), ref(z, bad, side-1), ref(z, side-1, bad), ref(z, bad, bad))
		}
	}
	for _, z := range noZooms {
		list = append(list, ref(z, 0, 0), ref(z, 1, 0), ref(z, 0, 1), ref(z, 7, 7), ref(z, z, z), ref(z, -1, 0), ref(z, 0, math.MaxInt64))
	}
	return list
}

func TestRefFault(t *testing.T) {
	for z := int64(-3); z <= 7; z++ {
		for x := int64(-3); x <= 20; x++ {
			for y := int64(-3); y <= 20; y++ {
				want := int64(impl.ErrRange)
				if z >= 0 && z <= 3 && x >= 0 && x < sides[z] && y >= 0 && y < sides[z] {
					want = impl.OK
				}
				if got := impl.RefFault(ref(z, x, y)); got != want {
					t.Errorf("%d/%d/%d: %d, not %d", z, x, y, got, want)
				}
			}
		}
	}
	for _, r := range wrongRefs() {
		if got := impl.RefFault(r); got != impl.ErrRange {
			t.Errorf("%v: %d", r, got)
		}
	}
	if len(allRefs()) != 1+4+16+64 {
		t.Error(len(allRefs()))
	}
}

// A ref with a fault: its code at all that are given one, whatever is beside
// it, and nothing else.
func TestWrongRefsFirst(t *testing.T) {
	faulty, unsorted, many := numbered(1), numbered(2, 1), make([]impl.Feature, 13)
	faulty[0].Label = "?"
	lists := [][]impl.Feature{nil, two(), faulty, unsorted, numbered(1, 1), many}
	datas := [][]byte{nil, listAs(nil), listAs(two()), {1, 2, 3}, make([]byte, 901)}
	for _, r := range wrongRefs() {
		if got := impl.ParentOf(r); got != (impl.RefResult{Code: impl.ErrRange}) {
			t.Errorf("the parent of %v: %v", r, got)
		}
		if got := impl.KidsOf(r); !reflect.DeepEqual(got, impl.RefsResult{Code: impl.ErrRange}) {
			t.Errorf("the kids of %v: %v", r, got)
		}
		for _, list := range lists {
			if got := impl.BuildTile(list, r); !reflect.DeepEqual(got, impl.TileResult{Code: impl.ErrRange}) {
				t.Errorf("%v of %v: %v", r, list, got)
			}
			if got := impl.ServeTile(list, r); !reflect.DeepEqual(got, impl.BytesResult{Code: impl.ErrRange}) {
				t.Errorf("%v of %v: %v", r, list, got)
			}
			if got := impl.SumTile(impl.Tile{Ref: r, Features: list}); got != (impl.IntResult{Code: impl.ErrRange}) {
				t.Errorf("%v of %v: %v", r, list, got)
			}
		}
		for _, data := range datas {
			if got := impl.ReadTile(r, data); !reflect.DeepEqual(got, impl.TileResult{Code: impl.ErrRange}) {
				t.Errorf("%v of %v: %v", r, data, got)
			}
		}
	}
}

func TestParentOf(t *testing.T) {
	for _, c := range [][2]impl.Ref{
		{ref(1, 0, 0), ref(0, 0, 0)},
		{ref(1, 1, 0), ref(0, 0, 0)},
		{ref(1, 0, 1), ref(0, 0, 0)},
		{ref(1, 1, 1), ref(0, 0, 0)},
		{ref(2, 3, 1), ref(1, 1, 0)},
		{ref(2, 1, 3), ref(1, 0, 1)},
		{ref(2, 2, 2), ref(1, 1, 1)},
		{ref(3, 7, 0), ref(2, 3, 0)},
		{ref(3, 0, 7), ref(2, 0, 3)},
		{ref(3, 5, 2), ref(2, 2, 1)},
		{ref(3, 7, 7), ref(2, 3, 3)},
	} {
		if got := impl.ParentOf(c[0]); got != (impl.RefResult{Ref: c[1]}) {
			t.Errorf("%v: %v, not %v", c[0], got, c[1])
		}
	}
	if got := impl.ParentOf(ref(0, 0, 0)); got != (impl.RefResult{Code: impl.ErrNone}) {
		t.Error("zoom 0", got)
	}
}

// landOf is what a tile has of the world.
func landOf(r impl.Ref) impl.Box {
	wide := impl.World / sides[r.Z]
	return boxed(r.X*wide, r.Y*wide, r.X*wide+wide, r.Y*wide+wide)
}

// The parent has all that the tile has of the world, and no other one of its
// zoom has.
func TestParentOfAll(t *testing.T) {
	for _, r := range allRefs()[1:] {
		var around []impl.Ref
		for _, other := range refsOf(r.Z - 1) {
			if isIn(landOf(r).Low, landOf(other)) && isIn(landOf(r).High, landOf(other)) {
				around = append(around, other)
			}
		}
		if got := impl.ParentOf(r); len(around) != 1 || got != (impl.RefResult{Ref: around[0]}) {
			t.Errorf("%v: %v, not %v", r, got, around)
		}
	}
}

func TestKidsOf(t *testing.T) {
	for _, c := range []struct {
		r    impl.Ref
		want []impl.Ref
	}{
		{ref(0, 0, 0), []impl.Ref{ref(1, 0, 0), ref(1, 1, 0), ref(1, 0, 1), ref(1, 1, 1)}},
		{ref(1, 1, 0), []impl.Ref{ref(2, 2, 0), ref(2, 3, 0), ref(2, 2, 1), ref(2, 3, 1)}},
		{ref(1, 0, 1), []impl.Ref{ref(2, 0, 2), ref(2, 1, 2), ref(2, 0, 3), ref(2, 1, 3)}},
		{ref(2, 3, 1), []impl.Ref{ref(3, 6, 2), ref(3, 7, 2), ref(3, 6, 3), ref(3, 7, 3)}},
		{ref(2, 3, 3), []impl.Ref{ref(3, 6, 6), ref(3, 7, 6), ref(3, 6, 7), ref(3, 7, 7)}},
	} {
		if got := impl.KidsOf(c.r); !reflect.DeepEqual(got, impl.RefsResult{Refs: c.want}) {
			t.Errorf("%v: %v, not %v", c.r, got, c.want)
		}
	}
	for _, r := range refsOf(impl.MaxZoom) {
		if got := impl.KidsOf(r); !reflect.DeepEqual(got, impl.RefsResult{Code: impl.ErrNone}) {
			t.Errorf("%v: %v", r, got)
		}
	}
}

func TestRefAt(t *testing.T) {
	for _, c := range []struct {
		z, x, y int64
		want    impl.Ref
	}{
		{0, 0, 0, ref(0, 0, 0)},
		{0, 7, 7, ref(0, 0, 0)},
		{1, 7, 8, ref(1, 0, 1)},
		{1, 8, 7, ref(1, 1, 0)},
		{1, 15, 15, ref(1, 1, 1)},
		{2, 25, 8, ref(2, 3, 1)},
		{2, 16, 15, ref(2, 2, 1)},
		{2, 31, 0, ref(2, 3, 0)},
		{3, 0, 63, ref(3, 0, 7)},
		{3, 56, 55, ref(3, 7, 6)},
		{3, 63, 63, ref(3, 7, 7)},
	} {
		if got := impl.RefAt(c.z, c.x, c.y); got != (impl.RefResult{Ref: c.want}) {
			t.Errorf("%d %d,%d: %v, not %v", c.z, c.x, c.y, got, c.want)
		}
	}
}

// Each pixel of each tile, the first and the last one with them, and those
// beside it, which are none of it.
func TestRefAtAll(t *testing.T) {
	for _, r := range allRefs() {
		for y := r.Y*8 - 1; y <= r.Y*8+8; y++ {
			for x := r.X*8 - 1; x <= r.X*8+8; x++ {
				within := x >= r.X*8 && x <= r.X*8+7 && y >= r.Y*8 && y <= r.Y*8+7
				if got := impl.RefAt(r.Z, x, y); (got == impl.RefResult{Ref: r}) != within {
					t.Errorf("%v, pixel %d,%d: %v", r, x, y, got)
				}
			}
		}
	}
}

func TestRefAtWrong(t *testing.T) {
	wrong := impl.RefResult{Code: impl.ErrRange}
	for z, count := range counts {
		z := int64(z)
		for _, bad := range noPixels(z) {
			for _, good := range []int64{0, count - 1} {
				if a, b := impl.RefAt(z, bad, good), impl.RefAt(z, good, bad); a != wrong || b != wrong {
					t.Errorf("%d %d,%d: %v %v", z, bad, good, a, b)
				}
			}
			if got := impl.RefAt(z, bad, bad); got != wrong {
				t.Errorf("%d %d,%d: %v", z, bad, bad, got)
			}
		}
	}
	for _, z := range noZooms {
		for _, n := range append([]int64{-1, 0, 1, 7, 8, 63}, far...) {
			if got := impl.RefAt(z, n, n); got != wrong {
				t.Errorf("%d %d,%d: %v", z, n, n, got)
			}
		}
	}
}

// reached are the refs of z whose tiles have a feature.
func reached(t *testing.T, f impl.Feature, z int64) []impl.Ref {
	t.Helper()
	var list []impl.Ref
	for _, r := range refsOf(z) {
		got := impl.BuildTile([]impl.Feature{f}, r)
		if got.Code != impl.OK || got.Tile.Ref != r || len(got.Tile.Features) > 1 {
			t.Errorf("%v of %v: %v", r, f, got)
		}
		if len(got.Tile.Features) == 1 {
			list = append(list, r)
		}
	}
	return list
}

func expectReached(t *testing.T, what string, f impl.Feature, z int64, want ...impl.Ref) {
	t.Helper()
	if got := reached(t, f, z); !slices.Equal(got, want) {
		t.Errorf("%s: %v at %d reaches %v, not %v", what, f, z, got, want)
	}
}

// The tiles of zoom 1 are, doubled, from 64 to 960 and from 1088 to 1984.
func TestBuildTileReach(t *testing.T) {
	point := func(width, x, y int64) impl.Feature { return wide(impl.KindPoint, width, at(x, y)) }
	first, second, third, fourth := ref(1, 0, 0), ref(1, 1, 0), ref(1, 0, 1), ref(1, 1, 1)
	expectReached(t, "in one", point(0, 100, 100), 1, first)
	expectReached(t, "in the last one", point(0, 900, 900), 1, fourth)
	expectReached(t, "at the corner of four", point(0, 512, 512), 1, first, second, third, fourth)
	expectReached(t, "at an edge", point(0, 512, 100), 1, first, second)
	expectReached(t, "at the other edge", point(0, 900, 512), 1, second, fourth)
	expectReached(t, "one of the grid ahead of an edge", point(0, 496, 512), 1, first, third)
	expectReached(t, "one of the grid behind it", point(0, 528, 496), 1, second)
	expectReached(t, "snapped away from an edge, and to one", point(0, 503, 504), 1, first, third)
	expectReached(t, "snapped to an edge, and away from one", point(0, 519, 520), 1, third, fourth)
	expectReached(t, "wider, at an edge", point(1, 480, 100), 1, first, second)
	expectReached(t, "wider, ahead of it", point(1, 464, 100), 1, first)
	expectReached(t, "the greatest width, at two edges", point(3, 416, 608), 1, first, second, third, fourth)
	expectReached(t, "the greatest width, ahead of one and behind the other", point(3, 400, 624), 1, third)
	for _, corner := range []impl.Point{at(0, 0), at(1024, 0), at(0, 1024), at(1024, 1024)} {
		expectReached(t, "a corner of the world at zoom 0", point(0, corner.X, corner.Y), 0, ref(0, 0, 0))
		for z, side := range sides[1:] {
			last := ref(int64(z)+1, corner.X/1024*(side-1), corner.Y/1024*(side-1))
			expectReached(t, "a corner of the world", point(0, corner.X, corner.Y), last.Z, last)
		}
	}
	box := wide(impl.KindArea, 0, at(0, 0), at(512, 0), at(512, 512), at(0, 512))
	expectReached(t, "an area that ends at edges", box, 1, first, second, third, fourth)
	box = wide(impl.KindArea, 0, at(0, 0), at(496, 0), at(496, 512), at(0, 512))
	expectReached(t, "an area that ends at one edge", box, 1, first, third)
	box.Width = 1
	expectReached(t, "its width reaches on, though it covers nothing", box, 1, first, second, third, fourth)
	box.Width = 0
	expectReached(t, "an area at the nearest zoom but one", box, 2, ref(2, 0, 0), ref(2, 1, 0), ref(2, 0, 1), ref(2, 1, 1), ref(2, 0, 2), ref(2, 1, 2))
	expectReached(t, "a line by its box", wide(impl.KindLine, 0, at(100, 900), at(900, 100)), 1, first, second, third, fourth)
	expectReached(t, "a line in one row", wide(impl.KindLine, 0, at(100, 900), at(900, 900)), 1, third, fourth)
}

// What the points of its zoom reach is asked, not what its own points do.
func TestBuildTileReachOfFewerPoints(t *testing.T) {
	f := wide(impl.KindLine, 0, at(100, 496), at(300, 512), at(496, 496))
	expectReached(t, "the point at the edge goes", f, 1, ref(1, 0, 0))
	expectReached(t, "the point at the edge stays", f, 2, ref(2, 0, 1), ref(2, 1, 1), ref(2, 0, 2), ref(2, 1, 2))
	f = wide(impl.KindLine, 0, at(100, 504), at(110, 504))
	expectReached(t, "a line that becomes one point at the edge", f, 1, ref(1, 0, 0), ref(1, 0, 1))
	expectReached(t, "that line, nearer", f, 3, ref(3, 0, 3))
}

// turned is a point with X and Y the other way round, where that is asked for.
func turned(p impl.Point, isTurned bool) impl.Point {
	if isTurned {
		return at(p.Y, p.X)
	}
	return p
}

// bordering is the X of points, the X of the tile that they just meet or just
// miss, and whether they meet it.
type bordering struct {
	x, tile int64
	meets   bool
}

// atBorder is what just meets a tile, what is snapped so, and what misses it by
// one, from both sides of the border ahead of a tile of z.
func atBorder(z, tile, width int64) []bordering {
	line, grid := tile*8*units[z], units[z]/4
	ahead, behind := line-width*units[z]/2, line+width*units[z]/2
	return []bordering{
		{ahead, tile, true},
		{ahead - grid, tile, false},
		{ahead - grid/2, tile, true},
		{ahead - grid/2 - 1, tile, false},
		{behind, tile - 1, true},
		{behind + grid, tile - 1, false},
		{behind + grid/2 - 1, tile - 1, true},
		{behind + grid/2, tile - 1, false},
	}
}

// Each border between two tiles, in X and in Y, at the rows at both ends of the
// world, in each width and of each kind.
func TestBuildTileAtEachBorder(t *testing.T) {
	ask := func(z, width, row int64, b bordering, isTurned bool) {
		place := turned(at(b.tile, row), isTurned)
		r, p := ref(z, place.X, place.Y), turned(at(b.x, (8*row+4)*units[z]), isTurned)
		for _, k := range kindBounds {
			f := wide(k.kind, width, slices.Repeat([]impl.Point{p}, int(k.least))...)
			got := impl.BuildTile([]impl.Feature{f}, r)
			if got.Code != impl.OK || got.Tile.Ref != r || (len(got.Tile.Features) == 1) != b.meets {
				t.Errorf("%v of %v: %v, not %v", r, f, got, b.meets)
			}
		}
	}
	for z := int64(1); z <= impl.MaxZoom; z++ {
		for tile := int64(1); tile < sides[z]; tile++ {
			for width := range int64(4) {
				for _, b := range atBorder(z, tile, width) {
					for _, row := range []int64{0, sides[z] - 1} {
						ask(z, width, row, b, false)
						ask(z, width, row, b, true)
					}
				}
			}
		}
	}
}

// Corners: a point that just meets a tile in X and in Y, and those that miss it
// in one of them.
func TestBuildTileAtEachCorner(t *testing.T) {
	for z := int64(1); z <= impl.MaxZoom; z++ {
		grid, land := units[z]/4, 8*units[z]
		for _, r := range refsOf(z) {
			for _, x := range []int64{r.X * land, (r.X + 1) * land} {
				for _, y := range []int64{r.Y * land, (r.Y + 1) * land} {
					for _, step := range []impl.Point{at(0, 0), at(-grid, 0), at(grid, 0), at(0, -grid), at(0, grid), at(grid, -grid)} {
						p := at(x+step.X, y+step.Y)
						if p.X < 0 || p.X > impl.World || p.Y < 0 || p.Y > impl.World {
							continue
						}
						want := isIn(p, landOf(r))
						got := impl.BuildTile([]impl.Feature{wide(impl.KindPoint, 0, p)}, r)
						if got.Code != impl.OK || (len(got.Tile.Features) == 1) != want {
							t.Errorf("%v of %v: %v", r, p, got)
						}
					}
				}
			}
		}
	}
}

// What covers no pixel of a tile but reaches it is in it all the same.
func TestBuildTileOfWhatOnlyReaches(t *testing.T) {
	for _, c := range []struct {
		what string
		f    impl.Feature
		r    impl.Ref
	}{
		{"a point at a corner", wide(impl.KindPoint, 0, at(512, 512)), ref(1, 1, 1)},
		{"a point at a corner of the world", wide(impl.KindPoint, 0, at(1024, 0)), ref(0, 0, 0)},
		{"half of the world", wide(impl.KindArea, 0, at(0, 0), at(1024, 0), at(0, 1024)), ref(1, 1, 1)},
		{"a line round a tile", wide(impl.KindLine, 0, at(300, 200), at(300, 40), at(40, 40), at(40, 900), at(900, 900)), ref(2, 1, 1)},
		{"an area beside a tile, with a width", wide(impl.KindArea, 3, at(0, 0), at(224, 0), at(0, 224)), ref(2, 1, 0)},
		{"an area that is a line at its zoom", wide(impl.KindArea, 0, at(64, 64), at(640, 64), at(640, 67)), ref(0, 0, 0)},
	} {
		got := impl.BuildTile([]impl.Feature{c.f}, c.r)
		want := impl.SimpleAt(c.f, c.r.Z).Feature
		if got.Code != impl.OK || !reflect.DeepEqual(got.Tile, impl.Tile{Ref: c.r, Features: []impl.Feature{want}}) {
			t.Errorf("%s: %v", c.what, got)
		}
		for _, pixel := range covered(c.f, c.r.Z) {
			if impl.RefAt(c.r.Z, pixel.X, pixel.Y).Ref == c.r {
				t.Errorf("%s: the test has it cover %v", c.what, pixel)
			}
		}
	}
}

// A feature in a tile has the points of the zoom, and all else as it was.
func TestBuildTileOfFewerPoints(t *testing.T) {
	f := impl.Feature{Id: 40, Layer: 5, Kind: impl.KindLine, Width: 2, Label: "path", Priority: 8,
		Points: []impl.Point{at(1, 2), at(60, 9), at(130, 17), at(250, 3), at(300, 200)}}
	ring := impl.Feature{Id: 9, Layer: 6, Kind: impl.KindArea, Points: []impl.Point{at(3, 3), at(9, 3), at(9, 9), at(3, 9), at(3, 3)}}
	for _, c := range []struct {
		z          int64
		path, ring []impl.Point
	}{
		{0, []impl.Point{at(0, 0), at(256, 0), at(288, 192)}, []impl.Point{at(0, 0), at(0, 0), at(0, 0)}},
		{1, []impl.Point{at(0, 0), at(256, 0), at(304, 208)}, []impl.Point{at(0, 0), at(16, 0), at(16, 16), at(0, 16)}},
		{2, []impl.Point{at(0, 0), at(128, 16), at(248, 0), at(304, 200)}, []impl.Point{at(0, 0), at(8, 0), at(8, 8), at(0, 8)}},
		{3, []impl.Point{at(0, 4), at(132, 16), at(252, 4), at(300, 200)}, []impl.Point{at(4, 4), at(8, 4), at(8, 8), at(4, 8)}},
	} {
		path, ringThen := f, ring
		path.Points, ringThen.Points = c.path, c.ring
		want := impl.TileResult{Tile: impl.Tile{Ref: ref(c.z, 0, 0), Features: []impl.Feature{path, ringThen}}}
		if got := impl.BuildTile([]impl.Feature{ring, f}, ref(c.z, 0, 0)); !reflect.DeepEqual(got, want) {
			t.Errorf("%d: %v, not %v", c.z, got, want)
		}
	}
}

func TestBuildTileOfNone(t *testing.T) {
	corner := []impl.Feature{wide(impl.KindPoint, 0, at(0, 0))}
	for _, r := range allRefs() {
		for i, list := range [][]impl.Feature{nil, {}, corner} {
			if i == 2 && r.X == 0 && r.Y == 0 {
				continue
			}
			if got := impl.BuildTile(list, r); got.Code != impl.OK || got.Tile.Ref != r || len(got.Tile.Features) != 0 {
				t.Errorf("%v of %v: %v", r, list, got)
			}
			served := impl.ServeTile(list, r)
			if served.Code != impl.OK || !bytes.Equal(served.Bytes, []byte{0, 0, 31}) {
				t.Errorf("%v of %v: %v", r, list, served)
			}
			if got := impl.ReadTile(r, served.Bytes); got.Code != impl.OK || got.Tile.Ref != r || len(got.Tile.Features) != 0 {
				t.Errorf("%v of %v: back %v", r, list, got)
			}
		}
		if got := impl.SumTile(impl.Tile{Ref: r}); got != (impl.IntResult{Value: sumAs([]byte{0, 0, 31})}) {
			t.Errorf("%v: %v", r, got)
		}
	}
}

// Features in whatever order they came are in order in the tile, as many as
// there may be.
func TestBuildTileOrder(t *testing.T) {
	n := numbers(84)
	for i := range 200 {
		list := n.features(int(n.next(1, 12)))
		if i == 0 {
			list = longest()
		}
		want := impl.BuildTile(list, ref(0, 0, 0))
		if want.Code != impl.OK || len(want.Tile.Features) != len(list) {
			t.Fatalf("%v: zoom 0 has %v", list, want)
		}
		for k, f := range want.Tile.Features {
			if k > 0 && !isInFront(f, want.Tile.Features[k-1]) {
				t.Fatalf("%v: %v is not behind %v", list, f, want.Tile.Features[k-1])
			}
		}
		for range 4 {
			shuffle(&n, list)
			if got := impl.BuildTile(list, ref(0, 0, 0)); !reflect.DeepEqual(got, want) {
				t.Fatalf("%v: %v, in another order %v", list, want, got)
			}
		}
	}
}

// Lists with a fault: its code, whichever tile is asked for, also one that
// nothing of it would reach.
func TestBuildTileWrong(t *testing.T) {
	wrong, codes := wrongFeatures()
	for i, f := range wrong {
		for _, list := range [][]impl.Feature{{f}, append(numbered(1), f), {f, numbered(9)[0]}, append(numbered(9, 8), f)} {
			for _, r := range []impl.Ref{ref(0, 0, 0), ref(3, 0, 0), ref(3, 7, 7)} {
				expectNoTile(t, list, r, codes[i])
			}
		}
	}
	unread := numbered(5)
	unread[0].Label = "?"
	for _, c := range []struct {
		list []impl.Feature
		code int64
	}{
		{numbered(1, 1), impl.ErrTaken},
		{numbered(3, 2, 3), impl.ErrTaken},
		{append(numbered(9, 9), unread...), impl.ErrTaken},
		{append(unread, numbered(9, 9)...), impl.ErrText},
		{numbered(1, 2, 3, 4, 5, 6, 7, 8, 9, 10, 11, 12, 13), impl.ErrMany},
		{slices.Repeat(unread, 13), impl.ErrMany},
		{make([]impl.Feature, 3000), impl.ErrMany},
		{make([]impl.Feature, 12), impl.ErrRange},
	} {
		for _, r := range allRefs() {
			expectNoTile(t, c.list, r, c.code)
		}
	}
}

func expectNoTile(t *testing.T, list []impl.Feature, r impl.Ref, code int64) {
	t.Helper()
	if got := impl.BuildTile(list, r); !reflect.DeepEqual(got, impl.TileResult{Code: code}) {
		t.Errorf("%v of %v: %v, not %d", r, list, got, code)
	}
	if got := impl.ServeTile(list, r); !reflect.DeepEqual(got, impl.BytesResult{Code: code}) {
		t.Errorf("%v of %v: %v, not %d", r, list, got, code)
	}
}

// tileAs are the features of a tile by what the document says of them.
func tileAs(list []impl.Feature, r impl.Ref) []impl.Feature {
	var got []impl.Feature
	unit := units[r.Z]
	for _, f := range list {
		reach := (f.Width + 1) * unit
		left, right, above, below := true, true, true, true // all of it is there
		for _, p := range doubledAs(f, r.Z) {
			left = left && p.X+reach < (16*r.X+1)*unit
			right = right && p.X-reach > (16*r.X+15)*unit
			above = above && p.Y+reach < (16*r.Y+1)*unit
			below = below && p.Y-reach > (16*r.Y+15)*unit
		}
		if !left && !right && !above && !below {
			f.Points = simpleAs(f, r.Z)
			got = append(got, f)
		}
	}
	slices.SortFunc(got, func(a, b impl.Feature) int { return int((a.Layer-b.Layer)*1000 + a.Id - b.Id) })
	return got
}

// someMap are features without a fault, near one another or over all the world.
func someMap(n *numbers) []impl.Feature {
	list := n.features(int(n.next(0, 12)))
	for i := range list {
		if n.next(0, 2) > 0 {
			id := list[i].Id
			list[i] = narrow(n)
			list[i].Id = id
		}
	}
	return list
}

// someRef is a ref without a fault.
func someRef(n *numbers) impl.Ref {
	z := n.next(0, impl.MaxZoom)
	return ref(z, n.next(0, sides[z]-1), n.next(0, sides[z]-1))
}

func TestTilesAgainstTheDocument(t *testing.T) {
	n := numbers(85)
	seen := map[int]int{}
	for range 6000 {
		list, r := someMap(&n), someRef(&n)
		want := tileAs(list, r)
		got := impl.BuildTile(list, r)
		if !reflect.DeepEqual(got, impl.TileResult{Tile: impl.Tile{Ref: r, Features: want}}) {
			t.Fatalf("%v of %v: %v, not %v", r, list, got, want)
		}
		served := impl.ServeTile(list, r)
		if !reflect.DeepEqual(served, impl.BytesResult{Bytes: listAs(want)}) {
			t.Fatalf("%v of %v: %v, not %v", r, list, served, listAs(want))
		}
		if sum := impl.SumTile(got.Tile); sum != (impl.IntResult{Value: sumAs(listAs(want))}) {
			t.Fatalf("%v: %v", got, sum)
		}
		seen[len(want)]++
	}
	for count := range 8 {
		if seen[count] < 50 {
			t.Error("the test asks for little", count, seen)
		}
	}
}

// Bytes of features, whatever the ref and wherever the features are: a tile of
// that ref.
func TestReadTile(t *testing.T) {
	for _, r := range allRefs() {
		for _, list := range [][]impl.Feature{nil, two(), longest(), {wide(impl.KindPoint, 0, at(1001, 3))}} {
			want := impl.TileResult{Tile: impl.Tile{Ref: r, Features: list}}
			if got := impl.ReadTile(r, listAs(list)); !reflect.DeepEqual(got, want) {
				t.Errorf("%v: %v, not %v", r, got, want)
			}
		}
	}
}

func expectUnreadTile(t *testing.T, what string, data []byte, code int64) {
	t.Helper()
	for _, r := range []impl.Ref{ref(0, 0, 0), ref(2, 3, 1), ref(3, 7, 7)} {
		if got := impl.ReadTile(r, data); !reflect.DeepEqual(got, impl.TileResult{Code: code}) {
			t.Errorf("%s: %v: %v, not %d", what, r, got, code)
		}
	}
}

func TestReadTileWrong(t *testing.T) {
	data := listAs(two())
	expectUnreadTile(t, "nil", nil, impl.ErrText)
	expectUnreadTile(t, "none", []byte{}, impl.ErrText)
	for i := range data {
		expectUnreadTile(t, "cut off", data[:i], impl.ErrText)
		expectUnreadTile(t, "without its beginning", data[i+1:], impl.ErrText)
		other := slices.Clone(data)
		other[i]++
		expectUnreadTile(t, "one more in one byte", other, impl.ErrText)
	}
	expectUnreadTile(t, "one byte behind", append(slices.Clone(data), 0), impl.ErrText)
	expectUnreadTile(t, "not in order", listAs(numbered(2, 1)), impl.ErrText)
	expectUnreadTile(t, "the same Id twice", listAs(numbered(1, 1)), impl.ErrText)
	expectUnreadTile(t, "an Id out of bounds", listAs(numbered(1000)), impl.ErrText)
	expectUnreadTile(t, "thirteen", listAs(numbered(1, 2, 3, 4, 5, 6, 7, 8, 9, 10, 11, 12, 13)), impl.ErrText)
	for _, count := range []int{748, 899, 900} {
		expectUnreadTile(t, fmt.Sprint(count), make([]byte, count), impl.ErrText)
		expectUnreadTile(t, fmt.Sprint(count, " with a sum"), summed(make([]byte, count-2)), impl.ErrText)
	}
	for _, count := range []int{901, 902, 5000} {
		expectUnreadTile(t, fmt.Sprint(count), make([]byte, count), impl.ErrMany)
		expectUnreadTile(t, fmt.Sprint(count, " with a sum"), summed(make([]byte, count-2)), impl.ErrMany)
		expectUnreadTile(t, fmt.Sprint(count, " of features first"), append(slices.Clone(data), make([]byte, count-len(data))...), impl.ErrMany)
	}
}

// The sum is that of all bytes of the features, their own sum with them; which
// ref they are of is no part of it.
func TestSumTile(t *testing.T) {
	for _, list := range [][]impl.Feature{nil, two(), two()[:1], longest(), numbered(1, 2, 3)} {
		want := impl.IntResult{Value: sumAs(listAs(list))}
		for _, r := range allRefs() {
			if got := impl.SumTile(impl.Tile{Ref: r, Features: list}); got != want {
				t.Errorf("%v of %v: %v, not %v", r, list, got, want)
			}
		}
	}
	if got := impl.SumTile(impl.Tile{}); got.Value != (31*31+0)*31+31 {
		t.Error("the first tile, without a feature", got)
	}
}

func TestSumTileWrong(t *testing.T) {
	wrong, codes := wrongFeatures()
	expect := func(list []impl.Feature, code int64) {
		t.Helper()
		for _, r := range []impl.Ref{ref(0, 0, 0), ref(1, 1, 0), ref(3, 7, 7)} {
			if got := impl.SumTile(impl.Tile{Ref: r, Features: list}); got != (impl.IntResult{Code: code}) {
				t.Errorf("%v of %v: %v, not %d", r, list, got, code)
			}
		}
	}
	for i, f := range wrong {
		expect([]impl.Feature{f}, codes[i])
		expect(append(numbered(1), f), codes[i])
		expect(append(numbered(9, 8), f), codes[i])
	}
	fallen := numbered(1, 2)
	fallen[0].Layer = 3
	expect(numbered(2, 1), impl.ErrForm)
	expect(numbered(1, 2, 4, 3), impl.ErrForm)
	expect(fallen, impl.ErrForm)
	expect(numbered(1, 1), impl.ErrTaken)
	expect(numbered(3, 2, 3), impl.ErrTaken)
	expect(numbered(13, 12, 11, 10, 9, 8, 7, 6, 5, 4, 3, 2, 1), impl.ErrMany)
	expect(make([]impl.Feature, 3000), impl.ErrMany)
}
