package tests

import (
	"fmt"
	"math"
	"reflect"
	"slices"
	"strings"
	"testing"

	"loop.example/g00403/impl"
)

// pixels is how many Ids a raster has.
const pixels = 64

// ramp is a raster in which each place has an Id of its own.
func ramp(first int64) []int64 {
	var ids []int64
	for i := range int64(pixels) {
		ids = append(ids, first+i)
	}
	return ids
}

// plain is a raster with the same Id everywhere.
func plain(id int64) []int64 {
	return slices.Repeat([]int64{id}, pixels)
}

// dotted is a raster of nothing, but for an Id at each of these places.
func dotted(id int64, places ...impl.Point) []int64 {
	ids := plain(0)
	for _, p := range places {
		ids[8*p.Y+p.X] = id
	}
	return ids
}

// someIds is a raster of few or many Ids.
func someIds(n *numbers) []int64 {
	most := []int64{1, 9, 99, 999}[n.next(0, 3)]
	var ids []int64
	for range pixels {
		ids = append(ids, n.next(0, most))
	}
	return ids
}

// wrongIds are no rasters, each with the code of that.
func wrongIds() (lists [][]int64, codes []int64) {
	add := func(code int64, list []int64) {
		lists, codes = append(lists, list), append(codes, code)
	}
	for _, count := range []int{0, 1, 8, 62, 63, 65, 66, 72, 128, 4096, 100000} {
		add(impl.ErrMany, make([]int64, count))
		// how many there are is asked ahead of what they are
		add(impl.ErrMany, slices.Repeat([]int64{-1}, count))
		add(impl.ErrMany, slices.Repeat([]int64{1000}, count))
	}
	add(impl.ErrMany, nil)
	add(impl.ErrMany, ramp(1)[:63])
	add(impl.ErrMany, append(ramp(1), 65))
	for _, bad := range append([]int64{-1, -2, 1000, 1001, -999}, far...) {
		for _, place := range []int{0, 1, 31, 62, 63} {
			list := ramp(1)
			list[place] = bad
			add(impl.ErrRange, list)
		}
		add(impl.ErrRange, plain(bad))
	}
	return lists, codes
}

func expectRaster(t *testing.T, what string, got impl.IntsResult, want []int64) {
	t.Helper()
	if got.Code != impl.OK || !slices.Equal(got.List, want) {
		t.Errorf("%s: %v, not %v", what, got, want)
	}
}

func expectNoRaster(t *testing.T, what string, got impl.IntsResult, code int64) {
	t.Helper()
	if !reflect.DeepEqual(got, impl.IntsResult{Code: code}) {
		t.Errorf("%s: %v, not %d", what, got, code)
	}
}

func TestTilePixels(t *testing.T) {
	if side := impl.TileSide; side*side != pixels || impl.TilePixels != pixels {
		t.Error(impl.TilePixels)
	}
}

func tileOf(r impl.Ref, list ...impl.Feature) impl.Tile {
	return impl.Tile{Ref: r, Features: list}
}

func TestRastersOfNone(t *testing.T) {
	for _, r := range allRefs() {
		expectRaster(t, "nil", impl.RasterTile(tileOf(r)), plain(0))
		expectRaster(t, "none", impl.RasterTile(tileOf(r, []impl.Feature{}...)), plain(0))
		expectRaster(t, "the map, nil", impl.RefRaster(nil, r), plain(0))
		expectRaster(t, "the map, none", impl.RefRaster([]impl.Feature{}, r), plain(0))
	}
}

// One pixel of a tile, each of them: the rows follow one another, from that of
// the least Y on, and of a row the least X is first.
func TestRastersOfOnePixel(t *testing.T) {
	for _, r := range []impl.Ref{ref(0, 0, 0), ref(1, 1, 0), ref(2, 1, 3), ref(3, 0, 0), ref(3, 7, 2), ref(3, 7, 7)} {
		unit := units[r.Z]
		for place := range int64(pixels) {
			x, y := 8*r.X+place%8, 8*r.Y+place/8
			f := wide(impl.KindPoint, 0, at(x*unit+unit/2, y*unit+unit/2))
			f.Id = 100 + place
			want := plain(0)
			want[place] = f.Id
			expectRaster(t, fmt.Sprint(r, " ", place), impl.RasterTile(tileOf(r, f)), want)
			expectRaster(t, fmt.Sprint("the map ", r, " ", place), impl.RefRaster([]impl.Feature{f}, r), want)
		}
	}
}

// Features of a tile that reach no pixel of it are not seen in it.
func TestRastersOfWhatIsElsewhere(t *testing.T) {
	f := wide(impl.KindPoint, 0, at(8, 8))
	for _, r := range refsOf(impl.MaxZoom) {
		want := plain(0)
		if r == ref(3, 0, 0) {
			want = dotted(7, at(0, 0))
		}
		expectRaster(t, fmt.Sprint(r), impl.RasterTile(tileOf(r, f)), want)
		expectRaster(t, fmt.Sprint("the map ", r), impl.RefRaster([]impl.Feature{f}, r), want)
	}
}

// What covers all the world is seen at all pixels of all tiles, with the least
// and the greatest Id.
func TestRastersOfAllTheWorld(t *testing.T) {
	all := wide(impl.KindArea, 0, at(0, 0), at(1024, 0), at(1024, 1024), at(0, 1024))
	for _, id := range []int64{1, 999} {
		all.Id = id
		for _, r := range allRefs() {
			expectRaster(t, fmt.Sprint(r), impl.RasterTile(tileOf(r, all)), plain(id))
			expectRaster(t, fmt.Sprint("the map ", r), impl.RefRaster([]impl.Feature{all}, r), plain(id))
		}
	}
}

// Two features that cover the same pixels: the one of the greater Layer is in
// front, of the same Layer the one of the greater Id, whatever else they have.
func TestRastersFront(t *testing.T) {
	row := func(layer, id int64) impl.Feature {
		f := wide(impl.KindLine, 0, at(64, 64), at(448, 64))
		f.Layer, f.Id, f.Priority = layer, id, 9-layer
		return f
	}
	column := func(layer, id int64) impl.Feature {
		f := wide(impl.KindLine, 0, at(64, 64), at(64, 320))
		f.Layer, f.Id, f.Priority = layer, id, layer
		return f
	}
	picture := func(row, column, both int64) []int64 {
		ids := dotted(row, at(1, 0), at(2, 0), at(3, 0))
		ids[8], ids[16], ids[0] = column, column, both
		return ids
	}
	for _, c := range []struct {
		what         string
		behind, then impl.Feature // in order
		want         []int64
	}{
		{"the greater Layer", row(1, 5), column(2, 4), picture(5, 4, 4)},
		{"the greater Layer, the other way", column(1, 5), row(2, 4), picture(4, 5, 4)},
		{"the greater Id of a Layer", row(2, 4), column(2, 5), picture(4, 5, 5)},
		{"the greater Id of a Layer, the other way", column(2, 4), row(2, 5), picture(5, 4, 5)},
		{"the Layer ahead of the Id", row(0, 999), column(9, 1), picture(999, 1, 1)},
	} {
		expectRaster(t, c.what, impl.RasterTile(tileOf(ref(0, 0, 0), c.behind, c.then)), c.want)
		expectRaster(t, c.what+", the map", impl.RefRaster([]impl.Feature{c.behind, c.then}, ref(0, 0, 0)), c.want)
		expectRaster(t, c.what+", the map in the other order", impl.RefRaster([]impl.Feature{c.then, c.behind}, ref(0, 0, 0)), c.want)
		expectNoRaster(t, c.what+", the tile in the other order", impl.RasterTile(tileOf(ref(0, 0, 0), c.then, c.behind)), impl.ErrForm)
	}
}

// Twelve on one pixel, of which one after the other goes from the front.
func TestRastersOfTwelve(t *testing.T) {
	var list []impl.Feature
	for i := range int64(12) {
		f := layered([2]int64{i / 3, 100 - i%3*7 + i})[0]
		f.Points = []impl.Point{at(64+128*(i%8), 64)}
		f.Width = 3
		list = append(list, f)
	}
	list = impl.SortFeatures(list).Features
	for ; len(list) > 0; list = list[:len(list)-1] {
		want := rasterAs(tileOf(ref(0, 0, 0), list...))
		if !slices.Contains(want, list[len(list)-1].Id) {
			t.Fatalf("%v: the last one is not in front in %v", list, want)
		}
		expectRaster(t, fmt.Sprint(len(list)), impl.RasterTile(tileOf(ref(0, 0, 0), list...)), want)
		expectRaster(t, fmt.Sprint("the map ", len(list)), impl.RefRaster(list, ref(0, 0, 0)), want)
	}
}

// What covers as it is and what covers with the points of the zoom: a tile asks
// for the one, the map for the other.
func TestRastersOfOwnPoints(t *testing.T) {
	box := func(low, high impl.Point) impl.Feature {
		return wide(impl.KindArea, 0, low, at(high.X, low.Y), high, at(low.X, high.Y))
	}
	pixel := func(xy ...int64) []impl.Point {
		var list []impl.Point
		for pair := range slices.Chunk(xy, 2) {
			list = append(list, at(pair[0], pair[1]))
		}
		return list
	}
	for _, c := range []struct {
		what      string
		f         impl.Feature
		r         impl.Ref
		own, then []impl.Point
	}{
		{"a point that is snapped out of a reach", wide(impl.KindPoint, 0, at(15, 23)), ref(0, 0, 0), pixel(0, 0), nil},
		{"a point that is snapped into two reaches", wide(impl.KindPoint, 0, at(128, 72)), ref(0, 0, 0), nil, pixel(0, 0, 1, 0)},
		{"a point that is snapped into one reach more", wide(impl.KindPoint, 0, at(143, 64)), ref(0, 0, 0), pixel(1, 0), pixel(0, 0, 1, 0)},
		{"a line that is thinned", wide(impl.KindLine, 0, at(64, 150), at(192, 124), at(320, 150)), ref(0, 0, 0), pixel(1, 0, 0, 1, 2, 1), pixel(0, 1, 1, 1, 2, 1)},
		{"an area that is one point at its zoom", box(at(60, 60), at(70, 70)), ref(0, 0, 0), pixel(0, 0), nil},
		{"an area that ends at a middle at its zoom", box(at(0, 0), at(70, 70)), ref(0, 0, 0), pixel(0, 0), nil},
		{"an area that begins at a middle at its zoom", box(at(70, 0), at(190, 128)), ref(0, 0, 0), nil, pixel(0, 0)},
		{"nearest: a point", wide(impl.KindPoint, 0, at(1009, 1016)), ref(3, 7, 7), pixel(7, 7), pixel(6, 7, 7, 7)},
		{"nearest: an area", box(at(1015, 1015), at(1017, 1017)), ref(3, 7, 7), pixel(7, 7), nil},
	} {
		expectRaster(t, c.what+", its own points", impl.RasterTile(tileOf(c.r, c.f)), dotted(7, c.own...))
		expectRaster(t, c.what+", those of the zoom", impl.RefRaster([]impl.Feature{c.f}, c.r), dotted(7, c.then...))
		expectRaster(t, c.what+", built", impl.RasterTile(impl.BuildTile([]impl.Feature{c.f}, c.r).Tile), dotted(7, c.then...))
	}
}

// rasterAs is the raster of a tile by what the document says of it, in
// fractions of any size.
func rasterAs(t impl.Tile) []int64 {
	var ids []int64
	for y := 8 * t.Ref.Y; y < 8*t.Ref.Y+8; y++ {
		for x := 8 * t.Ref.X; x < 8*t.Ref.X+8; x++ {
			id := int64(0)
			for _, f := range t.Features {
				var points []impl.Point
				for _, p := range f.Points {
					points = append(points, at(2*p.X, 2*p.Y))
				}
				if coversAs(f, points, t.Ref.Z, x, y) {
					id = f.Id
				}
			}
			ids = append(ids, id)
		}
	}
	return ids
}

// What a tile has may lie anywhere, with points that are on no grid.
func TestRasterTileAgainstTheDocument(t *testing.T) {
	n := numbers(94)
	seen, others := 0, 0
	for i := range 700 {
		tile := tileOf(someRef(&n), impl.SortFeatures(someMap(&n)).Features...)
		if i%3 == 0 {
			tile.Features = impl.SortFeatures(crowd(&n)).Features
		}
		want := rasterAs(tile)
		expectRaster(t, fmt.Sprint(tile), impl.RasterTile(tile), want)
		if !slices.Equal(want, plain(0)) {
			seen++
		}
		if !slices.Equal(want, impl.RefRaster(tile.Features, tile.Ref).List) {
			others++
		}
	}
	if seen < 300 || others < 100 {
		t.Error("the test asks for little", seen, others)
	}
}

func TestRefRasterAgainstTheDocument(t *testing.T) {
	n := numbers(95)
	for i := range 300 {
		list, r := someMap(&n), someRef(&n)
		if i%3 == 0 {
			list = crowd(&n)
		}
		sorted := impl.SortFeatures(list).Features
		for k, f := range sorted {
			sorted[k].Points = simpleAs(f, r.Z)
		}
		expectRaster(t, fmt.Sprint(r, " of ", list), impl.RefRaster(list, r), rasterAs(tileOf(r, sorted...)))
	}
}

// Tiles with a fault: the ref, then the features, then their order.
func TestRasterTileWrong(t *testing.T) {
	wrong, codes := wrongFeatures()
	some := []impl.Ref{ref(0, 0, 0), ref(1, 0, 1), ref(3, 7, 7)}
	for i, f := range wrong {
		for _, r := range some {
			for _, list := range [][]impl.Feature{{f}, append(numbered(1), f), append(numbered(9, 8), f)} {
				expectNoRaster(t, fmt.Sprint(r, len(list)), impl.RasterTile(tileOf(r, list...)), codes[i])
				expectNoRaster(t, fmt.Sprint("the map ", r, len(list)), impl.RefRaster(list, r), codes[i])
			}
		}
	}
	unread, fallen := numbered(5), numbered(1, 2)
	unread[0].Label, fallen[0].Layer = "?", 3
	for i, c := range []struct {
		list          []impl.Feature
		tile, painted int64
	}{
		{numbered(2, 1), impl.ErrForm, impl.OK},
		{numbered(1, 2, 4, 3), impl.ErrForm, impl.OK},
		{fallen, impl.ErrForm, impl.OK},
		{numbered(1, 1), impl.ErrTaken, impl.ErrTaken},
		{numbered(3, 2, 3), impl.ErrTaken, impl.ErrTaken},
		{append(numbered(9, 9), unread...), impl.ErrTaken, impl.ErrTaken},
		{append(unread, numbered(9, 9)...), impl.ErrText, impl.ErrText},
		{append(numbered(9, 8), unread...), impl.ErrText, impl.ErrText},
		{numbered(13, 12, 11, 10, 9, 8, 7, 6, 5, 4, 3, 2, 1), impl.ErrMany, impl.ErrMany},
		{numbered(1, 2, 3, 4, 5, 6, 7, 8, 9, 10, 11, 12, 13), impl.ErrMany, impl.ErrMany},
		{make([]impl.Feature, 3000), impl.ErrMany, impl.ErrMany},
		{make([]impl.Feature, 12), impl.ErrRange, impl.ErrRange},
	} {
		for _, r := range allRefs() {
			expectNoRaster(t, fmt.Sprint(r, " ", i), impl.RasterTile(tileOf(r, c.list...)), c.tile)
			if got := impl.RefRaster(c.list, r); got.Code != c.painted || (got.Code == impl.OK) != (len(got.List) == pixels) {
				t.Errorf("the map %v %d: %v, not %d", r, i, got, c.painted)
			}
		}
		for _, r := range wrongRefs() {
			expectNoRaster(t, fmt.Sprint(r, " ", i), impl.RasterTile(tileOf(r, c.list...)), impl.ErrRange)
			expectNoRaster(t, fmt.Sprint("the map ", r, " ", i), impl.RefRaster(c.list, r), impl.ErrRange)
		}
	}
	for _, r := range wrongRefs() {
		expectNoRaster(t, fmt.Sprint(r), impl.RasterTile(tileOf(r)), impl.ErrRange)
		expectNoRaster(t, fmt.Sprint(r), impl.RasterTile(tileOf(r, two()...)), impl.ErrRange)
		expectNoRaster(t, fmt.Sprint("the map ", r), impl.RefRaster(nil, r), impl.ErrRange)
	}
}

func TestUpRasterToItself(t *testing.T) {
	for _, r := range allRefs() {
		expectRaster(t, fmt.Sprint(r), impl.UpRaster(ramp(900), r, r), ramp(900))
	}
}

// stretched is what is seen of a ramp of Ids from nearer: from the Id first on,
// each pixel so many times as wide and high.
func stretched(first, times int64) []int64 {
	var ids []int64
	for y := range int64(8) {
		for x := range int64(8) {
			ids = append(ids, first+8*(y/times)+x/times)
		}
	}
	return ids
}

func TestUpRasterToKids(t *testing.T) {
	for _, from := range []impl.Ref{ref(0, 0, 0), ref(1, 0, 0), ref(1, 1, 0), ref(2, 3, 1), ref(2, 3, 3)} {
		for i, first := range []int64{0, 4, 32, 36} {
			to := impl.KidsOf(from).Refs[i]
			expectRaster(t, fmt.Sprint(from, to), impl.UpRaster(ramp(0), from, to), stretched(first, 2))
		}
	}
}

func TestUpRasterByMoreZooms(t *testing.T) {
	for _, c := range []struct {
		from, to     impl.Ref
		first, times int64
	}{
		{ref(0, 0, 0), ref(2, 0, 0), 0, 4},
		{ref(0, 0, 0), ref(2, 1, 0), 2, 4},
		{ref(0, 0, 0), ref(2, 2, 3), 8*6 + 4, 4},
		{ref(0, 0, 0), ref(2, 3, 3), 8*6 + 6, 4},
		{ref(1, 0, 0), ref(3, 3, 3), 8*6 + 6, 4},
		{ref(1, 1, 0), ref(3, 4, 0), 0, 4},
		{ref(1, 1, 0), ref(3, 7, 2), 8*4 + 6, 4},
		{ref(1, 1, 1), ref(3, 5, 6), 8*4 + 2, 4},
		{ref(0, 0, 0), ref(3, 0, 0), 0, 8},
		{ref(0, 0, 0), ref(3, 5, 2), 8*2 + 5, 8},
		{ref(0, 0, 0), ref(3, 7, 7), 63, 8},
	} {
		expectRaster(t, fmt.Sprint(c.from, c.to), impl.UpRaster(ramp(0), c.from, c.to), stretched(c.first, c.times))
	}
}

// landsIn tells whether one tile has all that another one has of the world.
func landsIn(from, to impl.Ref) bool {
	return isIn(landOf(to).Low, landOf(from)) && isIn(landOf(to).High, landOf(from))
}

// upAs is UpRaster by where the middles of the pixels lie in the world.
func upAs(ids []int64, from, to impl.Ref) []int64 {
	var list []int64
	land, unit := landOf(from), 2*units[from.Z]
	for place := range int64(pixels) {
		middle := impl.CentreOf(to.Z, 8*to.X+place%8, 8*to.Y+place/8).Point
		list = append(list, ids[(middle.Y-2*land.Low.Y)/unit*8+(middle.X-2*land.Low.X)/unit])
	}
	return list
}

// Each ref to each other one: those that lie in it have its raster, all others
// have none: those beside it, and those in which it lies.
func TestUpRasterOfAllRefs(t *testing.T) {
	n := numbers(96)
	count := 0
	for _, from := range allRefs() {
		ids := someIds(&n)
		for _, to := range allRefs() {
			got := impl.UpRaster(ids, from, to)
			if !landsIn(from, to) {
				expectNoRaster(t, fmt.Sprint(from, to), got, impl.ErrForm)
				continue
			}
			expectRaster(t, fmt.Sprint(from, to), got, upAs(ids, from, to))
			count++
		}
	}
	if count != 85+(4+16+64)+4*(4+16)+16*4 {
		t.Error("the test asks for others", count)
	}
}

func TestUpRasterBeside(t *testing.T) {
	for _, c := range [][2]impl.Ref{
		{ref(1, 0, 0), ref(1, 1, 0)},
		{ref(1, 0, 0), ref(1, 0, 1)},
		{ref(1, 1, 0), ref(1, 0, 1)},
		{ref(1, 0, 0), ref(0, 0, 0)},
		{ref(3, 0, 0), ref(2, 0, 0)},
		{ref(3, 0, 0), ref(0, 0, 0)},
		{ref(3, 7, 7), ref(1, 1, 1)},
		{ref(1, 0, 0), ref(2, 2, 0)},
		{ref(1, 0, 0), ref(2, 0, 2)},
		{ref(1, 1, 1), ref(2, 1, 2)},
		{ref(1, 1, 1), ref(2, 2, 1)},
		{ref(2, 1, 1), ref(3, 1, 1)},
		{ref(1, 1, 0), ref(3, 3, 0)},
		{ref(1, 1, 0), ref(3, 4, 4)},
		{ref(1, 0, 0), ref(3, 4, 0)},
	} {
		expectNoRaster(t, fmt.Sprint(c), impl.UpRaster(ramp(1), c[0], c[1]), impl.ErrForm)
	}
}

// The codes in their order: how many there are, what they are, from, to, and
// whether the one lies in the other.
func TestUpRasterWrong(t *testing.T) {
	lists, codes := wrongIds()
	refs := []impl.Ref{ref(0, 0, 0), ref(3, 7, 7), ref(1, 1, 0), ref(4, 0, 0), ref(-1, 0, 0), ref(2, 4, 0), ref(math.MaxInt64, 0, 0), ref(0, math.MinInt64, 0)}
	for i, ids := range lists {
		for _, from := range refs {
			for _, to := range refs {
				expectNoRaster(t, fmt.Sprint(len(ids), from, to), impl.UpRaster(ids, from, to), codes[i])
			}
		}
	}
	for _, bad := range wrongRefs() {
		for _, other := range []impl.Ref{ref(0, 0, 0), ref(3, 7, 7), ref(1, 1, 0), bad} {
			expectNoRaster(t, fmt.Sprint(bad, other), impl.UpRaster(ramp(1), bad, other), impl.ErrRange)
			expectNoRaster(t, fmt.Sprint(other, bad), impl.UpRaster(ramp(1), other, bad), impl.ErrRange)
		}
	}
}

func TestCountIds(t *testing.T) {
	var few []int64
	for i := range int64(pixels) {
		few = append(few, []int64{0, 999, 5, 0, 40, 5, 999, 1}[i%8])
	}
	down := ramp(1)
	slices.Reverse(down)
	last := plain(0)
	last[63] = 999
	for _, c := range []struct {
		what string
		ids  []int64
		want []int64
	}{
		{"none above 0", plain(0), nil},
		{"one many times", plain(7), []int64{7}},
		{"the greatest one", plain(999), []int64{999}},
		{"the least one, once", dotted(1, at(0, 0)), []int64{1}},
		{"the greatest one, once, at the end", last, []int64{999}},
		{"all different, rising", ramp(1), ramp(1)},
		{"all different, falling", down, ramp(1)},
		{"all different, up to the greatest one", ramp(936), ramp(936)},
		{"all different, with 0", ramp(0), ramp(1)[:63]},
		{"few, many times", few, []int64{1, 5, 40, 999}},
	} {
		expectRaster(t, c.what, impl.CountIds(c.ids), c.want)
	}
	if got := impl.CountIds(plain(0)); len(got.List) != 0 || got.Code != impl.OK {
		t.Error("none", got)
	}
}

// countAs are the Ids above 0 that are there, by asking for each of them.
func countAs(ids []int64) []int64 {
	var list []int64
	for id := int64(1); id <= 999; id++ {
		if slices.Contains(ids, id) {
			list = append(list, id)
		}
	}
	return list
}

func TestCountIdsAgainstTheDocument(t *testing.T) {
	n := numbers(97)
	for range 500 {
		ids := someIds(&n)
		expectRaster(t, fmt.Sprint(ids), impl.CountIds(ids), countAs(ids))
	}
}

// textAs is the text of a raster by what the document says of it.
func textAs(ids []int64) string {
	text := ""
	for i, id := range ids {
		text += fmt.Sprint(id)
		if i%8 == 7 {
			text += "\n"
		} else {
			text += " "
		}
	}
	return text
}

func TestRasterText(t *testing.T) {
	mixed := dotted(7, at(0, 0), at(7, 7))
	mixed[1], mixed[7], mixed[8], mixed[56] = 10, 999, 100, 42
	for _, c := range []struct {
		ids  []int64
		want string
	}{
		{plain(0), strings.Repeat("0 0 0 0 0 0 0 0\n", 8)},
		{plain(9), strings.Repeat("9 9 9 9 9 9 9 9\n", 8)},
		{plain(10), strings.Repeat("10 10 10 10 10 10 10 10\n", 8)},
		{plain(99), strings.Repeat("99 99 99 99 99 99 99 99\n", 8)},
		{plain(100), strings.Repeat("100 100 100 100 100 100 100 100\n", 8)},
		{plain(999), strings.Repeat("999 999 999 999 999 999 999 999\n", 8)},
		{mixed, "7 10 0 0 0 0 0 999\n100 0 0 0 0 0 0 0\n" + strings.Repeat("0 0 0 0 0 0 0 0\n", 5) + "42 0 0 0 0 0 0 7\n"},
		{ramp(4), "4 5 6 7 8 9 10 11\n12 13 14 15 16 17 18 19\n20 21 22 23 24 25 26 27\n28 29 30 31 32 33 34 35\n" +
			"36 37 38 39 40 41 42 43\n44 45 46 47 48 49 50 51\n52 53 54 55 56 57 58 59\n60 61 62 63 64 65 66 67\n"},
	} {
		if got := impl.RasterText(c.ids); got != (impl.TextResult{Text: c.want}) {
			t.Errorf("%v: %d %q, not %q", c.ids, got.Code, got.Text, c.want)
		}
	}
	n := numbers(98)
	for range 500 {
		ids := someIds(&n)
		if got := impl.RasterText(ids); got != (impl.TextResult{Text: textAs(ids)}) {
			t.Errorf("%v: %d %q", ids, got.Code, got.Text)
		}
	}
}

func TestIdsWrong(t *testing.T) {
	lists, codes := wrongIds()
	for i, ids := range lists {
		expectNoRaster(t, fmt.Sprint(len(ids)), impl.CountIds(ids), codes[i])
		if got := impl.RasterText(ids); got != (impl.TextResult{Code: codes[i]}) {
			t.Errorf("%d: %v, not %d", len(ids), got, codes[i])
		}
	}
}
