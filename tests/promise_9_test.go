package tests

import (
	"reflect"
	"slices"
	"testing"

	"loop.example/g00403/impl"
)

// expectPaintedSo asks of the tile of r, as it is built and as it is served and
// read, to be painted as the map itself is there, and tells how many Ids that
// has.
func expectPaintedSo(t *testing.T, list []impl.Feature, r impl.Ref) int {
	t.Helper()
	want := impl.RefRaster(list, r)
	if want.Code != impl.OK || len(want.List) != impl.TilePixels {
		t.Fatalf("%v of %v: %v", r, list, want)
	}
	for place, id := range want.List {
		x, y := 8*r.X+int64(place)%8, 8*r.Y+int64(place)/8
		if got := impl.PaintedAt(list, r.Z, x, y); got != (impl.IntResult{Value: id}) {
			t.Fatalf("%v of %v, pixel %d,%d: %v, not %v", r, list, x, y, id, got)
		}
	}
	if got := impl.RasterTile(impl.BuildTile(list, r).Tile); !reflect.DeepEqual(got, want) {
		t.Fatalf("%v of %v: %v, not %v", r, list, got, want)
	}
	if got := impl.RasterTile(impl.ReadTile(r, impl.ServeTile(list, r).Bytes).Tile); !reflect.DeepEqual(got, want) {
		t.Fatalf("%v of %v, served: %v, not %v", r, list, got, want)
	}
	return len(impl.CountIds(want.List).List)
}

// P9: a tile is painted as the map itself is there.
func TestPromise9PaintedAsTheMap(t *testing.T) {
	n := numbers(99)
	seen := map[int]int{}
	for i := range 900 {
		list, r := someMap(&n), someRef(&n)
		if i%3 == 0 {
			list = crowd(&n)
		}
		seen[expectPaintedSo(t, list, r)]++
	}
	for count := range 5 {
		if seen[count] < 20 {
			t.Error("the test asks for little", count, seen)
		}
	}
}

// P9: the same of all tiles, those at each border of the world with them.
func TestPromise9AllTilesPaintedAsTheMap(t *testing.T) {
	n := numbers(100)
	for _, list := range borderMaps(&n) {
		for _, r := range allRefs() {
			expectPaintedSo(t, list, r)
		}
	}
}

// P9: the rasters of all tiles of a zoom, side by side, are the map: a feature
// is seen in just as many pixels as it is in front in.
func TestPromise9TilesSideBySide(t *testing.T) {
	n := numbers(101)
	for range 20 {
		list, z := crowd(&n), n.next(0, 2)
		counted, want := map[int64]int{}, map[int64]int{}
		for _, r := range refsOf(z) {
			for _, id := range impl.RasterTile(impl.BuildTile(list, r).Tile).List {
				counted[id]++
			}
		}
		for y := range counts[z] {
			for x := range counts[z] {
				want[impl.PaintedAt(list, z, x, y).Value]++
			}
		}
		if !reflect.DeepEqual(counted, want) {
			t.Fatalf("%v at %d: %v, not %v", list, z, counted, want)
		}
	}
}

// P9: a raster for itself is itself.
func TestPromise9ForItself(t *testing.T) {
	n := numbers(102)
	for _, r := range allRefs() {
		for _, ids := range [][]int64{someIds(&n), impl.RefRaster(crowd(&n), r).List, ramp(0)} {
			if got := impl.UpRaster(ids, r, r); !reflect.DeepEqual(got, impl.IntsResult{List: ids}) {
				t.Fatalf("%v: %v, not %v", r, got, ids)
			}
		}
	}
}

// P9: by two zooms a raster is what it is by one and one more, by three what it
// is by one and two more, and by two and one more.
func TestPromise9ByTwoZooms(t *testing.T) {
	n := numbers(103)
	ways := map[int64]int{}
	for _, from := range allRefs() {
		ids := someIds(&n)
		for _, middle := range allRefs() {
			if middle.Z <= from.Z || !landsIn(from, middle) {
				continue
			}
			first := impl.UpRaster(ids, from, middle)
			for _, to := range allRefs() {
				if to.Z <= middle.Z || !landsIn(middle, to) {
					continue
				}
				got, then := impl.UpRaster(ids, from, to), impl.UpRaster(first.List, middle, to)
				if got.Code != impl.OK || len(got.List) != impl.TilePixels || !reflect.DeepEqual(got, then) {
					t.Fatalf("%v, %v, %v: %v, not %v", from, middle, to, got, then)
				}
				ways[to.Z-from.Z]++
			}
		}
	}
	if ways[2] != 16+4*16 || ways[3] != 2*64 {
		t.Error("the test asks for others", ways)
	}
}

// P9: the rasters for the four kids have all that the raster has, each pixel
// four times.
func TestPromise9ForTheKids(t *testing.T) {
	n := numbers(104)
	for _, r := range allRefs()[:21] {
		ids := someIds(&n)
		var all []int64
		for _, kid := range impl.KidsOf(r).Refs {
			all = append(all, impl.UpRaster(ids, r, kid).List...)
		}
		want := slices.Repeat(ids, 4)
		slices.Sort(all)
		slices.Sort(want)
		if !slices.Equal(all, want) {
			t.Fatalf("%v: %v, not %v", r, all, want)
		}
	}
}

// rasterAnswers is what the layer of rasters answers of the same arguments.
type rasterAnswers struct {
	tile, painted, up, counted impl.IntsResult
	text                       impl.TextResult
}

// rasterCall are these arguments.
type rasterCall struct {
	tile        impl.Tile
	list        []impl.Feature
	r, from, to impl.Ref
	ids         []int64
}

func (c rasterCall) ask() rasterAnswers {
	return rasterAnswers{
		tile:    impl.RasterTile(c.tile),
		painted: impl.RefRaster(c.list, c.r),
		up:      impl.UpRaster(c.ids, c.from, c.to),
		counted: impl.CountIds(c.ids),
		text:    impl.RasterText(c.ids),
	}
}

// copy is the same call in memory of its own.
func (c rasterCall) copy() rasterCall {
	c.tile.Features, c.list, c.ids = copyOf(c.tile.Features), copyOf(c.list), slices.Clone(c.ids)
	return c
}

// memory is all that a call has in memory, what is behind the ends of its lists
// with it.
func (c rasterCall) memory() rasterCall {
	c.tile.Features, c.list, c.ids = whole(c.tile.Features), whole(c.list), slices.Clone(c.ids[:cap(c.ids)])
	return c
}

// spoil writes over all of it.
func (c rasterCall) spoil() {
	spoil(c.tile.Features)
	spoil(c.list)
	spoilInts(c.ids)
}

// lists are all lists of the answers.
func (a rasterAnswers) lists() [][]int64 {
	return [][]int64{a.tile.List, a.painted.List, a.up.List, a.counted.List}
}

// strangeIds are Ids of which anything may be wrong, with some behind their
// end.
func strangeIds(n *numbers) []int64 {
	ids := someIds(n)
	switch n.next(0, 5) {
	case 0:
		ids = append(ids, ids...)[:n.next(0, 2*pixels)]
	case 1:
		ids = append(ids, 1)[:n.next(pixels-1, pixels+1)]
	}
	if len(ids) > 0 && n.next(0, 2) == 0 {
		ids[n.next(0, int64(len(ids)-1))] = strangeNumber(n)
	}
	return append(ids, 3, 1000, -1)[:len(ids)]
}

// strangeRasterCall is a call of which anything may be wrong.
func strangeRasterCall(n *numbers) rasterCall {
	c := rasterCall{
		tile: impl.Tile{Ref: strangeRef(n), Features: strangeOrder(n)}, list: strangeFeatures(n), r: strangeRef(n),
		from: strangeRef(n), to: strangeRef(n), ids: strangeIds(n),
	}
	switch n.next(0, 3) {
	case 0:
		c.from = impl.Ref{}
	case 1:
		c.from = c.to
	case 2:
		c.from = impl.ParentOf(c.to).Ref
	}
	return c
}

// idsCodeAs is the code of a raster by what the document says of it.
func idsCodeAs(ids []int64) int64 {
	switch {
	case len(ids) != pixels:
		return impl.ErrMany
	case slices.Min(ids) < 0 || slices.Max(ids) > 999:
		return impl.ErrRange
	}
	return impl.OK
}

// orderCodeAs is the code of features that have to be in order.
func orderCodeAs(list []impl.Feature) int64 {
	sorted := impl.SortFeatures(list)
	if sorted.Code == impl.OK && !impl.SameFeatures(sorted.Features, list) {
		return impl.ErrForm
	}
	return sorted.Code
}

// codes are the codes that the document asks for.
func (c rasterCall) codes() []int64 {
	ids, beside := idsCodeAs(c.ids), int64(impl.OK)
	ofRefs := firstOf(refCodeAs(c.from), refCodeAs(c.to))
	if ofRefs == impl.OK && !landsIn(c.from, c.to) {
		beside = impl.ErrForm
	}
	return []int64{
		firstOf(refCodeAs(c.tile.Ref), orderCodeAs(c.tile.Features)),
		firstOf(refCodeAs(c.r), impl.FeaturesFault(c.list)),
		firstOf(ids, ofRefs, beside),
		ids,
		ids,
	}
}

func (a rasterAnswers) codes() []int64 {
	return []int64{a.tile.Code, a.painted.Code, a.up.Code, a.counted.Code, a.text.Code}
}

// isZero tells whether all that stands beside a code is zero.
func (a rasterAnswers) isZero() bool {
	for _, result := range []impl.IntsResult{a.tile, a.painted, a.up, a.counted} {
		if result.Code != impl.OK && result.List != nil {
			return false
		}
	}
	return a.text.Code == impl.OK || a.text.Text == ""
}

// P1, chapter 8: an answer at every argument.
func TestPromise1OfRasters(t *testing.T) {
	n := numbers(105)
	ofList, ofIds := []int64{impl.ErrRange, impl.ErrMany, impl.ErrText, impl.ErrTaken}, []int64{impl.ErrMany, impl.ErrRange}
	expectAnswers(t, 3000, func() rasterCall { return strangeRasterCall(&n) },
		append([]int64{impl.ErrForm}, ofList...), ofList, append([]int64{impl.ErrForm}, ofIds...), ofIds, ofIds)
	empty := rasterCall{tile: impl.Tile{Features: []impl.Feature{}}, list: []impl.Feature{}, ids: []int64{}}
	if !reflect.DeepEqual(rasterCall{}.ask(), empty.ask()) {
		t.Error("an empty list is not nil")
	}
}

// someRasterCall is a call without a fault.
func someRasterCall(n *numbers) rasterCall {
	list := impl.SortFeatures(crowd(n)).Features
	to := someRef(n)
	from := to
	for range n.next(0, to.Z) {
		from = impl.ParentOf(from).Ref
	}
	c := rasterCall{
		tile: impl.Tile{Ref: someRef(n), Features: list}, list: copyOf(list), r: someRef(n),
		from: from, to: to, ids: append(someIds(n), 5, 6)[:pixels],
	}
	shuffle(n, c.list)
	return c
}

// P1, chapter 8: an answer shares no memory with an argument, nor with another
// answer, and none hangs on what became of those.
func TestPromise1OfRastersNewMemory(t *testing.T) {
	n := numbers(106)
	for range 600 {
		c := someRasterCall(&n)
		given := c.memory()
		got, kept := c.ask(), c.ask()
		if firstOf(kept.codes()...) != impl.OK {
			t.Fatalf("%v: %v", c, kept)
		}
		for i, list := range got.lists() {
			spoilInts(list)
			for k, other := range got.lists()[i+1:] {
				if !slices.Equal(other, kept.lists()[i+1:][k]) {
					t.Fatalf("%v: the lists %d and %d", c, i, i+1+k)
				}
			}
		}
		text := textAs(c.ids)
		expectOwnMemory(t, c, given, kept, c.spoil)
		if kept.text.Text != text {
			t.Fatalf("%v was spoiled with the argument", kept)
		}
	}
}

// P1, chapter 8: a raster for itself is the same one in memory of its own, also
// behind its end.
func TestPromise1OfRastersForThemselves(t *testing.T) {
	for _, r := range allRefs() {
		given := append(ramp(1), 5, 6, 7)
		got := impl.UpRaster(given[:pixels], r, r).List
		_ = append(got, 999)
		spoilInts(got)
		if !slices.Equal(given, append(ramp(1), 5, 6, 7)) {
			t.Fatalf("%v: %v", r, given)
		}
		counted := impl.CountIds(given[:pixels]).List
		spoilInts(counted)
		if !slices.Equal(given, append(ramp(1), 5, 6, 7)) {
			t.Fatalf("%v, counted: %v", r, given)
		}
	}
}

// expectInWhateverOrder asks of features for the same answer in several orders.
func expectInWhateverOrder[A any](t *testing.T, n *numbers, list []impl.Feature, tell func() A) {
	t.Helper()
	want := tell()
	for range 3 {
		shuffle(n, list)
		if got := tell(); !reflect.DeepEqual(got, want) {
			t.Fatalf("%v: %v, not %v", list, got, want)
		}
	}
}

// P1, chapter 8: what is seen does not hang on the order in which features
// came.
func TestPromise1OfRastersInWhateverOrder(t *testing.T) {
	n := numbers(107)
	for range 150 {
		list, r := crowd(&n), someRef(&n)
		expectInWhateverOrder(t, &n, list, func() impl.IntsResult { return impl.RefRaster(list, r) })
	}
}
