package tests

import (
	"fmt"
	"math"
	"reflect"
	"slices"
	"testing"

	"loop.example/g00403/impl"
)

// elevenRefs are one more than the greatest cache has room for, of all zooms and
// in no order.
var elevenRefs = []impl.Ref{
	{Z: 3, X: 5, Y: 2}, {}, {Z: 1, X: 1}, {Z: 3}, {Z: 2, X: 3, Y: 3}, {Z: 1}, {Z: 2, Y: 1}, {Z: 3, X: 7, Y: 7}, {Z: 1, Y: 1}, {Z: 2, X: 2, Y: 1}, {Z: 3, X: 1},
}

// spotted is a tile in which a feature is seen at the first pixel alone.
func spotted(r impl.Ref, id int64) impl.Tile {
	return tileOf(r, pixelOf(id, r.Z, 8*r.X, 8*r.Y))
}

// spots are the tiles of the first of eleven refs, each with an Id of its own.
func spots(count int) []impl.Tile {
	var list []impl.Tile
	for i, r := range elevenRefs[:count] {
		list = append(list, spotted(r, int64(i+1)))
	}
	return list
}

// keptAs is a tile with the raster that the document asks for.
func keptAs(tile impl.Tile) impl.Kept {
	return impl.Kept{Tile: tile, Ids: rasterAs(tile)}
}

// cacheOf is the cache of a size with these tiles, the one that was asked for
// last at the end.
func cacheOf(size int64, tiles ...impl.Tile) impl.Cache {
	c := impl.Cache{Size: size}
	for _, tile := range tiles {
		c.Kept = append(c.Kept, keptAs(tile))
	}
	return c
}

func expectCache(t *testing.T, what string, got impl.CacheResult, want impl.Cache) {
	t.Helper()
	if !reflect.DeepEqual(got, impl.CacheResult{Cache: want}) {
		t.Errorf("%s: %v, not %v", what, got, want)
	}
}

func expectNoCache(t *testing.T, what string, got impl.CacheResult, code int64) {
	t.Helper()
	if !reflect.DeepEqual(got, impl.CacheResult{Code: code}) {
		t.Errorf("%s: %v, not %d", what, got, code)
	}
}

func expectCacheFault(t *testing.T, what string, c impl.Cache, want int64) {
	t.Helper()
	if got := impl.CacheFault(c); got != want {
		t.Errorf("%s: %v: %d, not %d", what, c, got, want)
	}
}

func expectNearest(t *testing.T, what string, c impl.Cache, r, want impl.Ref) {
	t.Helper()
	if got := impl.NearestIn(c, r); got != (impl.RefResult{Ref: want}) {
		t.Errorf("%s: %v: %v, not %v", what, r, got, want)
	}
}

func expectNoNearest(t *testing.T, what string, c impl.Cache, r impl.Ref, code int64) {
	t.Helper()
	if got := impl.NearestIn(c, r); got != (impl.RefResult{Code: code}) {
		t.Errorf("%s: %v: %v, not %d", what, r, got, code)
	}
}

func TestNewCache(t *testing.T) {
	if impl.MaxCache != 10 {
		t.Error(impl.MaxCache)
	}
	for size := int64(1); size <= 10; size++ {
		got := impl.NewCache(size)
		expectCache(t, fmt.Sprint(size), got, impl.Cache{Size: size})
		expectCacheFault(t, "a new one", got.Cache, impl.OK)
	}
	for _, size := range append(outsideOf(1, 10), 0, 11, 12, 100) {
		expectNoCache(t, fmt.Sprint(size), impl.NewCache(size), impl.ErrRange)
	}
}

// As many as Size are kept, and fewer; one more, and many more.
func TestCacheFaultOfHowMany(t *testing.T) {
	for size := int64(1); size <= 10; size++ {
		for count := range 12 {
			want := int64(impl.OK)
			if int64(count) > size {
				want = impl.ErrMany
			}
			expectCacheFault(t, fmt.Sprint(size), cacheOf(size, spots(count)...), want)
		}
		expectCacheFault(t, "none", impl.Cache{Size: size, Kept: []impl.Kept{}}, impl.OK)
		expectCacheFault(t, "many", impl.Cache{Size: size, Kept: make([]impl.Kept, 3000)}, impl.ErrMany)
		expectCacheFault(t, "one more, all wrong", impl.Cache{Size: size, Kept: make([]impl.Kept, size+1)}, impl.ErrMany)
		same := slices.Repeat(spots(1), int(size)+1)
		expectCacheFault(t, "one more, all of one ref", cacheOf(size, same...), impl.ErrMany)
	}
}

// The Size is asked ahead of how many there are, and that ahead of what they
// are.
func TestCacheFaultOfSize(t *testing.T) {
	for _, size := range append(outsideOf(1, 10), 0, 11, -10, math.MinInt64) {
		for _, count := range []int{0, 1, 10, 11} {
			expectCacheFault(t, "right ones", cacheOf(size, spots(count)...), impl.ErrRange)
			expectCacheFault(t, "wrong ones", impl.Cache{Size: size, Kept: make([]impl.Kept, count)}, impl.ErrRange)
		}
		expectCacheFault(t, "of one ref", cacheOf(size, spots(1)[0], spots(1)[0]), impl.ErrRange)
	}
	expectCacheFault(t, "nothing", impl.Cache{}, impl.ErrRange)
}

// wrongKept is one that is not right wherever it stands.
type wrongKept struct {
	what string
	kept impl.Kept
	code int64
}

// wrongIdsOf are Ids that are not the raster of a tile: one other, one too few and
// one too many at least.
func wrongIdsOf(tile impl.Tile) [][]int64 {
	right := rasterAs(tile)
	lists := [][]int64{nil, {}, right[:1], right[:63], right[1:], append(rasterAs(tile), 0), append(rasterAs(tile), right...), plain(7), ramp(1)}
	for place := range right {
		for _, id := range []int64{right[place] + 1, right[place] - 1, 999, math.MaxInt64, math.MinInt64} {
			list := slices.Clone(right)
			list[place] = id
			lists = append(lists, list)
		}
	}
	back := slices.Clone(right)
	slices.Reverse(back)
	return append(lists, back)
}

// wrongTiles are tiles whose raster tells a code, each with that.
func wrongTiles() (tiles []impl.Tile, codes []int64) {
	add := func(code int64, r impl.Ref, list ...impl.Feature) {
		tiles, codes = append(tiles, tileOf(r, list...)), append(codes, code)
	}
	for _, r := range wrongRefs() {
		add(impl.ErrRange, r)
	}
	for _, r := range []impl.Ref{ref(4, 0, 0), ref(2, 4, 0), ref(2, 0, -1), ref(math.MaxInt64, 0, 0)} {
		add(impl.ErrRange, r, spotted(ref(2, 0, 0), 3).Features...)
		add(impl.ErrRange, r, numbered(2, 1)...)
		add(impl.ErrRange, r, numbered(1, 1)...)
	}
	wrong, code := wrongFeatures()
	for i, f := range wrong {
		add(code[i], ref(2, 1, 1), f)
		add(code[i], ref(2, 1, 1), append(numbered(9, 8), f)...)
	}
	add(impl.ErrTaken, ref(2, 1, 1), numbered(1, 1)...)
	add(impl.ErrTaken, ref(2, 1, 1), numbered(3, 2, 3)...)
	add(impl.ErrForm, ref(2, 1, 1), numbered(2, 1)...)
	add(impl.ErrForm, ref(2, 1, 1), numbered(1, 2, 4, 3)...)
	add(impl.ErrMany, ref(2, 1, 1), numbered(1, 2, 3, 4, 5, 6, 7, 8, 9, 10, 11, 12, 13)...)
	add(impl.ErrMany, ref(2, 1, 1), make([]impl.Feature, 3000)...)
	add(impl.ErrRange, ref(2, 1, 1), make([]impl.Feature, 12)...)
	return tiles, codes
}

// fewWrongTiles are tiles of one ref, with each code that a raster may tell.
func fewWrongTiles(r impl.Ref) []wrongKept {
	unread, none := road(), road()
	unread.Label, none.Points = "?", nil
	return []wrongKept{
		{"no ref", impl.Kept{Tile: tileOf(ref(4, r.X, r.Y))}, impl.ErrRange},
		{"no feature", impl.Kept{Tile: tileOf(r, impl.Feature{})}, impl.ErrRange},
		{"no points", impl.Kept{Tile: tileOf(r, none)}, impl.ErrMany},
		{"no label", impl.Kept{Tile: tileOf(r, unread)}, impl.ErrText},
		{"one Id twice", impl.Kept{Tile: tileOf(r, numbered(1, 1)...)}, impl.ErrTaken},
		{"no order", impl.Kept{Tile: tileOf(r, numbered(2, 1)...)}, impl.ErrForm},
	}
}

// wrongKeptOf are wrong ones of a ref, whatever stands ahead of them.
func wrongKeptOf(r impl.Ref) []wrongKept {
	list := fewWrongTiles(r)
	for _, w := range fewWrongTiles(r) {
		// where the tile has no raster, Ids are not asked for
		w.what, w.kept.Ids = w.what+", with Ids", plain(0)
		list = append(list, w)
	}
	tile := spotted(r, 77)
	for i, ids := range wrongIdsOf(tile)[:14] {
		list = append(list, wrongKept{fmt.Sprint("Ids ", i), impl.Kept{Tile: tile, Ids: ids}, impl.ErrState})
	}
	return list
}

// with is a cache in which one stands at a place in the middle of others.
func with(size int64, place int, k impl.Kept, others ...impl.Tile) impl.Cache {
	c := cacheOf(size, others...)
	c.Kept = slices.Insert(c.Kept, place, k)
	return c
}

// A tile whose raster tells a code: that one, wherever it stands.
func TestCacheFaultOfTiles(t *testing.T) {
	tiles, codes := wrongTiles()
	for i, tile := range tiles {
		for place := range 3 {
			expectCacheFault(t, fmt.Sprint(place), with(3, place, impl.Kept{Tile: tile, Ids: plain(0)}, spots(2)...), codes[i])
		}
		expectCacheFault(t, "the only one", impl.Cache{Size: 1, Kept: []impl.Kept{{Tile: tile}}}, codes[i])
	}
}

// Ids that are not the raster of the tile, wherever it stands.
func TestCacheFaultOfIds(t *testing.T) {
	for _, tile := range []impl.Tile{spotted(ref(2, 1, 1), 77), tileOf(ref(2, 1, 1)), tileOf(ref(2, 0, 0), two()...)} {
		for i, ids := range wrongIdsOf(tile) {
			if slices.Equal(ids, rasterAs(tile)) {
				continue // the same back to front
			}
			for place := range 3 {
				expectCacheFault(t, fmt.Sprint(i, " ", place), with(3, place, impl.Kept{Tile: tile, Ids: ids}, spots(2)...), impl.ErrState)
			}
			expectCacheFault(t, fmt.Sprint(i), with(1, 0, impl.Kept{Tile: tile, Ids: ids}), impl.ErrState)
		}
		expectCacheFault(t, "right", with(3, 1, keptAs(tile), spots(2)...), impl.OK)
	}
	far := spotted(ref(3, 5, 2), 6)
	expectCacheFault(t, "those of the parent", with(2, 0, impl.Kept{Tile: far, Ids: rasterAs(tileOf(ref(2, 2, 1), far.Features...))}), impl.ErrState)
	// the tile's own points are asked, as RasterTile does, not those of its zoom
	own := tileOf(ref(0, 0, 0), wide(impl.KindPoint, 0, at(15, 23)))
	expectCacheFault(t, "its own points", with(1, 0, impl.Kept{Tile: own, Ids: dotted(7, at(0, 0))}), impl.OK)
	expectCacheFault(t, "those of its zoom", with(1, 0, impl.Kept{Tile: own, Ids: plain(0)}), impl.ErrState)
}

// Two of one ref, at each two places, with the same or with other features.
func TestCacheFaultOfOneRefTwice(t *testing.T) {
	others := spots(4)
	for first := range 5 {
		for then := range first {
			for _, again := range []impl.Tile{others[then], spotted(others[then].Ref, 500), tileOf(others[then].Ref)} {
				tiles := slices.Insert(slices.Clone(others), first, again)
				expectCacheFault(t, fmt.Sprint(then, first), cacheOf(5, tiles...), impl.ErrTaken)
				expectCacheFault(t, fmt.Sprint(then, first), cacheOf(10, tiles...), impl.ErrTaken)
				expectCacheFault(t, fmt.Sprint(then, first), cacheOf(4, tiles...), impl.ErrMany)
			}
		}
	}
	// of the same X and Y, or of the same features, but not of one ref
	list := two()
	expectCacheFault(t, "zooms", cacheOf(4, tileOf(ref(0, 0, 0), list...), tileOf(ref(1, 0, 0), list...), tileOf(ref(2, 0, 0), list...), tileOf(ref(3, 0, 0), list...)), impl.OK)
	expectCacheFault(t, "X and Y", cacheOf(4, tileOf(ref(1, 0, 0), list...), tileOf(ref(1, 1, 0), list...), tileOf(ref(1, 0, 1), list...), tileOf(ref(1, 1, 1), list...)), impl.OK)
}

// Of one, the raster is asked ahead of Ids, and these ahead of its ref.
func TestCacheFaultOfOneWithSeveral(t *testing.T) {
	r := ref(2, 1, 1)
	first := spotted(r, 5)
	for _, w := range wrongKeptOf(r) {
		expectCacheFault(t, w.what+", a ref twice", cacheAnd(cacheOf(9, first), w.kept), w.code)
		expectCacheFault(t, w.what+", alone", cacheAnd(cacheOf(9), w.kept), w.code)
	}
	twice := cacheAnd(cacheOf(9, first), impl.Kept{Tile: first, Ids: rasterAs(first)})
	expectCacheFault(t, "a ref twice", twice, impl.ErrTaken)
}

// cacheAnd is a cache with one more behind its tiles.
func cacheAnd(c impl.Cache, list ...impl.Kept) impl.Cache {
	c.Kept = append(slices.Clone(c.Kept), list...)
	return c
}

// Of several, the first one that is not right is told, whatever is wrong of it:
// they are asked one by one.
func TestCacheFaultOfSeveral(t *testing.T) {
	ahead := cacheOf(9, spots(2)...)
	taken := wrongKept{"a ref twice", keptAs(spots(1)[0]), impl.ErrTaken}
	list := append(wrongKeptOf(ref(2, 1, 1)), taken)
	others := append(wrongKeptOf(ref(2, 1, 2)), taken)
	for _, a := range list {
		for _, b := range others {
			expectCacheFault(t, a.what+", then "+b.what, cacheAnd(ahead, a.kept, b.kept), a.code)
			expectCacheFault(t, a.what+", one, then "+b.what, cacheAnd(ahead, a.kept, keptAs(spotted(ref(3, 6, 6), 8)), b.kept), a.code)
		}
	}
}

// faultyCaches are caches with each fault that there is, all but the first one
// with the tile of a ref.
func faultyCaches(r impl.Ref) []impl.Cache {
	tile := spotted(r, 9)
	list := []impl.Cache{{}, cacheOf(0, tile), cacheOf(11, tile), cacheOf(-1, tile), cacheOf(math.MaxInt64, tile), cacheOf(1, tile, spotted(ref(3, 2, 2), 4))}
	for _, w := range wrongKeptOf(ref(3, 6, 5)) {
		list = append(list, cacheAnd(cacheOf(4, tile), w.kept), cacheAnd(cacheAnd(cacheOf(2), w.kept), keptAs(tile)))
	}
	return append(list, cacheOf(5, tile, tile), cacheOf(2, tile, tileOf(r)), cacheOf(10, spotted(ref(3, 4, 4), 3), tile, spotted(ref(3, 4, 4), 3)))
}

// A cache with a fault: its code ahead of that of a tile, of a ref, and of none.
func TestCachesWrong(t *testing.T) {
	r := ref(1, 1, 0)
	tiles := []impl.Tile{spotted(r, 9), spotted(ref(2, 0, 0), 3), {}}
	for _, w := range fewWrongTiles(ref(2, 3, 0)) {
		tiles = append(tiles, w.kept.Tile)
	}
	refs := []impl.Ref{r, ref(2, 3, 1), ref(0, 0, 0), ref(4, 0, 0), ref(1, 2, 0), ref(-1, 0, 0), ref(math.MinInt64, math.MaxInt64, 0)}
	seen := map[int64]int{}
	for i, c := range faultyCaches(r) {
		code := cacheCodeAs(c)
		seen[code]++
		expectCacheFault(t, fmt.Sprint(i), c, code)
		for _, tile := range tiles {
			expectNoCache(t, fmt.Sprint("put ", i, tile), impl.PutTile(c, tile), code)
		}
		for _, r := range refs {
			expectNoCache(t, fmt.Sprint("touch ", i, r), impl.TouchTile(c, r), code)
			expectNoCache(t, fmt.Sprint("take ", i, r), impl.TakeTile(c, r), code)
			expectNoNearest(t, fmt.Sprint("nearest ", i), c, r, code)
			if impl.HasTile(c, r) {
				t.Errorf("%d: %v has %v", i, c, r)
			}
		}
	}
	for _, code := range []int64{impl.ErrRange, impl.ErrMany, impl.ErrText, impl.ErrForm, impl.ErrState, impl.ErrTaken} {
		if seen[code] < 2 {
			t.Error("the test asks for little", seen)
		}
	}
}

// cacheCodeAs is the code of a cache by what the document says of it.
func cacheCodeAs(c impl.Cache) int64 {
	if c.Size < 1 || c.Size > 10 {
		return impl.ErrRange
	}
	if len(c.Kept) > int(c.Size) {
		return impl.ErrMany
	}
	for i, k := range c.Kept {
		if code := firstOf(refCodeAs(k.Tile.Ref), orderCodeAs(k.Tile.Features)); code != impl.OK {
			return code
		}
		if !slices.Equal(k.Ids, impl.RasterTile(k.Tile).List) {
			return impl.ErrState
		}
		for _, other := range c.Kept[:i] {
			if other.Tile.Ref == k.Tile.Ref {
				return impl.ErrTaken
			}
		}
	}
	return impl.OK
}

// Into one that is empty, and on until it is full, and farther: the first one
// goes, however great the cache is.
func TestPutTile(t *testing.T) {
	tiles := spots(11)
	for size := int64(1); size <= 10; size++ {
		c := impl.NewCache(size).Cache
		for i, tile := range tiles {
			got := impl.PutTile(c, tile)
			expectCache(t, fmt.Sprint(size, " ", i), got, cacheOf(size, tiles[max(0, i+1-int(size)):i+1]...))
			expectCacheFault(t, "what was put", got.Cache, impl.OK)
			c = got.Cache
		}
	}
}

// A tile whose ref is kept already, at each place of caches with and without
// room, with the same and with other features: it is the last one, and no other
// goes.
func TestPutTileTwice(t *testing.T) {
	for count := 1; count <= 10; count++ {
		tiles := spots(count)
		for place, tile := range tiles {
			for _, again := range []impl.Tile{tile, spotted(tile.Ref, 500), tileOf(tile.Ref), tileOf(tile.Ref, two()...)} {
				want := append(slices.Delete(slices.Clone(tiles), place, place+1), again)
				for _, size := range []int64{int64(count), min(int64(count)+1, 10), 10} {
					got := impl.PutTile(cacheOf(size, tiles...), again)
					expectCache(t, fmt.Sprint(size, " ", count, " ", place), got, cacheOf(size, want...))
				}
			}
		}
	}
}

// Of the Size 1 the last one that was put is there, whatever it is.
func TestPutTileOfSizeOne(t *testing.T) {
	a, b := spotted(ref(1, 0, 1), 5), spotted(ref(2, 3, 1), 6)
	other := spotted(ref(1, 0, 1), 9)
	expectCache(t, "the first one", impl.PutTile(impl.NewCache(1).Cache, a), cacheOf(1, a))
	expectCache(t, "another one", impl.PutTile(cacheOf(1, a), b), cacheOf(1, b))
	expectCache(t, "itself", impl.PutTile(cacheOf(1, a), a), cacheOf(1, a))
	expectCache(t, "one of its ref", impl.PutTile(cacheOf(1, a), other), cacheOf(1, other))
	expectCache(t, "touched", impl.TouchTile(cacheOf(1, a), a.Ref), cacheOf(1, a))
	expectCache(t, "taken", impl.TakeTile(cacheOf(1, a), a.Ref), impl.Cache{Size: 1})
	expectNoCache(t, "not touched", impl.TouchTile(cacheOf(1, a), b.Ref), impl.ErrNone)
	expectNoCache(t, "not taken", impl.TakeTile(cacheOf(1, a), b.Ref), impl.ErrNone)
}

// A tile is kept as it is, with the raster of its own points.
func TestPutTileWithItsRaster(t *testing.T) {
	n := numbers(141)
	for range 300 {
		list, r := someMap(&n), someRef(&n)
		for _, tile := range []impl.Tile{impl.BuildTile(list, r).Tile, tileOf(r, impl.SortFeatures(list).Features...)} {
			expectCache(t, "any", impl.PutTile(impl.NewCache(3).Cache, tile), cacheOf(3, tile))
		}
	}
	for _, r := range allRefs() {
		expectCache(t, "without features", impl.PutTile(impl.NewCache(10).Cache, tileOf(r)), impl.Cache{Size: 10, Kept: []impl.Kept{{Tile: tileOf(r), Ids: plain(0)}}})
		expectCache(t, "with features", impl.PutTile(cacheOf(2, tileOf(r)), spotted(r, 999)), impl.Cache{Size: 2, Kept: []impl.Kept{{Tile: spotted(r, 999), Ids: dotted(999, at(0, 0))}}})
	}
}

// A tile with a fault is not kept, and what it was to replace is not asked for.
func TestPutTileWrong(t *testing.T) {
	tiles, codes := wrongTiles()
	caches := []impl.Cache{impl.NewCache(1).Cache, cacheOf(1, spots(1)...), cacheOf(3, spots(2)...), cacheOf(2, spotted(ref(2, 1, 1), 5), spotted(ref(2, 0, 0), 5))}
	for i, tile := range tiles {
		for k, c := range caches {
			expectNoCache(t, fmt.Sprint(i, " ", k), impl.PutTile(c, tile), codes[i])
		}
	}
}

// Each one of caches of each size: that one stands behind all others, or is
// gone.
func TestTouchAndTake(t *testing.T) {
	for count := 1; count <= 10; count++ {
		tiles := spots(count)
		for place, tile := range tiles {
			rest := slices.Delete(slices.Clone(tiles), place, place+1)
			for _, size := range []int64{int64(count), 10} {
				c := cacheOf(size, tiles...)
				what := fmt.Sprint(size, " ", count, " ", place)
				expectCache(t, "touched "+what, impl.TouchTile(c, tile.Ref), cacheOf(size, append(slices.Clone(rest), tile)...))
				expectCache(t, "taken "+what, impl.TakeTile(c, tile.Ref), cacheOf(size, rest...))
			}
		}
	}
}

// Refs that are not there: none is of them, whether there may be one or not.
func TestTouchAndTakeOfNone(t *testing.T) {
	for _, c := range []impl.Cache{impl.NewCache(1).Cache, impl.NewCache(10).Cache, cacheOf(3, spots(3)...), cacheOf(10, spots(10)...)} {
		for _, r := range append(allRefs(), wrongRefs()...) {
			isThere := slices.ContainsFunc(c.Kept, func(k impl.Kept) bool { return k.Tile.Ref == r })
			if impl.HasTile(c, r) != isThere {
				t.Errorf("%v: %v, not %v", r, !isThere, isThere)
			}
			if !isThere {
				expectNoCache(t, fmt.Sprint("touched ", r), impl.TouchTile(c, r), impl.ErrNone)
				expectNoCache(t, fmt.Sprint("taken ", r), impl.TakeTile(c, r), impl.ErrNone)
			}
		}
	}
}

// What is gone makes room: no other one goes for what is put then.
func TestPutTileBehindTake(t *testing.T) {
	tiles := spots(5)
	for place, tile := range tiles[:4] {
		rest := slices.Delete(slices.Clone(tiles[:4]), place, place+1)
		taken := impl.TakeTile(cacheOf(4, tiles[:4]...), tile.Ref).Cache
		expectCache(t, "put", impl.PutTile(taken, tiles[4]), cacheOf(4, append(slices.Clone(rest), tiles[4])...))
		expectCache(t, "put again", impl.PutTile(taken, tile), cacheOf(4, append(slices.Clone(rest), tile)...))
		expectNoCache(t, "taken twice", impl.TakeTile(taken, tile.Ref), impl.ErrNone)
		expectNoCache(t, "touched then", impl.TouchTile(taken, tile.Ref), impl.ErrNone)
	}
}

// What was touched does not go: the one behind it does.
func TestPutTileBehindTouch(t *testing.T) {
	a, b, c, d := spots(4)[0], spots(4)[1], spots(4)[2], spots(4)[3]
	touched := impl.TouchTile(cacheOf(3, a, b, c), a.Ref).Cache
	expectCache(t, "the first one touched", impl.PutTile(touched, d), cacheOf(3, c, a, d))
	touched = impl.TouchTile(touched, b.Ref).Cache
	expectCache(t, "then another one", impl.PutTile(touched, d), cacheOf(3, a, b, d))
	put := impl.PutTile(cacheOf(3, a, b, c), a).Cache
	expectCache(t, "put again", impl.PutTile(put, d), cacheOf(3, c, a, d))
	// to ask whether one is there, or what is nearest, is not to touch it
	c3 := cacheOf(3, a, b, c)
	impl.HasTile(c3, a.Ref)
	impl.NearestIn(c3, a.Ref)
	expectCache(t, "asked for by HasTile and NearestIn", impl.PutTile(c3, d), cacheOf(3, b, c, d))
}

func TestHasTile(t *testing.T) {
	for count := range 11 {
		c := cacheOf(10, spots(count)...)
		for _, r := range allRefs() {
			want := slices.Contains(elevenRefs[:count], r)
			if got := impl.HasTile(c, r); got != want {
				t.Errorf("%v of %v: %v", r, elevenRefs[:count], got)
			}
		}
	}
}

func TestNearestIn(t *testing.T) {
	tiles := func(refs ...impl.Ref) impl.Cache {
		var list []impl.Tile
		for i, r := range refs {
			list = append(list, spotted(r, int64(i+1)))
		}
		return cacheOf(10, list...)
	}
	for _, c := range []struct {
		what    string
		c       impl.Cache
		r, want impl.Ref
	}{
		{"itself at zoom 0", tiles(ref(0, 0, 0)), ref(0, 0, 0), ref(0, 0, 0)},
		{"itself at the last zoom", tiles(ref(3, 7, 3)), ref(3, 7, 3), ref(3, 7, 3)},
		{"itself, its parents with it", tiles(ref(0, 0, 0), ref(1, 1, 0), ref(2, 3, 1), ref(3, 7, 3)), ref(3, 7, 3), ref(3, 7, 3)},
		{"itself, its parents behind it", tiles(ref(3, 7, 3), ref(2, 3, 1), ref(1, 1, 0), ref(0, 0, 0)), ref(3, 7, 3), ref(3, 7, 3)},
		{"itself, with its kids", tiles(ref(2, 2, 0), ref(1, 1, 0), ref(2, 3, 1)), ref(1, 1, 0), ref(1, 1, 0)},
		{"its parent", tiles(ref(2, 3, 1)), ref(3, 7, 3), ref(2, 3, 1)},
		{"its parent, from the other kids", tiles(ref(2, 3, 1)), ref(3, 6, 2), ref(2, 3, 1)},
		{"its parent, with those of that", tiles(ref(0, 0, 0), ref(1, 1, 0), ref(2, 3, 1)), ref(3, 6, 3), ref(2, 3, 1)},
		{"its parent, with those of that behind", tiles(ref(2, 3, 1), ref(1, 1, 0), ref(0, 0, 0)), ref(3, 6, 3), ref(2, 3, 1)},
		{"its parent's parent alone", tiles(ref(1, 1, 0)), ref(3, 7, 3), ref(1, 1, 0)},
		{"its parent's parent, and the first", tiles(ref(0, 0, 0), ref(1, 1, 0)), ref(3, 4, 0), ref(1, 1, 0)},
		{"the first alone", tiles(ref(0, 0, 0)), ref(3, 7, 3), ref(0, 0, 0)},
		{"the first, from zoom 1", tiles(ref(0, 0, 0)), ref(1, 1, 1), ref(0, 0, 0)},
		{"the first, with others beside", tiles(ref(2, 3, 0), ref(1, 0, 0), ref(0, 0, 0), ref(3, 7, 2), ref(2, 2, 1)), ref(3, 7, 3), ref(0, 0, 0)},
		{"the parent, with a kid", tiles(ref(3, 2, 2), ref(1, 0, 0)), ref(2, 1, 1), ref(1, 0, 0)},
	} {
		expectNearest(t, c.what, c.c, c.r, c.want)
	}
	for _, c := range []struct {
		what string
		c    impl.Cache
		r    impl.Ref
	}{
		{"an empty one, zoom 0", impl.NewCache(1).Cache, ref(0, 0, 0)},
		{"an empty one, the last zoom", impl.NewCache(10).Cache, ref(3, 7, 7)},
		{"a kid alone", tiles(ref(1, 0, 0)), ref(0, 0, 0)},
		{"all kids", tiles(ref(2, 2, 0), ref(2, 3, 0), ref(2, 2, 1), ref(2, 3, 1)), ref(1, 1, 0)},
		{"a kid's kid alone", tiles(ref(3, 7, 3)), ref(1, 1, 0)},
		{"one beside it", tiles(ref(3, 6, 3)), ref(3, 7, 3)},
		{"parents beside", tiles(ref(2, 3, 0), ref(2, 2, 1), ref(1, 0, 0), ref(1, 1, 1)), ref(3, 7, 3)},
		{"the same X and Y of other zooms", tiles(ref(2, 1, 1), ref(1, 1, 1)), ref(3, 1, 1)},
	} {
		expectNoNearest(t, c.what, c.c, c.r, impl.ErrNone)
	}
}

// The fault of the ref is asked ahead of whether there is one.
func TestNearestInWrong(t *testing.T) {
	for _, c := range []impl.Cache{impl.NewCache(1).Cache, cacheOf(1, spotted(ref(0, 0, 0), 1)), cacheOf(10, spots(10)...)} {
		for _, r := range wrongRefs() {
			expectNoNearest(t, "no ref", c, r, impl.ErrRange)
		}
	}
}

// nearestAs is the nearest one by the land that tiles have: of those with all of
// it, the one of the greatest zoom.
func nearestAs(c impl.Cache, r impl.Ref) impl.RefResult {
	got := impl.RefResult{Code: impl.ErrNone}
	for _, k := range c.Kept {
		if landsIn(k.Tile.Ref, r) && (got.Code != impl.OK || k.Tile.Ref.Z > got.Ref.Z) {
			got = impl.RefResult{Ref: k.Tile.Ref}
		}
	}
	return got
}

// All refs in one cache after the other.
func TestNearestInAgainstTheDocument(t *testing.T) {
	n := numbers(142)
	zooms := map[int64]int{}
	for range 40 {
		c := someCache(&n, 10)
		for _, r := range allRefs() {
			got, want := impl.NearestIn(c, r), nearestAs(c, r)
			if got != want {
				t.Fatalf("%v in %v: %v, not %v", r, c, got, want)
			}
			if want.Code == impl.OK {
				zooms[r.Z-want.Ref.Z]++
			} else {
				zooms[-1]++
			}
		}
	}
	for away := int64(-1); away <= 3; away++ {
		if zooms[away] < 40 {
			t.Error("the test asks for little", zooms)
		}
	}
}

// someCache is a cache of a size up to most, with any number of tiles.
func someCache(n *numbers, most int64) impl.Cache {
	size := n.next(1, most)
	refs := allRefs()
	shuffle(n, refs)
	if n.next(0, 1) == 0 {
		// nearer to the whole: these have more of one another
		slices.SortStableFunc(refs, func(a, b impl.Ref) int { return int(max(a.Z, 2) - max(b.Z, 2)) })
	}
	refs = refs[:n.next(0, size)]
	shuffle(n, refs)
	c := impl.Cache{Size: size}
	for _, r := range refs {
		c.Kept = append(c.Kept, impl.Kept{Tile: someTile(n, r)})
		last := &c.Kept[len(c.Kept)-1]
		last.Ids = impl.RasterTile(last.Tile).List
	}
	return c
}

// someTile is a tile of r with few features, as they are at its zoom or not.
func someTile(n *numbers, r impl.Ref) impl.Tile {
	list := n.features(int(n.next(0, 3)))
	if n.next(0, 1) == 0 {
		return impl.BuildTile(list, r).Tile
	}
	return tileOf(r, impl.SortFeatures(list).Features...)
}

// desk is a reckoning of a cache: tiles in a row, the one that was asked for
// last at the end.
type desk struct {
	size int
	row  []impl.Kept
}

func (d *desk) placeOf(r impl.Ref) int {
	return slices.IndexFunc(d.row, func(k impl.Kept) bool { return k.Tile.Ref == r })
}

func (d *desk) put(k impl.Kept) {
	d.take(k.Tile.Ref)
	d.row = append(d.row, k)
	if len(d.row) > d.size {
		d.row = slices.Delete(d.row, 0, 1)
	}
}

func (d *desk) take(r impl.Ref) bool {
	place := d.placeOf(r)
	if place >= 0 {
		d.row = slices.Delete(d.row, place, place+1)
	}
	return place >= 0
}

func (d *desk) touch(r impl.Ref) bool {
	place := d.placeOf(r)
	if place < 0 {
		return false
	}
	d.put(d.row[place])
	return true
}

// expectStep does one thing, chosen by chance, to a cache and to a desk, and
// asks for the same of both.
func expectStep(t *testing.T, n *numbers, c impl.Cache, d *desk, r impl.Ref) impl.Cache {
	t.Helper()
	ok, what := true, ""
	var got impl.CacheResult
	switch n.next(0, 5) {
	case 0:
		got, ok, what = impl.TakeTile(c, r), d.take(r), "take"
	case 1, 2:
		got, ok, what = impl.TouchTile(c, r), d.touch(r), "touch"
	default:
		tile := someTile(n, r)
		got, what = impl.PutTile(c, tile), "put"
		d.put(impl.Kept{Tile: tile, Ids: impl.RasterTile(tile).List})
	}
	if !ok {
		expectNoCache(t, what, got, impl.ErrNone)
		return c
	}
	if got.Code != impl.OK || got.Cache.Size != int64(d.size) || len(got.Cache.Kept) != len(d.row) ||
		len(d.row) > 0 && !reflect.DeepEqual(got.Cache.Kept, d.row) {
		t.Fatalf("%s %v: %v, not %v", what, r, got, d.row)
	}
	return got.Cache
}

// Many puts, touches and takes one behind the other, in caches of all sizes.
func TestCachesAgainstTheDocument(t *testing.T) {
	n := numbers(143)
	for size := 1; size <= 10; size++ {
		c, d := impl.NewCache(int64(size)).Cache, &desk{size: size}
		refs := allRefs()
		shuffle(&n, refs)
		refs = refs[:size+3] // few others, so that what is asked for is often there
		full := 0
		for range 400 {
			c = expectStep(t, &n, c, d, refs[n.next(0, int64(len(refs)-1))])
			for _, r := range refs {
				if impl.HasTile(c, r) != (d.placeOf(r) >= 0) {
					t.Fatalf("%v: %v", c, r)
				}
			}
			if len(c.Kept) == size {
				full++
			}
		}
		if full < 100 {
			t.Error("the test asks for little", size, full)
		}
	}
}
