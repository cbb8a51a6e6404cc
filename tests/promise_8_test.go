package tests

import (
	"bytes"
	"reflect"
	"slices"
	"testing"

	"loop.example/g00403/impl"
)

// P8: each of the kids of a ref has it as its parent; there are four of them,
// and each ref but the first one is the kid of just one.
func TestPromise8KidsHaveTheirParent(t *testing.T) {
	parents := map[impl.Ref]int{}
	for _, r := range allRefs() {
		kids := impl.KidsOf(r)
		if r.Z == impl.MaxZoom {
			continue
		}
		if kids.Code != impl.OK || len(kids.Refs) != 4 {
			t.Fatalf("%v: %v", r, kids)
		}
		for i, kid := range kids.Refs {
			if got := impl.ParentOf(kid); impl.RefFault(kid) != impl.OK || got != (impl.RefResult{Ref: r}) {
				t.Errorf("%v: the parent of %v is %v", r, kid, got)
			}
			if i > 0 && (kid.Y < kids.Refs[i-1].Y || kid.Y == kids.Refs[i-1].Y && kid.X <= kids.Refs[i-1].X) {
				t.Errorf("%v: %v does not rise", r, kids)
			}
			parents[kid]++
		}
	}
	for _, r := range allRefs()[1:] {
		if parents[r] != 1 || !slices.Contains(impl.KidsOf(impl.ParentOf(r).Ref).Refs, r) {
			t.Errorf("%v is the kid of %d", r, parents[r])
		}
	}
	if len(parents) != len(allRefs())-1 {
		t.Error(parents)
	}
}

// P8: a pixel lies in the tile that is told, and what it is in at one zoom less
// lies in the parent of that.
func TestPromise8PixelInItsTile(t *testing.T) {
	for z, count := range counts {
		z := int64(z)
		for y := range count {
			for x := range count {
				got := impl.RefAt(z, x, y)
				r := got.Ref
				if got.Code != impl.OK || impl.RefFault(r) != impl.OK || r.Z != z || x < 8*r.X || x > 8*r.X+7 || y < 8*r.Y || y > 8*r.Y+7 {
					t.Fatalf("%d %d,%d: %v", z, x, y, got)
				}
				centre := impl.CentreOf(z, x, y).Point
				if land := landOf(r); !isIn(centre, boxed(2*land.Low.X, 2*land.Low.Y, 2*land.High.X, 2*land.High.Y)) {
					t.Fatalf("%d %d,%d: %v is not in %v", z, x, y, centre, land)
				}
				if z > 0 && impl.ParentOf(r) != impl.RefAt(z-1, x/2, y/2) {
					t.Fatalf("%d %d,%d: %v, not in %v", z, x, y, got, impl.RefAt(z-1, x/2, y/2))
				}
			}
		}
	}
}

// expectCoversInTile asks, of each feature that covers a pixel of the tile of r,
// for it in that tile, and tells how many do, and how many only reach it.
func expectCoversInTile(t *testing.T, list []impl.Feature, r impl.Ref) (covers, reaches int) {
	t.Helper()
	built := impl.BuildTile(list, r)
	if built.Code != impl.OK || built.Tile.Ref != r {
		t.Fatalf("%v of %v: %v", r, list, built)
	}
	for _, f := range list {
		within := slices.IndexFunc(built.Tile.Features, func(g impl.Feature) bool { return g.Id == f.Id })
		if within >= 0 && !reflect.DeepEqual(built.Tile.Features[within], impl.SimpleAt(f, r.Z).Feature) {
			t.Fatalf("%v of %v: %v, not as it is at the zoom", r, f, built)
		}
		pixels := 0
		for y := 8 * r.Y; y < 8*r.Y+8; y++ {
			for x := 8 * r.X; x < 8*r.X+8; x++ {
				if impl.DoesCover(f, r.Z, x, y) {
					pixels++
				}
			}
		}
		switch {
		case pixels > 0 && within < 0:
			t.Fatalf("%v of %v: it covers %d pixels, but is not in %v", r, f, pixels, built)
		case pixels > 0:
			covers++
		case within >= 0:
			reaches++
		}
	}
	return covers, reaches
}

// P8: a tile has all that covers one of its pixels.
func TestPromise8TileHasAllThatCovers(t *testing.T) {
	n := numbers(86)
	covers, reaches := 0, 0
	for i := range 500 {
		list, r := someMap(&n), someRef(&n)
		if i%5 == 0 {
			list = crowd(&n)
		}
		c, only := expectCoversInTile(t, list, r)
		covers, reaches = covers+c, reaches+only
	}
	if covers < 600 || reaches < 200 {
		t.Error("the test asks for little", covers, reaches)
	}
}

// borderMaps are features at the borders between tiles, and at the ends of the
// world.
func borderMaps(n *numbers) [][]impl.Feature {
	var maps [][]impl.Feature
	for range 5 {
		list := n.features(4)
		for i := range list {
			for k := range list[i].Points {
				list[i].Points[k] = at(128*n.next(0, 8), 128*n.next(0, 8))
			}
		}
		maps = append(maps, list)
	}
	for _, corner := range []impl.Point{at(0, 0), at(1024, 0), at(0, 1024), at(1024, 1024)} {
		for width := range int64(4) {
			maps = append(maps, []impl.Feature{wide(impl.KindPoint, width, corner)})
		}
	}
	return maps
}

// P8: the same of all tiles, those at each border of the world with them.
func TestPromise8AllTilesHaveAllThatCovers(t *testing.T) {
	n := numbers(87)
	for _, list := range borderMaps(&n) {
		for _, r := range allRefs() {
			expectCoversInTile(t, list, r)
		}
	}
}

// P8: what is painted at a pixel is in the tile of the pixel, and nothing in
// front of it there covers it.
func TestPromise8PaintedIsInTheTile(t *testing.T) {
	n := numbers(88)
	seen := 0
	for range 1500 {
		list, z := someMap(&n), n.next(0, 3)
		x, y := n.next(0, counts[z]-1), n.next(0, counts[z]-1)
		if len(list) > 0 {
			x, y = n.pixelBy(list[0], z)
		}
		painted := impl.PaintedAt(list, z, x, y).Value
		tile := impl.BuildTile(list, impl.RefAt(z, x, y).Ref).Tile
		last := int64(0)
		for _, f := range list {
			in := slices.ContainsFunc(tile.Features, func(g impl.Feature) bool { return g.Id == f.Id })
			if f.Id == painted && !in {
				t.Fatalf("%v at %d, pixel %d,%d: %d is not in %v", list, z, x, y, painted, tile)
			}
		}
		for _, g := range tile.Features {
			whole := list[slices.IndexFunc(list, func(f impl.Feature) bool { return f.Id == g.Id })]
			if impl.DoesCover(whole, z, x, y) {
				last = g.Id
			}
		}
		if last != painted {
			t.Fatalf("%v at %d, pixel %d,%d: %d, not %d", list, z, x, y, last, painted)
		}
		if painted != 0 {
			seen++
		}
	}
	if seen < 300 {
		t.Error("the test asks for little", seen)
	}
}

// P8: a tile is read back from what is served.
func TestPromise8TileIsReadBack(t *testing.T) {
	n := numbers(89)
	for i := range 4000 {
		list, r := someMap(&n), someRef(&n)
		if i == 0 {
			list, r = longest(), ref(0, 0, 0)
		}
		built, served := impl.BuildTile(list, r), impl.ServeTile(list, r)
		if built.Code != impl.OK || served.Code != impl.OK {
			t.Fatalf("%v of %v: %v %v", r, list, built, served)
		}
		if back := impl.ReadTile(r, served.Bytes); !reflect.DeepEqual(back, built) || !impl.SameFeatures(back.Tile.Features, built.Tile.Features) {
			t.Fatalf("%v of %v: %v, and back %v", r, list, built, back)
		}
		if sum := impl.SumTile(built.Tile); sum != impl.SumBytes(served.Bytes) || sum.Code != impl.OK {
			t.Fatalf("%v of %v: %v, not %v", r, list, sum, impl.SumBytes(served.Bytes))
		}
	}
	list := n.features(12)
	for _, r := range allRefs() {
		if back := impl.ReadTile(r, impl.ServeTile(list, r).Bytes); !reflect.DeepEqual(back, impl.BuildTile(list, r)) {
			t.Fatalf("%v of %v: back %v", r, list, back)
		}
	}
}

// tileAnswers is what the layer of tiles answers of the same arguments.
type tileAnswers struct {
	fault  int64
	parent impl.RefResult
	kids   impl.RefsResult
	at     impl.RefResult
	built  impl.TileResult
	served impl.BytesResult
	read   impl.TileResult
	sum    impl.IntResult
}

// tileCall are these arguments.
type tileCall struct {
	r       impl.Ref
	z, x, y int64
	list    []impl.Feature
	data    []byte
	tile    impl.Tile
}

func (c tileCall) ask() tileAnswers {
	return tileAnswers{
		fault:  impl.RefFault(c.r),
		parent: impl.ParentOf(c.r),
		kids:   impl.KidsOf(c.r),
		at:     impl.RefAt(c.z, c.x, c.y),
		built:  impl.BuildTile(c.list, c.r),
		served: impl.ServeTile(c.list, c.r),
		read:   impl.ReadTile(c.r, c.data),
		sum:    impl.SumTile(c.tile),
	}
}

// copy is the same call in memory of its own.
func (c tileCall) copy() tileCall {
	c.list, c.data, c.tile.Features = copyOf(c.list), slices.Clone(c.data), copyOf(c.tile.Features)
	return c
}

// memory is all that a call has in memory, what is behind the ends of its lists
// with it.
func (c tileCall) memory() tileCall {
	c.list, c.data, c.tile.Features = whole(c.list), slices.Clone(c.data[:cap(c.data)]), whole(c.tile.Features)
	return c
}

// spoil writes over all of it.
func (c tileCall) spoil() {
	spoil(c.list)
	spoilBytes(c.data)
	spoil(c.tile.Features)
}

// strangeRef is a ref that may have a fault.
func strangeRef(n *numbers) impl.Ref {
	if n.next(0, 2) > 0 {
		return someRef(n)
	}
	list := wrongRefs()
	return list[n.next(0, int64(len(list)-1))]
}

// strangeCall is a call of which anything may be wrong.
func strangeCall(n *numbers) tileCall {
	c := tileCall{
		r: strangeRef(n), z: n.next(-1, 4), x: n.next(-1, 64), y: n.next(-1, 16), list: strangeFeatures(n), data: strangeBytes(n),
		tile: impl.Tile{Ref: strangeRef(n), Features: strangeOrder(n)},
	}
	switch n.next(0, 9) {
	case 0:
		c.z = strangeNumber(n)
	case 1:
		c.x = strangeNumber(n)
	case 2:
		c.y = strangeNumber(n)
	}
	return c
}

// refCodeAs is the code of a ref by what the document says of it.
func refCodeAs(r impl.Ref) int64 {
	if !slices.Contains(allRefs(), r) {
		return impl.ErrRange
	}
	return impl.OK
}

// codes are the codes that the document asks for.
func (c tileCall) codes() []int64 {
	code := func(wrong bool, code int64) int64 {
		if wrong {
			return code
		}
		return impl.OK
	}
	_, ok := unpackAs(c.data)
	sorted := impl.SortFeatures(c.tile.Features)
	isOrdered := sorted.Code != impl.OK || impl.SameFeatures(sorted.Features, c.tile.Features)
	fault, list := refCodeAs(c.r), impl.FeaturesFault(c.list)
	noZoom := c.z < 0 || c.z > 3
	return []int64{
		fault,
		firstOf(fault, code(c.r.Z == 0, impl.ErrNone)),
		firstOf(fault, code(c.r.Z == 3, impl.ErrNone)),
		code(noZoom || c.x < 0 || c.x >= counts[c.z] || c.y < 0 || c.y >= counts[c.z], impl.ErrRange),
		firstOf(fault, list),
		firstOf(fault, list),
		firstOf(fault, code(len(c.data) > 900, impl.ErrMany), code(!ok, impl.ErrText)),
		firstOf(refCodeAs(c.tile.Ref), sorted.Code, code(!isOrdered, impl.ErrForm)),
	}
}

func (a tileAnswers) codes() []int64 {
	return []int64{a.fault, a.parent.Code, a.kids.Code, a.at.Code, a.built.Code, a.served.Code, a.read.Code, a.sum.Code}
}

// isZero tells whether all that stands beside a code is zero.
func (a tileAnswers) isZero() bool {
	none := func(t impl.Tile) bool { return t.Ref == impl.Ref{} && t.Features == nil }
	return (a.parent.Code == impl.OK || a.parent.Ref == impl.Ref{}) && (a.kids.Code == impl.OK || a.kids.Refs == nil) &&
		(a.at.Code == impl.OK || a.at.Ref == impl.Ref{}) && (a.built.Code == impl.OK || none(a.built.Tile)) &&
		(a.served.Code == impl.OK || a.served.Bytes == nil) && (a.read.Code == impl.OK || none(a.read.Tile)) &&
		(a.sum.Code == impl.OK || a.sum.Value == 0)
}

// P1, chapter 7: an answer at every argument.
func TestPromise1OfTiles(t *testing.T) {
	n := numbers(90)
	ofList := []int64{impl.ErrRange, impl.ErrMany, impl.ErrText, impl.ErrTaken}
	expectAnswers(t, 8000, func() tileCall { return strangeCall(&n) },
		[]int64{impl.ErrRange}, []int64{impl.ErrRange, impl.ErrNone}, []int64{impl.ErrRange, impl.ErrNone}, []int64{impl.ErrRange},
		ofList, ofList, []int64{impl.ErrRange, impl.ErrMany, impl.ErrText}, append([]int64{impl.ErrForm}, ofList...))
	empty := tileCall{list: []impl.Feature{}, data: []byte{}, tile: impl.Tile{Features: []impl.Feature{}}}
	if !reflect.DeepEqual(tileCall{}.ask(), empty.ask()) {
		t.Error("an empty list is not nil")
	}
}

// P1, chapter 7: an answer shares no memory with an argument, nor with an
// answer that was given ahead, and none hangs on what became of those.
func TestPromise1OfTilesNewMemory(t *testing.T) {
	n := numbers(91)
	for range 1500 {
		list := n.inOrder(int(n.next(1, 8)))
		c := tileCall{r: someRef(&n), list: list, data: append(listAs(list), 1, 2, 3), tile: impl.Tile{Features: copyOf(list)}}
		c.data = c.data[:len(c.data)-3]
		shuffle(&n, c.list)
		given := c.memory()
		got, kept := c.ask(), c.ask()
		for i := range got.kids.Refs[:cap(got.kids.Refs)] {
			got.kids.Refs[:cap(got.kids.Refs)][i] = ref(-7, -7, -7)
		}
		spoil(got.built.Tile.Features)
		spoilBytes(got.served.Bytes)
		spoil(got.read.Tile.Features)
		expectOwnMemory(t, c, given, kept, c.spoil)
	}
}

// P1, chapter 7: no two lists of one answer share memory, not even behind their
// ends.
func TestPromise1OfTilesListsApart(t *testing.T) {
	n := numbers(92)
	for range 800 {
		list := n.features(int(n.next(2, 12)))
		if n.next(0, 1) == 0 { // two features of an argument may share their points
			list[0].Kind, list[0].Points = list[1].Kind, list[1].Points
		}
		r := ref(n.next(0, 1), 0, 0)
		for _, tell := range []func() impl.TileResult{
			func() impl.TileResult { return impl.BuildTile(list, r) },
			func() impl.TileResult { return impl.ReadTile(r, impl.ServeTile(list, r).Bytes) },
		} {
			want := copyOf(tell().Tile.Features)
			got := tell().Tile.Features
			for i := range got {
				spoil(got[i : i+1])
				if !reflect.DeepEqual(got[i+1:], want[i+1:]) {
					t.Fatalf("%v: the points of %d and of one behind", want, i)
				}
			}
			got = tell().Tile.Features
			for i := range got {
				got[i].Points = append(got[i].Points, at(-7, int64(i)))
			}
			for i, f := range got {
				if last := len(f.Points) - 1; f.Points[last] != at(-7, int64(i)) || !slices.Equal(f.Points[:last], want[i].Points) {
					t.Fatalf("%v: what is put behind the points of %d", want, i)
				}
			}
		}
	}
}

// P1, chapter 7: what is served does not hang on the order in which features
// came.
func TestPromise1OfTilesInWhateverOrder(t *testing.T) {
	n := numbers(93)
	for range 400 {
		list, r := n.features(int(n.next(2, 12))), someRef(&n)
		built, served := impl.BuildTile(list, r), impl.ServeTile(list, r)
		for range 3 {
			shuffle(&n, list)
			if !reflect.DeepEqual(impl.BuildTile(list, r), built) || !bytes.Equal(impl.ServeTile(list, r).Bytes, served.Bytes) {
				t.Fatalf("%v of %v: not %v", r, list, built)
			}
		}
	}
}
