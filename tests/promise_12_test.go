package tests

import (
	"reflect"
	"slices"
	"testing"

	"loop.example/g00403/impl"
)

// diary has of each ref when it was asked for last, and what was put last,
// whether it is still there or not.
type diary struct {
	now  int
	when map[impl.Ref]int
	put  map[impl.Ref]impl.Tile
}

func newDiary() *diary {
	return &diary{when: map[impl.Ref]int{}, put: map[impl.Ref]impl.Tile{}}
}

func (d *diary) ask(r impl.Ref) {
	d.now++
	d.when[r] = d.now
}

// refsIn are the refs of what a cache has, in its order.
func refsIn(c impl.Cache) []impl.Ref {
	var refs []impl.Ref
	for _, k := range c.Kept {
		refs = append(refs, k.Tile.Ref)
	}
	return refs
}

// longestAgo is the one of refs that was not asked for for the longest time.
func (d *diary) longestAgo(refs []impl.Ref) impl.Ref {
	least := refs[0]
	for _, r := range refs {
		if d.when[r] < d.when[least] {
			least = r
		}
	}
	return least
}

// expectKept asks of a cache that what was put is there, the last one of each
// ref, with its raster, and nothing twice.
func (d *diary) expectKept(t *testing.T, c impl.Cache) {
	t.Helper()
	expectCacheFault(t, "kept", c, impl.OK)
	for _, k := range c.Kept {
		if !reflect.DeepEqual(k, impl.Kept{Tile: d.put[k.Tile.Ref], Ids: impl.RasterTile(d.put[k.Tile.Ref]).List}) {
			t.Fatalf("%v: not the last one that was put, %v", k, d.put[k.Tile.Ref])
		}
		if !impl.HasTile(c, k.Tile.Ref) {
			t.Fatalf("%v is not there", k)
		}
	}
	if len(eachOnce(refsIn(c))) != len(c.Kept) || int64(len(c.Kept)) > c.Size {
		t.Fatalf("%v", refsIn(c))
	}
}

// eachOnce are refs in an order that hangs on nothing else, each of them once.
func eachOnce(refs []impl.Ref) []impl.Ref {
	var list []impl.Ref
	for _, r := range allRefs() {
		if slices.Contains(refs, r) {
			list = append(list, r)
		}
	}
	return list
}

// without are refs but for some, in an order that hangs on nothing else.
func without(refs []impl.Ref, gone ...impl.Ref) []impl.Ref {
	return slices.DeleteFunc(eachOnce(refs), func(r impl.Ref) bool { return slices.Contains(gone, r) })
}

// expectPut puts a tile, and asks which one went for it; it tells whether one
// did.
func (d *diary) expectPut(t *testing.T, c impl.Cache, tile impl.Tile) (impl.Cache, bool) {
	t.Helper()
	before := refsIn(c)
	d.ask(tile.Ref)
	d.put[tile.Ref] = tile
	got := impl.PutTile(c, tile)
	if got.Code != impl.OK || got.Cache.Size != c.Size || !impl.HasTile(got.Cache, tile.Ref) {
		t.Fatalf("%v: what was put is not there: %v", tile, got)
	}
	var gone []impl.Ref
	isOver := !slices.Contains(before, tile.Ref) && int64(len(before)) == c.Size
	if isOver {
		gone = append(gone, d.longestAgo(before))
	}
	if want := without(append(before, tile.Ref), gone...); !slices.Equal(eachOnce(refsIn(got.Cache)), want) {
		t.Fatalf("%v into %v: %v, not %v", tile, before, refsIn(got.Cache), want)
	}
	return got.Cache, isOver
}

// expectTouch asks for a tile: all stay.
func (d *diary) expectTouch(t *testing.T, c impl.Cache, r impl.Ref) impl.Cache {
	t.Helper()
	got := impl.TouchTile(c, r)
	if !slices.Contains(refsIn(c), r) {
		expectNoCache(t, "touch", got, impl.ErrNone)
		return c
	}
	d.ask(r)
	if got.Code != impl.OK || got.Cache.Size != c.Size || !slices.Equal(eachOnce(refsIn(got.Cache)), eachOnce(refsIn(c))) {
		t.Fatalf("%v of %v: %v", r, c, got)
	}
	return got.Cache
}

// expectTake takes a tile: all others stay.
func (d *diary) expectTake(t *testing.T, c impl.Cache, r impl.Ref) impl.Cache {
	t.Helper()
	got := impl.TakeTile(c, r)
	if !slices.Contains(refsIn(c), r) {
		expectNoCache(t, "take", got, impl.ErrNone)
		return c
	}
	if got.Code != impl.OK || got.Cache.Size != c.Size || impl.HasTile(got.Cache, r) || !slices.Equal(eachOnce(refsIn(got.Cache)), without(refsIn(c), r)) {
		t.Fatalf("%v of %v: %v", r, c, got)
	}
	return got.Cache
}

// expectNearestThere asks that the nearest one that is there is the tile itself,
// or a parent with nothing between; it tells how far it is, -1 for none.
func expectNearestThere(t *testing.T, c impl.Cache, r impl.Ref) int {
	t.Helper()
	near := impl.NearestIn(c, r)
	for away := 0; ; away++ {
		if near.Code == impl.OK && near.Ref == r {
			if !impl.HasTile(c, r) {
				t.Fatalf("%v: %v is not there", c, near)
			}
			return away
		}
		if impl.HasTile(c, r) {
			t.Fatalf("%v: %v, but %v is there", c, near, r)
		}
		parent := impl.ParentOf(r)
		if parent.Code != impl.OK {
			if near.Code != impl.ErrNone {
				t.Fatalf("%v: %v is no parent", c, near)
			}
			return -1
		}
		r = parent.Ref
	}
}

// P12: what was put is there, the last one; what had to go is the one that was
// not asked for for the longest time; the nearest one that is there is the tile
// itself, or a parent with nothing between.
func TestPromise12(t *testing.T) {
	n := numbers(151)
	goes := 0
	far := map[int]int{}
	for size := int64(1); size <= 10; size++ {
		c, d := impl.NewCache(size).Cache, newDiary()
		refs := allRefs()
		shuffle(&n, refs)
		refs = append(refs[:size+2], ref(0, 0, 0))
		for range 300 {
			r := refs[n.next(0, int64(len(refs)-1))]
			switch n.next(0, 6) {
			case 0:
				c = d.expectTake(t, c, r)
			case 1, 2:
				c = d.expectTouch(t, c, r)
			default:
				isOver := false
				c, isOver = d.expectPut(t, c, someTile(&n, r))
				if isOver {
					goes++
				}
			}
			d.expectKept(t, c)
			far[expectNearestThere(t, c, someRef(&n))]++
			far[expectNearestThere(t, c, r)]++
		}
	}
	if goes < 300 || len(far) != 5 || far[-1] < 200 || far[0] < 200 || far[3] < 100 {
		t.Error("the test asks for little", goes, far)
	}
}

// P12: each order in which three are asked for, by a touch or by a put, decides
// which one goes.
func TestPromise12EachOrder(t *testing.T) {
	tiles := spots(4)
	gone := map[impl.Ref]int{}
	for order := range 6 * 6 * 6 {
		c, d := impl.NewCache(3).Cache, newDiary()
		for _, tile := range tiles[:3] {
			c, _ = d.expectPut(t, c, tile)
		}
		for _, way := range []int{order % 6, order / 6 % 6, order / 36} {
			if way < 3 {
				c = d.expectTouch(t, c, tiles[way].Ref)
			} else {
				c, _ = d.expectPut(t, c, tiles[way-3])
			}
			d.expectKept(t, c)
		}
		after, isOver := d.expectPut(t, c, tiles[3])
		if !isOver {
			t.Fatalf("%v: none went", after)
		}
		d.expectKept(t, after)
		gone[without(refsIn(c), refsIn(after)...)[0]]++
	}
	if len(gone) != 3 {
		t.Error("the test asks for little", gone)
	}
}

// P12: what is put into a cache with room for one is there alone.
func TestPromise12OfSizeOne(t *testing.T) {
	n := numbers(152)
	c, d := impl.NewCache(1).Cache, newDiary()
	for _, r := range append(allRefs(), allRefs()[3:]...) {
		for range 2 {
			c, _ = d.expectPut(t, c, someTile(&n, r))
			d.expectKept(t, c)
			if !slices.Equal(refsIn(c), []impl.Ref{r}) {
				t.Fatalf("%v: %v", r, c)
			}
		}
	}
}

// P12: what was put twice is there once, the last one, and what is there is read
// from it alone.
func TestPromise12PutTwice(t *testing.T) {
	n := numbers(153)
	for range 300 {
		c := someCache(&n, 9)
		c.Size++
		tile := someTile(&n, someRef(&n))
		other := someTile(&n, tile.Ref)
		once := impl.PutTile(c, tile)
		twice := impl.PutTile(once.Cache, other)
		if !reflect.DeepEqual(twice, impl.PutTile(c, other)) || !reflect.DeepEqual(impl.PutTile(once.Cache, tile), once) {
			t.Fatalf("%v, then %v: %v", tile, other, twice)
		}
		if touched := impl.TouchTile(once.Cache, tile.Ref); !reflect.DeepEqual(touched, once) {
			t.Fatalf("%v, touched: %v", once, touched)
		}
	}
}

// cacheAnswers is what the layer of the cache answers of the same arguments.
type cacheAnswers struct {
	fault                     int64
	made, put, touched, taken impl.CacheResult
	has                       bool
	near                      impl.RefResult
}

// cacheCall are these arguments.
type cacheCall struct {
	c    impl.Cache
	size int64
	tile impl.Tile
	r    impl.Ref
}

func (c cacheCall) ask() cacheAnswers {
	return cacheAnswers{
		fault:   impl.CacheFault(c.c),
		made:    impl.NewCache(c.size),
		put:     impl.PutTile(c.c, c.tile),
		touched: impl.TouchTile(c.c, c.r),
		taken:   impl.TakeTile(c.c, c.r),
		has:     impl.HasTile(c.c, c.r),
		near:    impl.NearestIn(c.c, c.r),
	}
}

// copyCache is the same cache in memory of its own.
func copyCache(c impl.Cache) impl.Cache {
	c.Kept = slices.Clone(c.Kept)
	for i, k := range c.Kept {
		c.Kept[i].Tile.Features = copyOf(k.Tile.Features)
		c.Kept[i].Ids = slices.Clone(k.Ids)
	}
	return c
}

// wholeCache is all that a cache has in memory, what is behind the ends of its
// lists with it.
func wholeCache(c impl.Cache) impl.Cache {
	c.Kept = slices.Clone(c.Kept[:cap(c.Kept)])
	for i, k := range c.Kept {
		c.Kept[i].Tile.Features = whole(k.Tile.Features)
		c.Kept[i].Ids = slices.Clone(k.Ids[:cap(k.Ids)])
	}
	return c
}

// spoilKept writes over all that one has in memory.
func spoilKept(k impl.Kept) {
	spoil(k.Tile.Features[:cap(k.Tile.Features)])
	spoilInts(k.Ids)
}

// spoilCache writes over all that a cache has in memory.
func spoilCache(c impl.Cache) {
	for i, k := range c.Kept[:cap(c.Kept)] {
		spoilKept(k)
		c.Kept[:cap(c.Kept)][i] = impl.Kept{Ids: []int64{-7}}
	}
}

func (c cacheCall) copy() cacheCall {
	c.c = copyCache(c.c)
	c.tile.Features = copyOf(c.tile.Features)
	return c
}

func (c cacheCall) memory() cacheCall {
	c.c = wholeCache(c.c)
	c.tile.Features = whole(c.tile.Features)
	return c
}

func (c cacheCall) spoil() {
	spoilCache(c.c)
	spoil(c.tile.Features)
}

// roomy is the same cache with room behind the ends of its lists, in which
// something stands.
func roomy(n *numbers, c impl.Cache) impl.Cache {
	c = copyCache(c)
	for i, k := range c.Kept {
		c.Kept[i].Ids = append(k.Ids, 5, -5)[:len(k.Ids)]
		c.Kept[i].Tile.Features = append(k.Tile.Features, n.feature(1), n.feature(2))[:len(k.Tile.Features)]
	}
	c.Kept = append(c.Kept, impl.Kept{Tile: someTile(n, someRef(n)), Ids: plain(4)}, impl.Kept{})[:len(c.Kept)]
	return c
}

// strangeCache is a cache in which something may be wrong.
func strangeCache(n *numbers) impl.Cache {
	c := someCache(n, 5)
	last := int64(len(c.Kept) - 1)
	switch n.next(0, 11) {
	case 0:
		c.Size = strangeNumber(n)
	case 1:
		c.Size = last
	case 2:
		c.Size = last + 1
	}
	if last >= 0 {
		spoilPart(n, &c.Kept[n.next(0, last)], c.Kept[0].Tile.Ref)
	}
	return roomy(n, c)
}

// spoilPart may change something of one in a cache.
func spoilPart(n *numbers, k *impl.Kept, first impl.Ref) {
	switch n.next(0, 9) {
	case 0:
		k.Tile.Ref = strangeRef(n)
	case 1:
		k.Tile.Features = strangeOrder(n)
	case 2:
		k.Tile.Features = strangeOrder(n)
		k.Ids = impl.RasterTile(k.Tile).List
	case 3:
		k.Ids[n.next(0, pixels-1)] = strangeNumber(n)
	case 4:
		k.Ids = k.Ids[:n.next(pixels-1, pixels)]
	case 5:
		k.Tile.Ref = first
		k.Ids = impl.RasterTile(k.Tile).List
	}
}

// strangeCacheCall is a call of which anything may be wrong.
func strangeCacheCall(n *numbers) cacheCall {
	c := cacheCall{c: strangeCache(n), size: n.next(-1, 12), tile: impl.Tile{Ref: strangeRef(n), Features: strangeOrder(n)}, r: strangeRef(n)}
	if count := int64(len(c.c.Kept)); count > 0 && n.next(0, 1) == 0 {
		c.r = c.c.Kept[n.next(0, count-1)].Tile.Ref
		c.tile.Ref = c.c.Kept[n.next(0, count-1)].Tile.Ref
	}
	if n.next(0, 9) == 0 {
		c.size = strangeNumber(n)
	}
	return c
}

// codes are the codes that the document asks for, and whether a tile is there.
func (c cacheCall) codes() []int64 {
	code, size, none, near := cacheCodeAs(c.c), int64(impl.OK), int64(impl.OK), int64(impl.OK)
	if c.size < 1 || c.size > 10 {
		size = impl.ErrRange
	}
	isThere := slices.Contains(refsIn(c.c), c.r)
	if !isThere {
		none = impl.ErrNone
	}
	if code == impl.OK && refCodeAs(c.r) == impl.OK {
		near = nearestAs(c.c, c.r).Code
	}
	return []int64{
		code,
		size,
		firstOf(code, refCodeAs(c.tile.Ref), orderCodeAs(c.tile.Features)),
		firstOf(code, none),
		firstOf(code, none),
		isSeenAs(isThere && code == impl.OK),
		firstOf(code, refCodeAs(c.r), near),
	}
}

func (a cacheAnswers) codes() []int64 {
	return []int64{a.fault, a.made.Code, a.put.Code, a.touched.Code, a.taken.Code, isSeenAs(a.has), a.near.Code}
}

// isZero tells whether all that stands beside a code is zero.
func (a cacheAnswers) isZero() bool {
	for _, result := range a.results() {
		if result.Code != impl.OK && (result.Cache.Size != 0 || result.Cache.Kept != nil) {
			return false
		}
	}
	return a.near.Code == impl.OK || a.near.Ref == impl.Ref{}
}

func (a cacheAnswers) results() []impl.CacheResult {
	return []impl.CacheResult{a.made, a.put, a.touched, a.taken}
}

// P1, chapter 11: an answer at every argument.
func TestPromise1OfCaches(t *testing.T) {
	n := numbers(154)
	of := []int64{impl.ErrRange, impl.ErrMany, impl.ErrText, impl.ErrForm, impl.ErrTaken, impl.ErrState}
	none := append(slices.Clone(of), impl.ErrNone)
	expectAnswers(t, 8000, func() cacheCall { return strangeCacheCall(&n) },
		of, []int64{impl.ErrRange}, of, none, none, []int64{1}, none)
	for size := range int64(12) {
		c := cacheCall{c: impl.Cache{Size: size}, size: size, tile: tileOf(ref(1, 1, 0)), r: ref(1, 1, 0)}
		other := c
		other.c.Kept, other.tile.Features = []impl.Kept{}, []impl.Feature{}
		if !reflect.DeepEqual(c.ask(), other.ask()) {
			t.Error("an empty list is not nil", size)
		}
		c.c.Kept = []impl.Kept{{Tile: c.tile, Ids: plain(0)}}
		other.c.Kept = []impl.Kept{{Tile: other.tile, Ids: plain(0)}}
		if !reflect.DeepEqual(c.ask(), other.ask()) {
			t.Error("an empty list that is kept is not nil", size)
		}
	}
}

// someCacheCall is a call without a fault, and of a tile that is there.
func someCacheCall(n *numbers) cacheCall {
	c := someCache(n, 6)
	for len(c.Kept) == 0 {
		c = someCache(n, 6)
	}
	last := int64(len(c.Kept) - 1)
	call := cacheCall{c: roomy(n, c), size: n.next(1, 10), tile: someTile(n, someRef(n)), r: c.Kept[n.next(0, last)].Tile.Ref}
	switch n.next(0, 2) {
	case 0:
		call.tile.Ref = c.Kept[n.next(0, last)].Tile.Ref
	case 1:
		// a tile that is memory of the cache
		call.tile = call.c.Kept[n.next(0, last)].Tile
	}
	return call
}

// P1, chapter 11: an answer shares no memory with an argument, nor with another
// answer, and no two of its lists share any.
func TestPromise1OfCachesNewMemory(t *testing.T) {
	n := numbers(155)
	for range 1000 {
		c := someCacheCall(&n)
		given := c.memory()
		got, kept := c.ask(), c.ask()
		if firstOf(kept.fault, kept.made.Code, kept.put.Code, kept.touched.Code, kept.taken.Code, kept.near.Code) != impl.OK || !kept.has {
			t.Fatalf("%v: %v", c, kept)
		}
		for i, result := range got.results() {
			want := kept.results()[i]
			for k := range result.Cache.Kept {
				if !reflect.DeepEqual(result.Cache.Kept[k:], want.Cache.Kept[k:]) {
					t.Fatalf("%v: %d of one answer shares memory with one ahead", c, k)
				}
				spoilKept(result.Cache.Kept[k])
			}
			spoilCache(result.Cache)
		}
		expectOwnMemory(t, c, given, kept, c.spoil)
	}
}

// P1, chapter 11: tiles that share memory in a cache that is given do not share
// any in an answer.
func TestPromise1OfCachesWithSharedMemory(t *testing.T) {
	features, ids := two(), plain(0)
	c := impl.Cache{Size: 4, Kept: []impl.Kept{
		{Tile: tileOf(ref(2, 2, 2), features...), Ids: ids},
		{Tile: tileOf(ref(2, 3, 2), features...), Ids: ids},
		{Tile: tileOf(ref(2, 3, 3), features...), Ids: ids},
	}}
	expectCacheFault(t, "shared", c, impl.OK)
	for i, result := range []impl.CacheResult{
		impl.PutTile(c, tileOf(ref(1, 1, 1), features...)),
		impl.TouchTile(c, ref(2, 2, 2)),
		impl.TakeTile(c, ref(2, 2, 2)),
	} {
		want := copyCache(result.Cache)
		for k := range result.Cache.Kept {
			if !reflect.DeepEqual(result.Cache.Kept[k:], want.Kept[k:]) {
				t.Fatalf("%d: %d shares memory with one ahead", i, k)
			}
			for m, f := range result.Cache.Kept[k].Tile.Features {
				if !reflect.DeepEqual(f, want.Kept[k].Tile.Features[m]) {
					t.Fatalf("%d: %d: two features share memory", i, k)
				}
				spoil(result.Cache.Kept[k].Tile.Features[m : m+1])
			}
			spoilKept(result.Cache.Kept[k])
		}
		if !reflect.DeepEqual(features, two()) || !slices.Equal(ids, plain(0)) {
			t.Fatalf("%d: the argument was spoiled", i)
		}
	}
}

// P1, chapter 11: nothing is kept from call to call: the same cache tells the
// same, whatever others were told in between.
func TestPromise1OfCachesKeepsNothing(t *testing.T) {
	n := numbers(156)
	var calls []cacheCall
	var answers []cacheAnswers
	for range 200 {
		c := someCacheCall(&n)
		calls, answers = append(calls, c), append(answers, c.ask())
	}
	for i, c := range slices.Backward(calls) {
		if got := c.ask(); !reflect.DeepEqual(got, answers[i]) {
			t.Fatalf("%v: %v, then %v", c, answers[i], got)
		}
	}
}
