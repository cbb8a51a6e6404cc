package tests

import (
	"fmt"
	"maps"
	"math"
	"reflect"
	"slices"
	"strings"
	"testing"

	"loop.example/g00403/impl"
)

// seeing is a viewer to whom these tiles are there, the one that was asked for
// last at the end.
func seeing(c impl.Camera, tiles ...impl.Tile) impl.Viewer {
	return looking(c, 5, cacheOf(10, tiles...))
}

// flat is a tile in which one Id is at all pixels, without a name.
func flat(r impl.Ref, id int64) impl.Tile {
	f := wide(impl.KindArea, 0, at(0, 0), at(1024, 0), at(1024, 1024), at(0, 1024))
	f.Id, f.Label = id, ""
	return tileOf(r, f)
}

// stripes is a tile with an Id of its own in each row, or in each column, from
// first on, without names.
func stripes(r impl.Ref, first int64, areRows bool) impl.Tile {
	tile := tileOf(r)
	unit := units[r.Z]
	for i := range int64(8) {
		x, y := (8*r.X+i)*unit+unit/2, (8*r.Y+i)*unit+unit/2
		f := wide(impl.KindLine, 0, at(x, 0), at(x, 1024))
		if areRows {
			f.Points = []impl.Point{at(0, y), at(1024, y)}
		}
		f.Id, f.Label = first+i, ""
		tile.Features = append(tile.Features, f)
	}
	return tile
}

func expectFrame(t *testing.T, what string, v impl.Viewer, want ...int64) {
	t.Helper()
	if got := impl.FrameOf(v); !reflect.DeepEqual(got, impl.IntsResult{List: want}) {
		t.Errorf("%s: %v: %v, not %v", what, v.Camera, got, want)
	}
}

func expectComplete(t *testing.T, what string, v impl.Viewer, want bool) {
	t.Helper()
	if got := impl.IsComplete(v); got != want {
		t.Errorf("%s: %v: %v", what, v, got)
	}
}

func expectPicked(t *testing.T, what string, v impl.Viewer, x, y, want int64) {
	t.Helper()
	if got := impl.PickIn(v, x, y); got != (impl.IntResult{Value: want}) {
		t.Errorf("%s: %v at %d,%d: %v, not %d", what, v.Camera, x, y, got, want)
	}
}

func expectNotPicked(t *testing.T, what string, v impl.Viewer, x, y, code int64) {
	t.Helper()
	if got := impl.PickIn(v, x, y); got != (impl.IntResult{Code: code}) {
		t.Errorf("%s: %v at %d,%d: %v, not %d", what, v.Camera, x, y, got, code)
	}
}

func expectFrameText(t *testing.T, what string, v impl.Viewer, want string) {
	t.Helper()
	if got := impl.FrameText(v); got != (impl.TextResult{Text: want}) {
		t.Errorf("%s: %v: %v, not %q", what, v.Camera, got, want)
	}
}

// quarters is the frame of a camera that sees as much of each of four tiles, with
// one Id in each of them.
func quarters(c impl.Camera, ids [4]int64) []int64 {
	var list []int64
	for place := range c.W * c.H {
		list = append(list, ids[place/c.W/(c.H/2)*2+place%c.W/(c.W/2)])
	}
	return list
}

// All, some and none of four tiles are there, without and with what is not seen;
// in the place of one that is not there is nothing.
func TestFrameOf(t *testing.T) {
	for _, c := range []impl.Camera{cam(2, 4, 4, 8, 8), cam(2, 7, 7, 2, 2), cam(2, 6, 5, 4, 6)} {
		for set := range 16 {
			var tiles []impl.Tile
			var ids [4]int64
			for i, r := range refsAs(c) {
				if set>>i&1 == 1 {
					ids[i] = int64(11 * (i + 1))
					tiles = append(tiles, flat(r, ids[i]))
				}
			}
			expectFrame(t, fmt.Sprint(set), seeing(c, tiles...), quarters(c, ids)...)
			slices.Reverse(tiles)
			// tiles beside what is seen, and nearer ones, tell nothing of it
			others := []impl.Tile{flat(ref(2, 2, 0), 7), flat(ref(1, 1, 1), 8), flat(ref(3, 1, 1), 9), flat(ref(3, 2, 2), 10)}
			v := seeing(c, append(others, tiles...)...)
			expectFrame(t, fmt.Sprint("with others ", set), v, quarters(c, ids)...)
			expectComplete(t, fmt.Sprint(set), v, set == 15)
			expectComplete(t, fmt.Sprint(set), seeing(c, tiles...), set == 15)
		}
	}
}

// Rows and columns, told by hand: over one, two and four tiles.
func TestFrameOfRowsAndColumns(t *testing.T) {
	r, right, below, last := ref(1, 0, 0), ref(1, 1, 0), ref(1, 0, 1), ref(1, 1, 1)
	rows := []impl.Tile{stripes(r, 10, true), stripes(right, 20, true), stripes(below, 30, true), stripes(last, 40, true)}
	columns := []impl.Tile{stripes(r, 10, false), stripes(right, 20, false), stripes(below, 30, false), stripes(last, 40, false)}
	for _, c := range []struct {
		what          string
		c             impl.Camera
		rows, columns []int64
	}{
		{"one tile", cam(1, 2, 3, 3, 2), []int64{13, 13, 13, 14, 14, 14}, []int64{12, 13, 14, 12, 13, 14}},
		{"the last tile", cam(1, 13, 14, 3, 2), []int64{46, 46, 46, 47, 47, 47}, []int64{45, 46, 47, 45, 46, 47}},
		{"two beside one another", cam(1, 6, 1, 4, 2), []int64{11, 11, 21, 21, 12, 12, 22, 22}, []int64{16, 17, 20, 21, 16, 17, 20, 21}},
		{"two below one another", cam(1, 9, 7, 2, 3), []int64{27, 27, 40, 40, 41, 41}, []int64{21, 22, 41, 42, 41, 42}},
		{"four", cam(1, 7, 6, 3, 3), []int64{16, 26, 26, 17, 27, 27, 30, 40, 40}, []int64{17, 20, 21, 17, 20, 21, 37, 40, 41}},
		{"one row", cam(1, 5, 9, 5, 1), []int64{31, 31, 31, 41, 41}, []int64{35, 36, 37, 40, 41}},
		{"one row of one tile", cam(1, 0, 0, 8, 1), slices.Repeat([]int64{10}, 8), []int64{10, 11, 12, 13, 14, 15, 16, 17}},
		{"one column", cam(1, 9, 5, 1, 5), []int64{25, 26, 27, 40, 41}, []int64{21, 21, 21, 41, 41}},
		{"one column of one tile", cam(1, 15, 8, 1, 8), []int64{40, 41, 42, 43, 44, 45, 46, 47}, slices.Repeat([]int64{47}, 8)},
		{"one pixel", cam(1, 7, 8, 1, 1), []int64{30}, []int64{37}},
		{"the first pixel", cam(1, 0, 0, 1, 1), []int64{10}, []int64{10}},
		{"the last pixel", cam(1, 15, 15, 1, 1), []int64{47}, []int64{47}},
	} {
		expectFrame(t, c.what+", rows", seeing(c.c, rows...), c.rows...)
		expectFrame(t, c.what+", columns", seeing(c.c, columns...), c.columns...)
	}
}

// Of a tile that is not there its parent is, its parent's parent, or none: each
// pixel as often as there are nearer ones.
func TestFrameOfParents(t *testing.T) {
	all, half, fourth := ref(0, 0, 0), ref(1, 1, 0), ref(2, 2, 1)
	for _, c := range []struct {
		what          string
		r             impl.Ref
		c             impl.Camera
		rows, columns []int64
	}{
		{"the parent", fourth, cam(3, 40, 16, 4, 4), []int64{10, 10, 10, 10, 10, 10, 10, 10, 11, 11, 11, 11, 11, 11, 11, 11}, []int64{14, 14, 15, 15, 14, 14, 15, 15, 14, 14, 15, 15, 14, 14, 15, 15}},
		{"the parent, from the middle of a pixel on", fourth, cam(3, 33, 25, 3, 2), []int64{14, 14, 14, 15, 15, 15}, []int64{10, 11, 11, 10, 11, 11}},
		{"the parent of two", fourth, cam(3, 38, 23, 4, 2), []int64{13, 13, 13, 13, 14, 14, 14, 14}, []int64{13, 13, 14, 14, 13, 13, 14, 14}},
		{"the parent's parent", half, cam(3, 38, 14, 4, 4), []int64{13, 13, 13, 13, 13, 13, 13, 13, 14, 14, 14, 14, 14, 14, 14, 14}, []int64{11, 11, 12, 12, 11, 11, 12, 12, 11, 11, 12, 12, 11, 11, 12, 12}},
		{"the parent of zoom 2", half, cam(2, 19, 3, 3, 3), []int64{11, 11, 11, 12, 12, 12, 12, 12, 12}, []int64{11, 12, 12, 11, 12, 12, 11, 12, 12}},
		{"three zooms away", all, cam(3, 7, 15, 2, 2), []int64{11, 11, 12, 12}, []int64{10, 11, 10, 11}},
		{"three zooms away, the last pixel", all, cam(3, 63, 63, 1, 1), []int64{17}, []int64{17}},
		{"two zooms away, one row", all, cam(2, 0, 31, 8, 1), slices.Repeat([]int64{17}, 8), []int64{10, 10, 10, 10, 11, 11, 11, 11}},
		{"one zoom away, one column", all, cam(1, 15, 4, 1, 8), []int64{12, 12, 13, 13, 14, 14, 15, 15}, slices.Repeat([]int64{17}, 8)},
		{"a parent of others", ref(2, 1, 1), cam(3, 36, 20, 2, 2), make([]int64, 4), make([]int64, 4)},
		{"one half of it, the other half has none", half, cam(2, 14, 7, 4, 2), []int64{0, 0, 13, 13, 0, 0, 14, 14}, []int64{0, 0, 10, 10, 0, 0, 10, 10}},
		{"a tile that is nearer", ref(3, 4, 2), cam(2, 16, 8, 4, 2), make([]int64, 8), make([]int64, 8)},
	} {
		expectFrame(t, c.what+", rows", seeing(c.c, stripes(c.r, 10, true)), c.rows...)
		expectFrame(t, c.what+", columns", seeing(c.c, stripes(c.r, 10, false)), c.columns...)
		expectComplete(t, c.what, seeing(c.c, stripes(c.r, 10, true)), false)
	}
}

// The tile itself ahead of its parent, and that ahead of its parent's parent,
// also where it has nothing at a pixel and they do; in whatever order they are
// kept.
func TestFrameOfTheNearest(t *testing.T) {
	refs := []impl.Ref{ref(3, 5, 2), ref(2, 2, 1), ref(1, 1, 0), ref(0, 0, 0)}
	c := cam(3, 40, 16, 8, 8)
	for _, order := range [][]int{{0, 1, 2, 3}, {3, 2, 1, 0}, {1, 3, 0, 2}, {2, 0, 3, 1}} {
		for set := range 16 {
			var flats, empties []impl.Tile
			want := int64(0)
			nearest := 4
			for _, i := range order {
				if set>>i&1 == 1 {
					nearest = min(nearest, i)
				}
			}
			for _, i := range order {
				if set>>i&1 == 0 {
					continue
				}
				id := int64(100 * (i + 1))
				flats = append(flats, flat(refs[i], id))
				if i == nearest {
					want = id
					empties = append(empties, tileOf(refs[i]))
				} else {
					empties = append(empties, flat(refs[i], id))
				}
			}
			what := fmt.Sprint(order, " ", set)
			expectFrame(t, what, seeing(c, flats...), slices.Repeat([]int64{want}, 64)...)
			expectFrame(t, what+", nothing in the nearest", seeing(c, empties...), make([]int64, 64)...)
			expectComplete(t, what, seeing(c, empties...), nearest == 0)
		}
	}
	// some of four tiles are there, with a parent of all of them
	four := cam(2, 4, 4, 8, 8)
	for set := range 16 {
		tiles := []impl.Tile{flat(ref(0, 0, 0), 5), flat(ref(1, 0, 0), 6)}
		ids := [4]int64{6, 6, 6, 6}
		for i, r := range refsAs(four) {
			if set>>i&1 == 1 {
				ids[i] = int64(20 + i)
				tiles = append(tiles, flat(r, ids[i]))
			}
		}
		expectFrame(t, fmt.Sprint(set), seeing(four, tiles...), quarters(four, ids)...)
	}
	// four tiles of four parents, of which some are there
	middle := cam(3, 28, 28, 8, 8)
	parents := []impl.Tile{flat(ref(2, 1, 1), 31), flat(ref(2, 2, 1), 32), flat(ref(1, 0, 1), 33), flat(ref(3, 4, 4), 34)}
	expectFrame(t, "each of another zoom", seeing(middle, parents...), quarters(middle, [4]int64{31, 32, 33, 34})...)
	expectFrame(t, "none of the last one", seeing(middle, parents[:3]...), quarters(middle, [4]int64{31, 32, 33, 0})...)
}

// seenAs is what is at a pixel of the world by what the document says of it: of
// all tiles in which the middle of the pixel lies, but nearer ones, the one of
// the nearest zoom tells.
func seenAs(v impl.Viewer, x, y int64) int64 {
	unit := units[v.Camera.Z]
	zoom, id := int64(-1), int64(0)
	for _, k := range v.Cache.Kept {
		r := k.Tile.Ref
		column, row := (2*x+1)*unit/(2*units[r.Z])-8*r.X, (2*y+1)*unit/(2*units[r.Z])-8*r.Y
		if r.Z <= v.Camera.Z && r.Z > zoom && column >= 0 && column < 8 && row >= 0 && row < 8 {
			zoom, id = r.Z, k.Ids[8*row+column]
		}
	}
	return id
}

// frameIn is the whole frame so.
func frameIn(v impl.Viewer) []int64 {
	var list []int64
	for y := range v.Camera.H {
		for x := range v.Camera.W {
			list = append(list, seenAs(v, v.Camera.X+x, v.Camera.Y+y))
		}
	}
	return list
}

// Each place of the world, at each zoom, where a chain of parents, or one of
// them, is there: those at the border of the world among them.
func TestFrameOfAllCameras(t *testing.T) {
	caches := []impl.Cache{
		cacheOf(10, stripes(ref(0, 0, 0), 100, true), stripes(ref(1, 0, 0), 110, false), stripes(ref(2, 1, 1), 120, true), stripes(ref(3, 3, 3), 130, false), stripes(ref(3, 0, 0), 140, true)),
		cacheOf(10, stripes(ref(3, 7, 7), 1, true), stripes(ref(2, 3, 3), 20, false), stripes(ref(1, 1, 1), 300, true), stripes(ref(1, 0, 1), 400, false), stripes(ref(3, 7, 0), 500, true), stripes(ref(2, 0, 3), 600, true)),
		cacheOf(10, stripes(ref(0, 0, 0), 7, false)),
		cacheOf(4),
	}
	sizes := []int64{1, 2, 7, 8}
	asked := [4][4]int{}
	for z := range int64(4) {
		list := camerasOf(z, sizes, sizes)
		if z == 3 {
			list = camerasOf(z, []int64{1, 8}, []int64{2, 8})
		}
		for i, c := range list {
			// of the many places of a nearer zoom each third one, each with another cache
			if z < 2 || i%3 == 0 {
				v := looking(c, 0, caches[i%4])
				expectFrame(t, fmt.Sprint(i), v, frameIn(v)...)
				asked[z][i%4]++
			}
		}
	}
	for z := range asked {
		if slices.Min(asked[z][:]) < 10 {
			t.Error("the test asks for little", asked)
		}
	}
}

// Where the frame of a camera is the map itself, told by what covers: all tiles
// of it are there.
func TestFrameOfTheMapItself(t *testing.T) {
	n := numbers(201)
	seen := 0
	for range 150 {
		list, c := crowd(&n), someCamera(&n)
		v := impl.Viewer{Camera: c, Cache: impl.Cache{Size: 4}}
		for _, r := range refsAs(c) {
			tile := impl.BuildTile(list, r).Tile
			v.Cache = impl.PutTile(v.Cache, tile).Cache
		}
		want := frameAs(list, c)
		expectFrame(t, "the map itself", v, want...)
		if slices.Max(want) > 0 {
			seen++
		}
	}
	if seen < 40 {
		t.Error("the test asks for little", seen)
	}
}

// IsComplete: one and two tiles, all and none of them; what is not seen does not
// count, and whatever was asked for does not either.
func TestIsComplete(t *testing.T) {
	one, two := cam(1, 8, 0, 8, 8), cam(1, 7, 3, 2, 2)
	a, b := flat(ref(1, 0, 0), 3), flat(ref(1, 1, 0), 4)
	parent, below := flat(ref(0, 0, 0), 5), flat(ref(1, 1, 1), 6)
	expectComplete(t, "none", seeing(one), false)
	expectComplete(t, "the other one", seeing(one, a), false)
	expectComplete(t, "it is there", seeing(one, b), true)
	expectComplete(t, "an empty one is there", seeing(one, tileOf(ref(1, 1, 0))), true)
	expectComplete(t, "its parent, and those beside it", seeing(one, parent, a, below), false)
	expectComplete(t, "its kids", seeing(one, flat(ref(2, 2, 0), 1), flat(ref(2, 3, 0), 1), flat(ref(2, 2, 1), 1), flat(ref(2, 3, 1), 1)), false)
	expectComplete(t, "one of two", seeing(two, a, parent), false)
	expectComplete(t, "the other one of two", seeing(two, below, b), false)
	expectComplete(t, "both", seeing(two, b, a), true)
	expectComplete(t, "both, and others", seeing(two, parent, b, below, a), true)
	expectComplete(t, "asked for", looking(two, 5, cacheOf(4, a), req(b.Ref, 6, 1)), false)
	expectComplete(t, "not asked for", looking(two, 5, cacheOf(4, a)), false)
	expectComplete(t, "new", impl.NewViewer(two, 4).Viewer, false)
	for _, change := range []func(v *impl.Viewer){
		func(v *impl.Viewer) { v.Now = -1 },
		func(v *impl.Viewer) { v.Now = 9001 },
		func(v *impl.Viewer) { v.Bad = 10000 },
		func(v *impl.Viewer) { v.Cache.Size = 3 },
		func(v *impl.Viewer) { v.Cache.Size = 11 },
		func(v *impl.Viewer) { v.Cache.Kept[0].Ids[63]++ },
		func(v *impl.Viewer) { v.Cache.Kept = append(v.Cache.Kept, v.Cache.Kept[0]) },
		func(v *impl.Viewer) { v.Requests = []impl.Request{req(a.Ref, 6, 1)} },
		func(v *impl.Viewer) { v.Requests = []impl.Request{req(below.Ref, 6, 1)} },
		func(v *impl.Viewer) { v.Camera.W = 0 },
		func(v *impl.Viewer) { v.Camera.X = math.MaxInt64 },
	} {
		v := seeing(two, a, b)
		expectComplete(t, "ahead of a fault", v, true)
		change(&v)
		if impl.ViewerFault(v) == impl.OK {
			t.Fatal("the test has no fault", v)
		}
		expectComplete(t, "with a fault", v, false)
	}
}

// The labels of the tiles that are seen: of one, of two and of four.
func TestLabelsIn(t *testing.T) {
	c := cam(2, 6, 6, 8, 8)
	a := tileOf(ref(2, 0, 0), named(4, 3, 2, 6, 6, "a"))
	b := tileOf(ref(2, 1, 0), named(3, 2, 2, 8, 6, "ab"))
	below := tileOf(ref(2, 0, 1), named(2, 1, 2, 7, 9, "abc"))
	last := tileOf(ref(2, 1, 1), named(1, 0, 2, 13, 13, "abcdef"))
	boxes := []impl.Placed{box(4, 6, 6, 2, 3), box(3, 8, 6, 4, 3), box(2, 7, 9, 6, 3), box(1, 13, 13, 12, 3)}
	for set := range 16 {
		var tiles []impl.Tile
		var want []impl.Placed
		for i, tile := range []impl.Tile{a, b, below, last} {
			if set>>i&1 == 1 {
				tiles = append(tiles, tile)
				want = append(want, boxes[i])
			}
		}
		slices.Reverse(want) // the last one is the most important one
		if got := impl.LabelsIn(seeing(c, tiles...)); !reflect.DeepEqual(got, impl.PlacedResult{Placed: want}) {
			t.Errorf("%d: %v, not %v", set, got, want)
		}
		slices.Reverse(tiles)
		expectPlaced(t, fmt.Sprint(set, " the other way round"), impl.LabelsIn(seeing(c, tiles...)), want...)
	}
}

// Tiles that are in the cache and not seen: parents, kids, those beside what is
// seen, though they have a name that would be seen.
func TestLabelsInOfWhatIsNotSeen(t *testing.T) {
	c := cam(2, 8, 8, 8, 8)
	in := named(5, 0, 2, 9, 9, "ab")
	for _, r := range allRefs() {
		want := []impl.Placed{}
		if r == ref(2, 1, 1) {
			want = append(want, box(5, 9, 9, 4, 3))
		}
		expectPlaced(t, fmt.Sprint(r), impl.LabelsIn(seeing(c, tileOf(r, in))), want...)
		other := named(6, 3, 2, 10, 13, "ab")
		if r != ref(2, 1, 1) {
			// what is not seen takes no room, and is not the first of its Id
			over := named(6, 0, 2, 9, 13, "ab")
			v := seeing(c, tileOf(r, in, over), tileOf(ref(2, 1, 1), other))
			expectPlaced(t, fmt.Sprint("beside one, ", r), impl.LabelsIn(v), box(6, 10, 13, 4, 3))
		}
	}
	expectNonePlaced(t, "nothing is there", impl.LabelsIn(seeing(c)), impl.OK)
	expectNonePlaced(t, "nothing is in it", impl.LabelsIn(seeing(c, tileOf(ref(2, 1, 1)))), impl.OK)
	expectNonePlaced(t, "a new one", impl.LabelsIn(impl.NewViewer(c, 4).Viewer), impl.OK)
}

// A feature that is in two and in four tiles, with other points in each: those of
// the first tile that is there count, by the order of the refs, not of the cache.
func TestLabelsInOfSeveralTiles(t *testing.T) {
	c := cam(2, 4, 4, 8, 8)
	var tiles []impl.Tile
	var boxes []impl.Placed
	for i, r := range refsAs(c) {
		x, y := 4+int64(i), 5+2*int64(i)
		tiles = append(tiles, tileOf(r, named(9, 0, 2, x, y, "ab")))
		boxes = append(boxes, box(9, x, y, 4, 3))
	}
	for set := 1; set < 16; set++ {
		var there []impl.Tile
		first := -1
		for i := range tiles {
			if set>>i&1 == 1 {
				there = append(there, tiles[i])
				if first < 0 {
					first = i
				}
			}
		}
		for range len(there) {
			expectPlaced(t, fmt.Sprint(set), impl.LabelsIn(seeing(c, there...)), boxes[first])
			there = append(there[1:], there[0])
		}
		slices.Reverse(there)
		expectPlaced(t, fmt.Sprint(set), impl.LabelsIn(seeing(c, there...)), boxes[first])
	}
}

// All of the first one counts: where its anchor is not seen, or its name is
// empty, there is no label, whatever the next tile has; so do its name and its
// priority.
func TestLabelsInOfTheFirst(t *testing.T) {
	c := cam(1, 4, 4, 8, 8)
	first, second := ref(1, 0, 0), ref(1, 1, 0)
	label := named(9, 5, 1, 8, 5, "abc")
	for _, f := range []impl.Feature{named(9, 5, 1, 3, 5, "abc"), named(9, 5, 1, 8, 3, "abc"), named(9, 5, 1, 12, 5, "abc"), named(9, 5, 1, 8, 5, ""), named(9, 0, 1, 8, 5, "")} {
		v := seeing(c, tileOf(second, label), tileOf(first, f))
		expectPlaced(t, fmt.Sprint(f), impl.LabelsIn(v))
		other := seeing(c, tileOf(second, f), tileOf(first, label))
		expectPlaced(t, fmt.Sprint(f, " is the next one"), impl.LabelsIn(other), box(9, 8, 5, 6, 3))
	}
	short := named(9, 5, 1, 8, 5, "a")
	expectPlaced(t, "its name", impl.LabelsIn(seeing(c, tileOf(second, label), tileOf(first, short))), box(9, 8, 5, 2, 3))
	beside := named(8, 6, 1, 9, 6, "a")
	low := named(9, 7, 1, 8, 5, "abc")
	expectPlaced(t, "its priority", impl.LabelsIn(seeing(c, tileOf(second, beside, label), tileOf(first, low))), box(8, 9, 6, 2, 3))
	expectPlaced(t, "the next one's", impl.LabelsIn(seeing(c, tileOf(second, beside, low), tileOf(first, label))), box(9, 8, 5, 6, 3))
	line := impl.Feature{Id: 9, Layer: 3, Kind: impl.KindLine, Label: "ab", Points: []impl.Point{at(640, 640), at(0, 0)}}
	expectPlaced(t, "its kind", impl.LabelsIn(seeing(c, tileOf(second, label), tileOf(first, line))), box(9, 10, 10, 4, 3))
}

// Names that are empty, and labels that overlap: within a tile, and of two tiles.
func TestLabelsInRoom(t *testing.T) {
	c := cam(1, 4, 4, 8, 8)
	first, second := ref(1, 0, 0), ref(1, 1, 0)
	for _, d := range []struct {
		what string
		a, b impl.Feature
		want []impl.Placed
	}{
		{"one without a name", named(1, 0, 1, 6, 6, ""), named(2, 9, 1, 7, 6, "a"), []impl.Placed{box(2, 7, 6, 2, 3)}},
		{"both without a name", named(1, 0, 1, 6, 6, ""), named(2, 9, 1, 7, 6, ""), nil},
		{"the lower priority", named(1, 5, 1, 6, 6, "ab"), named(2, 4, 1, 9, 8, "a"), []impl.Placed{box(2, 9, 8, 2, 3)}},
		{"the lower Id", named(1, 5, 1, 6, 6, "ab"), named(2, 5, 1, 9, 8, "a"), []impl.Placed{box(1, 6, 6, 4, 3)}},
		{"beside one another", named(1, 5, 1, 6, 6, "a"), named(2, 4, 1, 8, 6, "a"), []impl.Placed{box(2, 8, 6, 2, 3), box(1, 6, 6, 2, 3)}},
		{"below one another", named(1, 5, 1, 6, 6, "ab"), named(2, 5, 1, 9, 9, "a"), []impl.Placed{box(1, 6, 6, 4, 3), box(2, 9, 9, 2, 3)}},
		{"one ahead of what is seen", named(1, 0, 1, 3, 6, "abcdef"), named(2, 5, 1, 9, 6, "a"), []impl.Placed{box(2, 9, 6, 2, 3)}},
		{"the first and the last pixel", named(1, 0, 1, 4, 4, "a"), named(2, 5, 1, 11, 11, "ab"), []impl.Placed{box(1, 4, 4, 2, 3), box(2, 11, 11, 4, 3)}},
	} {
		expectPlaced(t, d.what+", in one tile", impl.LabelsIn(seeing(c, tileOf(first, d.a, d.b))), d.want...)
		expectPlaced(t, d.what+", in two tiles", impl.LabelsIn(seeing(c, tileOf(first, d.a), tileOf(second, d.b))), d.want...)
		expectPlaced(t, d.what+", the other way round", impl.LabelsIn(seeing(c, tileOf(second, d.a), tileOf(first, d.b))), d.want...)
	}
}

// Labels are anchored by the own points of what is in a tile: those of its zoom
// would be in another pixel.
func TestLabelsInOwnPoints(t *testing.T) {
	for z := range int64(4) {
		unit := units[z]
		f := wide(impl.KindPoint, 0, at(5*unit-1, 3*unit-1))
		all := cam(z, 0, 0, 8, 8)
		expectPlaced(t, "snapped", impl.PlaceLabels([]impl.Feature{f}, all), box(7, 5, 3, 8, 3))
		expectPlaced(t, "as it is", impl.LabelsIn(seeing(all, tileOf(ref(z, 0, 0), f))), box(7, 4, 2, 8, 3))
		expectPlaced(t, "its pixel", impl.LabelsIn(seeing(cam(z, 4, 2, 1, 1), tileOf(ref(z, 0, 0), f))), box(7, 4, 2, 8, 3))
		expectPlaced(t, "the next one", impl.LabelsIn(seeing(cam(z, 5, 3, 1, 1), tileOf(ref(z, 0, 0), f))))
		last := counts[z] - 1
		end := wide(impl.KindPoint, 0, at(1024, 1024))
		expectPlaced(t, "the end of the world", impl.LabelsIn(seeing(cam(z, last, last, 1, 1), tileOf(ref(z, last/8, last/8), end))), box(7, last, last, 8, 3))
	}
	// the first point stays the first one, though fewer points would do
	line := wide(impl.KindLine, 0, at(255, 255), at(257, 257), at(900, 900))
	expectPlaced(t, "a line", impl.LabelsIn(seeing(cam(1, 2, 2, 3, 3), tileOf(ref(1, 0, 0), line))), box(7, 3, 3, 8, 3))
}

// crammed are four full tiles of other features each, all of them named, in the
// order of their refs: more than a list of features may be. Those of the first
// tile come last.
func crammed(c impl.Camera) []impl.Tile {
	var tiles []impl.Tile
	for i, r := range refsAs(c) {
		tile := tileOf(r)
		for k := range int64(impl.MaxFeatures) {
			id := 100*int64(i+1) + k
			tile.Features = append(tile.Features, named(id, 9-2*int64(i), c.Z, c.X+k%4*2, c.Y+k/4*3, "a"))
		}
		tiles = append(tiles, tile)
	}
	return tiles
}

// More features than a list may have, in tiles that have no fault: as many labels
// are placed as there is room for, which is never more than MaxFeatures.
func TestLabelsInOfMany(t *testing.T) {
	c := cam(2, 4, 4, 8, 8)
	tiles := crammed(c)
	for count := 1; count <= 4; count++ {
		var want []impl.Placed
		for k := range int64(impl.MaxFeatures) {
			want = append(want, box(100*int64(count)+k, c.X+k%4*2, c.Y+k/4*3, 2, 3))
		}
		v := seeing(c, tiles[:count]...)
		expectViewerFault(t, fmt.Sprint(count), v, impl.OK)
		expectPlaced(t, fmt.Sprint(count), impl.LabelsIn(v), want...)
		for place := range c.W * c.H {
			x, y := place%c.W, place/c.W
			expectPicked(t, fmt.Sprint(count), v, x, y, 100*int64(count)+y/3*4+x/2)
		}
	}
	// all of them at other places, so that most have no room
	n := numbers(202)
	for range 60 {
		for i := range tiles {
			for k := range tiles[i].Features {
				f := &tiles[i].Features[k]
				*f = named(f.Id, n.next(0, 9), c.Z, c.X+n.next(0, 7), c.Y+n.next(0, 7), "a")
			}
		}
		v := seeing(c)
		for _, tile := range tiles {
			v.Cache.Kept = append(v.Cache.Kept, impl.Kept{Tile: tile, Ids: impl.RasterTile(tile).List})
		}
		expectPlaced(t, "at other places", impl.LabelsIn(v), labelsAs(v)...)
	}
}

// ownBoxAs is the box of a label by the own points of its feature.
func ownBoxAs(f impl.Feature, z int64) impl.Placed {
	return boxFrom(f, pixelAs(f.Points[0], z))
}

// labelsAs are the labels of a viewer by what the document says of them. From the
// last tile to the first one, so that the first one of an Id is put last.
func labelsAs(v impl.Viewer) []impl.Placed {
	first := map[int64]impl.Feature{}
	for _, r := range slices.Backward(refsAs(v.Camera)) {
		for _, k := range v.Cache.Kept {
			if k.Tile.Ref != r {
				continue
			}
			for _, f := range k.Tile.Features {
				first[f.Id] = f
			}
		}
	}
	placed, _ := placeBoxesAs(slices.Collect(maps.Values(first)), v.Camera, ownBoxAs)
	return placed
}

// pickAs is what is picked at a pixel of the frame by what the document says of
// it.
func pickAs(v impl.Viewer, x, y int64) int64 {
	x, y = v.Camera.X+x, v.Camera.Y+y
	for _, b := range labelsAs(v) {
		if hasPixel(b, box(0, x, y, 1, 1)) {
			return b.Id
		}
	}
	return seenAs(v, x, y)
}

// frameTextAs is the text of a frame by what the document says of it.
func frameTextAs(ids []int64, wide int64) string {
	text := ""
	for i, id := range ids {
		text += fmt.Sprint(id)
		if int64(i)%wide == wide-1 {
			text += "\n"
		} else {
			text += " "
		}
	}
	return text
}

// A frame whose pixels have Ids of their own, without labels: x is asked along
// the row and y down, and no farther than the frame goes, though the world does.
func TestPickInPixels(t *testing.T) {
	for _, c := range []impl.Camera{cam(2, 3, 5, 8, 3), cam(2, 9, 10, 2, 8), cam(2, 31, 0, 1, 1), cam(2, 24, 31, 8, 1), cam(2, 0, 24, 1, 8), cam(2, 4, 4, 8, 8)} {
		tiles := []impl.Tile{stripes(ref(0, 0, 0), 500, true)}
		for i, r := range refsAs(c) {
			tiles = append(tiles, stripes(r, int64(20*i+20), i%2 == 0))
		}
		v := seeing(c, tiles...)
		for y := range c.H {
			for x := range c.W {
				expectPicked(t, "a pixel", v, x, y, seenAs(v, c.X+x, c.Y+y))
			}
		}
		for _, x := range append(outsideOf(0, c.W-1), -1, c.W) {
			for _, y := range []int64{-1, 0, c.H - 1, c.H, math.MaxInt64} {
				expectNotPicked(t, "x", v, x, y, impl.ErrRange)
			}
		}
		for _, y := range append(outsideOf(0, c.H-1), -1, c.H) {
			for _, x := range []int64{-1, 0, c.W - 1, c.W, math.MinInt64} {
				expectNotPicked(t, "y", v, x, y, impl.ErrRange)
			}
		}
		// the pixel of the world is not that of the frame
		expectNotPicked(t, "far", v, c.X+c.W, c.Y+c.H, impl.ErrRange)
	}
}

// One label, at each of its borders and one outside: it lies over the feature of
// another one, over nothing, and over a tile that is not there.
func TestPickInLabels(t *testing.T) {
	c := cam(2, 5, 6, 8, 8)
	town := named(30, 0, 2, 7, 7, "ab") // from 7,7 to 10,9: in four tiles
	for _, ground := range []int64{0, 99} {
		for set := 1; set < 16; set += 2 {
			var tiles []impl.Tile
			for i, r := range refsAs(c) {
				if set>>i&1 == 0 {
					continue
				}
				tile := tileOf(r)
				if ground > 0 {
					tile = flat(r, ground)
				}
				if i == 0 {
					tile.Features = append([]impl.Feature{town}, tile.Features...)
				}
				tiles = append(tiles, tile)
			}
			v := seeing(c, tiles...)
			expectPlaced(t, "one label", impl.LabelsIn(v), box(30, 7, 7, 4, 3))
			for place := range c.W * c.H {
				x, y := place%c.W, place/c.W
				want := seenAs(v, c.X+x, c.Y+y)
				if x >= 2 && x <= 5 && y >= 1 && y <= 3 {
					want = 30
				}
				expectPicked(t, fmt.Sprint(ground, " ", set), v, x, y, want)
			}
		}
	}
}

// By hand: a label over its own feature, over that of another one, beside it, and
// where there is nothing; a label that there is no room for is not picked.
func TestPickIn(t *testing.T) {
	c := cam(1, 2, 2, 6, 5)
	road := wide(impl.KindLine, 0, at(224, 0), at(224, 1024)) // the column 3
	road.Id, road.Layer, road.Label = 50, 9, ""
	town := named(6, 1, 1, 2, 3, "a")  // from 2,3 to 3,5
	other := named(7, 2, 1, 3, 5, "a") // has no room
	inn := named(8, 3, 1, 5, 4, "abc") // from 5,4 to 10,6
	v := seeing(c, tileOf(ref(1, 0, 0), town, other, inn, road))
	expectPlaced(t, "two of three", impl.LabelsIn(v), box(6, 2, 3, 2, 3), box(8, 5, 4, 6, 3))
	want := []int64{
		0, 50, 0, 0, 0, 0,
		6, 6, 0, 0, 0, 0,
		6, 6, 0, 8, 8, 8,
		6, 6, 0, 8, 8, 8,
		0, 50, 0, 8, 8, 8,
	}
	for place, id := range want {
		expectPicked(t, "by hand", v, int64(place)%6, int64(place)/6, id)
	}
	expectFrame(t, "by hand", v,
		0, 50, 0, 0, 0, 0,
		6, 50, 0, 0, 0, 0,
		0, 50, 0, 8, 0, 0,
		0, 50, 0, 0, 0, 0,
		0, 50, 0, 0, 0, 0)
}

// A frame of nothing: of a new viewer, and where nothing is in what is there.
func TestPickInNothing(t *testing.T) {
	for z := range int64(4) {
		for _, size := range [][2]int64{{1, 1}, {8, 1}, {1, 8}, {8, 8}} {
			c := cam(z, counts[z]-size[0], counts[z]-size[1], size[0], size[1])
			for _, v := range []impl.Viewer{impl.NewViewer(c, 4).Viewer, seeing(c), seeing(c, tileOf(ref(0, 0, 0))), seeing(c, tileOf(refsAs(c)[0]))} {
				for place := range c.W * c.H {
					expectPicked(t, "nothing", v, place%c.W, place/c.W, 0)
				}
				expectFrame(t, "nothing", v, make([]int64, c.W*c.H)...)
				expectFrameText(t, "nothing", v, strings.Repeat("0"+strings.Repeat(" 0", int(c.W-1))+"\n", int(c.H)))
				expectNotPicked(t, "outside", v, c.W, 0, impl.ErrRange)
				expectNotPicked(t, "outside", v, 0, c.H, impl.ErrRange)
				expectNotPicked(t, "outside", v, -1, c.H-1, impl.ErrRange)
				expectNotPicked(t, "outside", v, c.W-1, -1, impl.ErrRange)
			}
		}
	}
}

// Ids of one, two and three digits; one row, one column and one pixel.
func TestFrameText(t *testing.T) {
	tiles := []impl.Tile{
		tileOf(ref(2, 0, 0), pixelOf(5, 2, 6, 7), pixelOf(999, 2, 7, 7)),
		tileOf(ref(2, 1, 0), pixelOf(10, 2, 8, 7), pixelOf(100, 2, 9, 6)),
		tileOf(ref(2, 0, 1), pixelOf(9, 2, 7, 8)),
		flat(ref(2, 1, 1), 42),
	}
	for _, c := range []struct {
		what string
		c    impl.Camera
		want string
	}{
		{"four tiles", cam(2, 6, 6, 4, 4), "0 0 0 100\n5 999 10 0\n0 9 42 42\n0 0 42 42\n"},
		{"wider than high", cam(2, 5, 7, 5, 2), "0 5 999 10 0\n0 0 9 42 42\n"},
		{"higher than wide", cam(2, 7, 5, 2, 4), "0 0\n0 0\n999 10\n9 42\n"},
		{"one row", cam(2, 6, 7, 4, 1), "5 999 10 0\n"},
		{"one column", cam(2, 7, 6, 1, 4), "0\n999\n9\n0\n"},
		{"one pixel", cam(2, 7, 7, 1, 1), "999\n"},
		{"one pixel of two digits", cam(2, 8, 7, 1, 1), "10\n"},
		{"one pixel of one digit", cam(2, 7, 8, 1, 1), "9\n"},
		{"one pixel of nothing", cam(2, 6, 6, 1, 1), "0\n"},
		{"one tile", cam(2, 8, 8, 8, 8), strings.Repeat("42 42 42 42 42 42 42 42\n", 8)},
		{"at another zoom", cam(1, 3, 3, 2, 2), "0 0\n0 0\n"},
		{"nearer", cam(3, 13, 14, 6, 4), "5 999 999 10 10 0\n5 999 999 10 10 0\n0 9 9 42 42 42\n0 9 9 42 42 42\n"},
	} {
		v := seeing(c.c, tiles...)
		expectFrameText(t, c.what, v, c.want)
		var ids []int64
		for _, word := range strings.Fields(c.want) {
			id := int64(0)
			fmt.Sscan(word, &id)
			ids = append(ids, id)
		}
		expectFrame(t, c.what, v, ids...)
	}
}

// A viewer with a fault: its code, ahead of that of a pixel outside of the frame.
func TestFramesWrong(t *testing.T) {
	seen := map[int64]int{}
	for i, v := range faultyViewers() {
		code := viewerCodeAs(v)
		seen[code]++
		what := fmt.Sprint(i)
		expectNoRaster(t, what, impl.FrameOf(v), code)
		expectComplete(t, what, v, false)
		expectNonePlaced(t, what, impl.LabelsIn(v), code)
		if got := impl.FrameText(v); got != (impl.TextResult{Code: code}) {
			t.Errorf("%d: %v, not %d", i, got, code)
		}
		for _, p := range [][2]int64{{0, 0}, {-1, 0}, {8, 8}, {math.MinInt64, math.MaxInt64}} {
			expectNotPicked(t, what, v, p[0], p[1], code)
		}
	}
	for _, code := range []int64{impl.ErrForm, impl.ErrMany, impl.ErrRange, impl.ErrText, impl.ErrTaken, impl.ErrState} {
		if seen[code] < 10 {
			t.Error("the test asks for little", seen)
		}
	}
	expectNoRaster(t, "nobody", impl.FrameOf(impl.Viewer{}), impl.ErrRange)
	expectNonePlaced(t, "nobody", impl.LabelsIn(impl.Viewer{}), impl.ErrRange)
}

// Cameras with a fault, with numbers far outside of all bounds.
func TestFramesOfWrongCameras(t *testing.T) {
	for _, c := range wrongCameras() {
		v := seeing(c, flat(ref(0, 0, 0), 3), flat(ref(2, 1, 1), 4))
		expectNoRaster(t, "a frame", impl.FrameOf(v), impl.ErrRange)
		expectComplete(t, "no camera", v, false)
		expectNonePlaced(t, "labels", impl.LabelsIn(v), impl.ErrRange)
		expectNotPicked(t, "a pixel", v, 0, 0, impl.ErrRange)
		expectNotPicked(t, "a pixel", v, c.X, c.H, impl.ErrRange)
		if got := impl.FrameText(v); got != (impl.TextResult{Code: impl.ErrRange}) {
			t.Errorf("%v: %v", c, got)
		}
	}
}

// otherPoints is a list in order of features of the same Ids, some of them left
// out, and each with its first point elsewhere, another name or another priority.
func otherPoints(n *numbers, list []impl.Feature) []impl.Feature {
	var others []impl.Feature
	for _, f := range copyOf(list) {
		if n.next(0, 3) == 0 {
			continue
		}
		p := &f.Points[0]
		*p = at(min(max(p.X+n.next(-50, 50), 0), impl.World), min(max(p.Y+n.next(-50, 50), 0), impl.World))
		switch n.next(0, 3) {
		case 0:
			f.Label = n.label()
		case 1:
			f.Priority = n.next(0, 9)
		}
		others = append(others, f)
	}
	return impl.SortFeatures(others).Features
}

// someGazer is a viewer without a fault amid names, to whom some of the tiles
// that are seen, of their parents and of others are there: all of one map, or
// with other points in each.
func someGazer(n *numbers) impl.Viewer {
	c := someCamera(n)
	list := namedCrowd(n, c)
	refs := refsAs(c)
	for _, r := range refsAs(c) {
		for ; r.Z > 0; r = impl.ParentOf(r).Ref {
			refs = append(refs, impl.ParentOf(r).Ref)
		}
	}
	refs = eachOnce(append(refs, someRef(n), someRef(n)))
	shuffle(n, refs)
	v := impl.Viewer{Camera: c, Now: n.next(0, 9000), Bad: n.next(0, 9999), Cache: impl.Cache{Size: 10}}
	often, isOneMap := n.next(0, 3), n.next(0, 2) == 0
	for _, r := range refs {
		if n.next(0, 3) > often || len(v.Cache.Kept) == 10 {
			continue
		}
		tile := impl.BuildTile(list, r).Tile
		if !isOneMap {
			tile = tileOf(r, otherPoints(n, list)...)
		}
		v.Cache.Kept = append(v.Cache.Kept, impl.Kept{Tile: tile, Ids: impl.RasterTile(tile).List})
	}
	for _, r := range refsAs(c) {
		if !slices.Contains(refsIn(v.Cache), r) && n.next(0, 1) == 0 {
			v.Requests = append(v.Requests, req(r, n.next(0, 9999), n.next(1, 99)))
		}
	}
	return v
}

// isCompleteAs tells whether all that is seen is there.
func isCompleteAs(v impl.Viewer) bool {
	return !slices.ContainsFunc(refsAs(v.Camera), func(r impl.Ref) bool { return !slices.Contains(refsIn(v.Cache), r) })
}

// gaze asks a viewer for all, against the reckoning, and counts what is seen.
func gaze(t *testing.T, n *numbers, v impl.Viewer, seen map[string]int) {
	t.Helper()
	frame, labels := frameIn(v), labelsAs(v)
	expectFrame(t, "a frame", v, frame...)
	expectPlaced(t, "labels", impl.LabelsIn(v), labels...)
	expectFrameText(t, "a text", v, frameTextAs(frame, v.Camera.W))
	expectComplete(t, "complete", v, isCompleteAs(v))
	for range 4 {
		x, y := n.next(0, v.Camera.W-1), n.next(0, v.Camera.H-1)
		want := pickAs(v, x, y)
		expectPicked(t, "a pixel", v, x, y, want)
		if want > 0 && want != frame[y*v.Camera.W+x] {
			seen["a label over another one"]++
		}
	}
	if t.Failed() {
		t.FailNow()
	}
	if isCompleteAs(v) {
		seen["complete"]++
	}
	if len(labels) > 1 {
		seen["labels"]++
	}
	if len(slices.Compact(slices.Sorted(slices.Values(frame)))) > 2 {
		seen["several"]++
	}
	if slices.Max(frame) > 0 && !isCompleteAs(v) {
		seen["as far as it has come"]++
	}
}

// Many viewers, with all, some and none of what is seen.
func TestFramesAgainstTheDocument(t *testing.T) {
	n := numbers(203)
	seen := map[string]int{}
	for range 1500 {
		gaze(t, &n, someGazer(&n), seen)
		gaze(t, &n, someViewer(&n), seen)
	}
	for _, what := range []string{"complete", "labels", "several", "as far as it has come", "a label over another one"} {
		if seen[what] < 200 {
			t.Error("the test asks for little", what, seen)
		}
	}
}

// Many steps one behind the other, from a new viewer on.
func TestFramesOfStepsAgainstTheDocument(t *testing.T) {
	n := numbers(204)
	seen, done := map[string]int{}, map[string]int{}
	for range 60 {
		v := impl.NewViewer(someCamera(&n), n.next(4, 10)).Viewer
		list := namedCrowd(&n, v.Camera)
		s := seatOf(v)
		for range 30 {
			what, got, _ := stepOf(&n, list, v, s)
			v = got.Viewer
			done[what]++
			gaze(t, &n, v, seen)
		}
	}
	for _, what := range []string{"complete", "labels", "several", "as far as it has come", "a label over another one"} {
		if seen[what] < 100 {
			t.Error("the test asks for little", what, seen, done)
		}
	}
}

// One viewer as the tiles come: first of the whole, then nearer.
func TestOneFrame(t *testing.T) {
	lake := wide(impl.KindArea, 0, at(0, 0), at(512, 0), at(512, 1024), at(0, 1024))
	lake.Id, lake.Layer, lake.Label = 4, 0, ""
	town := impl.Feature{Id: 12, Layer: 1, Kind: impl.KindPoint, Points: []impl.Point{at(544, 544)}, Label: "a"}
	list := []impl.Feature{lake, town}
	v := impl.NewViewer(cam(0, 3, 3, 3, 2), 4).Viewer
	expectFrameText(t, "nothing yet", v, "0 0 0\n0 0 0\n")
	v = impl.ReplyViewer(v, ref(0, 0, 0), impl.ServeTile(list, ref(0, 0, 0)).Bytes).Viewer
	expectFrameText(t, "the whole", v, "4 0 0\n4 12 0\n")
	expectComplete(t, "the whole", v, true)
	expectPicked(t, "a label beside the town", v, 2, 1, 12)
	v = impl.ZoomViewer(v, 1).Viewer // from 7,7 on
	expectFrameText(t, "nearer, of the whole", v, "4 0 0\n4 12 12\n")
	expectComplete(t, "nearer", v, false)
	expectNonePlaced(t, "the whole is not seen", impl.LabelsIn(v), impl.OK)
	expectPicked(t, "no label yet", v, 1, 1, 12)
	v = impl.ReplyViewer(v, ref(1, 1, 1), impl.ServeTile(list, ref(1, 1, 1)).Bytes).Viewer
	expectFrameText(t, "one of four", v, "4 0 0\n4 12 0\n")
	expectPlaced(t, "a label", impl.LabelsIn(v), box(12, 8, 8, 2, 3))
	expectPicked(t, "beside the town", v, 2, 1, 12)
	v = impl.ReplyViewer(v, ref(1, 0, 1), nil).Viewer
	expectFrameText(t, "a bad one", v, "4 0 0\n4 12 0\n")
	for _, r := range []impl.Ref{ref(1, 0, 0), ref(1, 1, 0), ref(1, 0, 1)} {
		expectComplete(t, "on the way", v, false)
		v = impl.ReplyViewer(v, r, impl.ServeTile(list, r).Bytes).Viewer
		expectFrameText(t, fmt.Sprint(r), v, "4 0 0\n4 12 0\n")
	}
	expectComplete(t, "all", v, true)
}
