package tests

import (
	"fmt"
	"math"
	"reflect"
	"slices"
	"testing"

	"loop.example/g00403/impl"
)

// boxed is the box from x,y to x2,y2.
func boxed(x, y, x2, y2 int64) impl.Box {
	return impl.Box{Low: at(x, y), High: at(x2, y2)}
}

// dot is a box of one point.
func dot(x, y int64) impl.Box {
	return boxed(x, y, x, y)
}

// entered are entries with these boxes, of the Ids 1, 2 and so on.
func entered(boxes ...impl.Box) []impl.Entry {
	var list []impl.Entry
	for i, b := range boxes {
		list = append(list, impl.Entry{Id: int64(i + 1), Box: b})
	}
	return list
}

// dots are count entries of one and the same point.
func dots(count int, x, y int64) []impl.Entry {
	return entered(slices.Repeat([]impl.Box{dot(x, y)}, count)...)
}

// wrongBoxes are boxes with a point out of bounds, whatever else they are, and
// boxes whose Low is above High, by one and by much, in X, in Y and in both.
func wrongBoxes() (outOfRange, ofNoForm []impl.Box) {
	for _, p := range faulty() {
		for _, q := range []impl.Point{at(0, 0), at(lowest, highest), at(highest, lowest), p} {
			outOfRange = append(outOfRange, impl.Box{Low: p, High: q}, impl.Box{Low: q, High: p})
		}
	}
	ofNoForm = []impl.Box{
		boxed(1, 0, 0, 0), boxed(0, 1, 0, 0), boxed(1, 1, 0, 0), boxed(4, -9, 3, 9), boxed(-9, 4, 9, 3),
		boxed(-3, 0, -4, 0), boxed(0, -3, 0, -4), boxed(0, highest, 0, lowest), boxed(highest, 0, lowest, 0), boxed(highest, highest, lowest, lowest),
	}
	return outOfRange, ofNoForm
}

// rightBoxes are boxes at the ends of what a box may be.
var rightBoxes = []impl.Box{
	dot(0, 0), dot(lowest, lowest), dot(highest, highest), dot(-5, 7), boxed(0, 0, 0, 9), boxed(0, 0, 9, 0),
	boxed(lowest, lowest, highest, highest), boxed(-4, -4, -3, -3), boxed(lowest, 3, highest, 3),
}

func expectEntriesFault(t *testing.T, what string, list []impl.Entry, want int64) {
	t.Helper()
	if got := impl.EntriesFault(list); got != want {
		t.Errorf("%s: %v: %d, not %d", what, list, got, want)
	}
}

func TestTreeConstants(t *testing.T) {
	if impl.MaxNode != 3 || impl.MaxDepth != 4 || impl.MaxEntries != 24 {
		t.Error(impl.MaxNode, impl.MaxDepth, impl.MaxEntries)
	}
}

func TestEntriesFault(t *testing.T) {
	expectEntriesFault(t, "nil", nil, impl.OK)
	expectEntriesFault(t, "none", []impl.Entry{}, impl.OK)
	expectEntriesFault(t, "at the ends", entered(rightBoxes...), impl.OK)
	expectEntriesFault(t, "as many as there may be", dots(24, 5, 5), impl.OK)
	expectEntriesFault(t, "one more", dots(25, 5, 5), impl.ErrMany)
	expectEntriesFault(t, "many more", dots(5000, 5, 5), impl.ErrMany)
	expectEntriesFault(t, "too many, and not one of them right", make([]impl.Entry, 25), impl.ErrMany)
	expectEntriesFault(t, "as many as there may be, and not one of them right", make([]impl.Entry, 24), impl.ErrRange)
	expectEntriesFault(t, "Ids at their ends", []impl.Entry{{Id: 999}, {Id: 1}, {Id: 998}, {Id: 2}}, impl.OK)
	for _, id := range append([]int64{0, -1, 1000, -999}, far...) {
		expectEntriesFault(t, "an Id", []impl.Entry{{Id: id}}, impl.ErrRange)
		expectEntriesFault(t, "an Id, behind others", append(dots(23, 0, 0), impl.Entry{Id: id}), impl.ErrRange)
	}
}

// A box that is wrong, at each place.
func TestEntriesFaultOfBoxes(t *testing.T) {
	outOfRange, ofNoForm := wrongBoxes()
	for place := range 24 {
		for _, b := range outOfRange {
			list := dots(24, 3, 3)
			list[place].Box = b
			expectEntriesFault(t, "out of range", list, impl.ErrRange)
		}
		for _, b := range ofNoForm {
			list := dots(24, 3, 3)
			list[place].Box = b
			expectEntriesFault(t, "Low above High", list, impl.ErrForm)
		}
	}
}

func TestEntriesFaultOfTakenIds(t *testing.T) {
	for place := 1; place < 24; place++ {
		for ahead := range place {
			list := dots(24, 3, 3)
			list[place].Id, list[place].Box = list[ahead].Id, dot(9, 9)
			expectEntriesFault(t, "an Id that is there", list, impl.ErrTaken)
		}
	}
}

// The codes go one by one: each entry is asked all of them ahead of the next.
func TestEntriesFaultOrder(t *testing.T) {
	right := impl.Entry{Id: 7, Box: dot(1, 1)}
	ranged := impl.Entry{Id: 1000, Box: dot(1, 1)}
	placed := impl.Entry{Id: 7, Box: boxed(4097, 1, 1, 1)}
	formed := impl.Entry{Id: 7, Box: boxed(2, 1, 1, 1)}
	both := impl.Entry{Id: 0, Box: boxed(2, 1, 1, 1)}
	for _, c := range []struct {
		what string
		list []impl.Entry
		want int64
	}{
		{"Id ahead of Low above High", []impl.Entry{both}, impl.ErrRange},
		{"a point ahead of Low above High", []impl.Entry{placed}, impl.ErrRange},
		{"a point ahead of an Id that is there", []impl.Entry{right, placed}, impl.ErrRange},
		{"Low above High ahead of an Id that is there", []impl.Entry{right, formed}, impl.ErrForm},
		{"an Id twice that is none", []impl.Entry{ranged, ranged}, impl.ErrRange},
		{"the first one, of no form", []impl.Entry{formed, ranged, right, right}, impl.ErrForm},
		{"the first one, taken", []impl.Entry{right, right, formed, ranged}, impl.ErrTaken},
		{"the first one, out of range", []impl.Entry{right, ranged, formed, right}, impl.ErrRange},
		{"taken by the last one alone", append(dots(23, 0, 0), right), impl.ErrTaken},
	} {
		expectEntriesFault(t, c.what, c.list, c.want)
	}
}

// leaf and branch are a quad without kids, and one with kids from first on.
func leaf(bounds impl.Box, depth int64, list ...impl.Entry) impl.Quad {
	return branch(bounds, depth, 0, list...)
}

func branch(bounds impl.Box, depth, first int64, list ...impl.Entry) impl.Quad {
	return impl.Quad{Bounds: bounds, Depth: depth, First: first, Entries: slices.Clone(list)}
}

// chosen are the entries of the list with these Ids.
func chosen(list []impl.Entry, ids ...int64) []impl.Entry {
	var some []impl.Entry
	for _, id := range ids {
		i := slices.IndexFunc(list, func(e impl.Entry) bool { return e.Id == id })
		some = append(some, list[i])
	}
	return some
}

// sameQuads: an empty list and nil are the same.
func sameQuads(a, b []impl.Quad) bool {
	return slices.EqualFunc(a, b, func(p, q impl.Quad) bool {
		return p.Bounds == q.Bounds && p.Depth == q.Depth && p.First == q.First && slices.Equal(p.Entries, q.Entries)
	})
}

func expectQuads(t *testing.T, what string, list []impl.Entry, bounds impl.Box, want ...impl.Quad) {
	t.Helper()
	if got := impl.BuildQuads(list, bounds); got.Code != impl.OK || !sameQuads(got.Quads, want) {
		t.Errorf("%s: %v in %v: %v, not %v", what, list, bounds, got, want)
	}
}

func TestBuildQuadsOfFew(t *testing.T) {
	eight := boxed(0, 0, 7, 7)
	expectQuads(t, "nil", nil, eight, leaf(eight, 0))
	expectQuads(t, "none", []impl.Entry{}, eight, leaf(eight, 0))
	one := []impl.Entry{{Id: 999, Box: dot(1, 1)}}
	expectQuads(t, "one", one, eight, leaf(eight, 0, one...))
	three := chosen(dots(3, 1, 1), 3, 1, 2)
	expectQuads(t, "as many as a quad has, in their order", three, eight, leaf(eight, 0, three...))
	outer := entered(dot(-1, 0), dot(8, 0), boxed(-9, -9, 99, 99))
	expectQuads(t, "outside, as many as a quad has", outer, eight, leaf(eight, 0, outer...))
	expectQuads(t, "none, in a box of one point", nil, dot(4096, -1024), leaf(dot(4096, -1024), 0))
}

// One entry in each kid: four are one more than a quad has.
func TestBuildQuadsOfFour(t *testing.T) {
	list := entered(dot(7, 7), dot(0, 7), dot(7, 0), dot(0, 0))
	expectQuads(t, "a corner each", list, boxed(0, 0, 7, 7),
		branch(boxed(0, 0, 7, 7), 0, 1),
		leaf(boxed(0, 0, 3, 3), 1, list[3]),
		leaf(boxed(4, 0, 7, 3), 1, list[2]),
		leaf(boxed(0, 4, 3, 7), 1, list[1]),
		leaf(boxed(4, 4, 7, 7), 1, list[0]))
}

// Boxes by the border between the kids of 0,0 to 7,7, which is between 3 and 4:
// up to it, from it on, over it.
func TestBuildQuadsAtBorders(t *testing.T) {
	list := entered(
		boxed(0, 0, 3, 3), boxed(3, 3, 3, 3), // all of the first kid, and its last point
		boxed(4, 0, 7, 3), boxed(4, 3, 4, 3), // the second one
		boxed(0, 4, 3, 7), boxed(3, 4, 3, 4), // the third one
		boxed(4, 4, 7, 7), boxed(4, 4, 4, 4), // the fourth one
		boxed(3, 0, 4, 0), boxed(0, 3, 0, 4), boxed(3, 3, 4, 4), // over the border in X, in Y, in both
		boxed(2, 7, 4, 7), boxed(7, 3, 7, 5), // the same, at the sides
		boxed(0, 0, 7, 7), // all
	)
	want := []impl.Quad{
		branch(boxed(0, 0, 7, 7), 0, 1, chosen(list, 9, 10, 11, 12, 13, 14)...),
		leaf(boxed(0, 0, 3, 3), 1, chosen(list, 1, 2)...),
		leaf(boxed(4, 0, 7, 3), 1, chosen(list, 3, 4)...),
		leaf(boxed(0, 4, 3, 7), 1, chosen(list, 5, 6)...),
		leaf(boxed(4, 4, 7, 7), 1, chosen(list, 7, 8)...),
	}
	expectQuads(t, "at borders", list, boxed(0, 0, 7, 7), want...)
	slices.Reverse(list)
	for i := range want {
		slices.Reverse(want[i].Entries)
	}
	expectQuads(t, "the other way round", list, boxed(0, 0, 7, 7), want...)
}

// What is outside of the bounds, or leaves them, stays with the whole; the kids
// are there without entries.
func TestBuildQuadsOutside(t *testing.T) {
	empty := func(bounds impl.Box, list ...impl.Entry) []impl.Quad {
		return []impl.Quad{branch(bounds, 0, 1, list...), leaf(boxed(0, 0, 3, 3), 1), leaf(boxed(4, 0, 7, 3), 1), leaf(boxed(0, 4, 3, 7), 1), leaf(boxed(4, 4, 7, 7), 1)}
	}
	eight := boxed(0, 0, 7, 7)
	for _, b := range []impl.Box{
		dot(-1, 0), dot(0, -1), dot(8, 0), dot(0, 8), dot(-1024, -1024), dot(4096, 4096), boxed(9, 9, 12, 12),
		boxed(-1, 0, 3, 3), boxed(0, -1, 3, 3), boxed(4, 4, 8, 7), boxed(4, 4, 7, 8), boxed(4, -1, 7, 3), boxed(-1, 4, 3, 7),
		boxed(-1, -1, 8, 8), boxed(lowest, lowest, highest, highest), boxed(3, 3, 4, 4),
	} {
		for _, count := range []int{4, 24} {
			list := entered(slices.Repeat([]impl.Box{b}, count)...)
			expectQuads(t, "outside", list, eight, empty(eight, list...)...)
		}
	}
	mixed := append(dots(3, 2, 2), impl.Entry{Id: 9, Box: dot(8, 8)})
	quads := empty(eight, mixed[3])
	quads[1].Entries = mixed[:3]
	expectQuads(t, "one of four is outside", mixed, eight, quads...)
}

// A quad gets kids only where it is more than 1 wide and high.
func TestBuildQuadsOfNarrowBounds(t *testing.T) {
	four := dots(4, 0, 0)
	for _, b := range []impl.Box{dot(0, 0), boxed(0, 0, 1, 1), boxed(0, 0, 1, 2), boxed(0, 0, 2, 1), boxed(0, 0, 0, 9), boxed(0, 0, 9, 0), boxed(0, 0, 1, 4096), boxed(0, -1024, 4096, -1023), boxed(-1, -1, 0, 0)} {
		expectQuads(t, "1 or 0 wide or high", four, b, leaf(b, 0, four...))
		expectQuads(t, "that, with 24", dots(24, 0, 0), b, leaf(b, 0, dots(24, 0, 0)...))
	}
	expectQuads(t, "2 wide and high", four, boxed(0, 0, 2, 2),
		branch(boxed(0, 0, 2, 2), 0, 1), leaf(boxed(0, 0, 1, 1), 1, four...), leaf(boxed(2, 0, 2, 1), 1), leaf(boxed(0, 2, 1, 2), 1), leaf(dot(2, 2), 1))
	last := dots(4, 2, 2)
	expectQuads(t, "2 wide and 4 high", last, boxed(0, 0, 2, 4),
		branch(boxed(0, 0, 2, 4), 0, 1), leaf(boxed(0, 0, 1, 2), 1), leaf(boxed(2, 0, 2, 2), 1, last...), leaf(boxed(0, 3, 1, 4), 1), leaf(boxed(2, 3, 2, 4), 1))
	expectQuads(t, "4 wide and 2 high", last, boxed(0, 0, 4, 2),
		branch(boxed(0, 0, 4, 2), 0, 1), leaf(boxed(0, 0, 2, 1), 1), leaf(boxed(3, 0, 4, 1), 1), leaf(boxed(0, 2, 2, 2), 1, last...), leaf(boxed(3, 2, 4, 2), 1))
}

// The middle is rounded down, below 0 too.
func TestBuildQuadsMiddles(t *testing.T) {
	for _, c := range []struct{ low, end, high int64 }{
		{0, 1, 2}, {0, 1, 3}, {1, 2, 4}, {1, 2, 3}, {-1, 0, 2}, {-2, -1, 1}, {-3, -2, 0}, {-3, -2, -1}, {-4, -3, -1}, {-4, -3, -2}, {-5, -4, -2},
		{-1, 0, 1}, {-2, 0, 2}, {-2, -1, 0}, {lowest, -513, -1}, {lowest, 1536, highest}, {lowest, 1535, highest - 1}, {-1023, 1536, highest}, {0, 2048, highest}, {4093, 4094, highest},
	} {
		list := entered(dot(-1000, c.low), dot(c.low, 4000), dot(4000, 4000), dot(-1000, -1000))
		up := boxed(c.low, 10, c.high, 15) // the middle of 10 and 15 is 12
		expectQuads(t, "in X", list, up,
			branch(up, 0, 1, list...), leaf(boxed(c.low, 10, c.end, 12), 1), leaf(boxed(c.end+1, 10, c.high, 12), 1), leaf(boxed(c.low, 13, c.end, 15), 1), leaf(boxed(c.end+1, 13, c.high, 15), 1))
		aside := boxed(-15, c.low, -10, c.high) // that of -15 and -10 is -13
		expectQuads(t, "in Y", list, aside,
			branch(aside, 0, 1, list...), leaf(boxed(-15, c.low, -13, c.end), 1), leaf(boxed(-12, c.low, -10, c.end), 1), leaf(boxed(-15, c.end+1, -13, c.high), 1), leaf(boxed(-12, c.end+1, -10, c.high), 1))
	}
}

// A quad at the greatest Depth has all that comes to it.
func TestBuildQuadsAtTheGreatestDepth(t *testing.T) {
	for count := 4; count <= 24; count++ {
		list := dots(count, 1000, 1)
		expectQuads(t, "all at one point", list, boxed(0, 0, 1023, 1023),
			branch(boxed(0, 0, 1023, 1023), 0, 1),
			leaf(boxed(0, 0, 511, 511), 1), branch(boxed(512, 0, 1023, 511), 1, 5), leaf(boxed(0, 512, 511, 1023), 1), leaf(boxed(512, 512, 1023, 1023), 1),
			leaf(boxed(512, 0, 767, 255), 2), branch(boxed(768, 0, 1023, 255), 2, 9), leaf(boxed(512, 256, 767, 511), 2), leaf(boxed(768, 256, 1023, 511), 2),
			leaf(boxed(768, 0, 895, 127), 3), branch(boxed(896, 0, 1023, 127), 3, 13), leaf(boxed(768, 128, 895, 255), 3), leaf(boxed(896, 128, 1023, 255), 3),
			leaf(boxed(896, 0, 959, 63), 4), leaf(boxed(960, 0, 1023, 63), 4, list...), leaf(boxed(896, 64, 959, 127), 4), leaf(boxed(960, 64, 1023, 127), 4))
	}
}

// A quad that has become too narrow has no kids, whatever its Depth.
func TestBuildQuadsThatBecomesNarrow(t *testing.T) {
	list := dots(5, 0, 0)
	expectQuads(t, "0,0 to 4,900", list, boxed(0, 0, 4, 900),
		branch(boxed(0, 0, 4, 900), 0, 1),
		branch(boxed(0, 0, 2, 450), 1, 5), leaf(boxed(3, 0, 4, 450), 1), leaf(boxed(0, 451, 2, 900), 1), leaf(boxed(3, 451, 4, 900), 1),
		leaf(boxed(0, 0, 1, 225), 2, list...), leaf(boxed(2, 0, 2, 225), 2), leaf(boxed(0, 226, 1, 450), 2), leaf(boxed(2, 226, 2, 450), 2))
}

// Kids come to the end of all quads, as their parents stand: the kids of the
// first kid behind all kids of the whole, ahead of those of the fourth one.
func TestBuildQuadsInTurn(t *testing.T) {
	list := entered(dot(15, 15), dot(0, 0), dot(14, 14), dot(1, 1), dot(12, 12), dot(4, 4), dot(8, 8), dot(7, 7), boxed(3, 3, 4, 4), boxed(7, 0, 8, 0))
	expectQuads(t, "in turn", list, boxed(0, 0, 15, 15),
		branch(boxed(0, 0, 15, 15), 0, 1, chosen(list, 10)...),
		branch(boxed(0, 0, 7, 7), 1, 5, chosen(list, 9)...), leaf(boxed(8, 0, 15, 7), 1), leaf(boxed(0, 8, 7, 15), 1), branch(boxed(8, 8, 15, 15), 1, 9),
		leaf(boxed(0, 0, 3, 3), 2, chosen(list, 2, 4)...), leaf(boxed(4, 0, 7, 3), 2), leaf(boxed(0, 4, 3, 7), 2), leaf(boxed(4, 4, 7, 7), 2, chosen(list, 6, 8)...),
		leaf(boxed(8, 8, 11, 11), 2, chosen(list, 7)...), leaf(boxed(12, 8, 15, 11), 2), leaf(boxed(8, 12, 11, 15), 2), leaf(boxed(12, 12, 15, 15), 2, chosen(list, 1, 3, 5)...))
}

// The entries are asked ahead of the bounds, those for their numbers ahead of
// their order.
func TestBuildQuadsWrong(t *testing.T) {
	outOfRange, ofNoForm := wrongBoxes()
	lists := []struct {
		list []impl.Entry
		code int64
	}{
		{nil, impl.OK},
		{dots(24, 1, 1), impl.OK},
		{dots(25, 1, 1), impl.ErrMany},
		{[]impl.Entry{{Id: 0}}, impl.ErrRange},
		{entered(boxed(1, 0, 0, 0)), impl.ErrForm},
		{append(dots(2, 1, 1), dots(1, 1, 1)...), impl.ErrTaken},
	}
	for _, c := range lists {
		expect := func(b impl.Box, code int64) {
			if c.code != impl.OK {
				code = c.code
			}
			if got := impl.BuildQuads(c.list, b); got.Code != code || code != impl.OK && got.Quads != nil {
				t.Errorf("%v in %v: %v, not %d", c.list, b, got, code)
			}
		}
		for _, b := range rightBoxes {
			expect(b, impl.OK)
		}
		for _, b := range outOfRange {
			expect(b, impl.ErrRange)
		}
		for _, b := range ofNoForm {
			expect(b, impl.ErrForm)
		}
	}
}

// halvesAs are the kids' Bounds by what the document says of them: the middle
// as a quotient that is rounded down.
func halvesAs(b impl.Box) [4]impl.Box {
	x, y := int64(math.Floor(float64(b.Low.X+b.High.X)/2)), int64(math.Floor(float64(b.Low.Y+b.High.Y)/2))
	var kids [4]impl.Box
	for i := range kids {
		kids[i] = b
		if i%2 == 0 {
			kids[i].High.X = x
		} else {
			kids[i].Low.X = x + 1
		}
		if i < 2 {
			kids[i].High.Y = y
		} else {
			kids[i].Low.Y = y + 1
		}
	}
	return kids
}

// buildAs is BuildQuads by what the document says of it.
func buildAs(list []impl.Entry, bounds impl.Box) []impl.Quad {
	quads := []impl.Quad{leaf(bounds, 0, list...)}
	for i := 0; i < len(quads); i++ {
		q, all := quads[i], quads[i].Entries
		if len(all) <= 3 || q.Depth == 4 || q.Bounds.High.X-q.Bounds.Low.X <= 1 || q.Bounds.High.Y-q.Bounds.Low.Y <= 1 {
			continue
		}
		quads[i].First = int64(len(quads))
		for _, b := range halvesAs(q.Bounds) {
			kid := leaf(b, q.Depth+1)
			all = slices.DeleteFunc(slices.Clone(all), func(e impl.Entry) bool {
				inside := isIn(e.Box.Low, b) && isIn(e.Box.High, b)
				if inside {
					kid.Entries = append(kid.Entries, e)
				}
				return inside
			})
			quads = append(quads, kid)
		}
		quads[i].Entries = all
	}
	return quads
}

// someBox is a box without a fault of points from low to high: of one point,
// small, or any.
func someBox(n *numbers, low, high int64) impl.Box {
	a, b := n.point(low, high), n.point(low, high)
	switch n.next(0, 3) {
	case 0:
		b = a
	case 1, 2:
		b = at(min(a.X+n.next(0, 5), high), min(a.Y+n.next(0, 5), high))
	}
	return boxed(min(a.X, b.X), min(a.Y, b.Y), max(a.X, b.X), max(a.Y, b.Y))
}

// treeSpans are ranges for boxes: narrow ones, the world, and all there is.
var treeSpans = [][2]int64{{0, 7}, {-9, 9}, {0, impl.World}, {lowest, highest}}

// someEntries are entries without a fault, of Ids that are all others, many of
// them near one another.
func someEntries(n *numbers, span [2]int64) []impl.Entry {
	var list []impl.Entry
	low, high := span[0], span[1]
	if n.next(0, 2) == 0 {
		high = low + (high-low)/n.next(1, 8)
	}
	for range n.next(0, 24) {
		id := n.next(1, 999)
		if !slices.ContainsFunc(list, func(e impl.Entry) bool { return e.Id == id }) {
			list = append(list, impl.Entry{Id: id, Box: someBox(n, low, high)})
		}
	}
	return list
}

func TestBuildQuadsAgainstTheDocument(t *testing.T) {
	n := numbers(61)
	deep := map[int64]int{}
	for range 8000 {
		span := treeSpans[n.next(0, 3)]
		list, bounds := someEntries(&n, span), boxed(span[0], span[0], span[1], span[1])
		if n.next(0, 1) == 0 {
			bounds = someBox(&n, span[0], span[1])
		}
		want := buildAs(list, bounds)
		if got := impl.BuildQuads(list, bounds); got.Code != impl.OK || !sameQuads(got.Quads, want) {
			t.Fatalf("%v in %v: %v, not %v", list, bounds, got, want)
		}
		deep[want[len(want)-1].Depth]++
	}
	for depth := range int64(5) {
		if deep[depth] < 200 {
			t.Error("the test asks for little", deep)
		}
	}
}

// splitUpTo is a tree of quads without entries, of as many as count lets it have.
func splitUpTo(count int) []impl.Quad {
	quads := []impl.Quad{leaf(boxed(0, 0, 1023, 1023), 0)}
	for i := 0; len(quads)+4 <= count; i++ {
		quads[i].First = int64(len(quads))
		for _, b := range halvesAs(quads[i].Bounds) {
			quads = append(quads, leaf(b, quads[i].Depth+1))
		}
	}
	return quads
}

// nine is a tree of nine quads with six entries: the whole, its kids, and the
// kids of the third one.
func nine() []impl.Quad {
	list := entered(dot(9, 9), dot(0, 0), boxed(7, 7, 8, 8), dot(0, 15), dot(7, 8), dot(99, 99))
	return []impl.Quad{
		branch(boxed(0, 0, 15, 15), 0, 1, chosen(list, 6, 3)...),
		leaf(boxed(0, 0, 7, 7), 1, chosen(list, 2)...), leaf(boxed(8, 0, 15, 7), 1), branch(boxed(0, 8, 7, 15), 1, 5), leaf(boxed(8, 8, 15, 15), 1, chosen(list, 1)...),
		leaf(boxed(0, 8, 3, 11), 2), leaf(boxed(4, 8, 7, 11), 2, chosen(list, 5)...), leaf(boxed(0, 12, 3, 15), 2, chosen(list, 4)...), leaf(boxed(4, 12, 7, 15), 2),
	}
}

func expectQuadsFault(t *testing.T, what string, quads []impl.Quad, want int64) {
	t.Helper()
	if got := impl.QuadsFault(quads); got != want {
		t.Errorf("%s: %v: %d, not %d", what, quads, got, want)
	}
	find, counts, all := impl.FindBox(quads, dot(0, 0)), impl.CountQuads(quads), impl.EntriesIn(quads)
	if find.Code != want || counts.Code != want || all.Code != want {
		t.Errorf("%s: %v: %v %v %v, not %d", what, quads, find, counts, all, want)
	}
	if want != impl.OK && (find.List != nil || counts.List != nil || all.Entries != nil) {
		t.Errorf("%s: %v: beside a code %v %v %v", what, quads, find, counts, all)
	}
}

// changed is nine with a change.
func changed(change func(q []impl.Quad)) []impl.Quad {
	quads := nine()
	change(quads)
	return quads
}

func TestQuadsFaultOfRightQuads(t *testing.T) {
	expectQuadsFault(t, "nine", nine(), impl.OK)
	for _, b := range rightBoxes {
		expectQuadsFault(t, "one", []impl.Quad{leaf(b, 0)}, impl.OK)
	}
	expectQuadsFault(t, "one that is crowded", []impl.Quad{leaf(boxed(0, 0, 9, 9), 0, dots(24, 1, 1)...)}, impl.OK)
	expectQuadsFault(t, "kids without need", splitUpTo(5), impl.OK)
	narrow := []impl.Quad{branch(boxed(0, 0, 1, 1), 0, 1), leaf(dot(0, 0), 1), leaf(dot(1, 0), 1), leaf(dot(0, 1), 1), leaf(dot(1, 1), 1)}
	expectQuadsFault(t, "kids of one point each", narrow, impl.OK)
	expectQuadsFault(t, "entries elsewhere", changed(func(q []impl.Quad) { q[5].Entries, q[1].Entries = q[1].Entries, nil }), impl.OK)
}

// The kids of a later quad may stand ahead of those of one ahead of it.
func TestQuadsFaultOfKidsInAnyTurn(t *testing.T) {
	tree := splitUpTo(13)
	if tree[1].First != 5 || tree[2].First != 9 {
		t.Fatal(tree)
	}
	for i := range 4 {
		tree[5+i], tree[9+i] = tree[9+i], tree[5+i]
	}
	expectQuadsFault(t, "the kids of others", tree, impl.ErrForm)
	tree[1].First, tree[2].First = 9, 5
	expectQuadsFault(t, "the same, told", tree, impl.OK)
}

func TestQuadsFaultOfMany(t *testing.T) {
	expectQuadsFault(t, "nil", nil, impl.ErrMany)
	expectQuadsFault(t, "none", []impl.Quad{}, impl.ErrMany)
	for _, count := range []int{1, 5, 21, 85, 197} {
		tree := splitUpTo(count)
		if len(tree) != count {
			t.Fatal(len(tree))
		}
		expectQuadsFault(t, fmt.Sprint(count), tree, impl.OK)
	}
	spare := leaf(boxed(0, 0, 1023, 1023), 0)
	expectQuadsFault(t, "200", append(splitUpTo(197), spare, spare, spare), impl.ErrState)
	expectQuadsFault(t, "201", splitUpTo(201), impl.ErrMany)
	expectQuadsFault(t, "201, four of them nobody's kids", append(splitUpTo(197), spare, spare, spare, spare), impl.ErrMany)
	expectQuadsFault(t, "200, and not one of them right", slices.Repeat([]impl.Quad{{Depth: -1}}, 200), impl.ErrRange)
	expectQuadsFault(t, "201, and not one of them right", slices.Repeat([]impl.Quad{{Depth: -1}}, 201), impl.ErrMany)
	expectQuadsFault(t, "very many", make([]impl.Quad, 100000), impl.ErrMany)
}

// At most 24 entries in all, wherever they are; asked ahead of all else.
func TestQuadsFaultOfManyEntries(t *testing.T) {
	all := dots(25, 2, 2)
	for cut := range 25 {
		tree := splitUpTo(5)
		tree[0].Entries, tree[4].Entries = all[:cut], all[cut:24]
		expectQuadsFault(t, "24 entries", tree, impl.OK)
		tree[4].Entries = all[cut:]
		expectQuadsFault(t, "25 entries", tree, impl.ErrMany)
		tree[0].Depth, tree[1].Bounds = 99, boxed(1, 1, 0, 0)
		expectQuadsFault(t, "25 entries, and all else wrong", tree, impl.ErrMany)
	}
	expectQuadsFault(t, "the same entries over and over", []impl.Quad{leaf(dot(0, 0), 0, slices.Repeat(all[:1], 25)...)}, impl.ErrMany)
	expectQuadsFault(t, "very many entries", []impl.Quad{leaf(dot(0, 0), 0, make([]impl.Entry, 100000)...)}, impl.ErrMany)
}

// Depth and First out of their bounds, at each place, of quads of which none is
// another one's kid: a parent is asked ahead of its kids.
func TestQuadsFaultOfRanges(t *testing.T) {
	for place := range 9 {
		lone := func() []impl.Quad { return slices.Repeat([]impl.Quad{leaf(boxed(0, 0, 9, 9), 0)}, 9) }
		for _, depth := range append([]int64{-1, 5, 6, -4}, far...) {
			quads := lone()
			quads[place].Depth = depth
			expectQuadsFault(t, fmt.Sprint("Depth ", depth, " at ", place), quads, impl.ErrRange)
		}
		for _, depth := range []int64{0, 1, 4} {
			quads := lone()
			quads[place].Depth = depth
			expectQuadsFault(t, fmt.Sprint("Depth ", depth, " at ", place), quads, impl.ErrState)
		}
		firsts := append([]int64{-1, -2, -3, -4, 6, 7, 8, 9, 10, 200}, far...)
		for first := int64(1); first <= int64(place); first++ { // those ahead of it, and its own place
			firsts = append(firsts, first)
		}
		for _, first := range firsts {
			quads := lone()
			quads[place].First = first
			expectQuadsFault(t, fmt.Sprint("First ", first, " at ", place), quads, impl.ErrRange)
			expectQuadsFault(t, fmt.Sprint("First ", first, " at ", place, " of a tree"), changed(func(q []impl.Quad) { q[place].First = first }), impl.ErrRange)
		}
		for first := int64(place) + 1; first <= 5; first++ { // places of four, but no kids
			quads := lone()
			quads[place].First = first
			expectQuadsFault(t, fmt.Sprint("First ", first, " at ", place), quads, impl.ErrForm)
		}
	}
	for _, first := range append([]int64{1, -1, 4}, far...) {
		expectQuadsFault(t, "the kids of one alone", []impl.Quad{branch(dot(0, 0), 0, first)}, impl.ErrRange)
	}
}

// First at the last place where four are there, and at the one behind it.
func TestQuadsFaultOfTheLastPlaces(t *testing.T) {
	for count := 5; count <= 200; count += 4 {
		tree := splitUpTo(count)
		place := slices.IndexFunc(tree, func(q impl.Quad) bool { return q.First == int64(count-4) })
		expectQuadsFault(t, "the last place", tree, impl.OK)
		tree[place].First++
		expectQuadsFault(t, "one behind it", tree, impl.ErrRange)
		tree[place].First = int64(count)
		expectQuadsFault(t, "behind all", tree, impl.ErrRange)
		tree[place].First = 0
		expectQuadsFault(t, "none", tree, impl.ErrState)
		if place == 0 { // its own place is 0: it has none
			continue
		}
		tree[place].First = int64(place)
		expectQuadsFault(t, "its own place", tree, impl.ErrRange)
		tree[place].First = int64(count - 5)
		expectQuadsFault(t, "one ahead of the last place", tree, impl.ErrForm)
	}
}

// Bounds that are not right have no form, also where numbers leave theirs.
func TestQuadsFaultOfBounds(t *testing.T) {
	outOfRange, ofNoForm := wrongBoxes()
	for _, b := range append(outOfRange, ofNoForm...) {
		expectQuadsFault(t, "of one alone", []impl.Quad{leaf(b, 0)}, impl.ErrForm)
		for place := range 9 {
			expectQuadsFault(t, fmt.Sprint("at ", place), changed(func(q []impl.Quad) { q[place].Bounds = b }), impl.ErrForm)
		}
	}
	for place := range 9 { // by one, on each side
		for _, move := range []impl.Box{boxed(1, 0, 0, 0), boxed(0, 1, 0, 0), boxed(0, 0, 1, 0), boxed(0, 0, 0, 1), boxed(-1, 0, 0, 0), boxed(0, -1, 0, 0), boxed(0, 0, -1, 0), boxed(0, 0, 0, -1)} {
			quads := nine()
			b := quads[place].Bounds
			quads[place].Bounds = boxed(b.Low.X+move.Low.X, b.Low.Y+move.Low.Y, b.High.X+move.High.X, b.High.Y+move.High.Y)
			expectQuadsFault(t, "moved", quads, impl.ErrForm)
		}
	}
	for i := range 4 { // in another turn
		for k := range i {
			expectQuadsFault(t, "swapped", changed(func(q []impl.Quad) { q[1+i].Bounds, q[1+k].Bounds = q[1+k].Bounds, q[1+i].Bounds }), impl.ErrForm)
			expectQuadsFault(t, "swapped, deeper", changed(func(q []impl.Quad) { q[5+i].Bounds, q[5+k].Bounds = q[5+k].Bounds, q[5+i].Bounds }), impl.ErrForm)
		}
	}
	for _, b := range []impl.Box{dot(3, 3), boxed(0, 3, 9, 3), boxed(3, 0, 3, 9)} { // some kid has nothing
		quads := []impl.Quad{branch(b, 0, 1)}
		for _, half := range halvesAs(b) {
			quads = append(quads, leaf(half, 1))
		}
		expectQuadsFault(t, "too narrow to be halved", quads, impl.ErrForm)
	}
}

// The middles of kids' Bounds are rounded down, below 0 too.
func TestQuadsFaultOfMiddles(t *testing.T) {
	for _, b := range []impl.Box{boxed(-3, -3, 0, 0), boxed(-2, -4, 1, -1), boxed(-5, 0, -2, 3), boxed(lowest, lowest, highest-1, -1), boxed(-1, -1, 2, 2)} {
		quads := []impl.Quad{branch(b, 0, 1)}
		for _, half := range halvesAs(b) {
			quads = append(quads, leaf(half, 1))
		}
		expectQuadsFault(t, "rounded down", quads, impl.OK)
		x := quads[1].Bounds.High.X + 1
		quads[1].Bounds.High.X, quads[3].Bounds.High.X, quads[2].Bounds.Low.X, quads[4].Bounds.Low.X = x, x, x+1, x+1
		expectQuadsFault(t, "rounded up", quads, impl.ErrForm)
	}
}

// Kids have one more as Depth; so much that there is no such Depth is told of
// the kid itself.
func TestQuadsFaultOfDepths(t *testing.T) {
	for place := 1; place < 9; place++ {
		for _, more := range []int64{-1, 1, 2, -2} {
			expectQuadsFault(t, fmt.Sprint("at ", place), changed(func(q []impl.Quad) { q[place].Depth += more }), impl.ErrForm)
		}
	}
	for depth := int64(1); depth < 8; depth++ {
		tree := splitUpTo(5)
		for i := range tree {
			tree[i].Depth += depth
		}
		want := int64(impl.ErrState)
		if depth > 3 { // of 4 the kids, of more the first one
			want = impl.ErrRange
		}
		expectQuadsFault(t, fmt.Sprint("all deeper by ", depth), tree, want)
		want = impl.ErrState
		if depth > 4 {
			want = impl.ErrRange
		}
		expectQuadsFault(t, "one alone", []impl.Quad{leaf(dot(0, 0), depth)}, want)
	}
}

// Each quad but the first one is just one's kid.
func TestQuadsFaultOfState(t *testing.T) {
	b := boxed(0, 0, 3, 3)
	twin := splitUpTo(5)
	twin = slices.Insert(twin, 1, twin[0])
	twin[0].First, twin[1].First = 2, 2
	// two wholes, one below the other: two kids of the upper one are the lower one's
	shared := []impl.Quad{branch(b, 0, 2), branch(boxed(0, 2, 3, 5), 0, 4)}
	for _, low := range []impl.Point{at(0, 0), at(2, 0), at(0, 2), at(2, 2), at(0, 4), at(2, 4)} {
		shared = append(shared, leaf(boxed(low.X, low.Y, low.X+1, low.Y+1), 1))
	}
	for _, c := range []struct {
		what  string
		quads []impl.Quad
	}{
		{"one more, nobody's kid", append(nine(), leaf(dot(0, 0), 0))},
		{"one more, nobody's kid, of a Depth", append(nine(), leaf(boxed(0, 12, 3, 15), 2))},
		{"one ahead of the kids", slices.Insert(changed(func(q []impl.Quad) { q[0].First, q[3].First = 2, 6 }), 1, leaf(dot(1, 1), 3))},
		{"kids that are told no more", changed(func(q []impl.Quad) { q[3].First = 0 })},
		{"kids of the whole that are told no more", changed(func(q []impl.Quad) { q[0].First = 0 })},
		{"two that are alike", []impl.Quad{leaf(b, 0), leaf(b, 0)}},
		{"four alike, nobody's kids", slices.Repeat([]impl.Quad{leaf(b, 0)}, 4)},
		{"the same kids of two", twin},
		{"two kids of two", shared},
		{"a whole that is not the first one", append([]impl.Quad{leaf(b, 0)}, changed(func(q []impl.Quad) { q[0].First, q[3].First = 2, 6 })...)},
		{"the Depth of the first one", []impl.Quad{leaf(b, 1)}},
		{"the greatest Depth of the first one", []impl.Quad{leaf(b, 4)}},
	} {
		expectQuadsFault(t, c.what, c.quads, impl.ErrState)
	}
}

// The first one as a kid: 0 as First tells no kids, and what tells them from
// ahead of the first one on is no place.
func TestQuadsFaultOfTheFirstAsAKid(t *testing.T) {
	for place := range 9 {
		for first := int64(-3); first < 0; first++ {
			expectQuadsFault(t, fmt.Sprint("First ", first, " at ", place), changed(func(q []impl.Quad) { q[place].First = first }), impl.ErrRange)
		}
	}
	// the first one would be right as the first kid of the last one
	quads := []impl.Quad{leaf(boxed(0, 0, 1, 1), 1), leaf(boxed(2, 0, 3, 1), 1), leaf(boxed(0, 2, 1, 3), 1), leaf(boxed(2, 2, 3, 3), 1), leaf(boxed(0, 0, 3, 3), 0)}
	expectQuadsFault(t, "the whole behind its kids", quads, impl.ErrState)
}

// The entries of all quads, quad by quad.
func TestQuadsFaultOfEntries(t *testing.T) {
	ranged, formed := impl.Entry{Id: 1000, Box: dot(1, 1)}, impl.Entry{Id: 50, Box: boxed(2, 2, 1, 2)}
	taken := impl.Entry{Id: 6, Box: dot(1, 1)} // 6 is the Id of the first entry of nine
	add := func(q []impl.Quad, place int, e ...impl.Entry) { q[place].Entries = append(q[place].Entries, e...) }
	for place := range 9 {
		for _, c := range []struct {
			e    impl.Entry
			code int64
		}{{ranged, impl.ErrRange}, {formed, impl.ErrForm}, {taken, impl.ErrTaken}, {impl.Entry{Id: 50, Box: dot(4097, 0)}, impl.ErrRange}, {impl.Entry{Id: 50, Box: dot(0, math.MinInt64)}, impl.ErrRange}} {
			expectQuadsFault(t, fmt.Sprint("at ", place), changed(func(q []impl.Quad) { add(q, place, c.e) }), c.code)
		}
		expectQuadsFault(t, "in order of one", changed(func(q []impl.Quad) { add(q, place, formed, ranged) }), impl.ErrForm)
		for behind := place + 1; behind < 9; behind++ {
			expectQuadsFault(t, "of no form ahead", changed(func(q []impl.Quad) { add(q, place, formed); add(q, behind, ranged) }), impl.ErrForm)
			expectQuadsFault(t, "taken ahead", changed(func(q []impl.Quad) { add(q, place, taken); add(q, behind, ranged, formed) }), impl.ErrTaken)
			expectQuadsFault(t, "out of range ahead", changed(func(q []impl.Quad) { add(q, place, ranged); add(q, behind, taken, formed) }), impl.ErrRange)
			expectQuadsFault(t, "the same Id in two", changed(func(q []impl.Quad) {
				add(q, place, impl.Entry{Id: 77})
				add(q, behind, impl.Entry{Id: 77, Box: dot(3, 3)})
			}), impl.ErrTaken)
		}
	}
}

// Quad by quad all codes of one ahead of the next one; then the entries of all,
// then what the quads are to one another.
func TestQuadsFaultOrder(t *testing.T) {
	bad := impl.Entry{Id: 0}
	for _, c := range []struct {
		what   string
		change func(q []impl.Quad)
		want   int64
	}{
		{"Depth ahead of Bounds", func(q []impl.Quad) { q[0].Depth, q[0].Bounds = 5, boxed(1, 0, 0, 0) }, impl.ErrRange},
		{"First ahead of Bounds", func(q []impl.Quad) { q[0].First, q[0].Bounds = 6, boxed(1, 0, 0, 0) }, impl.ErrRange},
		{"First ahead of Bounds out of range", func(q []impl.Quad) { q[8].First, q[8].Bounds, q[3].First = 8, boxed(4097, 0, 0, 0), 0 }, impl.ErrRange},
		{"First ahead of a kid's Bounds", func(q []impl.Quad) { q[1].First, q[2].Bounds = 1, q[1].Bounds; q[0].First = 0 }, impl.ErrRange},
		{"a kid's Bounds ahead of what a quad behind has", func(q []impl.Quad) { q[2].Bounds, q[1].First = q[1].Bounds, 1 }, impl.ErrForm},
		{"a kid's Depth ahead of what it has itself", func(q []impl.Quad) { q[2].Depth = -1 }, impl.ErrForm},
		{"Bounds ahead of what a quad behind has", func(q []impl.Quad) { q[3].First = 0; q[5].Bounds, q[6].Depth = boxed(1, 0, 0, 0), 7 }, impl.ErrForm},
		{"a quad ahead of one of no form", func(q []impl.Quad) { q[3].First = 0; q[5].Depth, q[6].Bounds = 7, boxed(1, 0, 0, 0) }, impl.ErrRange},
		{"the last quad ahead of the first entry", func(q []impl.Quad) { q[8].First, q[0].Entries = 8, []impl.Entry{bad} }, impl.ErrRange},
		{"no form of the last quad ahead of the first entry", func(q []impl.Quad) {
			q[3].First, q[8].Bounds, q[0].Entries = 0, boxed(0, 1, 0, 0), []impl.Entry{bad}
		}, impl.ErrForm},
		{"entries ahead of what is nobody's kid", func(q []impl.Quad) { q[3].First, q[8].Entries = 0, []impl.Entry{bad} }, impl.ErrRange},
		{"no form of an entry ahead of what is nobody's kid", func(q []impl.Quad) { q[3].First, q[8].Entries = 0, entered(boxed(1, 0, 0, 0)) }, impl.ErrForm},
		{"a taken Id ahead of what is nobody's kid", func(q []impl.Quad) { q[3].First, q[8].Entries = 0, chosen(q[0].Entries, 6) }, impl.ErrTaken},
	} {
		expectQuadsFault(t, c.what, changed(c.change), c.want)
	}
	deep := []impl.Quad{leaf(dot(0, 0), 1, bad)}
	expectQuadsFault(t, "entries ahead of the Depth of the first one", deep, impl.ErrRange)
}

// quadFaultAs is what the document asks of one quad.
func quadFaultAs(quads []impl.Quad, place int) int64 {
	q := quads[place]
	places := []int64{0}
	for first := place + 1; first+3 < len(quads); first++ {
		places = append(places, int64(first))
	}
	if q.Depth < 0 || q.Depth > 4 || !slices.Contains(places, q.First) {
		return impl.ErrRange
	}
	for _, n := range []int64{q.Bounds.Low.X, q.Bounds.Low.Y, q.Bounds.High.X, q.Bounds.High.Y} {
		if n < lowest || n > highest {
			return impl.ErrForm
		}
	}
	if q.Bounds.Low.X > q.Bounds.High.X || q.Bounds.Low.Y > q.Bounds.High.Y {
		return impl.ErrForm
	}
	if q.First != 0 {
		for i, b := range halvesAs(q.Bounds) {
			if kid := quads[int(q.First)+i]; kid.Bounds != b || kid.Depth-q.Depth != 1 {
				return impl.ErrForm
			}
		}
	}
	return impl.OK
}

// quadsFaultAs is QuadsFault by what the document says of it.
func quadsFaultAs(quads []impl.Quad) int64 {
	var all []impl.Entry
	for _, q := range quads {
		all = append(all, q.Entries...)
	}
	if len(quads) == 0 || len(quads) > 200 || len(all) > 24 {
		return impl.ErrMany
	}
	kids := map[int]int{}
	for place, q := range quads {
		if code := quadFaultAs(quads, place); code != impl.OK {
			return code
		}
		for i := range 4 {
			if q.First != 0 {
				kids[int(q.First)+i]++
			}
		}
	}
	if code := impl.EntriesFault(all); code != impl.OK {
		return code
	}
	for place := 1; place < len(quads); place++ {
		if kids[place] != 1 {
			return impl.ErrState
		}
	}
	if kids[0] != 0 || quads[0].Depth != 0 {
		return impl.ErrState
	}
	return impl.OK
}

// someTree is a tree without a fault: one that was built, or one whose entries
// lie anywhere.
func someTree(n *numbers) []impl.Quad {
	span := treeSpans[n.next(0, 3)]
	list := someEntries(n, span)
	if n.next(0, 2) > 0 {
		return buildAs(list, boxed(span[0], span[0], span[1], span[1]))
	}
	tree := splitUpTo(int(n.next(1, 197)))
	for _, e := range list {
		q := &tree[n.next(0, int64(len(tree)-1))]
		q.Entries = append(q.Entries, e)
	}
	return tree
}

// strangeSmall is a number near those that quads have, or a strange one.
func strangeSmall(n *numbers) int64 {
	if n.next(0, 3) == 0 {
		return strange[n.next(0, int64(len(strange)-1))]
	}
	return n.next(-4, 12)
}

// strangeBox is a box that may have any fault.
func strangeBox(n *numbers) impl.Box {
	b := someBox(n, -9, 20)
	for _, side := range []*int64{&b.Low.X, &b.Low.Y, &b.High.X, &b.High.Y} {
		if n.next(0, 7) == 0 {
			*side = strangeSmall(n)
		}
	}
	return b
}

// changeTree spoils something of a tree, or tells it in another way.
func changeTree(n *numbers, tree []impl.Quad) []impl.Quad {
	if len(tree) == 0 {
		return tree
	}
	place := func() int64 { return n.next(0, int64(len(tree)-1)) }
	q := &tree[place()]
	switch n.next(0, 11) {
	case 0:
		q.Depth = strangeSmall(n)
	case 1:
		q.First = strangeSmall(n)
	case 2:
		q.First = place() + n.next(-1, 1)
	case 3:
		q.First = 0
	case 4:
		q.Bounds = strangeBox(n)
	case 5:
		q.Bounds = tree[place()].Bounds
	case 6:
		q.Entries = append(slices.Clone(q.Entries), impl.Entry{Id: n.next(-1, 1001), Box: strangeBox(n)})
	case 7:
		q.Entries = slices.Concat(q.Entries, tree[place()].Entries)
	case 8:
		return append(tree, tree[place()])
	case 9:
		return tree[:place()]
	case 10:
		k := place()
		*q, tree[k] = tree[k], *q
	case 11:
		return tree[place():]
	}
	return tree
}

func TestQuadsFaultAgainstTheDocument(t *testing.T) {
	n := numbers(62)
	seen := map[int64]int{}
	for range 12000 {
		tree := someTree(&n)
		for range n.next(0, 3) {
			tree = changeTree(&n, tree)
		}
		want := quadsFaultAs(tree)
		seen[want]++
		expectQuadsFault(t, "a tree", tree, want)
		if t.Failed() {
			return
		}
	}
	for _, code := range []int64{impl.OK, impl.ErrForm, impl.ErrMany, impl.ErrRange, impl.ErrTaken, impl.ErrState} {
		if seen[code] < 100 {
			t.Error("the test asks for little", code, seen)
		}
	}
}

func expectFound(t *testing.T, what string, quads []impl.Quad, b impl.Box, want ...int64) {
	t.Helper()
	if got := impl.FindBox(quads, b); got.Code != impl.OK || !slices.Equal(got.List, want) {
		t.Errorf("%s: %v: %v, not %v", what, b, got, want)
	}
}

func TestFindBox(t *testing.T) {
	quads := nine()
	expectFound(t, "all", quads, boxed(lowest, lowest, highest, highest), 1, 2, 3, 4, 5, 6)
	expectFound(t, "all but what is outside", quads, boxed(0, 0, 15, 15), 1, 2, 3, 4, 5)
	expectFound(t, "none", quads, boxed(1, 1, 6, 6))
	expectFound(t, "one point", quads, dot(9, 9), 1)
	expectFound(t, "a point beside it", quads, dot(10, 9))
	expectFound(t, "one point of two", quads, dot(7, 8), 3, 5)
	expectFound(t, "what is outside of the bounds", quads, dot(99, 99), 6)
	expectFound(t, "outside, where there is nothing", quads, boxed(98, 0, 98, 4096))
	expectFound(t, "outside of all", quads, dot(-1024, 4096))
	expectFound(t, "of no entries", splitUpTo(21), boxed(0, 0, 1023, 1023))
	expectFound(t, "of one quad without entries", []impl.Quad{leaf(dot(3, 3), 0)}, dot(3, 3))
}

// What only touches is met: at each side, at each corner; what is one beside
// it is not.
func TestFindBoxThatTouches(t *testing.T) {
	quads := []impl.Quad{leaf(boxed(0, 0, 99, 99), 0, impl.Entry{Id: 999, Box: boxed(10, 20, 14, 28)}, impl.Entry{Id: 1, Box: dot(50, 50)})}
	for _, b := range []impl.Box{
		boxed(14, 20, 19, 28), boxed(5, 20, 10, 28), boxed(10, 28, 14, 33), boxed(10, 15, 14, 20), // the sides
		boxed(14, 28, 19, 33), boxed(5, 15, 10, 20), boxed(14, 15, 19, 20), boxed(5, 28, 10, 33), // the corners
		dot(10, 20), dot(14, 28), dot(10, 28), dot(14, 20), dot(12, 24), // points of it
	} {
		expectFound(t, "touches", quads, b, 999)
	}
	for _, b := range []impl.Box{
		boxed(15, 20, 19, 28), boxed(5, 20, 9, 28), boxed(10, 29, 14, 33), boxed(10, 15, 14, 19),
		boxed(15, 28, 19, 33), boxed(14, 29, 19, 33), boxed(5, 15, 9, 20), boxed(5, 15, 10, 19), dot(9, 20), dot(10, 19), dot(15, 28), dot(14, 29),
	} {
		expectFound(t, "beside", quads, b)
	}
	expectFound(t, "a box of one point", quads, dot(50, 50), 1)
	expectFound(t, "both", quads, boxed(14, 28, 50, 50), 1, 999)
}

// Entries by the border of two kids are found from either side.
func TestFindBoxAtBorders(t *testing.T) {
	list := entered(dot(3, 3), dot(4, 3), dot(3, 4), dot(4, 4), boxed(3, 3, 4, 4), boxed(4, 4, 5, 5), boxed(2, 2, 3, 3))
	quads := impl.BuildQuads(list, boxed(0, 0, 7, 7)).Quads
	expectFound(t, "the first kid", quads, boxed(0, 0, 3, 3), 1, 5, 7)
	expectFound(t, "the second kid", quads, boxed(4, 0, 7, 3), 2, 5)
	expectFound(t, "the third kid", quads, boxed(0, 4, 3, 7), 3, 5)
	expectFound(t, "the fourth kid", quads, boxed(4, 4, 7, 7), 4, 5, 6)
	expectFound(t, "over the border", quads, boxed(3, 3, 4, 3), 1, 2, 5, 7)
}

// Entries that lie outside of their quad's Bounds have no fault, and are found.
func TestFindBoxOfEntriesElsewhere(t *testing.T) {
	for place := range 9 {
		quads := changed(func(q []impl.Quad) {
			for i := range q {
				q[i].Entries = nil
			}
			q[place].Entries = entered(dot(-500, 3000), dot(0, 0), dot(15, 15), dot(0, 15), dot(15, 0), boxed(7, 7, 8, 8))
		})
		for _, e := range quads[place].Entries {
			expectFound(t, fmt.Sprint("at ", place), quads, e.Box, e.Id)
		}
	}
}

// The quads are asked ahead of the box, that for its numbers ahead of their
// order.
func TestFindBoxWrong(t *testing.T) {
	outOfRange, ofNoForm := wrongBoxes()
	for _, c := range []struct {
		quads []impl.Quad
		code  int64
	}{
		{nine(), impl.OK},
		{splitUpTo(1), impl.OK},
		{nil, impl.ErrMany},
		{changed(func(q []impl.Quad) { q[0].Depth = 5 }), impl.ErrRange},
		{changed(func(q []impl.Quad) { q[1].Depth = 5 }), impl.ErrForm},
		{changed(func(q []impl.Quad) { q[1].Entries = q[0].Entries }), impl.ErrTaken},
		{changed(func(q []impl.Quad) { q[3].First = 0 }), impl.ErrState},
	} {
		expect := func(b impl.Box, code int64) {
			if c.code != impl.OK {
				code = c.code
			}
			if got := impl.FindBox(c.quads, b); got.Code != code || code != impl.OK && got.List != nil {
				t.Errorf("%v of %v: %v, not %d", b, c.quads, got, code)
			}
		}
		for _, b := range rightBoxes {
			expect(b, impl.OK)
		}
		for _, b := range outOfRange {
			expect(b, impl.ErrRange)
		}
		for _, b := range ofNoForm {
			expect(b, impl.ErrForm)
		}
	}
}

func TestCountQuads(t *testing.T) {
	deep := splitUpTo(197)
	last := &deep[196]
	last.Entries = dots(2, 1, 1)
	for _, c := range []struct {
		what  string
		quads []impl.Quad
		want  []int64
	}{
		{"nine", nine(), []int64{2, 2, 2, 0, 0}},
		{"one without entries", splitUpTo(1), []int64{0, 0, 0, 0, 0}},
		{"quads without entries", splitUpTo(197), []int64{0, 0, 0, 0, 0}},
		{"the last quad", deep, []int64{0, 0, 0, 0, 2}},
		{"one with all", []impl.Quad{leaf(dot(0, 0), 0, dots(24, 1, 1)...)}, []int64{24, 0, 0, 0, 0}},
		{"all at one point", impl.BuildQuads(dots(24, 1, 1), boxed(0, 0, 1023, 1023)).Quads, []int64{0, 0, 0, 0, 24}},
		{"three at the corner", impl.BuildQuads(append(dots(3, 0, 0), impl.Entry{Id: 9, Box: dot(15, 15)}, impl.Entry{Id: 8, Box: boxed(7, 7, 8, 8)}), boxed(0, 0, 15, 15)).Quads, []int64{1, 4, 0, 0, 0}},
	} {
		if got := impl.CountQuads(c.quads); got.Code != impl.OK || !slices.Equal(got.List, c.want) {
			t.Errorf("%s: %v, not %v", c.what, got, c.want)
		}
	}
}

func TestEntriesIn(t *testing.T) {
	want := entered(dot(9, 9), dot(0, 0), boxed(7, 7, 8, 8), dot(0, 15), dot(7, 8), dot(99, 99))
	if got := impl.EntriesIn(nine()); !reflect.DeepEqual(got, impl.EntriesResult{Entries: want}) {
		t.Error(got)
	}
	for _, count := range []int{1, 5, 197} {
		if got := impl.EntriesIn(splitUpTo(count)); got.Code != impl.OK || len(got.Entries) != 0 {
			t.Error(got)
		}
	}
	ends := []impl.Entry{{Id: 999}, {Id: 10}, {Id: 2}, {Id: 1}}
	got := impl.EntriesIn([]impl.Quad{leaf(dot(0, 0), 0, ends...)})
	slices.Reverse(ends)
	if got.Code != impl.OK || !slices.Equal(got.Entries, ends) {
		t.Error(got)
	}
}
