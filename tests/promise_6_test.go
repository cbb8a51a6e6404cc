package tests

import (
	"reflect"
	"slices"
	"testing"

	"loop.example/g00403/impl"
)

// rising are the entries by Id.
func rising(list []impl.Entry) []impl.Entry {
	sorted := slices.Clone(list)
	slices.SortFunc(sorted, func(a, b impl.Entry) int { return int(a.Id - b.Id) })
	return sorted
}

// metBy are the Ids of the entries that have a point in common with b, rising.
func metBy(list []impl.Entry, b impl.Box) []int64 {
	var ids []int64
	for _, e := range rising(list) {
		low := at(max(e.Box.Low.X, b.Low.X), max(e.Box.Low.Y, b.Low.Y))
		if isIn(low, e.Box) && isIn(low, b) {
			ids = append(ids, e.Id)
		}
	}
	return ids
}

// beside is a box that just touches another one, or just does not, or a part of
// it: what is found hangs on such ones.
func beside(n *numbers, b impl.Box) impl.Box {
	x, y := n.next(-1, 1), n.next(-1, 1)
	side := boxed(b.High.X+x, b.High.Y+y, b.High.X+x+n.next(0, 3), b.High.Y+y+n.next(0, 3))
	if n.next(0, 1) == 0 {
		side = boxed(b.Low.X+x-n.next(0, 3), b.Low.Y+y-n.next(0, 3), b.Low.X+x, b.Low.Y+y)
	}
	for _, p := range []*impl.Point{&side.Low, &side.High} {
		*p = at(min(max(p.X, lowest), highest), min(max(p.Y, lowest), highest))
	}
	return side
}

// P6: a tree has just the entries of which it was built, in whatever order.
func TestPromise6HasJustItsEntries(t *testing.T) {
	n := numbers(63)
	for range 6000 {
		span := treeSpans[n.next(0, 3)]
		list, bounds := someEntries(&n, span), someBox(&n, span[0], span[1])
		if n.next(0, 1) == 0 {
			bounds = boxed(span[0], span[0], span[1], span[1])
		}
		for range 2 {
			built := impl.BuildQuads(list, bounds)
			if built.Code != impl.OK || impl.QuadsFault(built.Quads) != impl.OK {
				t.Fatalf("%v in %v: %v", list, bounds, built)
			}
			if got := impl.EntriesIn(built.Quads); got.Code != impl.OK || !slices.Equal(got.Entries, rising(list)) {
				t.Fatalf("%v in %v: %v", list, bounds, got)
			}
			counts := impl.CountQuads(built.Quads)
			all := 0
			for _, count := range counts.List {
				all += int(count)
			}
			if counts.Code != impl.OK || len(counts.List) != impl.MaxDepth+1 || all != len(list) {
				t.Fatalf("%v in %v: %v", list, bounds, counts)
			}
			shuffle(&n, list)
		}
	}
}

// P6: what is found is just what meets the box, wherever the bounds are.
func TestPromise6FindsJustWhatMeets(t *testing.T) {
	n := numbers(64)
	found := map[bool]int{}
	for range 3000 {
		span := treeSpans[n.next(0, 3)]
		list, bounds := someEntries(&n, span), someBox(&n, span[0], span[1])
		if n.next(0, 1) == 0 {
			bounds = boxed(span[0], span[0], span[1], span[1])
		}
		quads := impl.BuildQuads(list, bounds).Quads
		for i := range 12 {
			b := someBox(&n, span[0], span[1])
			if i > 3 && len(list) > 0 {
				b = beside(&n, list[n.next(0, int64(len(list)-1))].Box)
			}
			got, want := impl.FindBox(quads, b), metBy(list, b)
			if got.Code != impl.OK || !slices.Equal(got.List, want) {
				t.Fatalf("%v of %v in %v: %v, not %v", b, list, bounds, got, want)
			}
			found[len(want) > 0]++
		}
	}
	if found[true] < 5000 || found[false] < 5000 {
		t.Error("the test asks for little", found)
	}
}

// P6: the same of trees that were told by hand, whose entries lie anywhere.
func TestPromise6FindsInAnyTree(t *testing.T) {
	n := numbers(65)
	for range 3000 {
		tree := someTree(&n)
		list := impl.EntriesIn(tree)
		var all []impl.Entry
		depths := make([]int64, 5)
		for _, q := range tree {
			all = append(all, q.Entries...)
			depths[q.Depth] += int64(len(q.Entries))
		}
		if list.Code != impl.OK || !slices.Equal(list.Entries, rising(all)) || !slices.Equal(impl.CountQuads(tree).List, depths) {
			t.Fatalf("%v: %v %v", tree, list, impl.CountQuads(tree))
		}
		for _, e := range all {
			b := beside(&n, e.Box)
			if got := impl.FindBox(tree, b); got.Code != impl.OK || !slices.Equal(got.List, metBy(all, b)) {
				t.Fatalf("%v of %v: %v", b, tree, got)
			}
		}
	}
}

// treeAnswers is what the layer of the tree of boxes answers of the same
// arguments.
type treeAnswers struct {
	entries int64
	built   impl.TreeResult
	quads   int64
	find    impl.IntsResult
	counts  impl.IntsResult
	all     impl.EntriesResult
}

func askTree(list []impl.Entry, b impl.Box, quads []impl.Quad) treeAnswers {
	return treeAnswers{
		entries: impl.EntriesFault(list),
		built:   impl.BuildQuads(list, b),
		quads:   impl.QuadsFault(quads),
		find:    impl.FindBox(quads, b),
		counts:  impl.CountQuads(quads),
		all:     impl.EntriesIn(quads),
	}
}

// strangeEntries are entries of which some may be wrong, or too many, with room
// behind the end of the list.
func strangeEntries(n *numbers) []impl.Entry {
	list := someEntries(n, treeSpans[n.next(0, 3)])
	switch n.next(0, 5) {
	case 0:
		list = append(list, impl.Entry{Id: n.next(-1, 1001), Box: strangeBox(n)})
	case 1:
		list = append(list, impl.Entry{Id: strangeSmall(n), Box: impl.Box{Low: strangePoint(n), High: strangePoint(n)}})
	case 2:
		list = slices.Concat(list, list)
	}
	shuffle(n, list)
	return append(slices.Clone(list), impl.Entry{Id: 5}, impl.Entry{Id: 6})[:len(list)]
}

// strangeQuads are quads of which some may be wrong, with room behind the ends
// of all lists.
func strangeQuads(n *numbers) []impl.Quad {
	tree := someTree(n)
	for range n.next(0, 2) {
		tree = changeTree(n, tree)
	}
	other := copyQuads(tree)
	for i, q := range other {
		other[i].Entries = append(q.Entries, impl.Entry{Id: 7}, impl.Entry{Id: 8})[:len(q.Entries)]
	}
	return append(other, impl.Quad{Depth: 3})[:len(other)]
}

// copyQuads are the same quads, in memory of their own.
func copyQuads(quads []impl.Quad) []impl.Quad {
	other := slices.Clone(quads)
	for i := range other {
		other[i].Entries = slices.Clone(other[i].Entries)
	}
	return other
}

// wholeQuads is all that quads have in memory, what is behind the ends with it.
func wholeQuads(quads []impl.Quad) []impl.Quad {
	all := slices.Clone(quads[:cap(quads)])
	for i, q := range all {
		all[i].Entries = slices.Clone(q.Entries[:cap(q.Entries)])
	}
	return all
}

// treeIsZero tells whether all that stands beside a code is zero.
func treeIsZero(a treeAnswers) bool {
	return (a.built.Code == impl.OK || a.built.Quads == nil) && (a.find.Code == impl.OK || a.find.List == nil) &&
		(a.counts.Code == impl.OK || a.counts.List == nil) && (a.all.Code == impl.OK || a.all.Entries == nil)
}

// firstOf is the first code that is not OK.
func firstOf(codes ...int64) int64 {
	for _, code := range codes {
		if code != impl.OK {
			return code
		}
	}
	return impl.OK
}

// boxCodeAs is the code of a box by what the document says of it.
func boxCodeAs(b impl.Box) int64 {
	if impl.PointFault(b.Low) != impl.OK || impl.PointFault(b.High) != impl.OK {
		return impl.ErrRange
	}
	if b.Low.X > b.High.X || b.Low.Y > b.High.Y {
		return impl.ErrForm
	}
	return impl.OK
}

// P1, chapter 5: an answer at every argument, which changes none, is zero
// beside a code, and is the same again for the same arguments elsewhere.
func TestPromise1OfTrees(t *testing.T) {
	n := numbers(66)
	seen := map[int64]int{}
	for range 6000 {
		list, b, quads := strangeEntries(&n), strangeBox(&n), strangeQuads(&n)
		givenList, givenQuads := slices.Clone(list[:cap(list)]), wholeQuads(quads)
		got := askTree(list, b, quads)
		if !slices.Equal(givenList, list[:cap(list)]) || !reflect.DeepEqual(givenQuads, wholeQuads(quads)) {
			t.Fatalf("%v %v: an argument was changed", list, quads)
		}
		fault := quadsFaultAs(quads)
		if got.quads != fault || got.counts.Code != fault || got.all.Code != fault || got.find.Code != firstOf(fault, boxCodeAs(b)) || got.built.Code != firstOf(got.entries, boxCodeAs(b)) {
			t.Fatalf("%v %v %v: %v", list, b, quads, got)
		}
		if !treeIsZero(got) {
			t.Fatalf("beside a code: %v", got)
		}
		if again := askTree(slices.Clone(list), b, copyQuads(quads)); !reflect.DeepEqual(again, got) {
			t.Fatalf("%v, then %v", got, again)
		}
		seen[got.find.Code]++
		seen[got.built.Code]++
	}
	for _, code := range []int64{impl.OK, impl.ErrForm, impl.ErrMany, impl.ErrRange, impl.ErrTaken, impl.ErrState} {
		if seen[code] < 50 {
			t.Error("the test asks for little", code, seen)
		}
	}
	if !reflect.DeepEqual(askTree(nil, dot(1, 1), nil), askTree([]impl.Entry{}, dot(1, 1), []impl.Quad{})) {
		t.Error("an empty list is not nil")
	}
	if !reflect.DeepEqual(askTree(nil, dot(1, 1), []impl.Quad{{}}), askTree([]impl.Entry{}, dot(1, 1), []impl.Quad{{Entries: []impl.Entry{}}})) {
		t.Error("an empty list of entries is not nil")
	}
}

// spoilEntries writes over all that a list has in memory, up to its capacity.
func spoilEntries(list []impl.Entry) {
	for i := range list[:cap(list)] {
		list[:cap(list)][i] = impl.Entry{Id: -7, Box: dot(-7, -7)}
	}
}

// spoilInts does so of numbers.
func spoilInts(list []int64) {
	for i := range list[:cap(list)] {
		list[:cap(list)][i] = -7
	}
}

// P1, chapter 5: an answer shares no memory with an argument, nor with an
// answer that was given ahead.
func TestPromise1OfTreesNewMemory(t *testing.T) {
	n := numbers(67)
	for range 2000 {
		span := treeSpans[n.next(0, 3)]
		list, bounds, quads := someEntries(&n, span), boxed(span[0], span[0], span[1], span[1]), someTree(&n)
		list = append(slices.Clone(list), impl.Entry{Id: 5})[:len(list)]
		givenList, givenQuads := slices.Clone(list[:cap(list)]), wholeQuads(quads)
		got, kept := askTree(list, bounds, quads), askTree(list, bounds, quads)
		for i := range got.built.Quads {
			spoilEntries(got.built.Quads[i].Entries)
			got.built.Quads[i] = impl.Quad{Depth: -7}
		}
		spoilInts(got.find.List)
		spoilInts(got.counts.List)
		spoilEntries(got.all.Entries)
		if !slices.Equal(givenList, list[:cap(list)]) || !reflect.DeepEqual(givenQuads, wholeQuads(quads)) {
			t.Fatalf("%v %v: an answer is of its memory", list, quads)
		}
		if again := askTree(list, bounds, quads); !reflect.DeepEqual(again, kept) {
			t.Fatalf("%v %v: an answer hangs on another one", list, quads)
		}
		again := copyQuads(kept.built.Quads)
		spoilEntries(list)
		for i := range quads {
			spoilEntries(quads[i].Entries)
			quads[i] = impl.Quad{First: -7}
		}
		if !sameQuads(kept.built.Quads, again) || impl.QuadsFault(kept.built.Quads) != impl.OK {
			t.Fatalf("%v: it was spoiled with the argument", kept)
		}
	}
}

// P1, chapter 5: no two lists of one answer share memory, not even behind their
// ends.
func TestPromise1OfTreesListsApart(t *testing.T) {
	n := numbers(68)
	for range 1500 {
		span := treeSpans[n.next(0, 3)]
		list, bounds := someEntries(&n, span), boxed(span[0], span[0], span[1], span[1])
		built := impl.BuildQuads(list, bounds).Quads
		want := copyQuads(built)
		for i := range built {
			spoilEntries(built[i].Entries)
			for k := range built {
				if k > i && !slices.Equal(built[k].Entries, want[k].Entries) {
					t.Fatalf("%v: the entries of %d and of %d", want, i, k)
				}
			}
		}
		for i := range want {
			want[i].Entries = append(built[i].Entries, impl.Entry{Id: int64(i)})
		}
		for i := range want {
			if last := want[i].Entries[len(want[i].Entries)-1]; last.Id != int64(i) {
				t.Fatalf("%v: what is put behind the entries of %d", want, i)
			}
		}
	}
}
