package tests

import (
	"math"
	"reflect"
	"slices"
	"testing"

	"loop.example/g00403/impl"
)

// numbers is a row of numbers that is the same in every run.
type numbers uint64

// next is a number from low to high.
func (n *numbers) next(low, high int64) int64 {
	x := uint64(*n)
	x ^= x << 13
	x ^= x >> 7
	x ^= x << 17
	*n = numbers(x)
	return low + int64(x%uint64(high-low+1))
}

// point is a point with X and Y from low to high.
func (n *numbers) point(low, high int64) impl.Point {
	return impl.Point{X: n.next(low, high), Y: n.next(low, high)}
}

// points are count such points.
func (n *numbers) points(count int, low, high int64) []impl.Point {
	var list []impl.Point
	for range count {
		list = append(list, n.point(low, high))
	}
	return list
}

func at(x, y int64) impl.Point {
	return impl.Point{X: x, Y: y}
}

// lowest and highest are the bounds of X and Y.
const (
	lowest  = -impl.World
	highest = 4 * impl.World
)

// faulty are points out of bounds: by one, and so far that a program which
// reckons ahead of comparing would overflow.
func faulty() []impl.Point {
	var list []impl.Point
	for _, n := range []int64{lowest - 1, highest + 1, math.MinInt64, math.MaxInt64, math.MinInt64 + 1024, 1 << 32, -1 << 62} {
		list = append(list, at(n, 0), at(0, n), at(n, n), at(n, -n))
	}
	return list
}

// far are numbers far outside of all bounds.
var far = []int64{math.MinInt64, math.MinInt64 + 1, -1 << 32, -1 << 31, -65536, 65536, 1 << 31, 1 << 32, 1<<32 + 1, 1<<40 + 1, math.MaxInt64 - 1, math.MaxInt64}

// kindBounds are the kinds, each with its least and most points.
var kindBounds = []struct {
	kind        int64
	least, most int64
}{{impl.KindPoint, 1, 1}, {impl.KindLine, 2, 12}, {impl.KindArea, 3, 12}}

// label is a text of 0 to 6 bytes a to z.
func (n *numbers) label() string {
	var text []byte
	for range n.next(0, 6) {
		text = append(text, byte(n.next('a', 'z')))
	}
	return string(text)
}

// feature is a feature without a fault, of that Id.
func (n *numbers) feature(id int64) impl.Feature {
	k := kindBounds[n.next(0, 2)]
	return impl.Feature{
		Id: id, Layer: n.next(0, 9), Kind: k.kind, Width: n.next(0, 3), Priority: n.next(0, 9), Label: n.label(),
		Points: n.points(int(n.next(k.least, k.most)), 0, impl.World),
	}
}

// features are count features without a fault, of Ids that are all others.
func (n *numbers) features(count int) []impl.Feature {
	var list []impl.Feature
	for len(list) < count {
		id := n.next(1, 999)
		if n.next(0, 1) == 0 {
			id = n.next(1, 20)
		}
		if !slices.ContainsFunc(list, func(f impl.Feature) bool { return f.Id == id }) {
			list = append(list, n.feature(id))
		}
	}
	return list
}

// shuffle puts the list into another order.
func shuffle[T any](n *numbers, list []T) {
	for i := range list {
		k := n.next(0, int64(i))
		list[i], list[k] = list[k], list[i]
	}
}

// copyOf is the same list, in memory of its own, with points of their own.
func copyOf(list []impl.Feature) []impl.Feature {
	other := slices.Clone(list)
	for i := range other {
		other[i].Points = slices.Clone(other[i].Points)
	}
	return other
}

// spoil writes over all that the features have in memory.
func spoil(list []impl.Feature) {
	for i := range list {
		for k := range list[i].Points[:cap(list[i].Points)] {
			list[i].Points[:cap(list[i].Points)][k] = at(-7, -7)
		}
		list[i] = impl.Feature{Id: -7}
	}
}

// answered is what the functions of a layer answer.
type answered interface {
	codes() []int64
	isZero() bool // all that stands beside a code
}

// asking are the arguments of the functions of a layer.
type asking[C any, A answered] interface {
	ask() A
	copy() C        // the same in memory of its own
	memory() C      // all that it has in memory, what is behind the ends of its lists with it
	codes() []int64 // that the document asks for
}

// expectAnswers asks for P1: an answer at every argument, with the code that is
// asked for, which changes none, is zero beside a code, and is the same again
// for the same arguments elsewhere. Each of codes has to come, function by
// function, often enough.
func expectAnswers[C asking[C, A], A answered](t *testing.T, rounds int, next func() C, codes ...[]int64) {
	t.Helper()
	seen := make([]map[int64]int, len(codes))
	for i := range seen {
		seen[i] = map[int64]int{}
	}
	for range rounds {
		c := next()
		given := c.memory()
		got := c.ask()
		if !reflect.DeepEqual(given, c.memory()) {
			t.Fatalf("%v: an argument was changed", c)
		}
		if want := c.codes(); !slices.Equal(got.codes(), want) {
			t.Fatalf("%v: %v, not %v", c, got, want)
		}
		if !got.isZero() {
			t.Fatalf("%v: beside a code %v", c, got)
		}
		if again := c.copy().ask(); !reflect.DeepEqual(again, got) {
			t.Fatalf("%v, then %v", got, again)
		}
		for i, code := range got.codes() {
			seen[i][code]++
		}
	}
	for i := range codes {
		for _, code := range append([]int64{impl.OK}, codes[i]...) {
			if seen[i][code] < 10 {
				t.Error("the test asks for little", i, code, seen[i])
			}
		}
	}
}

// expectOwnMemory asks of a call whose answer was spoiled, and told once more as
// kept, that neither the arguments nor an answer hangs on that, and that no
// answer hangs on what becomes of the arguments.
func expectOwnMemory[C asking[C, A], A answered](t *testing.T, c, given C, kept A, spoil func()) {
	t.Helper()
	if !reflect.DeepEqual(given, c.memory()) {
		t.Fatalf("%v: an answer is of its memory", c)
	}
	if again := c.ask(); !reflect.DeepEqual(again, kept) {
		t.Fatalf("%v: an answer hangs on another one", c)
	}
	other := c.copy()
	spoil()
	if again := other.ask(); !reflect.DeepEqual(again, kept) {
		t.Fatalf("%v: %v was spoiled with the argument", other, kept)
	}
}
