package tests

import (
	"math"
	"reflect"
	"slices"
	"testing"

	"loop.example/g00403/impl"
)

// P4: on the grid, not more than half of it away, and there to stay.
func TestPromise4Snapped(t *testing.T) {
	n := numbers(45)
	for range 20000 {
		p, z := n.point(0, impl.World), n.next(0, 3)
		grid := impl.UnitAt(z).Value / 4
		got := impl.SnapPoint(p, z)
		q := got.Point
		if got.Code != impl.OK || q.X%grid != 0 || q.Y%grid != 0 || 2*max(q.X-p.X, p.X-q.X) > grid || 2*max(q.Y-p.Y, p.Y-q.Y) > grid {
			t.Fatalf("%v at %d: %v", p, z, got)
		}
		if again := impl.SnapPoint(q, z); again != got {
			t.Fatalf("%v at %d: %v, then %v", p, z, got, again)
		}
	}
}

// P4: the same of lists; of them no two that are alike stand behind one another.
func TestPromise4SnappedLists(t *testing.T) {
	n := numbers(46)
	for range 4000 {
		list, z := narrow(&n).Points, n.next(0, 3)
		got := impl.SnapAll(list, z)
		if got.Code != impl.OK || len(got.Points) == 0 || !reflect.DeepEqual(impl.SnapAll(got.Points, z), got) {
			t.Fatalf("%v at %d: %v", list, z, got)
		}
		place := -1
		for _, p := range list {
			q := impl.SnapPoint(p, z).Point
			if place < 0 || got.Points[place] != q {
				place++
			}
			if place == len(got.Points) || got.Points[place] != q {
				t.Fatalf("%v at %d: %v lacks %v", list, z, got, q)
			}
		}
		if place != len(got.Points)-1 || len(slices.Compact(slices.Clone(got.Points))) != len(got.Points) {
			t.Fatalf("%v at %d: %v has too many", list, z, got)
		}
	}
}

// isNearLine tells whether p is near one of the segments of the line.
func isNearLine(p impl.Point, line []impl.Point, r int64) bool {
	for i := range len(line) - 1 {
		if impl.IsNear(p, line[i], line[i+1], r) {
			return true
		}
	}
	return len(line) == 1 && line[0] == p
}

// P4: the ends stay, what stays is of the line and in its order, and what goes
// is near what stays.
func TestPromise4Thinned(t *testing.T) {
	n := numbers(47)
	for i := range 6000 {
		span := bounds[i%len(bounds)]
		list, r := n.points(int(n.next(1, 40)), span[0], span[1]), n.next(0, 4096)
		if i%2 == 0 {
			r = n.next(0, 6)
		}
		got := impl.ThinLine(list, r)
		stay := got.Points
		if got.Code != impl.OK || len(stay) != min(len(list), max(2, len(stay))) || stay[0] != list[0] || stay[len(stay)-1] != list[len(list)-1] {
			t.Fatalf("%v by %d: %v", list, r, got)
		}
		place := 0
		for _, p := range list {
			if place < len(stay) && stay[place] == p {
				place++
			}
			if !isNearLine(p, stay, r) {
				t.Fatalf("%v by %d: %v is not near %v", list, r, p, got)
			}
		}
		if place != len(stay) {
			t.Fatalf("%v by %d: %v is not of it", list, r, got)
		}
	}
}

// P4: a feature with fewer points has no fault, lies on the grid, and has all
// else as it was.
func TestPromise4Simple(t *testing.T) {
	n := numbers(48)
	for i := range 8000 {
		f, z := narrow(&n), n.next(0, 3)
		if i%3 == 0 {
			f = n.feature(f.Id)
		}
		got := impl.SimpleAt(f, z)
		least := kindBounds[f.Kind-1].least
		if got.Code != impl.OK || impl.FeatureFault(got.Feature) != impl.OK || len(got.Feature.Points) > len(f.Points) || int64(len(got.Feature.Points)) < least {
			t.Fatalf("%v at %d: %v", f, z, got)
		}
		if got.Feature.Points[0] != impl.SnapPoint(f.Points[0], z).Point {
			t.Fatalf("%v at %d: %v begins elsewhere", f, z, got)
		}
		for _, p := range got.Feature.Points {
			if impl.SnapPoint(p, z).Point != p {
				t.Fatalf("%v at %d: %v is not on the grid", f, z, p)
			}
		}
		if f.Kind == impl.KindLine {
			last := impl.SnapPoint(f.Points[len(f.Points)-1], z).Point
			if got.Feature.Points[len(got.Feature.Points)-1] != last {
				t.Fatalf("%v at %d: %v ends elsewhere", f, z, got)
			}
			for _, p := range f.Points {
				if !isNearLine(impl.SnapPoint(p, z).Point, got.Feature.Points, units[z]/4) {
					t.Fatalf("%v at %d: %v went from %v", f, z, p, got)
				}
			}
		}
		got.Feature.Points = f.Points
		if !reflect.DeepEqual(got.Feature, f) {
			t.Fatalf("%v at %d became %v", f, z, got.Feature)
		}
	}
}

// simpleAnswers is what the layer of fewer points answers of the same
// arguments.
type simpleAnswers struct {
	unit   impl.IntResult
	point  impl.PointResult
	all    impl.PointsResult
	thin   impl.PointsResult
	simple impl.FeatureResult
}

func askSimple(p impl.Point, list []impl.Point, r int64, f impl.Feature, z int64) simpleAnswers {
	return simpleAnswers{
		unit:   impl.UnitAt(z),
		point:  impl.SnapPoint(p, z),
		all:    impl.SnapAll(list, z),
		thin:   impl.ThinLine(list, r),
		simple: impl.SimpleAt(f, z),
	}
}

// strangeLine is a list of points in the world, or one with too many or wrong
// ones, with room behind its end.
func strangeLine(n *numbers) []impl.Point {
	list := n.points(int(n.next(0, 14)), 0, impl.World)
	if n.next(0, 2) == 0 {
		list = strangeList(n)
	}
	return append(list, at(1, 1), at(2, 2))[:len(list)]
}

// P1, chapter 3: an answer at every argument, which changes none, is zero
// beside a code, and is the same again for the same arguments elsewhere.
func TestPromise1OfFewerPoints(t *testing.T) {
	n := numbers(49)
	zooms := []int64{-1, 0, 1, 2, 3, 4, math.MinInt64, math.MaxInt64}
	for range 8000 {
		p, list, r, f, z := strangePoint(&n), strangeLine(&n), strange[n.next(0, int64(len(strange)-1))], strangeFeature(&n), zooms[n.next(0, int64(len(zooms)-1))]
		f.Points = append(f.Points, at(1, 1))[:len(f.Points)]
		all, before := slices.Clone(list[:cap(list)]), whole([]impl.Feature{f})
		got := askSimple(p, list, r, f, z)
		if !slices.Equal(all, list[:cap(list)]) || !reflect.DeepEqual(before, whole([]impl.Feature{f})) {
			t.Fatalf("%v %v: an argument was changed", list, f)
		}
		if got.unit.Code != impl.OK && got.unit.Value != 0 || got.point.Code != impl.OK && got.point.Point != at(0, 0) ||
			got.all.Code != impl.OK && got.all.Points != nil || got.thin.Code != impl.OK && got.thin.Points != nil ||
			got.simple.Code != impl.OK && !reflect.DeepEqual(got.simple.Feature, impl.Feature{}) {
			t.Fatalf("beside a code: %v", got)
		}
		if again := askSimple(p, slices.Clone(list), r, copyOf([]impl.Feature{f})[0], z); !reflect.DeepEqual(again, got) {
			t.Fatalf("%v, then %v", got, again)
		}
	}
	if !reflect.DeepEqual(askSimple(at(1, 1), nil, 1, impl.Feature{}, 1), askSimple(at(1, 1), []impl.Point{}, 1, impl.Feature{Points: []impl.Point{}}, 1)) {
		t.Error("an empty list is not nil")
	}
}

// P1, chapter 3: an answer shares no memory with an argument, nor with an
// answer that was given ahead.
func TestPromise1OfFewerPointsNewMemory(t *testing.T) {
	n := numbers(50)
	for range 1000 {
		f, z := n.feature(5), n.next(0, 3)
		for i := range f.Points { // on the grid already: nothing would have to change
			f.Points[i] = impl.SnapPoint(f.Points[i], z).Point
		}
		f.Points = append(slices.Clone(f.Points), at(1, 1))[:len(f.Points)]
		simple, all, thin := impl.SimpleAt(f, z).Feature, impl.SnapAll(f.Points, z).Points, impl.ThinLine(f.Points, 0).Points
		kept := [][]impl.Point{slices.Clone(simple.Points), slices.Clone(all), slices.Clone(thin)}
		given := whole([]impl.Feature{f})
		for _, list := range [][]impl.Point{simple.Points, all, thin} {
			for i := range list[:cap(list)] {
				list[:cap(list)][i] = at(-7, -7)
			}
		}
		if !reflect.DeepEqual(given, whole([]impl.Feature{f})) {
			t.Fatalf("%v: an answer is of its memory", f)
		}
		if !slices.Equal(impl.SimpleAt(f, z).Feature.Points, kept[0]) || !slices.Equal(impl.SnapAll(f.Points, z).Points, kept[1]) || !slices.Equal(impl.ThinLine(f.Points, 0).Points, kept[2]) {
			t.Fatalf("%v: an answer hangs on another one", f)
		}
	}
}
