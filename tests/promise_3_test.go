package tests

import (
	"math"
	"reflect"
	"slices"
	"testing"

	"loop.example/g00403/impl"
)

// P3: a feature is read back from its text.
func TestPromise3FeatureReadBack(t *testing.T) {
	n := numbers(31)
	for range 20000 {
		f := n.feature(n.next(1, 999))
		text := impl.FeatureText(f)
		back := impl.ParseFeature(text.Text)
		if text.Code != impl.OK || !isText(text.Text) || back.Code != impl.OK || !reflect.DeepEqual(back.Feature, f) || !impl.SameFeatures([]impl.Feature{back.Feature}, []impl.Feature{f}) {
			t.Fatalf("%v: %v, and back %v", f, text, back)
		}
	}
}

// P3: at the edges of all that a feature has, all of them together.
func TestPromise3FeatureReadBackAtTheEdges(t *testing.T) {
	for _, k := range kindBounds {
		for _, count := range []int64{k.least, k.most} {
			for _, label := range []string{"", "a", "zzzzzz"} {
				for bits := range 64 {
					end := func(bit int, low, high int64) int64 {
						if bits>>bit&1 == 0 {
							return low
						}
						return high
					}
					f := impl.Feature{
						Id: end(0, 1, 999), Layer: end(1, 0, 9), Kind: k.kind, Width: end(2, 0, 3), Priority: end(3, 0, 9), Label: label,
						Points: slices.Repeat([]impl.Point{at(end(4, 0, impl.World), end(5, 0, impl.World))}, int(count)),
					}
					if back := impl.ParseFeature(impl.FeatureText(f).Text); back.Code != impl.OK || !reflect.DeepEqual(back.Feature, f) {
						t.Fatalf("%v: back %v", f, back)
					}
				}
			}
		}
	}
}

// P3: in order they are the same ones, whatever order they had.
func TestPromise3SameOnesInOrder(t *testing.T) {
	n := numbers(32)
	for i := range 3000 {
		list := n.features(int(n.next(0, 12)))
		if i%4 == 0 {
			for k := range list {
				list[k].Layer = 5
			}
		}
		sorted := impl.SortFeatures(list)
		if sorted.Code != impl.OK || len(sorted.Features) != len(list) {
			t.Fatalf("%v: %v", list, sorted)
		}
		for k, f := range sorted.Features {
			if !slices.ContainsFunc(list, func(g impl.Feature) bool { return reflect.DeepEqual(f, g) }) {
				t.Fatalf("%v is none of %v", f, list)
			}
			if k > 0 {
				ahead := sorted.Features[k-1]
				if ahead.Layer > f.Layer || ahead.Layer == f.Layer && ahead.Id >= f.Id {
					t.Fatalf("%v ahead of %v", ahead, f)
				}
			}
		}
		other := copyOf(list)
		for range 4 {
			shuffle(&n, other)
			if got := impl.SortFeatures(other); !reflect.DeepEqual(got, sorted) || !impl.SameFeatures(got.Features, sorted.Features) {
				t.Fatalf("%v: %v, and of another order %v", list, sorted, got)
			}
		}
		if got := impl.SortFeatures(sorted.Features); !reflect.DeepEqual(got, sorted) {
			t.Fatalf("in order already: %v, then %v", sorted, got)
		}
	}
}

// strangeNumber is a number at, beside, or far outside of the bounds.
func strangeNumber(n *numbers) int64 {
	edges := []int64{-1, 0, 1, 2, 3, 4, 9, 10, 12, 13, 999, 1000, 1024, 1025, math.MinInt64, math.MaxInt64, 1 << 32, -1 << 32}
	return edges[n.next(0, int64(len(edges)-1))]
}

// strangeFeature is a feature in which up to three things may be wrong.
func strangeFeature(n *numbers) impl.Feature {
	f := n.feature(n.next(1, 999))
	for range n.next(0, 3) {
		switch n.next(0, 7) {
		case 0:
			f.Id = strangeNumber(n)
		case 1:
			f.Layer = strangeNumber(n)
		case 2:
			f.Kind = strangeNumber(n)
		case 3:
			f.Width = strangeNumber(n)
		case 4:
			f.Priority = strangeNumber(n)
		case 5:
			f.Label = []string{"", "abcdefg", "A", " ", "\xff", "ab c"}[n.next(0, 5)]
		case 6:
			f.Points = n.points(int(n.next(0, 14)), 0, impl.World)
		case 7:
			if len(f.Points) > 0 {
				f.Points[n.next(0, int64(len(f.Points)-1))] = at(strangeNumber(n), strangeNumber(n))
			}
		}
	}
	return f
}

// featureAnswers is what the layer of features answers of the same arguments.
type featureAnswers struct {
	fault, listFault int64
	text             impl.TextResult
	parsed           impl.FeatureResult
	sorted           impl.FeaturesResult
	same             bool
}

func askFeatures(f impl.Feature, list, other []impl.Feature, text string) featureAnswers {
	return featureAnswers{
		fault:     impl.FeatureFault(f),
		listFault: impl.FeaturesFault(list),
		text:      impl.FeatureText(f),
		parsed:    impl.ParseFeature(text),
		sorted:    impl.SortFeatures(list),
		same:      impl.SameFeatures(list, other),
	}
}

// strangeFeatures are features of which some may be wrong, and of which each
// has room behind its points, and the list room behind its end.
func strangeFeatures(n *numbers) []impl.Feature {
	list := n.features(int(n.next(0, 14)))
	if len(list) > 0 && n.next(0, 3) == 0 {
		list[n.next(0, int64(len(list)-1))] = strangeFeature(n)
	}
	if len(list) > 0 && n.next(0, 3) == 0 {
		list[n.next(0, int64(len(list)-1))].Id = list[0].Id
	}
	for i := range list {
		list[i].Points = append(list[i].Points, at(1, 1))[:len(list[i].Points)]
	}
	return append(list, n.feature(1), n.feature(2))[:len(list)]
}

// whole is all that a list has in memory, what is behind its ends with it.
func whole(list []impl.Feature) []impl.Feature {
	all := slices.Clone(list[:cap(list)])
	for i := range all {
		all[i].Points = slices.Clone(all[i].Points[:cap(all[i].Points)])
	}
	return all
}

// P1, chapter 2: an answer at every argument, which changes none, is zero
// beside a code, and is the same again for the same arguments elsewhere.
func TestPromise1OfFeatures(t *testing.T) {
	n := numbers(33)
	for range 6000 {
		list, other, f := strangeFeatures(&n), strangeFeatures(&n), strangeFeature(&n)
		text := impl.FeatureText(n.feature(n.next(1, 999))).Text
		if n.next(0, 1) == 0 {
			text = text[:n.next(0, int64(len(text)))]
		}
		before := [][]impl.Feature{whole(list), whole(other), whole([]impl.Feature{f})}
		got := askFeatures(f, list, other, text)
		if !reflect.DeepEqual(before, [][]impl.Feature{whole(list), whole(other), whole([]impl.Feature{f})}) {
			t.Fatalf("%v: an argument was changed", before)
		}
		if got.text.Code != got.fault || got.sorted.Code != got.listFault || (got.text.Text == "") != (got.fault != impl.OK) ||
			got.listFault != impl.OK && got.sorted.Features != nil || got.parsed.Code != impl.OK && !reflect.DeepEqual(got.parsed.Feature, impl.Feature{}) {
			t.Fatalf("%v %v: %v", f, list, got)
		}
		if again := askFeatures(copyOf([]impl.Feature{f})[0], copyOf(list), copyOf(other), text); !reflect.DeepEqual(again, got) {
			t.Fatalf("%v, then %v", got, again)
		}
	}
}

// P1, chapter 2: an answer shares no memory with an argument, and no two lists
// of one answer share any.
func TestPromise1OfFeaturesNewMemory(t *testing.T) {
	n := numbers(34)
	for range 500 {
		list := n.features(int(n.next(1, 12)))
		before := copyOf(list)
		sorted := impl.SortFeatures(list)
		want := copyOf(sorted.Features)
		spoil(list)
		if !reflect.DeepEqual(sorted.Features, want) {
			t.Fatal("what was sorted shares memory with what was given")
		}
		again := impl.SortFeatures(before)
		spoil(again.Features[:1])
		if len(want) > 1 && !reflect.DeepEqual(again.Features[1:], want[1:]) {
			t.Fatal("two features share memory")
		}
		_ = append(sorted.Features[0].Points, at(-7, -7))
		if !reflect.DeepEqual(sorted.Features, want) {
			t.Fatal("what is behind one list is another one")
		}
	}
	// two features of an argument may share their points
	shared := n.points(2, 0, 9)
	list := numbered(1, 2)
	list[0].Points, list[1].Points = shared, shared
	sorted := impl.SortFeatures(list).Features
	sorted[0].Points[0] = at(-7, -7)
	if shared[0] == at(-7, -7) || sorted[1].Points[0] == at(-7, -7) {
		t.Error("points that two features share are shared by the answer")
	}
	a, b := impl.ParseFeature(roadText), impl.ParseFeature(roadText)
	a.Feature.Points[0] = at(-7, -7)
	if b.Feature.Points[0] != at(1, 2) || impl.ParseFeature(roadText).Feature.Points[0] != at(1, 2) {
		t.Error("two features that were read share memory")
	}
}
