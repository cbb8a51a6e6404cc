package tests

import (
	"reflect"
	"slices"
	"testing"

	"loop.example/g00403/impl"
)

// expectPicks asks for P15 at each pixel of the frame, and tells how many labels
// were picked, how many of them over something else, and how much else.
func expectPicks(t *testing.T, v impl.Viewer) (labels, over, others int) {
	t.Helper()
	frame, placed := impl.FrameOf(v), impl.LabelsIn(v)
	c := v.Camera
	if frame.Code != impl.OK || placed.Code != impl.OK || int64(len(frame.List)) != c.W*c.H {
		t.Fatalf("%v: %v and %v", v, frame, placed)
	}
	for place, id := range frame.List {
		x, y := int64(place)%c.W, int64(place)/c.W
		got := impl.PickIn(v, x, y)
		label := impl.LabelAt(placed.Placed, c.X+x, c.Y+y)
		if got.Code != impl.OK || label.Code != impl.OK {
			t.Fatalf("%v at %d,%d: %v, %v", v, x, y, got, label)
		}
		isOfALabel := slices.ContainsFunc(placed.Placed, func(p impl.Placed) bool {
			return p.Id == got.Value && hasPixel(p, box(0, c.X+x, c.Y+y, 1, 1))
		})
		switch {
		case isOfALabel && label.Value == got.Value:
			labels++
			if id != got.Value {
				over++
			}
		case label.Value == 0 && got.Value == id:
			others += min(int(id), 1)
		default:
			t.Fatalf("%v at %d,%d: %v, the label is %v, the frame has %d", v, x, y, got, label, id)
		}
	}
	return labels, over, others
}

// P15: what is picked is a label, or what the frame has there: of viewers to whom
// all, some and none of what is seen is there.
func TestPromise15(t *testing.T) {
	n := numbers(211)
	labels, over, others := 0, 0, 0
	for i := range 500 {
		v := someGazer(&n)
		if i%4 == 0 {
			v = someViewer(&n)
		}
		a, b, c := expectPicks(t, v)
		labels, over, others = labels+a, over+b, others+c
	}
	if labels < 1000 || over < 500 || others < 1000 {
		t.Error("the test asks for little", labels, over, others)
	}
}

// P15: so it is of a viewer that came of a new one, whatever he did.
func TestPromise15OfSteps(t *testing.T) {
	n := numbers(212)
	labels, over, others := 0, 0, 0
	for range 30 {
		v := impl.NewViewer(someCamera(&n), n.next(4, 10)).Viewer
		list := namedCrowd(&n, v.Camera)
		s := seatOf(v)
		for range 14 {
			_, got, _ := stepOf(&n, list, v, s)
			v = got.Viewer
			a, b, c := expectPicks(t, v)
			labels, over, others = labels+a, over+b, others+c
		}
	}
	if labels < 200 || over < 100 || others < 200 {
		t.Error("the test asks for little", labels, over, others)
	}
}

// P15: with a full frame of labels, of one row, of one column and of one pixel.
func TestPromise15AtTheEdges(t *testing.T) {
	c := cam(2, 4, 4, 8, 8)
	if labels, _, others := expectPicks(t, seeing(c, crammed(c)...)); labels != 64 || others != 0 {
		t.Error(labels, others)
	}
	for _, c := range []impl.Camera{cam(2, 4, 9, 8, 1), cam(2, 9, 4, 1, 8), cam(2, 7, 7, 1, 1), cam(2, 8, 8, 1, 1), cam(3, 63, 63, 1, 1), cam(0, 0, 7, 8, 1)} {
		r := refsAs(c)[0]
		land := wide(impl.KindArea, 0, at(0, 0), at(1024, 0), at(1024, 1024), at(0, 1024))
		land.Id, land.Layer, land.Label = 9, 0, ""
		v := seeing(c, tileOf(r, land, named(5, 0, c.Z, c.X, c.Y, "a")))
		if labels, _, others := expectPicks(t, v); labels != int(min(c.W, 2)*min(c.H, 3)) || labels+others < int(c.W*c.H)/2 {
			t.Error(c, labels, others)
		}
	}
}

// frameAnswers is what the layer of frames answers of the same arguments.
type frameAnswers struct {
	frame      impl.IntsResult
	isComplete bool
	labels     impl.PlacedResult
	picked     impl.IntResult
	text       impl.TextResult
}

// frameCall are these arguments.
type frameCall struct {
	v    impl.Viewer
	x, y int64
}

func (c frameCall) ask() frameAnswers {
	return frameAnswers{
		frame:      impl.FrameOf(c.v),
		isComplete: impl.IsComplete(c.v),
		labels:     impl.LabelsIn(c.v),
		picked:     impl.PickIn(c.v, c.x, c.y),
		text:       impl.FrameText(c.v),
	}
}

func (c frameCall) copy() frameCall {
	c.v = copyViewer(c.v)
	return c
}

func (c frameCall) memory() frameCall {
	c.v = wholeViewer(c.v)
	return c
}

// codes are the codes that the document asks for.
func (c frameCall) codes() []int64 {
	code, outside := viewerCodeAs(c.v), int64(impl.OK)
	if c.x < 0 || c.x >= c.v.Camera.W || c.y < 0 || c.y >= c.v.Camera.H {
		outside = impl.ErrRange
	}
	return []int64{
		code,
		isSeenAs(code == impl.OK && isCompleteAs(c.v)),
		code,
		firstOf(code, outside),
		code,
	}
}

func (a frameAnswers) codes() []int64 {
	return []int64{a.frame.Code, isSeenAs(a.isComplete), a.labels.Code, a.picked.Code, a.text.Code}
}

// isZero tells whether all that stands beside a code is zero.
func (a frameAnswers) isZero() bool {
	return (a.frame.Code == impl.OK || a.frame.List == nil) &&
		(a.labels.Code == impl.OK || a.labels.Placed == nil) &&
		(a.picked.Code == impl.OK || a.picked.Value == 0) &&
		(a.text.Code == impl.OK || a.text.Text == "")
}

// strangeFrameCall is a call of which anything may be wrong.
func strangeFrameCall(n *numbers) frameCall {
	c := frameCall{v: strangeViewer(n), x: n.next(-1, 8), y: n.next(-1, 8)}
	if n.next(0, 1) == 0 {
		c.x, c.y = n.next(0, 2), n.next(0, 2)
	}
	switch n.next(0, 9) {
	case 0:
		c.x = strangeNumber(n)
	case 1:
		c.y = strangeNumber(n)
	}
	return c
}

// P1, chapter 14: an answer at every argument.
func TestPromise1OfFrames(t *testing.T) {
	n := numbers(213)
	of := []int64{impl.ErrForm, impl.ErrMany, impl.ErrRange, impl.ErrTaken, impl.ErrState}
	expectAnswers(t, 9000, func() frameCall { return strangeFrameCall(&n) }, of, []int64{1}, of, of, of)
	c := frameCall{v: looking(four(), 5, cacheOf(4, tileOf(ref(2, 0, 0)))), x: 1, y: 1}
	other := c.copy()
	other.v.Requests = []impl.Request{}
	other.v.Cache.Kept[0].Tile.Features = []impl.Feature{}
	if !reflect.DeepEqual(c.ask(), other.ask()) {
		t.Error("an empty list is not nil")
	}
	c.v.Cache.Kept, other.v.Cache.Kept = nil, []impl.Kept{}
	if !reflect.DeepEqual(c.ask(), other.ask()) {
		t.Error("an empty cache is not nil")
	}
}

// someFrameCall is a call without a fault.
func someFrameCall(n *numbers) frameCall {
	v := someGazer(n)
	return frameCall{v: roomyViewer(n, v), x: n.next(0, v.Camera.W-1), y: n.next(0, v.Camera.H-1)}
}

// P1, chapter 14: an answer shares no memory with an argument, nor with another
// answer, and none hangs on what became of those.
func TestPromise1OfFramesNewMemory(t *testing.T) {
	n := numbers(214)
	seen := 0
	for range 1000 {
		c := someFrameCall(&n)
		given := c.memory()
		got, kept := c.ask(), c.ask()
		if firstOf(kept.frame.Code, kept.labels.Code, kept.picked.Code, kept.text.Code) != impl.OK {
			t.Fatalf("%v: %v", c, kept)
		}
		seen += len(kept.labels.Placed)
		spoilInts(got.frame.List[:cap(got.frame.List)])
		spoilPlaced(got.labels.Placed)
		expectOwnMemory(t, c, given, kept, func() { spoilViewer(c.v) })
	}
	if seen < 500 {
		t.Error("the test asks for little", seen)
	}
}

// P1, chapter 14: a frame that is just one tile that is there is not its raster
// in memory.
func TestPromise1OfFramesOfOneTile(t *testing.T) {
	for _, r := range []impl.Ref{ref(0, 0, 0), ref(2, 1, 3), ref(3, 7, 7)} {
		v := seeing(cam(r.Z, 8*r.X, 8*r.Y, 8, 8), stripes(r, 10, true))
		want := slices.Clone(v.Cache.Kept[0].Ids)
		got, other := impl.FrameOf(v).List, impl.FrameOf(v).List
		spoilInts(got)
		if !slices.Equal(v.Cache.Kept[0].Ids, want) || !slices.Equal(other, want) {
			t.Fatalf("%v: an answer is of its memory", r)
		}
		spoilInts(v.Cache.Kept[0].Ids)
		if !slices.Equal(other, want) {
			t.Fatalf("%v: %v was spoiled with the argument", r, other)
		}
	}
}

// P1, chapter 14: tiles that share memory in a viewer that is given are read
// alone.
func TestPromise1OfFramesWithSharedMemory(t *testing.T) {
	features, ids := two(), plain(0)
	cache := impl.Cache{Size: 5}
	for _, r := range []impl.Ref{ref(2, 2, 2), ref(2, 3, 2), ref(2, 3, 3), ref(1, 1, 1)} {
		cache.Kept = append(cache.Kept, impl.Kept{Tile: tileOf(r, features...), Ids: ids})
	}
	c := frameCall{v: looking(cam(2, 20, 20, 8, 8), 5, cache, req(ref(2, 2, 3), 6, 1)), x: 3, y: 4}
	expectViewerFault(t, "shared", c.v, impl.OK)
	if got, want := c.ask(), c.copy().ask(); !reflect.DeepEqual(got, want) {
		t.Fatalf("%v, not %v", got, want)
	}
	if !reflect.DeepEqual(features, two()) || !slices.Equal(ids, plain(0)) {
		t.Fatal("the argument was changed", c.v)
	}
}

// P1, chapter 14: what is seen does not hang on the order in which tiles are
// kept, nor on what was asked for, nor on the time.
func TestPromise1OfFramesInWhateverOrder(t *testing.T) {
	n := numbers(215)
	for range 300 {
		c := someFrameCall(&n)
		want := c.ask()
		for range 3 {
			other := c.copy()
			shuffle(&n, other.v.Cache.Kept)
			other.v.Now, other.v.Bad = n.next(0, 9000), n.next(0, 9999)
			other.v.Requests = other.v.Requests[:n.next(0, int64(len(other.v.Requests)))]
			if got := other.ask(); !reflect.DeepEqual(got, want) {
				t.Fatalf("%v: %v, not %v", other, got, want)
			}
		}
	}
}

// P1, chapter 14: nothing is kept from call to call: the same viewer sees the
// same, whatever others saw in between.
func TestPromise1OfFramesKeepsNothing(t *testing.T) {
	n := numbers(216)
	var calls []frameCall
	var answers []frameAnswers
	for range 200 {
		c := someFrameCall(&n)
		calls, answers = append(calls, c), append(answers, c.ask())
	}
	for i, c := range slices.Backward(calls) {
		if got := c.ask(); !reflect.DeepEqual(got, answers[i]) {
			t.Fatalf("%v: %v, then %v", c, answers[i], got)
		}
	}
}
