package tests

import (
	"reflect"
	"slices"
	"testing"

	"loop.example/g00403/impl"
)

// expectAllSeen asks of a viewer that all that is seen is there or asked for, not
// both, and that nothing else is asked for.
func expectAllSeen(t *testing.T, what string, v impl.Viewer) {
	t.Helper()
	expectViewerFault(t, what, v, impl.OK)
	var missing []impl.Ref
	for _, r := range impl.VisibleRefs(v.Camera).Refs {
		isThere := impl.HasTile(v.Cache, r)
		if isThere == impl.IsAsked(v.Requests, r) {
			t.Fatalf("%s: %v is there and asked for, or neither: %v", what, r, v)
		}
		if !isThere {
			missing = append(missing, r)
		}
	}
	if !slices.Equal(eachOnce(refsAsked(v.Requests)), eachOnce(missing)) || len(v.Requests) != len(missing) {
		t.Fatalf("%s: %v is asked for, %v is missing", what, v.Requests, missing)
	}
	expectMissing(t, what, v, missing...)
}

// expectCountOnly asks that a reply changed nothing but the count.
func expectCountOnly(t *testing.T, what string, v impl.Viewer, got impl.ViewerResult) {
	t.Helper()
	if got.Code != impl.OK || got.Took || len(got.Sent) != 0 || got.Viewer.Bad != min(v.Bad+1, 9999) {
		t.Fatalf("%s: %v", what, got)
	}
	got.Viewer.Bad = v.Bad
	if !reflect.DeepEqual(got.Viewer, v) {
		t.Fatalf("%s: %v was %v", what, got.Viewer, v)
	}
}

// expectMoved asks that a move keeps all that is there, sends just what was not
// asked for, and leaves what was asked for as it is.
func expectMoved(t *testing.T, v impl.Viewer, c impl.Camera, got impl.ViewerResult) {
	t.Helper()
	if got.Code != impl.OK || got.Took || got.Viewer.Camera != c || got.Viewer.Now != v.Now || got.Viewer.Bad != v.Bad || got.Viewer.Cache.Size != v.Cache.Size {
		t.Fatalf("%v to %v: %v", v, c, got)
	}
	if !slices.Equal(eachOnce(refsIn(got.Viewer.Cache)), eachOnce(refsIn(v.Cache))) {
		t.Fatalf("%v to %v: %v was there, %v is", v.Camera, c, refsIn(v.Cache), refsIn(got.Viewer.Cache))
	}
	var sent []impl.Ref
	for _, q := range got.Viewer.Requests {
		if !impl.IsAsked(v.Requests, q.Ref) {
			sent = append(sent, q.Ref)
		} else if !slices.Contains(v.Requests, q) {
			t.Fatalf("%v to %v: %v is not as it was", v, c, q)
		}
	}
	if !slices.Equal(got.Sent, sent) {
		t.Fatalf("%v to %v: sent %v, not %v", v, c, got.Sent, sent)
	}
}

// expectLater asks that as time goes on just what is due is asked for again, and
// that all that is there stays, in its order.
func expectLater(t *testing.T, v impl.Viewer, n int64, got impl.ViewerResult) {
	t.Helper()
	var due []impl.Ref
	for i, q := range v.Requests {
		after := got.Viewer.Requests[i]
		if q.Due <= v.Now+n {
			due = append(due, q.Ref)
			q = req(q.Ref, v.Now+n+3, min(q.Tries+1, 99))
		}
		if after != q {
			t.Fatalf("%v, %d later: %v, not %v", v, n, after, q)
		}
	}
	want := v
	want.Now += n
	want.Requests = got.Viewer.Requests
	if !reflect.DeepEqual(got, impl.ViewerResult{Sent: due, Viewer: want}) || len(want.Requests) != len(v.Requests) {
		t.Fatalf("%v, %d later: %v, not %v", v, n, got, want)
	}
}

// expectTaken asks that a reply that is right is there then, and asked for no
// more, and that of what is seen nothing goes for it.
func expectTaken(t *testing.T, v impl.Viewer, r impl.Ref, tile impl.Tile, got impl.ViewerResult) {
	t.Helper()
	after := got.Viewer
	if got.Code != impl.OK || !got.Took || len(got.Sent) != 0 || after.Camera != v.Camera || after.Now != v.Now || after.Bad != v.Bad {
		t.Fatalf("%v of %v: %v", r, v, got)
	}
	last := after.Cache.Kept[len(after.Cache.Kept)-1]
	if !reflect.DeepEqual(last.Tile, tile) || impl.IsAsked(after.Requests, r) || len(after.Requests) != len(v.Requests)-1 {
		t.Fatalf("%v of %v: %v is the last one of %v", r, v, last, after)
	}
	for _, other := range impl.VisibleRefs(v.Camera).Refs {
		if impl.HasTile(v.Cache, other) && !impl.HasTile(after.Cache, other) {
			t.Fatalf("%v of %v: %v is seen, and went", r, v, other)
		}
	}
}

// walker goes through the world with a viewer, and counts what he did.
type walker struct {
	n    *numbers
	list []impl.Feature
	v    impl.Viewer
	done map[string]int
}

// move looks elsewhere, asks what came of it, and tells how.
func (w *walker) move(t *testing.T) string {
	n, v := w.n, w.v
	switch n.next(0, 2) {
	case 0:
		far := []int64{2, 9, 100}[n.next(0, 2)]
		dx, dy := n.next(-far, far), n.next(-far, far)
		got := impl.PanViewer(v, dx, dy)
		expectMoved(t, v, impl.PanCamera(v.Camera, dx, dy).Camera, got)
		w.v = got.Viewer
		return "pan"
	case 1:
		z := n.next(0, 3)
		got := impl.ZoomViewer(v, z)
		expectMoved(t, v, impl.ZoomCamera(v.Camera, z).Camera, got)
		w.v = got.Viewer
		return "zoom"
	}
	wide, high := n.next(1, 8), n.next(1, 8)
	got := impl.SizeViewer(v, wide, high)
	expectMoved(t, v, impl.SizeCamera(v.Camera, wide, high).Camera, got)
	w.v = got.Viewer
	return "size"
}

// hear takes what comes: a tile that was asked for, or anything else.
func (w *walker) hear(t *testing.T) string {
	r, data := someReply(w.n, w.list, w.v)
	got := impl.ReplyViewer(w.v, r, data)
	before := w.v
	w.v = got.Viewer
	read := impl.ReadTile(r, data)
	switch {
	case !impl.IsAsked(before.Requests, r):
		expectCountOnly(t, "not asked for", before, got)
		return "not asked for"
	case read.Code != impl.OK:
		expectCountOnly(t, "not read", before, got)
		return "not read"
	case !isRightAs(r, data):
		expectCountOnly(t, "does not reach", before, got)
		return "does not reach"
	}
	expectTaken(t, before, r, read.Tile, got)
	return "taken"
}

// wait lets time go on.
func (w *walker) wait(t *testing.T) string {
	n := min(w.n.next(0, 4), 9000-w.v.Now)
	got := impl.TickViewer(w.v, n)
	expectLater(t, w.v, n, got)
	w.v = got.Viewer
	if len(got.Sent) > 0 {
		return "due"
	}
	return "not due"
}

// err asks for something that has a code: nothing comes of it.
func (w *walker) err(t *testing.T) string {
	far := []int64{101, -101, 1 << 40, -1 << 62}[w.n.next(0, 3)]
	for _, got := range []impl.ViewerResult{impl.PanViewer(w.v, far, 0), impl.ZoomViewer(w.v, far), impl.SizeViewer(w.v, 3, far), impl.TickViewer(w.v, far)} {
		expectNoViewer(t, "far", got, impl.ErrRange)
	}
	return "far"
}

// sight is all that a viewer sees.
type sight struct {
	frame      impl.IntsResult
	isComplete bool
	labels     impl.PlacedResult
	text       impl.TextResult
}

func sightOf(v impl.Viewer) sight {
	return sight{impl.FrameOf(v), impl.IsComplete(v), impl.LabelsIn(v), impl.FrameText(v)}
}

// at is the Id that the frame of a camera has at a pixel of the world; false, if
// that is not seen.
func (s sight) at(c impl.Camera, x, y int64) (int64, bool) {
	x, y = x-c.X, y-c.Y
	if x < 0 || x >= c.W || y < 0 || y >= c.H {
		return 0, false
	}
	return s.frame.List[y*c.W+x], true
}

// expectSight asks what a step did to what is seen: nothing where nothing but a
// count or the time changed, and to no pixel where one looks elsewhere; what was
// taken is seen, and all else that is there is seen as it was.
func expectSight(t *testing.T, what string, before, after impl.Viewer) {
	t.Helper()
	was, is := sightOf(before), sightOf(after)
	if is.isComplete != (len(after.Requests) == 0) || is.isComplete != (len(impl.MissingIn(after).Refs) == 0) {
		t.Fatalf("%s: complete %v, and asked for is %v", what, is.isComplete, after.Requests)
	}
	switch what {
	case "not asked for", "not read", "does not reach", "due", "not due", "far":
		if !reflect.DeepEqual(is, was) {
			t.Fatalf("%s: %v, not %v", what, is, was)
		}
		return
	}
	c, there := after.Camera, refsIn(after.Cache)
	for place, id := range is.frame.List {
		x, y := c.X+int64(place)%c.W, c.Y+int64(place)/c.W
		if k := slices.Index(there, ref(c.Z, x/8, y/8)); k >= 0 && id != after.Cache.Kept[k].Ids[y%8*8+x%8] {
			t.Fatalf("%s: %d at %d,%d, not that of %v", what, id, x, y, after.Cache.Kept[k])
		}
		if other, ok := was.at(before.Camera, x, y); ok && before.Camera.Z == c.Z && what != "taken" && id != other {
			t.Fatalf("%s: %d at %d,%d, not %d", what, id, x, y, other)
		}
	}
}

func (w *walker) step(t *testing.T) {
	what, before := "", w.v
	most := int64(9)
	if len(w.v.Requests) == 0 {
		most = 6 // little comes of a reply where nothing was asked for
	}
	switch w.n.next(0, most) {
	case 0:
		what = w.err(t)
	case 1, 2:
		what = w.wait(t)
	case 3, 4, 5:
		what = w.move(t)
	default:
		what = w.hear(t)
	}
	w.done[what]++
	expectAllSeen(t, what, w.v)
	expectSight(t, what, before, w.v)
	if impl.IsComplete(w.v) {
		w.done["complete"]++
	} else if slices.Max(impl.FrameOf(w.v).List) > 0 {
		w.done["as far as it has come"]++
	}
}

// P14: whatever one does all that is seen is there or asked for, and nothing
// else is; what was not asked for, or is not right, changes nothing but a count;
// as time goes on just what is due is asked for again, and nothing that is there
// goes.
func TestPromise14(t *testing.T) {
	n := numbers(191)
	done := map[string]int{}
	for range 200 {
		w := &walker{n: &n, list: n.features(int(n.next(0, 5))), done: done}
		w.v = impl.NewViewer(someCamera(&n), n.next(4, 10)).Viewer
		expectAllSeen(t, "a new one", w.v)
		for range 60 {
			w.step(t)
		}
	}
	for _, what := range []string{"pan", "zoom", "size", "taken", "not asked for", "not read", "does not reach", "due", "not due", "far", "complete", "as far as it has come"} {
		if done[what] < 100 {
			t.Error("the test asks for little", what, done)
		}
	}
}

// P14: with the least cache, at the places where four tiles are seen: what comes
// takes the room of what is not seen, whatever was seen ahead.
func TestPromise14OfTheLeastCache(t *testing.T) {
	n := numbers(192)
	v := impl.NewViewer(cam(2, 4, 4, 8, 8), 4).Viewer
	full := 0
	for range 400 {
		z := n.next(1, 3)
		last := counts[z]/8 - 2
		x, y := 8*n.next(0, last)+4, 8*n.next(0, last)+4
		v = impl.ZoomViewer(v, z).Viewer
		v = impl.PanViewer(v, x-v.Camera.X, y-v.Camera.Y).Viewer
		v = impl.SizeViewer(v, 8, 8).Viewer
		expectAllSeen(t, "moved", v)
		for _, q := range v.Requests[:n.next(0, int64(len(v.Requests)))] {
			got := impl.ReplyViewer(v, q.Ref, impl.ServeTile(nil, q.Ref).Bytes)
			expectTaken(t, v, q.Ref, tileOf(q.Ref), got)
			v = got.Viewer
			expectAllSeen(t, "taken", v)
		}
		if len(v.Requests) == 0 && len(refsAs(v.Camera)) == 4 {
			full++
		}
	}
	if full < 40 {
		t.Error("the test asks for little", full)
	}
}

// P14: as time goes on one by one each tile that is missing is sent at every
// third time, until it comes, and all that is there stays.
func TestPromise14OneByOne(t *testing.T) {
	v := impl.NewViewer(four(), 6).Viewer
	ends := map[impl.Ref]int64{ref(2, 0, 0): 1, ref(2, 1, 0): 3, ref(2, 0, 1): 20, ref(2, 1, 1): 400}
	sent := map[impl.Ref][]int64{}
	for now := int64(1); now <= 420; now++ {
		for _, r := range refsAs(four()) {
			if ends[r] == now {
				got := impl.ReplyViewer(v, r, impl.ServeTile(nil, r).Bytes)
				expectTaken(t, v, r, tileOf(r), got)
				v = got.Viewer
			}
		}
		there := refsIn(v.Cache)
		got := impl.TickViewer(v, 1)
		expectLater(t, v, 1, got)
		v = got.Viewer
		for _, r := range got.Sent {
			sent[r] = append(sent[r], now)
		}
		if !slices.Equal(refsIn(v.Cache), there) {
			t.Fatalf("%v was there, %v is", there, refsIn(v.Cache))
		}
		expectAllSeen(t, "later", v)
	}
	for r, end := range ends {
		var want []int64
		for now := int64(3); now < end; now += 3 {
			want = append(want, now)
		}
		if !slices.Equal(sent[r], want) {
			t.Errorf("%v until %d: %v, not %v", r, end, sent[r], want)
		}
	}
}

// P14: each tile that is seen, one after the other, in whatever order they come,
// twice and spoiled as well.
func TestPromise14InWhateverOrder(t *testing.T) {
	n := numbers(193)
	for range 60 {
		list, c := n.features(int(n.next(1, 5))), someCamera(&n)
		v := impl.NewViewer(c, n.next(4, 10)).Viewer
		refs := refsAs(c)
		shuffle(&n, refs)
		for i, r := range refs {
			data := impl.ServeTile(list, r).Bytes
			expectCountOnly(t, "empty", v, impl.ReplyViewer(v, r, nil))
			for place := range data {
				spoiled := slices.Clone(data)
				spoiled[place] += byte(n.next(1, 255))
				expectCountOnly(t, "spoiled", v, impl.ReplyViewer(v, r, spoiled))
			}
			got := impl.ReplyViewer(v, r, data)
			expectTaken(t, v, r, impl.BuildTile(list, r).Tile, got)
			v = got.Viewer
			expectAllSeen(t, "taken", v)
			for _, again := range refs[:i+1] {
				expectCountOnly(t, "twice", v, impl.ReplyViewer(v, again, impl.ServeTile(list, again).Bytes))
			}
		}
		expectMissing(t, "all are there", v)
		expectComplete(t, "all are there", v, true)
		expectRaster(t, "all are there", impl.FrameOf(v), impl.RefFrame(list, c).List)
	}
}

// viewerAnswers is what the layer of the viewer answers of the same arguments.
type viewerAnswers struct {
	fault                                      int64
	made, panned, zoomed, sized, ticked, heard impl.ViewerResult
	missing                                    impl.RefsResult
}

// viewerCall are these arguments.
type viewerCall struct {
	v    impl.Viewer
	c    impl.Camera
	size int64
	a, b int64 // how far, how wide and high
	z, n int64
	r    impl.Ref
	data []byte
}

func (c viewerCall) ask() viewerAnswers {
	return viewerAnswers{
		fault:   impl.ViewerFault(c.v),
		made:    impl.NewViewer(c.c, c.size),
		panned:  impl.PanViewer(c.v, c.a, c.b),
		zoomed:  impl.ZoomViewer(c.v, c.z),
		sized:   impl.SizeViewer(c.v, c.a, c.b),
		ticked:  impl.TickViewer(c.v, c.n),
		heard:   impl.ReplyViewer(c.v, c.r, c.data),
		missing: impl.MissingIn(c.v),
	}
}

func copyViewer(v impl.Viewer) impl.Viewer {
	v.Cache, v.Requests = copyCache(v.Cache), slices.Clone(v.Requests)
	return v
}

// wholeViewer is all that a viewer has in memory, what is behind the ends of its
// lists with it.
func wholeViewer(v impl.Viewer) impl.Viewer {
	v.Cache, v.Requests = wholeCache(v.Cache), slices.Clone(v.Requests[:cap(v.Requests)])
	return v
}

// spoilViewer writes over all that a viewer has in memory.
func spoilViewer(v impl.Viewer) {
	spoilCache(v.Cache)
	spoilRequests(v.Requests)
}

// roomyViewer is the same viewer with room behind the ends of its lists, in which
// something stands.
func roomyViewer(n *numbers, v impl.Viewer) impl.Viewer {
	v.Cache, v.Requests = roomy(n, v.Cache), roomyRequests(v.Requests)
	return v
}

func (c viewerCall) copy() viewerCall {
	c.v, c.data = copyViewer(c.v), slices.Clone(c.data)
	return c
}

func (c viewerCall) memory() viewerCall {
	c.v, c.data = wholeViewer(c.v), slices.Clone(c.data[:cap(c.data)])
	return c
}

func (c viewerCall) spoil() {
	spoilViewer(c.v)
	spoilBytes(c.data)
}

// rangeAs is the code of numbers that have to be from low to high.
func rangeAs(low, high int64, list ...int64) int64 {
	for _, n := range list {
		if n < low || n > high {
			return impl.ErrRange
		}
	}
	return impl.OK
}

// codes are the codes that the document asks for.
func (c viewerCall) codes() []int64 {
	code, later := viewerCodeAs(c.v), rangeAs(0, 100, c.n)
	if code == impl.OK && later == impl.OK {
		later = rangeAs(0, 9000, c.v.Now+c.n)
	}
	return []int64{
		code,
		firstOf(cameraCodeAs(c.c), rangeAs(4, 10, c.size)),
		firstOf(code, rangeAs(-100, 100, c.a, c.b)),
		firstOf(code, rangeAs(0, 3, c.z)),
		firstOf(code, rangeAs(1, 8, c.a, c.b)),
		firstOf(code, later),
		code,
		code,
	}
}

func (a viewerAnswers) results() []impl.ViewerResult {
	return []impl.ViewerResult{a.made, a.panned, a.zoomed, a.sized, a.ticked, a.heard}
}

func (a viewerAnswers) codes() []int64 {
	list := []int64{a.fault}
	for _, result := range a.results() {
		list = append(list, result.Code)
	}
	return append(list, a.missing.Code)
}

// isZero tells whether all that stands beside a code is zero.
func (a viewerAnswers) isZero() bool {
	for _, result := range a.results() {
		if result.Code != impl.OK && !reflect.DeepEqual(result, impl.ViewerResult{Code: result.Code}) {
			return false
		}
	}
	return a.missing.Code == impl.OK || a.missing.Refs == nil
}

// strangeViewer is a viewer in which something may be wrong, or two things.
func strangeViewer(n *numbers) impl.Viewer {
	v := someViewer(n)
	for range n.next(0, 2) {
		switch n.next(0, 7) {
		case 0:
			v.Camera = strangeCamera(n)
		case 1:
			v.Now = strangeTime(n)
		case 2:
			v.Bad = strangeTime(n)
		case 3:
			v.Cache = strangeCache(n)
		case 4:
			v.Cache.Size = n.next(0, 11)
		case 5:
			c := v.Camera
			if cameraCodeAs(c) != impl.OK {
				c = someCamera(n)
			}
			v.Requests = strangeRequests(n, c)
		case 6:
			v.Requests = append(v.Requests, req(someRef(n), n.next(0, 9999), n.next(1, 99)))
		case 7:
			if len(v.Cache.Kept) > 0 {
				v.Requests = append(v.Requests, req(v.Cache.Kept[0].Tile.Ref, 5, 5))
			}
		}
	}
	return roomyViewer(n, v)
}

// strangeViewerCall is a call of which anything may be wrong.
func strangeViewerCall(n *numbers) viewerCall {
	c := viewerCall{v: strangeViewer(n), c: strangeCamera(n), size: n.next(3, 11), a: n.next(0, 9), b: n.next(0, 9), z: n.next(-1, 4), n: n.next(-1, 4), r: strangeRef(n), data: strangeBytes(n)}
	switch n.next(0, 9) {
	case 0:
		c.size, c.a = strangeNumber(n), strangeNumber(n)
	case 1:
		c.z, c.b = strangeNumber(n), strangeNumber(n)
	case 2:
		c.a, c.b, c.n = n.next(-101, 101), n.next(-101, 101), strangeNumber(n)
	case 3:
		c.a, c.n = n.next(-101, -99), n.next(99, 101)
	}
	if count := int64(len(c.v.Requests)); count > 0 && n.next(0, 2) > 0 {
		c.r = c.v.Requests[n.next(0, count-1)].Ref
	}
	if n.next(0, 1) == 0 {
		c.data = append(impl.ServeTile(n.features(2), c.r).Bytes, 1, 2)
		c.data = c.data[:len(c.data)-2]
	}
	return c
}

// P1, chapter 13: an answer at every argument.
func TestPromise1OfViewers(t *testing.T) {
	n := numbers(194)
	of := []int64{impl.ErrForm, impl.ErrMany, impl.ErrRange, impl.ErrTaken, impl.ErrState}
	took := 0
	expectAnswers(t, 5000, func() viewerCall {
		c := strangeViewerCall(&n)
		if c.copy().ask().heard.Took {
			took++
		}
		return c
	}, of, []int64{impl.ErrRange}, of, of, of, of, of, of)
	if took < 300 {
		t.Error("the test asks for little", took)
	}
	c := viewerCall{v: looking(four(), 5, cacheOf(4, tileOf(ref(2, 0, 0)))), c: four(), size: 4, a: 1, b: 1, r: ref(2, 1, 1)}
	other := c.copy()
	other.v.Requests, other.data = []impl.Request{}, []byte{}
	other.v.Cache.Kept[0].Tile.Features = []impl.Feature{}
	if !reflect.DeepEqual(c.ask(), other.ask()) {
		t.Error("an empty list is not nil")
	}
	c.v.Cache.Kept, other.v.Cache.Kept = nil, []impl.Kept{}
	if !reflect.DeepEqual(c.ask(), other.ask()) {
		t.Error("an empty cache is not nil")
	}
}

// someViewerCall is a call without a fault, of a tile that is asked for and comes
// as it is.
func someViewerCall(n *numbers) viewerCall {
	v := someViewer(n)
	for len(v.Requests) == 0 || v.Now > 8900 {
		v = someViewer(n)
	}
	r := v.Requests[n.next(0, int64(len(v.Requests)-1))].Ref
	data := impl.ServeTile(n.features(int(n.next(0, 4))), r).Bytes
	return viewerCall{
		v: roomyViewer(n, v), c: someCamera(n), size: n.next(4, 10), a: n.next(1, 8), b: n.next(1, 8), z: n.next(0, 3), n: n.next(0, 100), r: r,
		data: append(slices.Clone(data), 1, 2, 3)[:len(data)],
	}
}

// spoilResult writes over all that an answer has in memory, one list after the
// other, and asks that none of them hangs on one ahead.
func spoilResult(t *testing.T, got, want impl.ViewerResult) {
	t.Helper()
	for k := range got.Sent[:cap(got.Sent)] {
		got.Sent[:cap(got.Sent)][k] = ref(-7, -7, -7)
	}
	if !reflect.DeepEqual(got.Viewer, want.Viewer) {
		t.Fatalf("%v: what was sent shares memory", want)
	}
	spoilRequests(got.Viewer.Requests)
	for k := range got.Viewer.Cache.Kept {
		if !reflect.DeepEqual(got.Viewer.Cache.Kept[k:], want.Viewer.Cache.Kept[k:]) {
			t.Fatalf("%v: %d of one answer shares memory with one ahead", want, k)
		}
		for m, f := range got.Viewer.Cache.Kept[k].Tile.Features {
			if !reflect.DeepEqual(f, want.Viewer.Cache.Kept[k].Tile.Features[m]) {
				t.Fatalf("%v: two features of %d share memory", want, k)
			}
			spoil(got.Viewer.Cache.Kept[k].Tile.Features[m : m+1])
		}
		spoilKept(got.Viewer.Cache.Kept[k])
	}
	spoilViewer(got.Viewer)
}

// P1, chapter 13: an answer shares no memory with an argument, nor with another
// answer, and no two of its lists share any.
func TestPromise1OfViewersNewMemory(t *testing.T) {
	n := numbers(195)
	for range 1000 {
		c := someViewerCall(&n)
		given := c.memory()
		got, kept := c.ask(), c.ask()
		if firstOf(kept.codes()...) != impl.OK || !kept.heard.Took {
			t.Fatalf("%v: %v", c, kept)
		}
		for i, result := range got.results() {
			spoilResult(t, result, kept.results()[i])
		}
		for k := range got.missing.Refs[:cap(got.missing.Refs)] {
			got.missing.Refs[:cap(got.missing.Refs)][k] = ref(-7, -7, -7)
		}
		expectOwnMemory(t, c, given, kept, c.spoil)
	}
}

// P1, chapter 13: so it is of a reply that changes nothing but the count.
func TestPromise1OfBadRepliesNewMemory(t *testing.T) {
	n := numbers(196)
	for range 500 {
		c := someViewerCall(&n)
		c.data = c.data[:n.next(0, int64(len(c.data)-1))]
		given := c.memory()
		got, kept := c.ask(), c.ask()
		if kept.heard.Took || kept.heard.Viewer.Bad != min(c.v.Bad+1, 9999) {
			t.Fatalf("%v: %v", c, kept.heard)
		}
		spoilResult(t, got.heard, kept.heard)
		expectOwnMemory(t, c, given, kept, c.spoil)
	}
}

// P1, chapter 13: tiles that share memory in a viewer that is given do not share
// any in an answer.
func TestPromise1OfViewersWithSharedMemory(t *testing.T) {
	features, ids := two(), plain(0)
	cache := impl.Cache{Size: 5}
	for _, r := range []impl.Ref{ref(2, 2, 2), ref(2, 3, 2), ref(2, 3, 3)} {
		cache.Kept = append(cache.Kept, impl.Kept{Tile: tileOf(r, features...), Ids: ids})
	}
	v := looking(cam(2, 20, 20, 8, 8), 5, cache, req(ref(2, 2, 3), 6, 1))
	expectViewerFault(t, "shared", v, impl.OK)
	for _, got := range []impl.ViewerResult{
		impl.PanViewer(v, 0, 0), impl.ZoomViewer(v, 1), impl.SizeViewer(v, 2, 2), impl.TickViewer(v, 5),
		impl.ReplyViewer(v, ref(2, 2, 3), listAs(nil)), impl.ReplyViewer(v, ref(2, 2, 3), nil),
	} {
		want := got
		want.Viewer = copyViewer(got.Viewer)
		spoilResult(t, got, want)
		if !reflect.DeepEqual(features, two()) || !slices.Equal(ids, plain(0)) || v.Requests[0] != req(ref(2, 2, 3), 6, 1) {
			t.Fatal("the argument was spoiled", v)
		}
	}
}

// P1, chapter 13: of an answer two others are told, and neither changes it or the
// other one.
func TestPromise1OfViewersFromOneAnswer(t *testing.T) {
	n := numbers(197)
	for range 300 {
		c := someViewerCall(&n)
		from := impl.PanViewer(c.v, 0, 0).Viewer
		given := copyViewer(from)
		c.v = from
		first := c.ask()
		other := c
		other.a, other.b, other.z, other.n = 9-c.a, 9-c.b, 3-c.z, 100-c.n
		other.data = nil
		kept := c.copy().ask()
		other.ask()
		if !reflect.DeepEqual(first, kept) || !reflect.DeepEqual(from, given) {
			t.Fatalf("%v: %v, then %v", given, kept, first)
		}
	}
}

// P1, chapter 13: nothing is kept from call to call: the same viewer tells the
// same, whatever others were told in between.
func TestPromise1OfViewersKeepsNothing(t *testing.T) {
	n := numbers(198)
	var calls []viewerCall
	var answers []viewerAnswers
	for range 200 {
		c := someViewerCall(&n)
		calls, answers = append(calls, c), append(answers, c.ask())
	}
	for i, c := range slices.Backward(calls) {
		if got := c.ask(); !reflect.DeepEqual(got, answers[i]) {
			t.Fatalf("%v: %v, then %v", c, answers[i], got)
		}
	}
}
