package tests

import (
	"reflect"
	"slices"
	"testing"

	"loop.example/g00403/impl"
)

// expectInWorld asks of a camera that was told to see nothing but pixels of the
// world, as many as it says.
func expectInWorld(t *testing.T, from impl.Camera, got impl.CameraResult) {
	t.Helper()
	c := got.Camera
	if got.Code != impl.OK || impl.CameraFault(c) != impl.OK {
		t.Fatalf("%v: %v, with the fault %d", from, got, impl.CameraFault(c))
	}
	if len(impl.RefFrame(nil, c).List) != int(c.W*c.H) {
		t.Fatalf("%v: %v sees %v", from, c, impl.RefFrame(nil, c))
	}
	for _, x := range []int64{c.X, c.X + c.W - 1} {
		for _, y := range []int64{c.Y, c.Y + c.H - 1} {
			if code := impl.CentreOf(c.Z, x, y).Code; code != impl.OK {
				t.Fatalf("%v: %v sees %d,%d, which is no pixel", from, c, x, y)
			}
		}
	}
}

// P10: a camera stays in the world, wherever it goes, one step after the other.
func TestPromise10StaysInTheWorld(t *testing.T) {
	n := numbers(111)
	c := cam(0, 0, 0, 8, 8)
	atBorder := 0
	for range 30000 {
		var got impl.CameraResult
		switch n.next(0, 3) {
		case 0:
			got = impl.PanCamera(c, n.next(-100, 100), n.next(-100, 100))
		case 1:
			got = impl.PanCamera(c, n.next(-9, 9), n.next(-9, 9))
		case 2:
			got = impl.ZoomCamera(c, n.next(0, 3))
		case 3:
			got = impl.SizeCamera(c, n.next(1, 8), n.next(1, 8))
		}
		expectInWorld(t, c, got)
		c = got.Camera
		if c.X+c.W == counts[c.Z] || c.Y+c.H == counts[c.Z] {
			atBorder++
		}
	}
	if atBorder < 5000 {
		t.Error("the test asks for little", atBorder)
	}
}

// P10: the same of each camera by each zoom, and, at the borders of the world,
// by steps over each of them and by each size.
func TestPromise10EachStaysInTheWorld(t *testing.T) {
	steps := []int64{-100, -8, -1, 0, 1, 8, 100}
	for _, c := range manyCameras() {
		for z := range int64(4) {
			if impl.CameraFault(impl.ZoomCamera(c, z).Camera) != impl.OK {
				t.Fatalf("%v to %d: %v", c, z, impl.ZoomCamera(c, z))
			}
		}
		last := counts[c.Z] - 1
		if c.X > 0 && c.Y > 0 && c.X+c.W <= last && c.Y+c.H <= last {
			continue
		}
		for _, step := range steps {
			if a, b := impl.PanCamera(c, step, 0).Camera, impl.PanCamera(c, -step, step).Camera; impl.CameraFault(a) != impl.OK || impl.CameraFault(b) != impl.OK {
				t.Fatalf("%v by %d: %v, %v", c, step, a, b)
			}
		}
		for _, size := range views {
			if a := impl.SizeCamera(c, size, 9-size).Camera; impl.CameraFault(a) != impl.OK || a.W != size || a.H != 9-size {
				t.Fatalf("%v of %d: %v", c, size, a)
			}
		}
	}
}

// P10: a camera that goes there and back within the world is where it was: by
// one step, and by several.
func TestPromise10ThereAndBack(t *testing.T) {
	n := numbers(112)
	for range 20000 {
		c := someCamera(&n)
		var steps [][2]int64
		there := c
		for range n.next(1, 4) {
			x, y := n.next(0, counts[c.Z]-c.W), n.next(0, counts[c.Z]-c.H)
			step := [2]int64{x - there.X, y - there.Y}
			expectCamera(t, "there", impl.PanCamera(there, step[0], step[1]), cam(c.Z, x, y, c.W, c.H))
			steps, there = append(steps, step), cam(c.Z, x, y, c.W, c.H)
		}
		for _, step := range slices.Backward(steps) {
			there = impl.PanCamera(there, -step[0], -step[1]).Camera
		}
		if there != c {
			t.Fatalf("%v, by %v and back: %v", c, steps, there)
		}
	}
}

// P10: a camera that comes nearer and goes back is where it was, by each zoom
// above its own, and on each way of several.
func TestPromise10NearerAndBack(t *testing.T) {
	for _, c := range manyCameras() {
		for z := c.Z + 1; z <= impl.MaxZoom; z++ {
			near := impl.ZoomCamera(c, z)
			expectCamera(t, "back", impl.ZoomCamera(near.Camera, c.Z), c)
			if between := impl.ZoomCamera(impl.ZoomCamera(c, c.Z+1).Camera, z); between != near {
				t.Fatalf("%v to %d: %v, zoom by zoom %v", c, z, near, between)
			}
			back := near.Camera
			for back.Z > c.Z {
				back = impl.ZoomCamera(back, back.Z-1).Camera
			}
			if back != c {
				t.Fatalf("%v to %d, and back zoom by zoom: %v", c, z, back)
			}
		}
	}
}

// P10: a camera that gets another size within the world, and its own again, is
// where it was.
func TestPromise10SizeAndBack(t *testing.T) {
	n := numbers(113)
	held := 0
	for range 20000 {
		c, w, h := someCamera(&n), n.next(1, 8), n.next(1, 8)
		there := impl.SizeCamera(c, w, h).Camera
		if c.X+w > counts[c.Z] || c.Y+h > counts[c.Z] {
			held++
			continue
		}
		if there.X != c.X || there.Y != c.Y {
			t.Fatalf("%v of %d, %d: %v", c, w, h, there)
		}
		expectCamera(t, "back", impl.SizeCamera(there, c.W, c.H), c)
	}
	if held < 2000 || held > 15000 {
		t.Error("the test asks for little", held)
	}
}

// P10: the tiles that are seen are just those of the pixels that are seen, at
// most four.
func TestPromise10JustWhatIsSeen(t *testing.T) {
	for _, c := range manyCameras() {
		got := impl.VisibleRefs(c)
		if got.Code != impl.OK || len(got.Refs) < 1 || len(got.Refs) > 4 {
			t.Fatalf("%v: %v", c, got)
		}
		var used [4]bool
		for y := c.Y; y < c.Y+c.H; y++ {
			for x := c.X; x < c.X+c.W; x++ {
				place := slices.Index(got.Refs, impl.RefAt(c.Z, x, y).Ref)
				if place < 0 {
					t.Fatalf("%v: the tile of %d,%d is not in %v", c, x, y, got)
				}
				used[place] = true
			}
		}
		for i, r := range got.Refs {
			if !used[i] {
				t.Fatalf("%v: no pixel of %v is seen", c, r)
			}
			if i > 0 && (r.Y < got.Refs[i-1].Y || r.Y == got.Refs[i-1].Y && r.X <= got.Refs[i-1].X) {
				t.Fatalf("%v: %v does not rise", c, got)
			}
		}
	}
}

// P10: a ref is seen just where one of its pixels is.
func TestPromise10SeenJustWhereAPixelIs(t *testing.T) {
	n := numbers(114)
	for range 3000 {
		c := someCamera(&n)
		for _, r := range allRefs() {
			within := r.Z == c.Z && r.X*8 < c.X+c.W && c.X < r.X*8+8 && r.Y*8 < c.Y+c.H && c.Y < r.Y*8+8
			if impl.IsSeen(c, r) != within {
				t.Fatalf("%v sees %v: %v", c, r, !within)
			}
		}
	}
}

// P10: what a camera sees is what the tiles that are seen have there.
func TestPromise10FrameOfTheTiles(t *testing.T) {
	n := numbers(115)
	for range 200 {
		list, c := crowd(&n), someCamera(&n)
		rasters := map[impl.Ref][]int64{}
		for _, r := range impl.VisibleRefs(c).Refs {
			rasters[r] = impl.RefRaster(list, r).List
		}
		for place, id := range impl.RefFrame(list, c).List {
			x, y := c.X+int64(place)%c.W, c.Y+int64(place)/c.W
			if want := rasters[impl.RefAt(c.Z, x, y).Ref][y%8*8+x%8]; id != want {
				t.Fatalf("%v of %v, at %d,%d: %d, not %d", c, list, x, y, id, want)
			}
		}
	}
}

// cameraAnswers is what the layer of cameras answers of the same arguments.
type cameraAnswers struct {
	fault               int64
	panned, near, sized impl.CameraResult
	refs                impl.RefsResult
	frame               impl.IntsResult
	isSeen              bool
}

// cameraCall are these arguments.
type cameraCall struct {
	c               impl.Camera
	dx, dy, z, w, h int64
	list            []impl.Feature
	r               impl.Ref
}

func (c cameraCall) ask() cameraAnswers {
	return cameraAnswers{
		fault:  impl.CameraFault(c.c),
		panned: impl.PanCamera(c.c, c.dx, c.dy),
		near:   impl.ZoomCamera(c.c, c.z),
		sized:  impl.SizeCamera(c.c, c.w, c.h),
		refs:   impl.VisibleRefs(c.c),
		frame:  impl.RefFrame(c.list, c.c),
		isSeen: impl.IsSeen(c.c, c.r),
	}
}

// copy is the same call in memory of its own.
func (c cameraCall) copy() cameraCall {
	c.list = copyOf(c.list)
	return c
}

// memory is all that a call has in memory, what is behind the ends of its lists
// with it.
func (c cameraCall) memory() cameraCall {
	c.list = whole(c.list)
	return c
}

// strangeCamera is a camera of which up to two numbers may be wrong.
func strangeCamera(n *numbers) impl.Camera {
	c := someCamera(n)
	if n.next(0, 1) == 0 {
		return c
	}
	for range n.next(1, 2) {
		field := []*int64{&c.Z, &c.X, &c.Y, &c.W, &c.H}[n.next(0, 4)]
		switch n.next(0, 2) {
		case 0:
			*field = strangeNumber(n)
		case 1:
			*field = n.next(-1, 9)
		case 2:
			*field += n.next(-1, 1)
		}
	}
	return c
}

// strangeCameraCall is a call of which anything may be wrong.
func strangeCameraCall(n *numbers) cameraCall {
	c := cameraCall{
		c: strangeCamera(n), dx: n.next(-101, 101), dy: n.next(-101, 101), z: n.next(-1, 4), w: n.next(0, 9), h: n.next(0, 9),
		list: strangeFeatures(n), r: strangeRef(n),
	}
	switch n.next(0, 9) {
	case 0:
		c.dx = strangeNumber(n)
	case 1:
		c.dy = strangeNumber(n)
	case 2:
		c.z = strangeNumber(n)
	case 3:
		c.w = strangeNumber(n)
	case 4:
		c.h = strangeNumber(n)
	case 5:
		c.r = impl.RefAt(c.c.Z, c.c.X, c.c.Y).Ref
	}
	return c
}

// isSeenAs is the last one of codes: 1 where the ref is seen.
func isSeenAs(isSeen bool) int64 {
	if isSeen {
		return 1
	}
	return 0
}

// codes are the codes that the document asks for.
func (c cameraCall) codes() []int64 {
	fault := cameraCodeAs(c.c)
	bounded := func(low, high int64, list ...int64) int64 {
		if slices.Min(list) < low || slices.Max(list) > high {
			return impl.ErrRange
		}
		return impl.OK
	}
	return []int64{
		fault,
		firstOf(fault, bounded(-100, 100, c.dx, c.dy)),
		firstOf(fault, bounded(0, 3, c.z)),
		firstOf(fault, bounded(1, 8, c.w, c.h)),
		fault,
		firstOf(fault, impl.FeaturesFault(c.list)),
		isSeenAs(fault == impl.OK && slices.Contains(refsAs(c.c), c.r)),
	}
}

func (a cameraAnswers) codes() []int64 {
	return []int64{a.fault, a.panned.Code, a.near.Code, a.sized.Code, a.refs.Code, a.frame.Code, isSeenAs(a.isSeen)}
}

// isZero tells whether all that stands beside a code is zero.
func (a cameraAnswers) isZero() bool {
	for _, result := range []impl.CameraResult{a.panned, a.near, a.sized} {
		if result.Code != impl.OK && result.Camera != (impl.Camera{}) {
			return false
		}
	}
	return (a.refs.Code == impl.OK || a.refs.Refs == nil) && (a.frame.Code == impl.OK || a.frame.List == nil)
}

// P1, chapter 9: an answer at every argument.
func TestPromise1OfCameras(t *testing.T) {
	n := numbers(116)
	of := []int64{impl.ErrRange}
	expectAnswers(t, 8000, func() cameraCall { return strangeCameraCall(&n) },
		of, of, of, of, of, []int64{impl.ErrRange, impl.ErrMany, impl.ErrText, impl.ErrTaken}, []int64{1})
	for _, c := range append(wrongCameras(), cam(3, 0, 0, 8, 8)) {
		if !reflect.DeepEqual(cameraCall{c: c}.ask(), cameraCall{c: c, list: []impl.Feature{}}.ask()) {
			t.Error("an empty list is not nil", c)
		}
	}
}

// P1, chapter 9: an answer shares no memory with an argument, nor with another
// answer, and none hangs on what became of those.
func TestPromise1OfCamerasNewMemory(t *testing.T) {
	n := numbers(117)
	for range 500 {
		c := cameraCall{c: someCamera(&n), w: 1, h: 1, list: append(crowd(&n), n.feature(1))}
		c.list = c.list[:len(c.list)-1]
		given := c.memory()
		got, kept := c.ask(), c.ask()
		if firstOf(kept.codes()[:6]...) != impl.OK {
			t.Fatalf("%v: %v", c, kept)
		}
		spoilInts(got.frame.List)
		for i := range got.refs.Refs[:cap(got.refs.Refs)] {
			got.refs.Refs[:cap(got.refs.Refs)][i] = ref(-7, -7, -7)
		}
		expectOwnMemory(t, c, given, kept, func() { spoil(c.list) })
	}
}

// P1, chapter 9: what is seen does not hang on the order in which features
// came.
func TestPromise1OfCamerasInWhateverOrder(t *testing.T) {
	n := numbers(118)
	for range 200 {
		list, c := crowd(&n), someCamera(&n)
		expectInWhateverOrder(t, &n, list, func() impl.IntsResult { return impl.RefFrame(list, c) })
	}
}
