package tests

import (
	"fmt"
	"math"
	"reflect"
	"slices"
	"testing"

	"loop.example/g00403/impl"
)

func cam(z, x, y, w, h int64) impl.Camera {
	return impl.Camera{Z: z, X: x, Y: y, W: w, H: h}
}

// crossed is a camera with X and Y, and W and H, the other way round.
func crossed(c impl.Camera) impl.Camera {
	return cam(c.Z, c.Y, c.X, c.H, c.W)
}

// camerasOf are all cameras of a zoom with one of these widths and one of these
// heights, at each place where they see nothing but the world.
func camerasOf(z int64, widths, heights []int64) []impl.Camera {
	var list []impl.Camera
	for _, w := range widths {
		for _, h := range heights {
			for y := range counts[z] - h + 1 {
				for x := range counts[z] - w + 1 {
					list = append(list, cam(z, x, y, w, h))
				}
			}
		}
	}
	return list
}

// views are all widths and heights that a camera may have.
var views = []int64{1, 2, 3, 4, 5, 6, 7, 8}

// manyCameras are all cameras of the first three zooms, and of the last one all
// places of some sizes.
func manyCameras() []impl.Camera {
	var list []impl.Camera
	for z := range int64(3) {
		list = append(list, camerasOf(z, views, views)...)
	}
	return append(list, camerasOf(3, []int64{1, 4, 7, 8}, []int64{1, 2, 5, 8})...)
}

// someCamera is a camera without a fault, often at a border of the world.
func someCamera(n *numbers) impl.Camera {
	c := cam(n.next(0, 3), 0, 0, n.next(1, 8), n.next(1, 8))
	place := func(size int64) int64 {
		last := counts[c.Z] - size
		switch n.next(0, 5) {
		case 0:
			return 0
		case 1:
			return last
		}
		return n.next(0, last)
	}
	c.X, c.Y = place(c.W), place(c.H)
	return c
}

// wrongCameras are cameras with a fault: of one number by one on each side and
// far, and of all of them.
func wrongCameras() []impl.Camera {
	var list []impl.Camera
	add := func(c impl.Camera) {
		list = append(list, c, crossed(c))
	}
	for z, count := range counts {
		z := int64(z)
		for _, size := range []int64{1, 2, 7, 8} {
			for _, bad := range outsideOf(0, count-size) {
				add(cam(z, bad, 0, size, 1))
				add(cam(z, bad, count-8, size, 8))
				add(cam(z, bad, bad, size, size))
			}
			for _, bad := range outsideOf(1, 8) {
				add(cam(z, 0, 0, bad, size))
				add(cam(z, count-size, count-size, bad, size))
				add(cam(z, 0, 0, bad, bad))
			}
		}
		for _, bad := range far {
			add(cam(z, bad, 0, -bad, 1))
			add(cam(z, bad, 0, bad, 1))
			add(cam(z, math.MaxInt64, 0, math.MaxInt64, 1))
			add(cam(z, math.MinInt64, 0, math.MinInt64, 1))
		}
	}
	for _, z := range noZooms {
		add(cam(z, 0, 0, 1, 1))
		add(cam(z, 4, 7, 4, 1))
		add(cam(z, z, z, z, z))
	}
	return append(list, impl.Camera{})
}

// cameraCodeAs is the code of a camera by what the document says of it.
func cameraCodeAs(c impl.Camera) int64 {
	if !slices.Contains([]int64{0, 1, 2, 3}, c.Z) || !slices.Contains(views, c.W) || !slices.Contains(views, c.H) {
		return impl.ErrRange
	}
	for _, side := range [][2]int64{{c.X, c.W}, {c.Y, c.H}} {
		for step := range side[1] {
			if side[0] < -step || side[0] > counts[c.Z]-1-step {
				return impl.ErrRange
			}
		}
	}
	return impl.OK
}

func expectCameraFault(t *testing.T, what string, c impl.Camera, want int64) {
	t.Helper()
	if got := impl.CameraFault(c); got != want {
		t.Errorf("%s: %v: %d, not %d", what, c, got, want)
	}
}

func TestMaxView(t *testing.T) {
	if impl.MaxView != 8 {
		t.Error(impl.MaxView)
	}
}

func TestCameraFault(t *testing.T) {
	const ok, wrong = impl.OK, impl.ErrRange
	for _, c := range []struct {
		what string
		c    impl.Camera
		want int64
	}{
		{"the first zoom, all of it", cam(0, 0, 0, 8, 8), ok},
		{"the last zoom", cam(3, 0, 0, 8, 8), ok},
		{"a zoom below", cam(-1, 0, 0, 8, 8), wrong},
		{"a zoom above", cam(4, 0, 0, 8, 8), wrong},
		{"the least size", cam(1, 5, 6, 1, 1), ok},
		{"the greatest size", cam(1, 5, 6, 8, 8), ok},
		{"no size", cam(1, 5, 6, 0, 0), wrong},
		{"no width", cam(1, 5, 6, 0, 1), wrong},
		{"a width below", cam(1, 5, 6, -1, 1), wrong},
		{"a width above", cam(1, 5, 6, 9, 1), wrong},
		{"a width above at the nearest zoom", cam(3, 0, 0, 9, 8), wrong},
		{"the first X", cam(1, 0, 3, 4, 4), ok},
		{"an X below", cam(1, -1, 3, 4, 4), wrong},
		{"the last X", cam(1, 12, 3, 4, 4), ok},
		{"an X above, whose last pixel is outside", cam(1, 13, 3, 4, 4), wrong},
		{"the last X of one pixel", cam(1, 15, 3, 1, 4), ok},
		{"an X that is no pixel", cam(1, 16, 3, 1, 4), wrong},
		{"all of the first zoom but 1 more", cam(0, 1, 0, 8, 8), wrong},
		{"the last X of the greatest width", cam(3, 56, 0, 8, 8), ok},
		{"one more", cam(3, 57, 0, 8, 8), wrong},
		{"an X of another zoom", cam(2, 56, 0, 8, 8), wrong},
	} {
		expectCameraFault(t, c.what, c.c, c.want)
		expectCameraFault(t, c.what+", the other way", crossed(c.c), c.want)
	}
	expectCameraFault(t, "nothing", impl.Camera{}, wrong)
}

func TestCameraFaultOfAll(t *testing.T) {
	for _, c := range manyCameras() {
		expectCameraFault(t, "in the world", c, impl.OK)
	}
	for _, c := range wrongCameras() {
		expectCameraFault(t, "not in the world", c, impl.ErrRange)
	}
	for z := int64(-1); z <= 4; z++ {
		for x := int64(-2); x <= 66; x++ {
			for w := int64(-1); w <= 10; w++ {
				for _, other := range [][2]int64{{0, 1}, {5, 3}, {8, 1}, {57, 8}} {
					c := cam(z, x, other[0], w, other[1])
					expectCameraFault(t, "around it", c, cameraCodeAs(c))
					expectCameraFault(t, "around it, the other way", crossed(c), cameraCodeAs(c))
				}
			}
		}
	}
}

func expectCamera(t *testing.T, what string, got impl.CameraResult, want impl.Camera) {
	t.Helper()
	if got != (impl.CameraResult{Camera: want}) {
		t.Errorf("%s: %v, not %v", what, got, want)
	}
}

func expectNoCamera(t *testing.T, what string, got impl.CameraResult) {
	t.Helper()
	if got != (impl.CameraResult{Code: impl.ErrRange}) {
		t.Errorf("%s: %v", what, got)
	}
}

func TestPanCamera(t *testing.T) {
	for _, c := range []struct {
		what    string
		c, want impl.Camera
		dx, dy  int64
	}{
		{"nowhere", cam(1, 5, 6, 4, 3), cam(1, 5, 6, 4, 3), 0, 0},
		{"not held", cam(1, 5, 6, 4, 3), cam(1, 7, 3, 4, 3), 2, -3},
		{"not held, the other way", cam(1, 5, 6, 4, 3), cam(1, 1, 13, 4, 3), -4, 7},
		{"just to the first pixel", cam(1, 5, 6, 4, 3), cam(1, 0, 6, 4, 3), -5, 0},
		{"held at the first X", cam(1, 5, 6, 4, 3), cam(1, 0, 6, 4, 3), -6, 0},
		{"just to the last pixel", cam(1, 5, 6, 4, 3), cam(1, 12, 6, 4, 3), 7, 0},
		{"held at the last X", cam(1, 5, 6, 4, 3), cam(1, 12, 6, 4, 3), 8, 0},
		{"held at the first Y", cam(1, 5, 6, 4, 3), cam(1, 5, 0, 4, 3), 0, -7},
		{"held at the last Y", cam(1, 5, 6, 4, 3), cam(1, 5, 13, 4, 3), 0, 8},
		{"held at one of them", cam(1, 5, 6, 4, 3), cam(1, 0, 9, 4, 3), -6, 3},
		{"held at both", cam(1, 5, 6, 4, 3), cam(1, 12, 0, 4, 3), 99, -99},
		{"the farthest", cam(3, 60, 0, 1, 1), cam(3, 0, 63, 1, 1), -100, 100},
		{"the farthest, the other way", cam(3, 0, 60, 8, 1), cam(3, 56, 0, 8, 1), 100, -100},
		{"where there is no room", cam(0, 0, 0, 8, 8), cam(0, 0, 0, 8, 8), 1, -1},
		{"where there is little", cam(0, 0, 0, 7, 8), cam(0, 1, 0, 7, 8), 3, 3},
		{"one pixel over all the world", cam(3, 0, 0, 1, 1), cam(3, 63, 63, 1, 1), 63, 63},
		{"one pixel, not so far", cam(3, 0, 0, 1, 1), cam(3, 62, 61, 1, 1), 62, 61},
	} {
		expectCamera(t, c.what, impl.PanCamera(c.c, c.dx, c.dy), c.want)
		expectCamera(t, c.what+", crossed", impl.PanCamera(crossed(c.c), c.dy, c.dx), crossed(c.want))
	}
}

// heldAs is a number, of those from 0 to last, or the one of these that is
// nearest.
func heldAs(n, last int64) int64 {
	near := int64(0)
	for k := range last + 1 {
		if (n-k)*(n-k) < (n-near)*(n-near) {
			near = k
		}
	}
	return near
}

func TestPanCameraAgainstTheDocument(t *testing.T) {
	n := numbers(108)
	held := map[[2]bool]int{}
	for range 20000 {
		c := someCamera(&n)
		most := []int64{2, 9, 40, 100}[n.next(0, 3)]
		dx, dy := n.next(-most, most), n.next(-most, most)
		want := cam(c.Z, heldAs(c.X+dx, counts[c.Z]-c.W), heldAs(c.Y+dy, counts[c.Z]-c.H), c.W, c.H)
		expectCamera(t, fmt.Sprint(c, dx, dy), impl.PanCamera(c, dx, dy), want)
		held[[2]bool{want.X != c.X+dx, want.Y != c.Y+dy}]++
	}
	for way, count := range held {
		if count < 2000 || len(held) != 4 {
			t.Error("the test asks for little", way, count)
		}
	}
}

// There and back, where it is held at no border; where it is held, it is not
// back.
func TestPanCameraThereAndBack(t *testing.T) {
	c := cam(2, 10, 20, 5, 6)
	for dx := int64(-12); dx <= 19; dx++ {
		for dy := int64(-22); dy <= 8; dy++ {
			want := c
			want.X = c.X + max(0, -10-dx) - max(0, dx-17)
			want.Y = c.Y + max(0, -20-dy) - max(0, dy-6)
			there := impl.PanCamera(c, dx, dy).Camera
			expectCamera(t, fmt.Sprint(dx, dy), impl.PanCamera(there, -dx, -dy), want)
		}
	}
}

func TestPanCameraWrong(t *testing.T) {
	good := []impl.Camera{cam(0, 0, 0, 8, 8), cam(1, 5, 6, 4, 3), cam(3, 63, 63, 1, 1)}
	for _, bad := range outsideOf(-100, 100) {
		for _, c := range good {
			for _, other := range []int64{-100, 0, 100, bad} {
				expectNoCamera(t, fmt.Sprint(c, bad, other), impl.PanCamera(c, bad, other))
				expectNoCamera(t, fmt.Sprint(c, other, bad), impl.PanCamera(c, other, bad))
			}
		}
	}
	for _, c := range good {
		for _, d := range [][2]int64{{-100, -100}, {-100, 100}, {100, -100}, {100, 100}} {
			if got := impl.PanCamera(c, d[0], d[1]); got.Code != impl.OK {
				t.Error(c, d, got)
			}
		}
	}
	for _, c := range wrongCameras() {
		for _, d := range []int64{0, 1, -1, 100, 101, math.MinInt64, math.MaxInt64} {
			expectNoCamera(t, fmt.Sprint(c, d), impl.PanCamera(c, d, -d))
			expectNoCamera(t, fmt.Sprint(c, d), impl.PanCamera(c, 0, d))
		}
	}
}

// What is told of X and W by hand; of Y and H it is the same.
func TestZoomCamera(t *testing.T) {
	for _, c := range []struct {
		what       string
		z, x, w    int64
		to, wanted int64
	}{
		{"the example", 1, 4, 4, 2, 10},
		{"up by one, odd", 1, 4, 3, 2, 9},
		{"up by one, one wide", 1, 4, 1, 2, 8},
		{"up by one, eight wide", 1, 4, 8, 2, 12},
		{"up by two", 1, 4, 4, 3, 22},
		{"up by two, odd", 1, 4, 5, 3, 22},
		{"up by three", 0, 3, 2, 3, 31},
		{"up by three, odd", 0, 3, 3, 3, 31},
		{"down by one, even", 2, 10, 4, 1, 4},
		{"down by one, a half", 2, 11, 4, 1, 4},
		{"down by one, odd", 2, 11, 5, 1, 4},
		{"down by one, odd, a half", 2, 12, 3, 1, 5},
		{"down by one, one wide", 2, 13, 1, 1, 6},
		{"down by two", 3, 40, 6, 1, 7},
		{"down by two, three fourths", 3, 40, 7, 1, 7},
		{"down by two, odd", 3, 42, 5, 1, 9},
		{"down by three", 3, 40, 3, 0, 4},
		{"down by three, seven eighths", 3, 44, 7, 0, 1},
		{"down by three, one wide", 3, 47, 1, 0, 5},
		{"down by three, where there is no room", 3, 56, 8, 0, 0},
		{"at the first pixel, down, held", 1, 0, 4, 0, 0},
		{"at the first pixel, down, one wide", 1, 0, 1, 0, 0},
		{"at the first pixel, down, held by more", 3, 0, 8, 1, 0},
		{"beside the first pixel, down, held", 2, 3, 8, 1, 0},
		{"so near that it is not held", 2, 4, 8, 1, 0},
		{"nearer", 2, 6, 8, 1, 1},
		{"at the last pixel, down, held", 1, 12, 4, 0, 4},
		{"at the last pixel, down, held, odd", 2, 25, 7, 1, 9},
		{"at the last pixel, down, one wide", 3, 63, 1, 2, 31},
		{"at the last pixel, down by three, held", 3, 60, 4, 0, 4},
		{"beside the last pixel, down, held", 2, 22, 8, 1, 8},
		{"so near that it is not held, odd", 2, 21, 8, 1, 8},
		{"farther", 2, 19, 8, 1, 7},
		{"at the first pixel, up", 0, 0, 8, 1, 4},
		{"at the first pixel, up, one wide", 0, 0, 1, 3, 0},
		{"at the first pixel, up, two wide", 0, 0, 2, 1, 1},
		{"at the last pixel, up", 0, 7, 1, 1, 14},
		{"at the last pixel, up, two wide", 0, 6, 2, 1, 13},
		{"at the last pixel, up by three, three wide", 0, 5, 3, 3, 47},
		{"all of the world, up by three", 0, 0, 8, 3, 28},
		{"all of it, up by three, seven wide", 0, 1, 7, 3, 29},
	} {
		if want := (impl.CameraResult{Camera: cam(c.to, c.wanted, c.wanted, c.w, c.w)}); impl.ZoomCamera(cam(c.z, c.x, c.x, c.w, c.w), c.to) != want {
			t.Errorf("%s: %v, not %v", c.what, impl.ZoomCamera(cam(c.z, c.x, c.x, c.w, c.w), c.to), want)
		}
	}
}

// At each corner of the world, with W and H of their own.
func TestZoomCameraCorners(t *testing.T) {
	for _, c := range []struct {
		c    impl.Camera
		to   int64
		want impl.Camera
	}{
		{cam(2, 0, 0, 5, 4), 1, cam(1, 0, 0, 5, 4)},
		{cam(2, 27, 0, 5, 4), 1, cam(1, 11, 0, 5, 4)},
		{cam(2, 0, 28, 5, 4), 1, cam(1, 0, 12, 5, 4)},
		{cam(2, 27, 28, 5, 4), 1, cam(1, 11, 12, 5, 4)},
		{cam(2, 0, 0, 5, 4), 3, cam(3, 2, 2, 5, 4)},
		{cam(2, 27, 0, 5, 4), 3, cam(3, 56, 2, 5, 4)},
		{cam(2, 0, 28, 5, 4), 3, cam(3, 2, 58, 5, 4)},
		{cam(2, 27, 28, 5, 4), 3, cam(3, 56, 58, 5, 4)},
		{cam(2, 0, 0, 5, 4), 0, cam(0, 0, 0, 5, 4)},
		{cam(2, 27, 0, 5, 4), 0, cam(0, 3, 0, 5, 4)},
		{cam(2, 0, 28, 5, 4), 0, cam(0, 0, 4, 5, 4)},
		{cam(2, 27, 28, 5, 4), 0, cam(0, 3, 4, 5, 4)},
		{cam(3, 56, 12, 8, 1), 0, cam(0, 0, 1, 8, 1)},
		{cam(3, 30, 63, 3, 1), 1, cam(1, 6, 15, 3, 1)},
	} {
		expectCamera(t, fmt.Sprint(c.c, c.to), impl.ZoomCamera(c.c, c.to), c.want)
		expectCamera(t, fmt.Sprint(c.c, c.to, " crossed"), impl.ZoomCamera(crossed(c.c), c.to), crossed(c.want))
	}
}

// zoomAs is where a camera of that X and W, or Y and H, is at another zoom, by
// what the document says of it: all halves at once, since rounding down at each
// of them comes to the same.
func zoomAs(z, x, w, to int64) int64 {
	middle := int64(math.Floor(float64(x+w/2) * math.Pow(2, float64(to-z))))
	return heldAs(middle-w/2, counts[to]-w)
}

func TestZoomCameraAgainstTheDocument(t *testing.T) {
	for z, count := range counts {
		z := int64(z)
		for to := range int64(4) {
			for _, w := range views {
				for x := range count - w + 1 {
					h := 1 + (x+w)%8
					y := (x * 5) % (count - h + 1)
					want := cam(to, zoomAs(z, x, w, to), zoomAs(z, y, h, to), w, h)
					expectCamera(t, fmt.Sprint(z, x, y, w, h, to), impl.ZoomCamera(cam(z, x, y, w, h), to), want)
				}
			}
		}
	}
}

func TestZoomCameraToItsOwn(t *testing.T) {
	for _, c := range manyCameras() {
		expectCamera(t, fmt.Sprint(c), impl.ZoomCamera(c, c.Z), c)
	}
}

func TestZoomCameraWrong(t *testing.T) {
	for _, z := range noZooms {
		for _, c := range []impl.Camera{cam(0, 0, 0, 8, 8), cam(1, 5, 6, 4, 3), cam(3, 63, 63, 1, 1)} {
			expectNoCamera(t, fmt.Sprint(c, z), impl.ZoomCamera(c, z))
		}
	}
	for _, c := range wrongCameras() {
		for _, z := range []int64{0, 1, 2, 3, 4, -1, c.Z, math.MinInt64, math.MaxInt64} {
			expectNoCamera(t, fmt.Sprint(c, z), impl.ZoomCamera(c, z))
		}
	}
}

func TestSizeCamera(t *testing.T) {
	for _, c := range []struct {
		what    string
		c, want impl.Camera
	}{
		{"its own", cam(1, 5, 6, 4, 3), cam(1, 5, 6, 4, 3)},
		{"a greater one", cam(1, 5, 6, 4, 3), cam(1, 5, 6, 7, 8)},
		{"a smaller one", cam(1, 5, 6, 4, 3), cam(1, 5, 6, 1, 2)},
		{"the least one", cam(1, 5, 6, 4, 3), cam(1, 5, 6, 1, 1)},
		{"the greatest one", cam(1, 5, 6, 4, 3), cam(1, 5, 6, 8, 8)},
		{"wider and less high", cam(1, 5, 6, 4, 3), cam(1, 5, 6, 5, 2)},
		{"a smaller one at the last pixels", cam(1, 12, 13, 4, 3), cam(1, 12, 13, 3, 1)},
		{"wider at the last pixels", cam(1, 12, 13, 4, 3), cam(1, 11, 13, 5, 3)},
		{"higher at the last pixels", cam(1, 12, 13, 4, 3), cam(1, 12, 12, 4, 4)},
		{"the greatest one at the last pixels", cam(1, 12, 13, 4, 3), cam(1, 8, 8, 8, 8)},
		{"from the last pixel on", cam(3, 63, 63, 1, 1), cam(3, 56, 60, 8, 4)},
		{"just as wide as there is room", cam(3, 60, 61, 1, 1), cam(3, 60, 61, 4, 3)},
		{"one more", cam(3, 60, 61, 1, 1), cam(3, 59, 60, 5, 4)},
		{"all of the world", cam(0, 7, 3, 1, 2), cam(0, 0, 0, 8, 8)},
		{"one pixel of it", cam(0, 0, 0, 8, 8), cam(0, 0, 0, 1, 1)},
	} {
		expectCamera(t, c.what, impl.SizeCamera(c.c, c.want.W, c.want.H), c.want)
		expectCamera(t, c.what+", crossed", impl.SizeCamera(crossed(c.c), c.want.H, c.want.W), crossed(c.want))
	}
	n := numbers(109)
	for range 20000 {
		c, w, h := someCamera(&n), n.next(1, 8), n.next(1, 8)
		want := cam(c.Z, heldAs(c.X, counts[c.Z]-w), heldAs(c.Y, counts[c.Z]-h), w, h)
		expectCamera(t, fmt.Sprint(c, w, h), impl.SizeCamera(c, w, h), want)
	}
}

func TestSizeCameraWrong(t *testing.T) {
	for _, bad := range outsideOf(1, 8) {
		for _, c := range []impl.Camera{cam(0, 0, 0, 8, 8), cam(1, 5, 6, 4, 3), cam(3, 63, 63, 1, 1)} {
			for _, other := range []int64{1, 4, 8, bad} {
				expectNoCamera(t, fmt.Sprint(c, bad, other), impl.SizeCamera(c, bad, other))
				expectNoCamera(t, fmt.Sprint(c, other, bad), impl.SizeCamera(c, other, bad))
			}
		}
	}
	for _, c := range wrongCameras() {
		for _, n := range []int64{1, 2, 8, 0, 9, math.MinInt64, math.MaxInt64} {
			expectNoCamera(t, fmt.Sprint(c, n), impl.SizeCamera(c, n, n))
			expectNoCamera(t, fmt.Sprint(c, n), impl.SizeCamera(c, 1, n))
		}
	}
}

// expectSeen asks for the refs that a camera sees, and of each ref of the zooms
// whether it is one of them.
func expectSeen(t *testing.T, what string, c impl.Camera, want ...impl.Ref) {
	t.Helper()
	if got := impl.VisibleRefs(c); !reflect.DeepEqual(got, impl.RefsResult{Refs: want}) {
		t.Errorf("%s: %v sees %v, not %v", what, c, got, want)
	}
	for _, r := range allRefs() {
		if got := impl.IsSeen(c, r); got != slices.Contains(want, r) {
			t.Errorf("%s: %v sees %v: %v", what, c, r, got)
		}
	}
}

func TestVisibleRefs(t *testing.T) {
	expectSeen(t, "all of the world", cam(0, 0, 0, 8, 8), ref(0, 0, 0))
	expectSeen(t, "one pixel of it", cam(0, 7, 7, 1, 1), ref(0, 0, 0))
	expectSeen(t, "within one tile", cam(1, 9, 2, 4, 4), ref(1, 1, 0))
	expectSeen(t, "just one tile", cam(2, 8, 16, 8, 8), ref(2, 1, 2))
	expectSeen(t, "its first pixel", cam(2, 8, 16, 1, 1), ref(2, 1, 2))
	expectSeen(t, "its last pixel", cam(2, 15, 23, 1, 1), ref(2, 1, 2))
	expectSeen(t, "up to a border", cam(1, 4, 4, 4, 4), ref(1, 0, 0))
	expectSeen(t, "from a border on", cam(1, 8, 8, 4, 4), ref(1, 1, 1))
	expectSeen(t, "over a border one way", cam(1, 5, 4, 4, 4), ref(1, 0, 0), ref(1, 1, 0))
	expectSeen(t, "over a border the other way", cam(1, 4, 5, 4, 4), ref(1, 0, 0), ref(1, 0, 1))
	expectSeen(t, "over a border both ways", cam(1, 5, 5, 4, 4), ref(1, 0, 0), ref(1, 1, 0), ref(1, 0, 1), ref(1, 1, 1))
	expectSeen(t, "over a border by two pixels", cam(3, 31, 15, 2, 1), ref(3, 3, 1), ref(3, 4, 1))
	expectSeen(t, "over a border by two, the other way", cam(3, 31, 15, 1, 2), ref(3, 3, 1), ref(3, 3, 2))
	expectSeen(t, "four pixels of four tiles", cam(3, 31, 15, 2, 2), ref(3, 3, 1), ref(3, 4, 1), ref(3, 3, 2), ref(3, 4, 2))
	expectSeen(t, "the greatest size, by one pixel", cam(2, 1, 23, 8, 8), ref(2, 0, 2), ref(2, 1, 2), ref(2, 0, 3), ref(2, 1, 3))
	expectSeen(t, "the first tile of all", cam(3, 0, 0, 8, 8), ref(3, 0, 0))
	expectSeen(t, "the last tile of all", cam(3, 56, 56, 8, 8), ref(3, 7, 7))
	expectSeen(t, "the last pixel of all", cam(3, 63, 63, 1, 1), ref(3, 7, 7))
	expectSeen(t, "the end of one row", cam(3, 55, 0, 8, 8), ref(3, 6, 0), ref(3, 7, 0))
}

// refsAs are the refs of the tiles of all pixels that a camera sees, asked for
// pixel by pixel.
func refsAs(c impl.Camera) []impl.Ref {
	var list []impl.Ref
	for y := c.Y; y < c.Y+c.H; y++ {
		for x := c.X; x < c.X+c.W; x++ {
			if r := ref(c.Z, x/8, y/8); !slices.Contains(list, r) {
				list = append(list, r)
			}
		}
	}
	slices.SortFunc(list, func(a, b impl.Ref) int { return int(8*(a.Y-b.Y) + a.X - b.X) })
	return list
}

func TestVisibleRefsAgainstTheDocument(t *testing.T) {
	seen := map[int]int{}
	for _, c := range manyCameras() {
		want := refsAs(c)
		if got := impl.VisibleRefs(c); got.Code != impl.OK || !slices.Equal(got.Refs, want) {
			t.Fatalf("%v: %v, not %v", c, got, want)
		}
		seen[len(want)]++
	}
	if len(seen) != 3 || seen[1] < 1000 || seen[2] < 1000 || seen[4] < 1000 {
		t.Error("the test asks for little", seen)
	}
}

func TestVisibleRefsWrong(t *testing.T) {
	for _, c := range wrongCameras() {
		if got := impl.VisibleRefs(c); !reflect.DeepEqual(got, impl.RefsResult{Code: impl.ErrRange}) {
			t.Errorf("%v: %v", c, got)
		}
	}
}

// Of a camera with a fault nothing is seen, and a ref with a fault is not.
func TestIsSeenWrong(t *testing.T) {
	some := append(refsOf(0), append(refsOf(1), refsOf(2)...)...)
	for _, c := range wrongCameras() {
		for _, r := range append(some, impl.Ref{}, ref(c.Z, c.X, c.Y), ref(c.Z, c.X/8, c.Y/8)) {
			if impl.IsSeen(c, r) {
				t.Errorf("%v sees %v", c, r)
			}
		}
	}
	for _, r := range wrongRefs() {
		for _, c := range []impl.Camera{cam(0, 0, 0, 8, 8), cam(1, 5, 5, 4, 4), cam(3, 55, 55, 8, 8), cam(3, 0, 0, 8, 8), {}} {
			if impl.IsSeen(c, r) {
				t.Errorf("%v sees %v", c, r)
			}
		}
	}
}

// Tiles beside those that are seen, and of the zooms beside theirs, are not.
func TestIsSeenBeside(t *testing.T) {
	c := cam(2, 9, 14, 5, 5)
	expectSeen(t, "two of them", c, ref(2, 1, 1), ref(2, 1, 2))
	for _, r := range []impl.Ref{
		ref(2, 0, 1), ref(2, 2, 1), ref(2, 1, 0), ref(2, 1, 3), ref(2, 0, 0), ref(2, 2, 2),
		ref(1, 1, 1), ref(3, 1, 1), ref(1, 0, 0), ref(3, 2, 2), ref(3, 1, 2), ref(0, 0, 0),
	} {
		if impl.IsSeen(c, r) {
			t.Errorf("%v is seen", r)
		}
	}
}

// pixelOf is a point that is seen at one pixel of z alone.
func pixelOf(id, z, x, y int64) impl.Feature {
	unit := units[z]
	f := wide(impl.KindPoint, 0, at(x*unit+unit/2, y*unit+unit/2))
	f.Id = id
	return f
}

func TestRefFrame(t *testing.T) {
	list := []impl.Feature{pixelOf(5, 2, 7, 9), pixelOf(6, 2, 9, 10), pixelOf(1, 2, 10, 9), pixelOf(2, 2, 7, 11), pixelOf(999, 2, 6, 9), pixelOf(3, 2, 7, 8)}
	for _, c := range []struct {
		what string
		c    impl.Camera
		want []int64
	}{
		{"rows", cam(2, 7, 9, 3, 2), []int64{5, 0, 0, 0, 0, 6}},
		{"as many rows as columns", cam(2, 7, 9, 3, 3), []int64{5, 0, 0, 0, 0, 6, 2, 0, 0}},
		{"more columns", cam(2, 6, 9, 5, 2), []int64{999, 5, 0, 0, 1, 0, 0, 0, 6, 0}},
		{"more rows", cam(2, 9, 8, 2, 4), []int64{0, 0, 0, 1, 6, 0, 0, 0}},
		{"one row", cam(2, 5, 9, 7, 1), []int64{0, 999, 5, 0, 0, 1, 0}},
		{"one column", cam(2, 7, 7, 1, 6), []int64{0, 3, 5, 0, 2, 0}},
		{"one pixel", cam(2, 7, 8, 1, 1), []int64{3}},
		{"one pixel of nothing", cam(2, 8, 8, 1, 1), []int64{0}},
		{"nothing", cam(2, 20, 20, 3, 2), make([]int64, 6)},
		{"nothing at another zoom", cam(3, 7, 9, 3, 2), make([]int64, 6)},
	} {
		expectRaster(t, c.what, impl.RefFrame(list, c.c), c.want)
	}
}

func TestRefFrameOfNone(t *testing.T) {
	for _, c := range camerasOf(1, views, []int64{1, 2, 8}) {
		expectRaster(t, "nil", impl.RefFrame(nil, c), make([]int64, c.W*c.H))
		expectRaster(t, "none", impl.RefFrame([]impl.Feature{}, c), make([]int64, c.W*c.H))
	}
}

// Each pixel of each corner of the world, and of its middle.
func TestRefFrameOfOnePixel(t *testing.T) {
	for z, count := range counts {
		z := int64(z)
		for _, c := range []impl.Camera{cam(z, 0, 0, 4, 3), cam(z, count-3, 0, 3, 4), cam(z, 0, count-4, 5, 4), cam(z, count-8, count-8, 8, 8), cam(z, count/2-2, count/2-1, 4, 2)} {
			for place := range c.W * c.H {
				want := make([]int64, c.W*c.H)
				want[place] = 100 + place
				f := pixelOf(100+place, z, c.X+place%c.W, c.Y+place/c.W)
				expectRaster(t, fmt.Sprint(c, place), impl.RefFrame([]impl.Feature{f}, c), want)
			}
		}
	}
}

// Two at one pixel: the one in front, whichever comes first.
func TestRefFrameFront(t *testing.T) {
	row := wide(impl.KindLine, 0, at(64, 64), at(448, 64))
	column := wide(impl.KindLine, 0, at(64, 64), at(64, 320))
	for _, c := range []struct {
		row, column [2]int64 // Layer and Id
		want        []int64
	}{
		{[2]int64{1, 5}, [2]int64{2, 4}, []int64{4, 5, 4, 0}},
		{[2]int64{2, 4}, [2]int64{1, 5}, []int64{4, 4, 5, 0}},
		{[2]int64{2, 4}, [2]int64{2, 5}, []int64{5, 4, 5, 0}},
		{[2]int64{2, 5}, [2]int64{2, 4}, []int64{5, 5, 4, 0}},
		{[2]int64{0, 999}, [2]int64{9, 1}, []int64{1, 999, 1, 0}},
	} {
		row.Layer, row.Id, column.Layer, column.Id = c.row[0], c.row[1], c.column[0], c.column[1]
		expectRaster(t, fmt.Sprint(c), impl.RefFrame([]impl.Feature{row, column}, cam(0, 0, 0, 2, 2)), c.want)
		expectRaster(t, fmt.Sprint(c), impl.RefFrame([]impl.Feature{column, row}, cam(0, 0, 0, 2, 2)), c.want)
	}
}

// frameAs is what a camera sees by what the document says of it, in fractions
// of any size.
func frameAs(list []impl.Feature, c impl.Camera) []int64 {
	var ids []int64
	for place := range c.W * c.H {
		var front impl.Feature
		for _, f := range list {
			if coversAs(f, doubledAs(f, c.Z), c.Z, c.X+place%c.W, c.Y+place/c.W) && (front.Id == 0 || isInFront(f, front)) {
				front = f
			}
		}
		ids = append(ids, front.Id)
	}
	return ids
}

func TestRefFrameAgainstTheDocument(t *testing.T) {
	n := numbers(110)
	seen := map[int]int{}
	for i := range 300 {
		list, c := someMap(&n), someCamera(&n)
		if i%2 == 0 {
			list = crowd(&n)
		}
		if len(list) > 0 && i%3 > 0 {
			x, y := n.pixelBy(list[0], c.Z)
			c.X, c.Y = min(x, counts[c.Z]-c.W), min(y, counts[c.Z]-c.H)
		}
		want := frameAs(list, c)
		expectRaster(t, fmt.Sprint(c, " of ", list), impl.RefFrame(list, c), want)
		seen[len(slices.Compact(slices.Sorted(slices.Values(want))))]++
	}
	if seen[1] < 50 || seen[2] < 30 || seen[3] < 20 {
		t.Error("the test asks for little", seen)
	}
}

// eachWrong tells features and cameras of which one has a fault, or both, with
// the code that is asked for: that of the camera ahead of that of the features.
func eachWrong(tell func(what string, list []impl.Feature, c impl.Camera, code int64)) {
	wrong, codes := wrongFeatures()
	for i, f := range wrong {
		for _, c := range []impl.Camera{cam(0, 0, 0, 8, 8), cam(3, 63, 63, 1, 1)} {
			for _, list := range [][]impl.Feature{{f}, append(numbered(9, 8), f), append([]impl.Feature{f}, numbered(8, 8)...)} {
				tell(fmt.Sprint(c, i), list, c, codes[i])
			}
		}
	}
	unread, unnamed := numbered(5), numbered(4, 4)
	unread[0].Label, unnamed[0].Label, unnamed[1].Label = "?", "", ""
	lists := []struct {
		list []impl.Feature
		code int64
	}{
		{numbered(1, 1), impl.ErrTaken},
		{numbered(3, 2, 3), impl.ErrTaken},
		{unnamed, impl.ErrTaken},
		{unread, impl.ErrText},
		{append(numbered(9, 9), unread...), impl.ErrTaken},
		{append(unread, numbered(9, 9)...), impl.ErrText},
		{numbered(1, 2, 3, 4, 5, 6, 7, 8, 9, 10, 11, 12, 13), impl.ErrMany},
		{make([]impl.Feature, 3000), impl.ErrMany},
		{make([]impl.Feature, 12), impl.ErrRange},
	}
	for i, l := range lists {
		for _, c := range camerasOf(0, []int64{1, 8}, []int64{1, 8}) {
			tell(fmt.Sprint(c, i), l.list, c, l.code)
		}
	}
	for _, c := range wrongCameras() {
		for i, l := range lists {
			tell(fmt.Sprint(c, i), l.list, c, impl.ErrRange)
		}
		tell(fmt.Sprint(c), nil, c, impl.ErrRange)
		tell(fmt.Sprint(c), two(), c, impl.ErrRange)
	}
}

func TestRefFrameWrong(t *testing.T) {
	eachWrong(func(what string, list []impl.Feature, c impl.Camera, code int64) {
		expectNoRaster(t, what, impl.RefFrame(list, c), code)
	})
}
