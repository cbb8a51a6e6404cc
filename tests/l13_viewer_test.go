package tests

import (
	"fmt"
	"math"
	"reflect"
	"slices"
	"testing"

	"loop.example/g00403/impl"
)

// looking is a viewer at a time, to whom no reply was bad.
func looking(c impl.Camera, now int64, cache impl.Cache, requests ...impl.Request) impl.Viewer {
	return impl.Viewer{Camera: c, Now: now, Cache: cache, Requests: requests}
}

func expectViewer(t *testing.T, what string, got impl.ViewerResult, sent []impl.Ref, want impl.Viewer) {
	t.Helper()
	if !reflect.DeepEqual(got, impl.ViewerResult{Sent: sent, Viewer: want}) {
		t.Errorf("%s: %v, not sent %v of %v", what, got, sent, want)
	}
}

func expectNoViewer(t *testing.T, what string, got impl.ViewerResult, code int64) {
	t.Helper()
	if !reflect.DeepEqual(got, impl.ViewerResult{Code: code}) {
		t.Errorf("%s: %v, not %d", what, got, code)
	}
}

func expectViewerFault(t *testing.T, what string, v impl.Viewer, want int64) {
	t.Helper()
	if got := impl.ViewerFault(v); got != want {
		t.Errorf("%s: %v: %d, not %d", what, v, got, want)
	}
}

func expectMissing(t *testing.T, what string, v impl.Viewer, want ...impl.Ref) {
	t.Helper()
	if got := impl.MissingIn(v); !reflect.DeepEqual(got, impl.RefsResult{Refs: want}) {
		t.Errorf("%s: %v, not %v", what, got, want)
	}
}

// expectBad asks for a reply that changes nothing but the count.
func expectBad(t *testing.T, what string, v impl.Viewer, r impl.Ref, data []byte) {
	t.Helper()
	want := v
	want.Bad = min(v.Bad+1, 9999)
	expectViewer(t, what, impl.ReplyViewer(v, r, data), nil, want)
}

// expectTook asks for a reply that is taken: what is asked for then, and what is
// there.
func expectTook(t *testing.T, what string, v impl.Viewer, r impl.Ref, data []byte, cache impl.Cache, requests ...impl.Request) {
	t.Helper()
	want := v
	want.Cache, want.Requests = cache, requests
	if got := impl.ReplyViewer(v, r, data); !reflect.DeepEqual(got, impl.ViewerResult{Took: true, Viewer: want}) {
		t.Errorf("%s: %v, not %v", what, got, want)
	}
}

// four is a camera that sees four tiles of zoom 2.
func four() impl.Camera {
	return cam(2, 4, 4, 8, 8)
}

// halfway is a viewer to whom two of four tiles are there, with one that is not
// seen between them, and who has asked for the two others, the last one first.
func halfway() impl.Viewer {
	tiles := []impl.Tile{spotted(ref(2, 1, 1), 1), spotted(ref(2, 3, 3), 2), spotted(ref(2, 0, 0), 3)}
	return looking(four(), 50, cacheOf(5, tiles...), req(ref(2, 0, 1), 51, 2), req(ref(2, 1, 0), 60, 1))
}

func TestViewerFault(t *testing.T) {
	expectViewerFault(t, "right", halfway(), impl.OK)
	expectViewerFault(t, "nothing", impl.Viewer{}, impl.ErrRange)
	expectViewerFault(t, "nothing there and nothing asked for", looking(four(), 5, cacheOf(4)), impl.OK)
	expectViewerFault(t, "an empty list", impl.Viewer{Camera: four(), Cache: impl.Cache{Size: 4, Kept: []impl.Kept{}}, Requests: []impl.Request{}}, impl.OK)
	v := halfway()
	for _, c := range wrongCameras() {
		v.Camera = c
		expectViewerFault(t, "no camera", v, impl.ErrRange)
	}
}

// Now and Bad at their bounds, one outside, and far.
func TestViewerFaultOfNumbers(t *testing.T) {
	with := func(now, bad int64) impl.Viewer {
		v := halfway()
		v.Now, v.Bad = now, bad
		return v
	}
	for _, now := range []int64{0, 1, 8999, 9000} {
		for _, bad := range []int64{0, 1, 9998, 9999} {
			expectViewerFault(t, "within", with(now, bad), impl.OK)
		}
	}
	for _, now := range append(outsideOf(0, 9000), -1, 9001, 9999) {
		expectViewerFault(t, "Now", with(now, 0), impl.ErrRange)
		expectViewerFault(t, "Now and Bad", with(now, now), impl.ErrRange)
	}
	for _, bad := range append(outsideOf(0, 9999), -1, 10000) {
		expectViewerFault(t, "Bad", with(0, bad), impl.ErrRange)
		expectViewerFault(t, "Bad", with(9000, bad), impl.ErrRange)
	}
}

// A cache of each Size, with none and with as many tiles as it has room for: of
// 1 to 3 it has no fault of its own, but it has no room for all that is seen.
func TestViewerFaultOfSize(t *testing.T) {
	for size := int64(1); size <= 10; size++ {
		want := int64(impl.OK)
		if size < 4 {
			want = impl.ErrRange
		}
		for _, count := range []int{0, 1, int(size)} {
			v := looking(four(), 5, cacheOf(size, spots(count)...))
			expectCacheFault(t, "alone", v.Cache, impl.OK)
			expectViewerFault(t, fmt.Sprint(size, " ", count), v, want)
		}
		full := looking(four(), 5, cacheOf(size, spots(int(size)+1)...))
		expectViewerFault(t, fmt.Sprint("too many in ", size), full, impl.ErrMany)
	}
	for _, size := range outsideOf(1, 10) {
		expectViewerFault(t, fmt.Sprint(size), looking(four(), 5, cacheOf(size)), impl.ErrRange)
	}
}

func TestViewerFaultOfParts(t *testing.T) {
	for _, c := range faultyCaches(ref(2, 1, 0)) {
		v := looking(four(), 5, c)
		expectViewerFault(t, "a cache with a fault", v, cacheCodeAs(c))
	}
	for _, list := range faultyRequests() {
		expectViewerFault(t, "requests with a fault", looking(four(), 5, cacheOf(4), list...), requestsCodeAs(list))
	}
}

// A request whose ref is not seen, and one whose ref is in the cache, at each
// place among right ones.
func TestViewerFaultOfStrayRequests(t *testing.T) {
	seen := refsAs(four())
	for _, r := range allRefs() {
		want := int64(impl.ErrState)
		if slices.Contains(seen, r) {
			want = impl.OK
		}
		expectViewerFault(t, "alone", looking(four(), 5, cacheOf(4), req(r, 5, 1)), want)
		there := cacheOf(4, spotted(r, 7))
		expectViewerFault(t, "in the cache", looking(four(), 5, there, req(r, 5, 1)), impl.ErrState)
		expectViewerFault(t, "in the cache and not asked for", looking(four(), 5, there), impl.OK)
	}
	right := []impl.Request{req(seen[2], 9999, 99), req(seen[0], 0, 1), req(seen[3], 5, 1)}
	cache := cacheOf(4, spotted(seen[1], 5), spotted(ref(1, 0, 0), 6))
	expectViewerFault(t, "right ones", looking(four(), 5, cache, right...), impl.OK)
	for place := range 4 {
		for _, r := range []impl.Ref{seen[1], ref(2, 2, 0), ref(1, 0, 0), ref(3, 1, 1), ref(0, 0, 0)} {
			list := slices.Insert(slices.Clone(right), place, req(r, 5, 1))
			expectViewerFault(t, fmt.Sprint(r, " at ", place), looking(four(), 5, cache, list...), impl.ErrState)
		}
	}
}

// viewerCodeAs is the code of a viewer by what the document says of it.
func viewerCodeAs(v impl.Viewer) int64 {
	numbers, size, state := int64(impl.OK), int64(impl.OK), int64(impl.OK)
	if v.Now < 0 || v.Now > 9000 || v.Bad < 0 || v.Bad > 9999 {
		numbers = impl.ErrRange
	}
	if v.Cache.Size < 4 {
		size = impl.ErrRange
	}
	if code := firstOf(cameraCodeAs(v.Camera), numbers, cacheCodeAs(v.Cache), size, requestsCodeAs(v.Requests)); code != impl.OK {
		return code
	}
	for _, q := range v.Requests {
		if !slices.Contains(refsAs(v.Camera), q.Ref) || slices.Contains(refsIn(v.Cache), q.Ref) {
			state = impl.ErrState
		}
	}
	return state
}

// Of several that are so the one that the document names first: told by hand
// where the codes are not the same.
func TestViewerFaultOfSeveral(t *testing.T) {
	r := ref(2, 1, 0)
	tile := spotted(r, 9)
	unread := road()
	unread.Label = "?"
	taken, many := cacheOf(5, tile, tile), cacheOf(4, spots(5)...)
	text := impl.Cache{Size: 4, Kept: []impl.Kept{{Tile: tileOf(r, unread)}}}
	small, smallTaken := cacheOf(3, tile), cacheOf(3, tile, tile)
	smallMany := cacheOf(2, spots(3)...)
	there, stray := req(r, 5, 1), req(ref(2, 3, 3), 5, 1)
	twice := []impl.Request{req(ref(2, 0, 0), 5, 1), req(ref(2, 0, 0), 5, 1)}
	for _, c := range []struct {
		what  string
		c     impl.Camera
		now   int64
		bad   int64
		cache impl.Cache
		list  []impl.Request
		want  int64
	}{
		{"no camera, a tile twice", cam(2, 4, 4, 9, 8), 5, 0, taken, nil, impl.ErrRange},
		{"no camera, a request that is there", cam(4, 4, 4, 8, 8), 5, 0, cacheOf(4, tile), []impl.Request{there}, impl.ErrRange},
		{"no time, a tile twice", four(), -1, 0, taken, nil, impl.ErrRange},
		{"no time, too many tiles", four(), 9001, 0, many, nil, impl.ErrRange},
		{"no count, a tile that cannot be read", four(), 5, 10000, text, nil, impl.ErrRange},
		{"no count, too many requests", four(), 5, -1, cacheOf(4), asked(9), impl.ErrRange},
		{"a tile twice, no room for four", four(), 5, 0, smallTaken, nil, impl.ErrTaken},
		{"too many tiles, no room for four", four(), 5, 0, smallMany, nil, impl.ErrMany},
		{"a tile twice, too many requests", four(), 5, 0, taken, asked(9), impl.ErrTaken},
		{"a tile that cannot be read, a stray request", four(), 5, 0, text, []impl.Request{stray}, impl.ErrText},
		{"too many tiles, a request twice", four(), 5, 0, many, twice, impl.ErrMany},
		{"no room for four, too many requests", four(), 5, 0, small, asked(9), impl.ErrRange},
		{"no room for four, a request twice", four(), 5, 0, small, twice, impl.ErrRange},
		{"no room for four, a request that is there", four(), 5, 0, small, []impl.Request{there}, impl.ErrRange},
		{"stray ones ahead of one twice", four(), 5, 0, cacheOf(4, tile), append([]impl.Request{there, stray}, twice...), impl.ErrTaken},
		{"stray ones ahead of one that is no request", four(), 5, 0, cacheOf(4, tile), []impl.Request{stray, there, req(ref(2, 0, 0), 5, 0)}, impl.ErrRange},
		{"a stray one of nine", four(), 5, 0, cacheOf(4), asked(9), impl.ErrMany},
		{"all is right but one", four(), 5, 0, cacheOf(4, tile), []impl.Request{twice[0], there}, impl.ErrState},
	} {
		v := impl.Viewer{Camera: c.c, Now: c.now, Bad: c.bad, Cache: c.cache, Requests: c.list}
		expectViewerFault(t, c.what, v, c.want)
	}
}

// faultyViewers are viewers with each fault alone, and with each two of them.
func faultyViewers() []impl.Viewer {
	r := ref(2, 1, 0)
	cameras := []impl.Camera{four(), {}, cam(4, 4, 4, 8, 8)}
	times := []int64{5, -1, 9001, math.MaxInt64}
	counts := []int64{0, -1, 10000, math.MinInt64}
	caches := []impl.Cache{cacheOf(4, spotted(ref(2, 0, 0), 3)), cacheOf(3), cacheOf(0), cacheOf(11), cacheOf(5, spotted(r, 9), spotted(r, 9)), cacheOf(4, spots(5)...), cacheOf(3, spotted(r, 9), spotted(r, 9))}
	for _, w := range wrongKeptOf(ref(3, 6, 5))[6:16] {
		caches = append(caches, cacheAnd(cacheOf(4), w.kept))
	}
	lists := [][]impl.Request{{req(r, 5, 1)}, {req(ref(2, 3, 3), 5, 1)}, {req(ref(2, 0, 0), 5, 1)}, {req(ref(2, 3, 3), 5, 1), req(r, 5, 1), req(r, 5, 1)}}
	lists = append(lists, faultyRequests()...)
	var list []impl.Viewer
	for i := range cameras {
		for k := range times {
			for m := range counts {
				for o := range caches {
					for p := range lists {
						wrong := min(i, 1) + min(k, 1) + min(m, 1) + min(o, 1) + min(p, 1)
						if wrong == 1 || wrong == 2 {
							list = append(list, impl.Viewer{Camera: cameras[i], Now: times[k], Bad: counts[m], Cache: caches[o], Requests: lists[p]})
						}
					}
				}
			}
		}
	}
	return list
}

// A viewer with a fault: its code ahead of that of a camera, a number, a ref or
// bytes, right or wrong.
func TestViewersWrong(t *testing.T) {
	seen := map[int64]int{}
	for i, v := range faultyViewers() {
		code := viewerCodeAs(v)
		if code == impl.OK {
			t.Fatal("the test has no fault", v)
		}
		seen[code]++
		what := fmt.Sprint(i)
		expectViewerFault(t, what, v, code)
		if got := impl.MissingIn(v); !reflect.DeepEqual(got, impl.RefsResult{Code: code}) {
			t.Errorf("%d: %v, not %d", i, got, code)
		}
		for _, n := range []int64{0, 1, -1, 101, math.MaxInt64} {
			expectNoViewer(t, what, impl.PanViewer(v, n, -1), code)
			expectNoViewer(t, what, impl.PanViewer(v, 3, n), code)
			expectNoViewer(t, what, impl.ZoomViewer(v, n), code)
			expectNoViewer(t, what, impl.SizeViewer(v, n, 4), code)
			expectNoViewer(t, what, impl.SizeViewer(v, 4, n), code)
			expectNoViewer(t, what, impl.TickViewer(v, n), code)
		}
		for _, r := range []impl.Ref{ref(2, 1, 0), ref(2, 0, 0), ref(4, 0, 0), ref(math.MinInt64, -1, math.MaxInt64)} {
			for _, data := range [][]byte{nil, {0, 0, 31}, {1}} {
				expectNoViewer(t, what, impl.ReplyViewer(v, r, data), code)
			}
		}
	}
	for _, code := range []int64{impl.ErrForm, impl.ErrMany, impl.ErrRange, impl.ErrText, impl.ErrTaken, impl.ErrState} {
		if seen[code] < 10 {
			t.Error("the test asks for little", seen)
		}
	}
}

// A new viewer asks for each tile that is seen, in the order of their refs.
func TestNewViewer(t *testing.T) {
	for size := int64(4); size <= 10; size++ {
		got := impl.NewViewer(four(), size)
		refs := []impl.Ref{ref(2, 0, 0), ref(2, 1, 0), ref(2, 0, 1), ref(2, 1, 1)}
		want := looking(four(), 0, impl.Cache{Size: size}, req(refs[0], 3, 1), req(refs[1], 3, 1), req(refs[2], 3, 1), req(refs[3], 3, 1))
		expectViewer(t, fmt.Sprint(size), got, refs, want)
		expectViewerFault(t, "a new one", got.Viewer, impl.OK)
		expectMissing(t, "a new one", got.Viewer, refs...)
	}
	row := looking(cam(1, 5, 4, 4, 4), 0, impl.Cache{Size: 4}, req(ref(1, 0, 0), 3, 1), req(ref(1, 1, 0), 3, 1))
	expectViewer(t, "a row", impl.NewViewer(row.Camera, 4), []impl.Ref{ref(1, 0, 0), ref(1, 1, 0)}, row)
	column := looking(cam(1, 4, 5, 4, 4), 0, impl.Cache{Size: 4}, req(ref(1, 0, 0), 3, 1), req(ref(1, 0, 1), 3, 1))
	expectViewer(t, "a column", impl.NewViewer(column.Camera, 4), []impl.Ref{ref(1, 0, 0), ref(1, 0, 1)}, column)
	pixel := looking(cam(3, 63, 0, 1, 1), 0, impl.Cache{Size: 4}, req(ref(3, 7, 0), 3, 1))
	expectViewer(t, "a pixel", impl.NewViewer(pixel.Camera, 4), []impl.Ref{ref(3, 7, 0)}, pixel)
	for _, c := range camerasOf(1, views, []int64{1, 4, 8}) {
		if got := impl.NewViewer(c, 7); got.Code != impl.OK || !slices.Equal(got.Sent, refsAs(c)) || got.Viewer.Camera != c {
			t.Errorf("%v: %v", c, got)
		}
	}
}

func TestNewViewerWrong(t *testing.T) {
	for _, size := range append(outsideOf(4, 10), -1, 0, 1, 2, 3, 11) {
		expectNoViewer(t, fmt.Sprint(size), impl.NewViewer(four(), size), impl.ErrRange)
		expectNoViewer(t, fmt.Sprint("no camera, ", size), impl.NewViewer(impl.Camera{}, size), impl.ErrRange)
	}
	for _, c := range wrongCameras() {
		for _, size := range []int64{4, 10} {
			expectNoViewer(t, fmt.Sprint(c), impl.NewViewer(c, size), impl.ErrRange)
		}
	}
}

// moved is one way to move halfway, and what comes of it.
type moved struct {
	what     string
	got      impl.ViewerResult
	camera   impl.Camera
	sent     []impl.Ref
	requests []impl.Request
	cache    []impl.Ref // in order
}

// Moves to where all, some and none of the tiles are seen that were seen before:
// which requests stay, what is sent, and in which order the cache is.
func TestMovedViewers(t *testing.T) {
	v := halfway()
	down, right := req(ref(2, 0, 1), 51, 2), req(ref(2, 1, 0), 60, 1)
	a, far, b := ref(2, 1, 1), ref(2, 3, 3), ref(2, 0, 0)
	was, touched := []impl.Ref{a, far, b}, []impl.Ref{far, b, a}
	first := func(refs ...impl.Ref) []impl.Request {
		var list []impl.Request
		for _, r := range refs {
			list = append(list, req(r, 53, 1))
		}
		return list
	}
	both := []impl.Request{down, right}
	ahead := []impl.Ref{ref(2, 2, 0), ref(2, 2, 1)}
	corner := []impl.Ref{ref(2, 2, 2), ref(2, 3, 2), ref(2, 2, 3)}
	nearer := []impl.Ref{ref(3, 1, 1), ref(3, 2, 1), ref(3, 1, 2), ref(3, 2, 2)}
	for _, m := range []moved{
		{"pan nowhere", impl.PanViewer(v, 0, 0), four(), nil, both, touched},
		{"pan, all stay", impl.PanViewer(v, -3, 3), cam(2, 1, 7, 8, 8), nil, both, touched},
		{"pan, a column stays", impl.PanViewer(v, 8, 0), cam(2, 12, 4, 8, 8), ahead, append([]impl.Request{right}, first(ahead...)...), []impl.Ref{far, b, a}},
		{"pan, a row stays", impl.PanViewer(v, 0, 8), cam(2, 4, 12, 8, 8), []impl.Ref{ref(2, 0, 2), ref(2, 1, 2)}, append([]impl.Request{down}, first(ref(2, 0, 2), ref(2, 1, 2))...), []impl.Ref{far, b, a}},
		{"pan, one that is there stays", impl.PanViewer(v, -4, -4), cam(2, 0, 0, 8, 8), nil, nil, was},
		{"pan, one that is missing stays", impl.PanViewer(v, 4, -4), cam(2, 8, 0, 8, 8), nil, []impl.Request{right}, was},
		{"pan to where another one is there", impl.PanViewer(v, 16, 16), cam(2, 20, 20, 8, 8), corner, first(corner...), []impl.Ref{a, b, far}},
		{"pan to where none is", impl.PanViewer(v, 20, -4), cam(2, 24, 0, 8, 8), []impl.Ref{ref(2, 3, 0)}, first(ref(2, 3, 0)), was},
		{"pan far, held", impl.PanViewer(v, 100, -100), cam(2, 24, 0, 8, 8), []impl.Ref{ref(2, 3, 0)}, first(ref(2, 3, 0)), was},
		{"zoom to its own", impl.ZoomViewer(v, 2), four(), nil, both, touched},
		{"zoom farther", impl.ZoomViewer(v, 1), cam(1, 0, 0, 8, 8), []impl.Ref{ref(1, 0, 0)}, first(ref(1, 0, 0)), was},
		{"zoom to all", impl.ZoomViewer(v, 0), cam(0, 0, 0, 8, 8), []impl.Ref{ref(0, 0, 0)}, first(ref(0, 0, 0)), was},
		{"zoom nearer", impl.ZoomViewer(v, 3), cam(3, 12, 12, 8, 8), nearer, first(nearer...), was},
		{"size, its own", impl.SizeViewer(v, 8, 8), four(), nil, both, touched},
		{"size, all stay", impl.SizeViewer(v, 5, 5), cam(2, 4, 4, 5, 5), nil, both, touched},
		{"size, a row stays", impl.SizeViewer(v, 8, 4), cam(2, 4, 4, 8, 4), nil, []impl.Request{right}, was},
		{"size, a column stays", impl.SizeViewer(v, 1, 8), cam(2, 4, 4, 1, 8), nil, []impl.Request{down}, was},
		{"size, one stays", impl.SizeViewer(v, 4, 4), cam(2, 4, 4, 4, 4), nil, nil, was},
	} {
		want := looking(m.camera, 50, impl.Cache{Size: 5}, m.requests...)
		for _, r := range m.cache {
			place := slices.Index(was, r)
			want.Cache.Kept = append(want.Cache.Kept, v.Cache.Kept[place])
		}
		expectViewer(t, m.what, m.got, m.sent, want)
		expectViewerFault(t, m.what, m.got.Viewer, impl.OK)
	}
	// a small one that gets greater asks for what comes into sight
	small := looking(cam(2, 7, 7, 1, 1), 9, cacheOf(4, spotted(b, 3)))
	refs := []impl.Ref{ref(2, 1, 0), ref(2, 0, 1), ref(2, 1, 1)}
	great := looking(cam(2, 7, 7, 2, 2), 9, cacheOf(4, spotted(b, 3)), req(refs[0], 12, 1), req(refs[1], 12, 1), req(refs[2], 12, 1))
	expectViewer(t, "greater", impl.SizeViewer(small, 2, 2), refs, great)
}

// A viewer who has not asked for all that is seen asks for the rest when he
// moves, and only then.
func TestMovedViewersAskForTheRest(t *testing.T) {
	v := looking(four(), 9000, cacheOf(4), req(ref(2, 1, 1), 9999, 99))
	refs := []impl.Ref{ref(2, 0, 0), ref(2, 1, 0), ref(2, 0, 1)}
	want := looking(four(), 9000, cacheOf(4), req(ref(2, 1, 1), 9999, 99), req(refs[0], 9003, 1), req(refs[1], 9003, 1), req(refs[2], 9003, 1))
	expectViewer(t, "pan", impl.PanViewer(v, 0, 0), refs, want)
	expectViewer(t, "zoom", impl.ZoomViewer(v, 2), refs, want)
	expectViewer(t, "size", impl.SizeViewer(v, 8, 8), refs, want)
	expectViewer(t, "tick", impl.TickViewer(v, 0), nil, v)
	expectBad(t, "reply", v, refs[0], impl.ServeTile(nil, refs[0]).Bytes)
	expectMissing(t, "missing", v, append(slices.Clone(refs), ref(2, 1, 1))...)
}

// A request that is due, or was due long ago, is not sent by a move.
func TestMovedViewersSendWhatIsNew(t *testing.T) {
	v := looking(four(), 500, cacheOf(4), req(ref(2, 0, 0), 499, 1), req(ref(2, 1, 0), 500, 2), req(ref(2, 0, 1), 501, 3), req(ref(2, 1, 1), 0, 4))
	expectViewer(t, "pan", impl.PanViewer(v, 0, 0), nil, v)
	expectViewer(t, "zoom", impl.ZoomViewer(v, 2), nil, v)
	expectViewer(t, "size", impl.SizeViewer(v, 8, 8), nil, v)
}

// All four are there: they stand behind all others, in the order of their refs.
func TestMovedViewersTouchAll(t *testing.T) {
	var tiles []impl.Tile
	for i, r := range []impl.Ref{ref(2, 1, 1), ref(1, 0, 0), ref(2, 1, 0), ref(2, 0, 0), ref(3, 3, 3), ref(2, 0, 1)} {
		tiles = append(tiles, spotted(r, int64(i+1)))
	}
	v := looking(four(), 5, cacheOf(6, tiles...))
	want := looking(four(), 5, cacheOf(6, tiles[1], tiles[4], tiles[3], tiles[2], tiles[5], tiles[0]))
	expectViewer(t, "pan", impl.PanViewer(v, 0, 0), nil, want)
	expectViewer(t, "again", impl.PanViewer(want, 0, 0), nil, want)
	expectMissing(t, "none", v)
}

func TestMovedViewersWrong(t *testing.T) {
	for _, v := range []impl.Viewer{halfway(), impl.NewViewer(cam(0, 0, 0, 8, 8), 4).Viewer} {
		for _, n := range outsideOf(-100, 100) {
			expectNoViewer(t, fmt.Sprint("pan ", n), impl.PanViewer(v, n, 0), impl.ErrRange)
			expectNoViewer(t, fmt.Sprint("pan ", n), impl.PanViewer(v, 0, n), impl.ErrRange)
			expectNoViewer(t, fmt.Sprint("pan ", n), impl.PanViewer(v, n, n), impl.ErrRange)
		}
		for _, z := range noZooms {
			expectNoViewer(t, fmt.Sprint("zoom ", z), impl.ZoomViewer(v, z), impl.ErrRange)
		}
		for _, n := range outsideOf(1, 8) {
			expectNoViewer(t, fmt.Sprint("size ", n), impl.SizeViewer(v, n, 8), impl.ErrRange)
			expectNoViewer(t, fmt.Sprint("size ", n), impl.SizeViewer(v, 1, n), impl.ErrRange)
		}
		for _, n := range []int64{-100, 100} {
			if impl.PanViewer(v, n, -n).Code != impl.OK {
				t.Error(v, n)
			}
		}
	}
}

// As much time as may go on at once, and more; as late as it may be, and later.
func TestTickViewerTimes(t *testing.T) {
	at := func(now int64) impl.Viewer {
		return looking(cam(1, 0, 0, 8, 8), now, cacheOf(4, spots(2)...), req(ref(1, 0, 0), 9999, 5))
	}
	for _, c := range [][2]int64{{0, 0}, {0, 1}, {0, 99}, {0, 100}, {8900, 100}, {8901, 99}, {8999, 0}, {8999, 1}, {9000, 0}} {
		expectViewer(t, fmt.Sprint(c), impl.TickViewer(at(c[0]), c[1]), nil, at(c[0]+c[1]))
	}
	for _, c := range [][2]int64{{0, -1}, {0, 101}, {50, -50}, {50, -1}, {8900, 101}, {8901, 100}, {8999, 2}, {9000, 1}, {9000, 100}, {9000, -1}} {
		expectNoViewer(t, fmt.Sprint(c), impl.TickViewer(at(c[0]), c[1]), impl.ErrRange)
	}
	for _, n := range outsideOf(0, 100) {
		for _, now := range []int64{0, 1, 8999, 9000} {
			expectNoViewer(t, fmt.Sprint(now, " ", n), impl.TickViewer(at(now), n), impl.ErrRange)
		}
	}
}

// What is due one below the time that it is then, at it and one above: by that
// time it is asked, not by the one that it was.
func TestTickViewerDue(t *testing.T) {
	for _, c := range [][2]int64{{1, 0}, {1, 1}, {0, 100}, {40, 3}, {8990, 10}, {9000, 0}} {
		v := looking(four(), c[0], cacheOf(4, spotted(ref(2, 0, 0), 7), spotted(ref(1, 1, 1), 8)))
		v.Bad = 12
		now := c[0] + c[1]
		late, early, just := req(ref(2, 1, 1), now+1, 7), req(ref(2, 1, 0), now-1, 98), req(ref(2, 0, 1), now, 99)
		v.Requests = []impl.Request{late, just, early}
		want := v
		want.Now = now
		want.Requests = []impl.Request{late, req(just.Ref, now+3, 99), req(early.Ref, now+3, 99)}
		expectViewer(t, fmt.Sprint(c), impl.TickViewer(v, c[1]), []impl.Ref{just.Ref, early.Ref}, want)
		expectViewer(t, "at once again", impl.TickViewer(want, 0), nil, want)
	}
	// as much time as there may be between two does not send one twice
	v := impl.NewViewer(cam(1, 0, 0, 1, 1), 4).Viewer
	for i := range int64(90) {
		got := impl.TickViewer(v, 100)
		want := looking(v.Camera, 100*i+100, impl.Cache{Size: 4}, req(ref(1, 0, 0), 100*i+103, i+2))
		expectViewer(t, fmt.Sprint(i), got, []impl.Ref{ref(1, 0, 0)}, want)
		v = got.Viewer
	}
	expectNoViewer(t, "the end of time", impl.TickViewer(v, 1), impl.ErrRange)
}

// A tile that was asked for, of each place among the requests; a second time it
// was not asked for.
func TestReplyViewer(t *testing.T) {
	v := impl.NewViewer(four(), 4).Viewer
	for place, q := range v.Requests {
		rest := slices.Delete(slices.Clone(v.Requests), place, place+1)
		for _, tile := range []impl.Tile{spotted(q.Ref, 8), tileOf(q.Ref)} {
			data := listAs(tile.Features)
			expectTook(t, fmt.Sprint(place), v, q.Ref, data, cacheOf(4, tile), rest...)
			after := impl.ReplyViewer(v, q.Ref, data).Viewer
			expectViewerFault(t, "taken", after, impl.OK)
			expectBad(t, "twice", after, q.Ref, data)
			expectBad(t, "twice, another one", after, q.Ref, listAs(spotted(q.Ref, 9).Features))
		}
	}
	// the time and the camera are not asked, nor is when it is due
	late := looking(four(), 9000, cacheOf(4), req(ref(2, 1, 0), 0, 99), req(ref(2, 0, 0), 9999, 1))
	late.Bad = 9999
	tile := spotted(ref(2, 1, 0), 5)
	expectTook(t, "late", late, tile.Ref, listAs(tile.Features), cacheOf(4, tile), late.Requests[1])
}

// Refs that were not asked for: beside what is seen, of other zooms, there
// already, or no refs.
func TestReplyViewerNotAskedFor(t *testing.T) {
	v := halfway()
	for _, r := range append(allRefs(), wrongRefs()...) {
		if slices.Contains(refsAsked(v.Requests), r) {
			continue
		}
		expectBad(t, fmt.Sprint(r), v, r, impl.ServeTile(nil, r).Bytes)
		expectBad(t, fmt.Sprint(r), v, r, listAs(nil))
		expectBad(t, fmt.Sprint(r, " spoiled"), v, r, []byte{9})
	}
	none := looking(four(), 5, cacheOf(4))
	expectBad(t, "nothing was", none, ref(2, 0, 0), listAs(nil))
	expectBad(t, "no ref", none, impl.Ref{Z: -1}, nil)
}

// What was asked for and is not seen any more was not asked for; when it is seen
// again it is asked for again.
func TestReplyViewerOutOfSight(t *testing.T) {
	v := impl.NewViewer(cam(2, 0, 0, 8, 8), 4).Viewer
	tile := spotted(ref(2, 0, 0), 8)
	data := listAs(tile.Features)
	away := impl.PanViewer(v, 8, 0).Viewer
	expectBad(t, "out of sight", away, tile.Ref, data)
	back := impl.PanViewer(impl.ReplyViewer(away, tile.Ref, data).Viewer, -8, 0)
	want := looking(v.Camera, 0, cacheOf(4), req(tile.Ref, 3, 1))
	want.Bad = 1
	expectViewer(t, "back", back, []impl.Ref{tile.Ref}, want)
	expectTook(t, "taken then", back.Viewer, tile.Ref, data, cacheOf(4, tile))
	taken := impl.ReplyViewer(back.Viewer, tile.Ref, data).Viewer
	again := impl.PanViewer(impl.PanViewer(taken, 8, 0).Viewer, -8, 0)
	expectViewer(t, "there and back", again, nil, taken)
}

// Bytes that are spoiled at each place, cut at each place, longer, none, or of
// no features.
func TestReplyViewerSpoiled(t *testing.T) {
	v := halfway()
	r := ref(2, 0, 1)
	first, second := pixelOf(4, 2, 3, 12), pixelOf(6, 2, 5, 9)
	second.Label = "name"
	data := listAs([]impl.Feature{first, second})
	expectTook(t, "right", v, r, data, cacheAnd(v.Cache, keptAs(tileOf(r, first, second))), v.Requests[1])
	for place := range data {
		for step := 1; step < 256; step++ {
			other := slices.Clone(data)
			other[place] += byte(step)
			expectBad(t, fmt.Sprint(place, " by ", step), v, r, other)
		}
		expectBad(t, fmt.Sprint("cut at ", place), v, r, data[:place])
		expectBad(t, fmt.Sprint("from ", place+1), v, r, data[place+1:])
	}
	expectBad(t, "one more", v, r, append(slices.Clone(data), 0))
	expectBad(t, "twice", v, r, append(slices.Clone(data), data...))
	expectBad(t, "nil", v, r, nil)
	expectBad(t, "empty", v, r, []byte{})
	expectBad(t, "many", v, r, make([]byte, 901))
	expectBad(t, "many more", v, r, make([]byte, 20000))
	// with the right sum, but not what a list is
	expectBad(t, "not in order", v, r, listAs([]impl.Feature{second, first}))
	expectBad(t, "an Id twice", v, r, listAs([]impl.Feature{first, first}))
	wrong, _ := wrongFeatures()
	for i, f := range wrong {
		expectBad(t, fmt.Sprint("a feature with a fault ", i), v, r, listAs([]impl.Feature{f}))
	}
}

// The bytes of another tile, where its features do not reach: of each ref that
// is asked for those of each other one.
func TestReplyViewerOfAnotherRef(t *testing.T) {
	for z := int64(1); z <= impl.MaxZoom; z++ {
		middle := units[0] * 8 / units[z] / 2
		v := impl.NewViewer(cam(z, middle-4, middle-4, 8, 8), 4).Viewer
		if len(v.Requests) != 4 {
			t.Fatal(v)
		}
		for _, q := range v.Requests {
			for _, r := range refsOf(z) {
				data := impl.ServeTile([]impl.Feature{pixelOf(5, z, 8*r.X+4, 8*r.Y+4)}, r).Bytes
				if r == q.Ref {
					if !impl.ReplyViewer(v, q.Ref, data).Took {
						t.Errorf("%v: its own was not taken", r)
					}
					continue
				}
				expectBad(t, fmt.Sprint(q.Ref, " of ", r), v, q.Ref, data)
			}
		}
	}
}

// edge is the place on one way, X or Y, of a point that just meets a tile, and
// of the one beside it that just does not.
type edge struct {
	meets, misses int64
}

// edgesOf are those of a tile's X or Y, of a width, ahead of it and behind it, by
// what the document says: twice the place is not more than the reach, Width and
// 1 pixels, from the centre of the first pixel or of the last one.
func edgesOf(z, tile, width int64) []edge {
	unit := units[z]
	reach := (width + 1) * unit
	ahead := ((16*tile+1)*unit - reach) / 2
	behind := ((16*tile+15)*unit + reach) / 2
	return []edge{{ahead, ahead - 1}, {behind, behind + 1}}
}

// A feature that just meets the pixels of the tile, and one that just does not:
// at each side of each tile, of each width and kind. Its own points are asked:
// on the grid of the zoom both would meet it.
func TestReplyViewerAtTheReach(t *testing.T) {
	asked := 0
	for z := int64(1); z <= impl.MaxZoom; z++ {
		for _, r := range refsOf(z) {
			v := impl.NewViewer(cam(z, 8*r.X, 8*r.Y, 8, 8), 4).Viewer
			inX, inY := (8*r.X+3)*units[z]+1, (8*r.Y+5)*units[z]+1
			for width := range int64(4) {
				for _, e := range edgesOf(z, r.X, width) {
					asked += expectAtReach(t, v, r, width, at(e.meets, inY), at(e.misses, inY))
				}
				for _, e := range edgesOf(z, r.Y, width) {
					asked += expectAtReach(t, v, r, width, at(inX, e.meets), at(inX, e.misses))
				}
			}
		}
	}
	if asked < 500 {
		t.Error("the test asks for little", asked)
	}
}

// expectAtReach tells whether the points are in the world, so that it asked.
func expectAtReach(t *testing.T, v impl.Viewer, r impl.Ref, width int64, meets, misses impl.Point) int {
	t.Helper()
	if min(misses.X, misses.Y) < 0 || max(misses.X, misses.Y) > impl.World {
		return 0
	}
	for _, k := range kindBounds {
		f := wide(k.kind, width, slices.Repeat([]impl.Point{meets}, int(k.least))...)
		expectTook(t, "just meets", v, r, listAs([]impl.Feature{f}), cacheOf(4, tileOf(r, f)))
		f = wide(k.kind, width, slices.Repeat([]impl.Point{misses}, int(k.least))...)
		expectBad(t, "just misses", v, r, listAs([]impl.Feature{f}))
		if k.kind != impl.KindPoint {
			// one of its points is enough, whichever
			f.Points[len(f.Points)-1] = meets
			expectTook(t, "one point meets", v, r, listAs([]impl.Feature{f}), cacheOf(4, tileOf(r, f)))
		}
	}
	return 1
}

// Of several features each has to reach, wherever it stands.
func TestReplyViewerOfSeveral(t *testing.T) {
	v := impl.NewViewer(cam(2, 8, 8, 8, 8), 4).Viewer
	r := ref(2, 1, 1)
	for count := 1; count <= 12; count++ {
		var list []impl.Feature
		for i := range int64(count) {
			list = append(list, pixelOf(i+1, 2, 8+i%8, 8+i/8))
		}
		expectTook(t, fmt.Sprint(count), v, r, listAs(list), cacheOf(4, tileOf(r, list...)))
		for place := range list {
			other := copyOf(list)
			other[place] = pixelOf(int64(place+1), 2, 17, 8)
			expectBad(t, fmt.Sprint(place, " of ", count), v, r, listAs(other))
		}
	}
	// a box that meets, of points that all are elsewhere, or a line that passes
	for _, f := range []impl.Feature{
		wide(impl.KindLine, 0, at(0, 0), at(1024, 1024)),
		wide(impl.KindLine, 0, at(0, 300), at(1024, 300)),
		wide(impl.KindLine, 0, at(100, 1000), at(100, 100), at(1000, 100)),
		wide(impl.KindArea, 0, at(0, 0), at(1024, 0), at(0, 1024)),
	} {
		expectTook(t, "around", v, r, listAs([]impl.Feature{f}), cacheOf(4, tileOf(r, f)))
	}
}

// The count up to its most, by each kind of reply that is not right; one that is
// right does not change it.
func TestReplyViewerCounts(t *testing.T) {
	tile := spotted(ref(2, 0, 1), 4)
	for _, bad := range []int64{0, 1, 5000, 9997, 9998, 9999} {
		v := halfway()
		v.Bad = bad
		want := v
		want.Bad = min(bad+1, 9999)
		for what, got := range map[string]impl.ViewerResult{
			"not asked for":  impl.ReplyViewer(v, ref(2, 2, 2), listAs(nil)),
			"spoiled":        impl.ReplyViewer(v, tile.Ref, []byte{0}),
			"does not reach": impl.ReplyViewer(v, tile.Ref, listAs(spotted(ref(2, 3, 3), 2).Features)),
		} {
			expectViewer(t, fmt.Sprint(what, " ", bad), got, nil, want)
		}
		expectTook(t, "right", v, tile.Ref, listAs(tile.Features), cacheAnd(v.Cache, keptAs(tile)), v.Requests[1])
	}
}

// Into a cache that is full: what was not asked for for the longest time goes,
// and nothing else is asked for then.
func TestReplyViewerOfAFullCache(t *testing.T) {
	tile := spotted(ref(2, 1, 1), 4)
	old := []impl.Tile{spotted(ref(0, 0, 0), 1), spotted(ref(3, 7, 7), 2), spotted(ref(1, 1, 1), 3), spotted(ref(2, 0, 0), 5)}
	v := looking(four(), 5, cacheOf(4, old...), req(ref(2, 0, 1), 6, 1), req(tile.Ref, 7, 1))
	expectTook(t, "full", v, tile.Ref, listAs(tile.Features), cacheOf(4, old[1], old[2], old[3], tile), v.Requests[0])
	v.Cache.Size = 5
	expectTook(t, "with room for one", v, tile.Ref, listAs(tile.Features), cacheOf(5, append(slices.Clone(old), tile)...), v.Requests[0])
	// also where the first one is seen: it is gone, and asked for by the next move
	seen := looking(four(), 5, cacheOf(4, old[3], old[0], old[1], old[2]), req(tile.Ref, 7, 1))
	expectTook(t, "the first one is seen", seen, tile.Ref, listAs(tile.Features), cacheOf(4, old[0], old[1], old[2], tile))
	after := impl.ReplyViewer(seen, tile.Ref, listAs(tile.Features)).Viewer
	expectMissing(t, "it is gone", after, ref(2, 0, 0), ref(2, 1, 0), ref(2, 0, 1))
	if sent := impl.PanViewer(after, 0, 0).Sent; !slices.Equal(sent, []impl.Ref{ref(2, 0, 0), ref(2, 1, 0), ref(2, 0, 1)}) {
		t.Error(sent)
	}
}

// All, some and none of the tiles that are seen are there, with others or not.
func TestMissingIn(t *testing.T) {
	seen := refsAs(four())
	for set := range 16 {
		var tiles []impl.Tile
		var missing []impl.Ref
		for i, r := range seen {
			if set>>i&1 == 1 {
				tiles = append(tiles, spotted(r, int64(i+1)))
			} else {
				missing = append(missing, r)
			}
		}
		expectMissing(t, fmt.Sprint(set), looking(four(), 5, cacheOf(4, tiles...)), missing...)
		slices.Reverse(tiles)
		others := []impl.Tile{tileOf(ref(1, 0, 0)), tileOf(ref(2, 2, 0)), tileOf(ref(3, 1, 1)), tileOf(ref(0, 0, 0))}
		v := looking(four(), 5, cacheOf(8, append(others, tiles...)...))
		for _, r := range missing[:len(missing)/2] {
			v.Requests = append(v.Requests, req(r, 9, 9))
		}
		expectMissing(t, fmt.Sprint("with others ", set), v, missing...)
	}
	expectMissing(t, "halfway", halfway(), ref(2, 1, 0), ref(2, 0, 1))
}

// seat is a reckoning of a viewer: a desk, a pile, and where one looks.
type seat struct {
	c   impl.Camera
	now int64
	d   desk
	p   pile
	bad int64
}

// seatOf is the seat of a viewer without a fault. When a request was sent ahead
// of the last time does not matter, only how often.
func seatOf(v impl.Viewer) *seat {
	s := &seat{c: v.Camera, now: v.Now, d: desk{size: int(v.Cache.Size), row: slices.Clone(v.Cache.Kept)}, bad: v.Bad}
	for _, q := range v.Requests {
		s.p = append(s.p, &slip{ref: q.Ref, sent: slices.Repeat([]int64{q.Due - 3}, int(q.Tries))})
	}
	return s
}

func (s *seat) viewer() impl.Viewer {
	v := impl.Viewer{Camera: s.c, Now: s.now, Cache: impl.Cache{Size: int64(s.d.size)}, Requests: s.p.requests(), Bad: s.bad}
	if len(s.d.row) > 0 {
		v.Cache.Kept = s.d.row
	}
	return v
}

// look tells what is sent where one looks elsewhere.
func (s *seat) look(c impl.Camera) []impl.Ref {
	s.c = c
	s.p.onlySeen(c)
	var sent []impl.Ref
	for _, r := range refsAs(c) {
		if !s.d.touch(r) {
			_, refs := s.p.ask(r, s.now)
			sent = append(sent, refs...)
		}
	}
	return sent
}

func (s *seat) tick(n int64) []impl.Ref {
	s.now += n
	return s.p.retry(s.now)
}

// reaches tells whether points reach from one centre to another one on one way,
// X or Y.
func reaches(places []int64, reach, first, last int64) bool {
	return 2*slices.Min(places)-reach <= last && 2*slices.Max(places)+reach >= first
}

// reachesAs tells whether a feature, with its own points, reaches a tile by what
// the document says of it.
func reachesAs(f impl.Feature, r impl.Ref) bool {
	var x, y []int64
	for _, p := range f.Points {
		x, y = append(x, p.X), append(y, p.Y)
	}
	unit := units[r.Z]
	reach := (f.Width + 1) * unit
	return reaches(x, reach, (16*r.X+1)*unit, (16*r.X+15)*unit) && reaches(y, reach, (16*r.Y+1)*unit, (16*r.Y+15)*unit)
}

// isRightAs tells whether bytes are those of a tile that may be of r.
func isRightAs(r impl.Ref, data []byte) bool {
	list, ok := unpackAs(data)
	return ok && len(data) <= 900 && !slices.ContainsFunc(list, func(f impl.Feature) bool { return !reachesAs(f, r) })
}

// reply tells whether the reply is taken.
func (s *seat) reply(r impl.Ref, data []byte) bool {
	if s.p.placeOf(r) < 0 || !isRightAs(r, data) {
		s.bad = min(s.bad+1, 9999)
		return false
	}
	s.p.drop(r)
	list, _ := unpackAs(data)
	tile := tileOf(r, list...)
	s.d.put(impl.Kept{Tile: tile, Ids: impl.RasterTile(tile).List})
	return true
}

// panAs, nearerAs and sizedAs are other cameras by what the document says of
// them.
func panAs(c impl.Camera, dx, dy int64) impl.Camera {
	return cam(c.Z, heldAs(c.X+dx, counts[c.Z]-c.W), heldAs(c.Y+dy, counts[c.Z]-c.H), c.W, c.H)
}

func nearerAs(c impl.Camera, z int64) impl.Camera {
	return cam(z, zoomAs(c.Z, c.X, c.W, z), zoomAs(c.Z, c.Y, c.H, z), c.W, c.H)
}

func sizedAs(c impl.Camera, w, h int64) impl.Camera {
	return cam(c.Z, heldAs(c.X, counts[c.Z]-w), heldAs(c.Y, counts[c.Z]-h), w, h)
}

// stepOf does one thing, chosen by chance, to a viewer and to a seat, and tells
// what came of both.
func stepOf(n *numbers, list []impl.Feature, v impl.Viewer, s *seat) (what string, got, want impl.ViewerResult) {
	switch n.next(0, 9) {
	case 0, 1:
		far := []int64{3, 8, 100}[n.next(0, 2)]
		dx, dy := n.next(-far, far), n.next(-far, far)
		what, got, want.Sent = "pan", impl.PanViewer(v, dx, dy), s.look(panAs(s.c, dx, dy))
	case 2:
		z := n.next(0, 3)
		what, got, want.Sent = "zoom", impl.ZoomViewer(v, z), s.look(nearerAs(s.c, z))
	case 3:
		w, h := n.next(1, 8), n.next(1, 8)
		what, got, want.Sent = "size", impl.SizeViewer(v, w, h), s.look(sizedAs(s.c, w, h))
	case 4, 5:
		time := min(n.next(0, 3), 9000-v.Now)
		what, got, want.Sent = "tick", impl.TickViewer(v, time), s.tick(time)
	default:
		r, data := someReply(n, list, v)
		got, want.Took = impl.ReplyViewer(v, r, data), s.reply(r, data)
		what = fmt.Sprint("reply ", want.Took)
	}
	want.Viewer = s.viewer()
	return what, got, want
}

// someReply is what may come: most often a tile that was asked for, of the map
// itself or not, spoiled or not.
func someReply(n *numbers, list []impl.Feature, v impl.Viewer) (impl.Ref, []byte) {
	r := someRef(n)
	if len(v.Requests) > 0 && n.next(0, 4) > 0 {
		r = v.Requests[n.next(0, int64(len(v.Requests)-1))].Ref
	} else if n.next(0, 1) == 0 {
		seen := refsAs(v.Camera)
		r = seen[n.next(0, int64(len(seen)-1))]
	}
	data := impl.ServeTile(list, r).Bytes
	switch n.next(0, 9) {
	case 0:
		data[n.next(0, int64(len(data)-1))] += byte(n.next(1, 255))
	case 1:
		data = data[:n.next(0, int64(len(data)))]
	case 2:
		data = impl.ServeTile(list, someRef(n)).Bytes
	case 3:
		data = listAs(n.inOrder(int(n.next(0, 2))))
	}
	return r, data
}

// expectSteps does many things one behind the other, and asks for the same of a
// viewer and of a seat.
func expectSteps(t *testing.T, n *numbers, list []impl.Feature, v impl.Viewer, count int, done map[string]int) {
	t.Helper()
	s := seatOf(v)
	for range count {
		what, got, want := stepOf(n, list, v, s)
		if !reflect.DeepEqual(got, want) {
			t.Fatalf("%s of %v: %v, not %v", what, v, got, want)
		}
		done[what]++
		v = got.Viewer
		if len(got.Sent) > 0 {
			done[what+" sent"]++
		}
		if int64(len(v.Cache.Kept)) == v.Cache.Size {
			done["full"]++
		}
	}
}

// Many steps one behind the other, from a new viewer on and from any other one.
func TestViewersAgainstTheDocument(t *testing.T) {
	n := numbers(181)
	done := map[string]int{}
	for i := range 480 {
		list := n.features(int(n.next(0, 5)))
		v := someViewer(&n)
		if i%2 == 0 {
			v = impl.NewViewer(someCamera(&n), n.next(4, 6)).Viewer
		}
		expectSteps(t, &n, list, v, 60, done)
	}
	for _, what := range []string{"pan", "pan sent", "zoom", "zoom sent", "size", "size sent", "tick", "tick sent", "reply true", "reply false", "full"} {
		if done[what] < 200 {
			t.Error("the test asks for little", what, done)
		}
	}
}

// someViewer is a viewer without a fault, who may have some of what is seen, and
// may have asked for some of the rest.
func someViewer(n *numbers) impl.Viewer {
	v := impl.Viewer{Camera: someCamera(n), Now: n.next(0, 9000), Bad: n.next(0, 9999), Cache: someCache(n, 4)}
	v.Cache.Size = max(v.Cache.Size, n.next(4, 10))
	if n.next(0, 3) == 0 {
		v.Bad, v.Now = n.next(9997, 9999), n.next(8997, 9000)
	}
	var missing []impl.Ref
	for _, r := range refsAs(v.Camera) {
		switch {
		case slices.Contains(refsIn(v.Cache), r):
		case n.next(0, 2) == 0:
			missing = append(missing, r)
		case n.next(0, 1) == 0 && int64(len(v.Cache.Kept)) < v.Cache.Size:
			tile := someTile(n, r)
			v.Cache.Kept = append(v.Cache.Kept, impl.Kept{Tile: tile, Ids: impl.RasterTile(tile).List})
		}
	}
	shuffle(n, v.Cache.Kept)
	shuffle(n, missing)
	for _, r := range missing {
		v.Requests = append(v.Requests, req(r, min(max(0, v.Now+n.next(-3, 3)), 9999), n.next(1, 99)))
	}
	return v
}

// One tile: asked for, lost, due again, spoiled, taken, and come once more.
func TestOneViewer(t *testing.T) {
	list := []impl.Feature{pixelOf(5, 1, 3, 3), pixelOf(6, 1, 12, 3)}
	r := ref(1, 0, 0)
	data := impl.ServeTile(list, r).Bytes
	got := impl.NewViewer(cam(1, 2, 2, 3, 3), 4)
	v := looking(cam(1, 2, 2, 3, 3), 0, cacheOf(4), req(r, 3, 1))
	expectViewer(t, "a new one", got, []impl.Ref{r}, v)
	got = impl.TickViewer(got.Viewer, 2)
	v.Now = 2
	expectViewer(t, "not due", got, nil, v)
	got = impl.TickViewer(got.Viewer, 1)
	v.Now, v.Requests = 3, []impl.Request{req(r, 6, 2)}
	expectViewer(t, "due", got, []impl.Ref{r}, v)
	got = impl.ReplyViewer(got.Viewer, r, data[1:])
	v.Bad = 1
	expectViewer(t, "spoiled", got, nil, v)
	got = impl.ReplyViewer(got.Viewer, r, impl.ServeTile(list, ref(1, 1, 0)).Bytes)
	v.Bad = 2
	expectViewer(t, "of another ref", got, nil, v)
	expectTook(t, "right", got.Viewer, r, data, cacheOf(4, tileOf(r, list[0])))
	got = impl.ReplyViewer(got.Viewer, r, data)
	expectBad(t, "twice", got.Viewer, r, data)
	got = impl.TickViewer(impl.ReplyViewer(got.Viewer, r, data).Viewer, 100)
	v = looking(v.Camera, 103, cacheOf(4, tileOf(r, list[0])))
	v.Bad = 3
	expectViewer(t, "due no more", got, nil, v)
	got = impl.PanViewer(got.Viewer, 4, 0)
	v.Camera, v.Requests = cam(1, 6, 2, 3, 3), []impl.Request{req(ref(1, 1, 0), 106, 1)}
	expectViewer(t, "farther", got, []impl.Ref{ref(1, 1, 0)}, v)
	expectMissing(t, "the other one", got.Viewer, ref(1, 1, 0))
}
