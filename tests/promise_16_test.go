package tests

import (
	"fmt"
	"reflect"
	"slices"
	"testing"

	"loop.example/g00403/impl"
)

// move is one thing that a viewer does, whatever the network does.
type move struct {
	what string
	a, b int64
}

func (m move) of(v impl.Viewer) impl.ViewerResult {
	switch m.what {
	case "pan":
		return impl.PanViewer(v, m.a, m.b)
	case "zoom":
		return impl.ZoomViewer(v, m.a)
	case "size":
		return impl.SizeViewer(v, m.a, m.b)
	}
	return impl.TickViewer(v, m.a)
}

func someMove(n *numbers) move {
	switch n.next(0, 7) {
	case 0, 1, 2:
		far := []int64{3, 8, 60}[n.next(0, 2)]
		return move{"pan", n.next(-far, far), n.next(-far, far)}
	case 3, 4:
		return move{"zoom", n.next(0, 3), 0}
	case 5:
		least := 1 + 5*n.next(0, 1)
		return move{"size", n.next(least, 8), n.next(least, 8)}
	}
	return move{"tick", n.next(0, 4), 0}
}

// someMoves are as many moves as the promise speaks of, or fewer.
func someMoves(n *numbers) []move {
	var moves []move
	for range n.next(1, 14) {
		moves = append(moves, someMove(n))
	}
	return moves
}

// reply is what comes over a wire.
type reply struct {
	r         impl.Ref
	data      []byte
	isSpoiled bool
}

// wire is a network that loses, spoils and delays what goes over it, and brings
// it twice.
type wire struct {
	n     *numbers
	list  []impl.Feature
	onWay []reply
	done  map[string]int
}

// send puts what was asked for on the way, or loses it.
func (w *wire) send(refs []impl.Ref) {
	for _, r := range refs {
		right := reply{r: r, data: impl.ServeTile(w.list, r).Bytes}
		spoiled := reply{r: r, data: slices.Clone(right.data), isSpoiled: true}
		spoiled.data[w.n.next(0, int64(len(right.data)-1))] += byte(w.n.next(1, 255))
		switch w.n.next(0, 6) {
		case 0:
			w.done["lost"]++
		case 1:
			w.onWay = append(w.onWay, right, right)
		case 2:
			w.onWay = append(w.onWay, spoiled)
		case 3:
			w.onWay = append(w.onWay, spoiled, right)
		default:
			w.onWay = append(w.onWay, right)
		}
	}
	shuffle(w.n, w.onWay)
}

// next takes one that comes; false, if for now none does.
func (w *wire) next() (reply, bool) {
	if len(w.onWay) == 0 || w.n.next(0, 2) == 0 {
		return reply{}, false
	}
	one := w.onWay[0]
	w.onWay = w.onWay[1:]
	return one, true
}

// traveller is a viewer at the end of a wire.
type traveller struct {
	wire
	chart *chart
	v     impl.Viewer
}

// newTraveller is one with a new viewer, who asks for all that is seen.
func newTraveller(n *numbers, list []impl.Feature, m *chart, c impl.Camera, size int64, done map[string]int) *traveller {
	u := &traveller{wire: wire{n: n, list: list, done: done}, chart: m}
	got := impl.NewViewer(c, size)
	u.v = got.Viewer
	u.send(got.Sent)
	return u
}

// expectSeen asks of each pixel for the map itself, the nearest parent that is
// there, or nothing, and of all that is there that it is of the map.
func (u *traveller) expectSeen(t *testing.T, what string) {
	t.Helper()
	c, frame := u.v.Camera, impl.FrameOf(u.v).List
	if int64(len(frame)) != c.W*c.H {
		t.Fatalf("%s: %v: %v", what, u.v, frame)
	}
	for place, id := range frame {
		x, y := c.X+int64(place)%c.W, c.Y+int64(place)/c.W
		if want := u.chart.seenBy(u.v, x, y); id != want {
			t.Fatalf("%s: %v of %v: %d at %d,%d, not %d", what, u.v, u.list, id, x, y, want)
		}
	}
	if got := judge(u.list, u.v); got != allRight {
		t.Fatalf("%s: %v of %v: %v", what, u.v, u.list, got)
	}
	if isCompleteAs(u.v) {
		u.done["complete"]++
		expectItself(t, what, u.chart, u.v)
	} else if slices.Max(frame) > 0 {
		u.done["as far as it has come"]++
	}
}

// expectItself asks for the map itself: at each pixel, for its labels, and for what
// is picked.
func expectItself(t *testing.T, what string, m *chart, v impl.Viewer) {
	t.Helper()
	c := v.Camera
	placed, _ := placeAs(m.list, c)
	if got := impl.LabelsIn(v); got.Code != impl.OK || !slices.Equal(got.Placed, placed) {
		t.Fatalf("%s: %v of %v: %v, not %v", what, v, m.list, got, placed)
	}
	for place, id := range impl.FrameOf(v).List {
		x, y := int64(place)%c.W, int64(place)/c.W
		itself := m.at(c.Z, c.X+x, c.Y+y)
		if id != itself {
			t.Fatalf("%s: %v of %v: %d at %d,%d, not %d", what, v, m.list, id, x, y, itself)
		}
		picked := labelAs(placed, c.X+x, c.Y+y)
		if picked == 0 {
			picked = itself
		}
		// each pick asks for the whole viewer: some of them are enough
		if place%17 == 0 {
			expectPicked(t, what, v, x, y, picked)
		}
	}
}

// hear takes what comes.
func (u *traveller) hear(t *testing.T) {
	t.Helper()
	for one, ok := u.next(); ok; one, ok = u.next() {
		before := u.v
		isAsked := slices.Contains(refsAsked(before.Requests), one.r)
		got := impl.ReplyViewer(before, one.r, one.data)
		u.v = got.Viewer
		if got.Code != impl.OK || got.Took != (isAsked && !one.isSpoiled) {
			t.Fatalf("%v: %v of %v", one, got, before)
		}
		what := "taken"
		switch {
		case one.isSpoiled:
			what = "spoiled"
		case !isAsked && slices.Contains(refsIn(before.Cache), one.r):
			what = "twice"
		case !isAsked:
			what = "late"
		}
		u.done[what]++
		u.expectSeen(t, what)
		if !got.Took && !reflect.DeepEqual(sightOf(before), sightOf(u.v)) {
			t.Fatalf("%s: %v, then %v", what, before, u.v)
		}
	}
}

func (u *traveller) does(t *testing.T, m move) {
	t.Helper()
	got := m.of(u.v)
	if got.Code != impl.OK {
		t.Fatalf("%v of %v: %v", m, u.v, got)
	}
	u.v = got.Viewer
	u.done[m.what]++
	u.send(got.Sent)
	u.expectSeen(t, m.what)
}

// settle lets time go on until all that is seen is there, by the wire.
func (u *traveller) settle(t *testing.T) {
	t.Helper()
	for range 300 {
		if isCompleteAs(u.v) {
			return
		}
		u.does(t, move{"tick", 3, 0})
		u.hear(t)
	}
	t.Fatal("it never came", u.v)
}

// somePlace is a map with features all over the world and near what a camera
// sees.
func somePlace(n *numbers, c impl.Camera) []impl.Feature {
	list := namedCrowd(n, c)
	for i := range list {
		if n.next(0, 2) == 0 {
			f := n.feature(list[i].Id)
			list[i] = f
		}
	}
	return list
}

// P16: whatever was lost, spoiled by one byte or late, each pixel shows the map
// itself, or the nearest parent that is there, or nothing, in a viewer that came
// of a new one by at most 14 moves.
func TestPromise16(t *testing.T) {
	n := numbers(231)
	done := map[string]int{}
	for range 150 {
		c := anyCamera(&n)
		list := somePlace(&n, c)
		u := newTraveller(&n, list, chartOf(list), c, n.next(4, 10), done)
		u.expectSeen(t, "new")
		u.hear(t)
		for _, m := range someMoves(&n) {
			u.does(t, m)
			u.hear(t)
		}
	}
	for _, what := range []string{"lost", "taken", "spoiled", "twice", "late", "pan", "zoom", "size", "tick", "complete", "as far as it has come"} {
		if done[what] < 50 {
			t.Error("the test asks for little", what, done)
		}
	}
}

// P16: two that did the same, with whatever network, see the same when nothing is
// missing: on the way, and when all has come at last, by the wire or at once.
func TestPromise16OfTwo(t *testing.T) {
	n := numbers(232)
	done := map[string]int{}
	both := 0
	for i := range 120 {
		c, size := anyCamera(&n), n.next(4, 10)
		list := somePlace(&n, c)
		m := chartOf(list)
		other := numbers(1000 + uint64(i))
		a, b := newTraveller(&n, list, m, c, size, done), newTraveller(&other, list, m, c, size, done)
		for _, m := range someMoves(&n) {
			a.hear(t)
			b.hear(t)
			if isCompleteAs(a.v) && isCompleteAs(b.v) {
				both++
				expectSameSight(t, a.v, b.v)
			}
			a.does(t, m)
			b.does(t, m)
		}
		if isCompleteAs(a.v) != isCompleteAs(b.v) {
			done["one of two"]++
		}
		a.settle(t)
		if i%2 == 0 {
			b.settle(t)
		} else {
			b.v = impl.DrainViewer(list, b.v).Viewer
			b.expectSeen(t, "drained")
		}
		expectSameSight(t, a.v, b.v)
		if !reflect.DeepEqual(a.v.Cache, b.v.Cache) {
			done["not the same cache"]++
		}
	}
	for _, what := range []string{"lost", "taken", "spoiled", "twice", "late", "one of two", "not the same cache"} {
		if done[what] < 15 {
			t.Error("the test asks for little", what, done)
		}
	}
	if both < 50 {
		t.Error("the test asks for little", both)
	}
}

// expectSameSight asks of two for the same in all that they see.
func expectSameSight(t *testing.T, a, b impl.Viewer) {
	t.Helper()
	if a.Camera != b.Camera || !reflect.DeepEqual(sightOf(a), sightOf(b)) || !impl.IsComplete(a) {
		t.Fatalf("%v and %v: %v, not %v", a, b, sightOf(a), sightOf(b))
	}
	for place := int64(0); place < a.Camera.W*a.Camera.H; place += 13 {
		x, y := place%a.Camera.W, place/a.Camera.W
		if one, other := impl.PickIn(a, x, y), impl.PickIn(b, x, y); one != other {
			t.Fatalf("%v and %v at %d,%d: %v, not %v", a, b, x, y, one, other)
		}
	}
}

// P16: where each that is asked for is answered all that is seen is there, and the
// frame is the map itself: one by one in whatever order, or drained.
func TestPromise16WhereAllIsAnswered(t *testing.T) {
	n := numbers(233)
	done := map[string]int{}
	asked := map[int]int{}
	for range 80 {
		c := anyCamera(&n)
		list := somePlace(&n, c)
		m := chartOf(list)
		u := newTraveller(&n, list, m, c, n.next(4, 10), done)
		for _, move := range someMoves(&n) {
			asked[len(u.v.Requests)]++
			drained := impl.DrainViewer(list, u.v)
			if drained.Code != impl.OK || drained.Took != (len(u.v.Requests) > 0) || len(drained.Sent) != 0 {
				t.Fatalf("%v of %v: %v", u.v, list, drained)
			}
			expectAllAnswered(t, "drained", m, u.v, drained.Viewer)
			one := u.v
			refs := refsAsked(u.v.Requests)
			shuffle(&n, refs)
			for _, r := range refs {
				got := impl.AnswerOne(list, one, r)
				if got.Code != impl.OK || !got.Took || len(got.Sent) != 0 {
					t.Fatalf("%v of %v and %v: %v", r, one, list, got)
				}
				one = got.Viewer
			}
			expectAllAnswered(t, "one by one", m, u.v, one)
			expectSameSight(t, drained.Viewer, one)
			if n.next(0, 2) == 0 {
				u.v = drained.Viewer
			}
			u.does(t, move)
			u.hear(t)
		}
	}
	if asked[0] < 100 || asked[1] < 100 || asked[2] < 40 || asked[4] < 20 {
		t.Error("the test asks for little", asked)
	}
}

// expectAllAnswered asks that all that is seen is there, as the map itself, and
// that nothing else is another one than before.
func expectAllAnswered(t *testing.T, what string, m *chart, before, v impl.Viewer) {
	t.Helper()
	if v.Camera != before.Camera || v.Now != before.Now || v.Bad != before.Bad || len(v.Requests) != 0 {
		t.Fatalf("%s: %v was %v", what, v, before)
	}
	if !impl.IsComplete(v) || impl.MissingIn(v).Refs != nil {
		t.Fatalf("%s: %v is not complete", what, v)
	}
	if got, want := impl.FrameOf(v), impl.RefFrame(m.list, v.Camera); !reflect.DeepEqual(got, want) {
		t.Fatalf("%s: %v of %v: %v, not %v", what, v, m.list, got, want)
	}
	if got := judge(m.list, v); got != allRight {
		t.Fatalf("%s: %v of %v: %v", what, v, m.list, got)
	}
	expectItself(t, what, m, v)
}

// P16: each byte of each reply spoiled: nothing is seen of it, and what was asked
// for still is.
func TestPromise16Spoiled(t *testing.T) {
	list := harbour()
	v := impl.DrainViewer(list, impl.NewViewer(cam(1, 0, 0, 8, 8), 6).Viewer).Viewer
	v = impl.PanViewer(impl.ZoomViewer(v, 2).Viewer, -1, -1).Viewer
	if len(v.Requests) != 4 {
		t.Fatal(v)
	}
	was := sightOf(v)
	for _, q := range v.Requests {
		data := impl.ServeTile(list, q.Ref).Bytes
		for place := range data {
			for _, step := range []byte{1, 2, 64, 128, 255} {
				spoiled := slices.Clone(data)
				spoiled[place] += step
				got := impl.ReplyViewer(v, q.Ref, spoiled)
				expectCountOnly(t, fmt.Sprint(q.Ref, place, step), v, got)
				if judge(list, got.Viewer) != allRight || !reflect.DeepEqual(sightOf(got.Viewer), was) {
					t.Fatalf("%v, byte %d by %d: %v", q.Ref, place, step, got)
				}
			}
		}
		v = impl.AnswerOne(list, v, q.Ref).Viewer
		was = sightOf(v)
	}
	expectItself(t, "all came", chartOf(list), v)
}

// P16: nearer and nearer while nothing comes: each time what the first tile has is
// seen, by the zoom at which it came; and the map itself, when that came.
func TestPromise16OfParents(t *testing.T) {
	town := named(5, 1, 3, 27, 30, "ab")
	lake := wide(impl.KindArea, 0, at(300, 400), at(700, 450), at(600, 800), at(310, 700))
	lake.Id, lake.Layer, lake.Label = 9, 0, ""
	list := []impl.Feature{town, lake}
	m := chartOf(list)
	differ := 0
	for from := range int64(4) {
		for size := int64(4); size <= 10; size += 3 {
			v := impl.NewViewer(cam(from, counts[from]/2-4, counts[from]/2-4, 8, 8), size).Viewer
			v = impl.DrainViewer(list, v).Viewer
			expectItself(t, "it came", m, v)
			for z := from + 1; z <= 3; z++ {
				v = impl.ZoomViewer(v, z).Viewer
				c, ids := v.Camera, impl.FrameOf(v).List
				for place, id := range ids {
					x, y := c.X+int64(place)%c.W, c.Y+int64(place)/c.W
					if want := m.at(from, x>>(z-from), y>>(z-from)); id != want {
						t.Fatalf("from %d, at %d: %d at %d,%d, not %d", from, z, id, x, y, want)
					}
					if id != m.at(z, x, y) {
						differ++
					}
				}
				expectVerdict(t, "a parent", list, v, allRight)
				expectAllAnswered(t, "nearer", m, v, impl.DrainViewer(list, v).Viewer)
			}
		}
	}
	if differ < 50 {
		t.Error("the test asks for little", differ)
	}
}

// P16: a tile of another map that came on the way is found, by those that ask for
// it: the promise is not kept by asking for nothing.
func TestPromise16OfAnotherMap(t *testing.T) {
	n := numbers(234)
	found := map[verdict]int{}
	for range 200 {
		c := broadCamera(&n)
		list := namedCrowd(&n, c)
		v := impl.NewViewer(c, 10).Viewer
		other := list
		for range 3 {
			other = othered(&n, other)
		}
		v = impl.AnswerOne(other, v, v.Requests[0].Ref).Viewer
		v = impl.DrainViewer(list, v).Viewer
		want := judgeAs(list, v)
		expectVerdict(t, "another map", list, v, want)
		found[want]++
	}
	if found[verdict{}] < 3 || found[allRight] < 10 || found[verdict{false, true, true, true}] < 10 || found[verdict{false, false, true, false}]+found[verdict{false, false, true, true}] < 10 || found[verdict{false, true, false, false}] < 3 {
		t.Error("the test asks for little", found)
	}
}

// auditAnswers is what the layer of the audit answers of the same arguments.
type auditAnswers struct {
	answered, drained impl.ViewerResult
	told              verdict
}

// auditCall are these arguments.
type auditCall struct {
	list []impl.Feature
	v    impl.Viewer
	r    impl.Ref
}

func (c auditCall) ask() auditAnswers {
	return auditAnswers{
		answered: impl.AnswerOne(c.list, c.v, c.r),
		drained:  impl.DrainViewer(c.list, c.v),
		told:     judge(c.list, c.v),
	}
}

func (c auditCall) copy() auditCall {
	c.list, c.v = copyOf(c.list), copyViewer(c.v)
	return c
}

func (c auditCall) memory() auditCall {
	c.list, c.v = whole(c.list), wholeViewer(c.v)
	return c
}

func (c auditCall) spoil() {
	spoil(c.list[:cap(c.list)])
	spoilViewer(c.v)
}

// codes are the codes that the document asks for.
func (c auditCall) codes() []int64 {
	code := firstOf(impl.FeaturesFault(c.list), viewerCodeAs(c.v))
	told := verdict{}
	if code == impl.OK {
		told = judgeAs(c.list, c.v)
	}
	return append([]int64{firstOf(code, refCodeAs(c.r)), code}, told.codes()...)
}

// codes are 1 for what is so.
func (v verdict) codes() []int64 {
	return []int64{isSeenAs(v.holds), isSeenAs(v.frame), isSeenAs(v.labels), isSeenAs(v.picks)}
}

func (a auditAnswers) codes() []int64 {
	return append([]int64{a.answered.Code, a.drained.Code}, a.told.codes()...)
}

// isZero tells whether all that stands beside a code is zero.
func (a auditAnswers) isZero() bool {
	for _, result := range []impl.ViewerResult{a.answered, a.drained} {
		if result.Code != impl.OK && !reflect.DeepEqual(result, impl.ViewerResult{Code: result.Code}) {
			return false
		}
	}
	return true
}

// roomyMap is the same map with room behind the ends of its lists, in which
// something stands.
func roomyMap(n *numbers, list []impl.Feature) []impl.Feature {
	list = copyOf(list)
	for i, f := range list {
		list[i].Points = append(f.Points, at(1, 1), at(2, 2))[:len(f.Points)]
	}
	return append(list, n.feature(1), n.feature(2))[:len(list)]
}

// strangeAuditCall is a call of which anything may be wrong.
func strangeAuditCall(n *numbers) auditCall {
	list, v := someSight(n)
	c := auditCall{list: list, v: v, r: strangeRef(n)}
	if count := int64(len(v.Requests)); count > 0 && n.next(0, 1) == 0 {
		c.r = v.Requests[n.next(0, count-1)].Ref
	}
	if n.next(0, 2) == 0 {
		c.list = strangeFeatures(n)
	}
	if n.next(0, 1) == 0 {
		c.v = strangeViewer(n)
	}
	c.list, c.v = roomyMap(n, c.list), roomyViewer(n, c.v)
	return c
}

// P1, chapter 15: an answer at every argument.
func TestPromise1OfAudits(t *testing.T) {
	n := numbers(235)
	of, told := []int64{impl.ErrMany, impl.ErrRange, impl.ErrTaken, impl.ErrState}, []int64{1}
	took := 0
	expectAnswers(t, 2500, func() auditCall {
		c := strangeAuditCall(&n)
		if c.copy().ask().answered.Took {
			took++
		}
		return c
	}, of, of, told, told, told, told)
	if took < 100 {
		t.Error("the test asks for little", took)
	}
	c := auditCall{v: looking(four(), 5, cacheOf(4, tileOf(ref(2, 0, 0))), req(ref(2, 1, 0), 6, 1)), r: ref(2, 1, 0)}
	other := c.copy()
	other.list = []impl.Feature{}
	other.v.Cache.Kept[0].Tile.Features = []impl.Feature{}
	if !reflect.DeepEqual(c.ask(), other.ask()) || c.ask().told != allRight {
		t.Error("an empty list is not nil")
	}
	c.v.Cache.Kept, other.v.Cache.Kept = nil, []impl.Kept{}
	c.v.Requests, other.v.Requests = nil, []impl.Request{}
	if !reflect.DeepEqual(c.ask(), other.ask()) || c.ask().told != allRight {
		t.Error("an empty cache is not nil")
	}
}

// someAuditCall is a call without a fault, of a tile that is asked for.
func someAuditCall(n *numbers) auditCall {
	list, v := someSight(n)
	for len(v.Requests) == 0 {
		list, v = someSight(n)
	}
	r := v.Requests[n.next(0, int64(len(v.Requests)-1))].Ref
	return auditCall{list: roomyMap(n, list), v: roomyViewer(n, v), r: r}
}

// P1, chapter 15: an answer shares no memory with an argument, nor with another
// answer, and no two of its lists share any.
func TestPromise1OfAuditsNewMemory(t *testing.T) {
	n := numbers(236)
	features := 0
	for range 600 {
		c := someAuditCall(&n)
		given := c.memory()
		got, kept := c.ask(), c.ask()
		if firstOf(kept.answered.Code, kept.drained.Code) != impl.OK || !kept.answered.Took || !kept.drained.Took {
			t.Fatalf("%v: %v", c, kept)
		}
		last := kept.answered.Viewer.Cache.Kept
		features += len(last[len(last)-1].Tile.Features)
		spoilResult(t, got.answered, kept.answered)
		spoilResult(t, got.drained, kept.drained)
		expectOwnMemory(t, c, given, kept, c.spoil)
	}
	if features < 600 {
		t.Error("the test asks for little", features)
	}
}

// P1, chapter 15: so it is where nothing is answered: the viewer is another one in
// memory.
func TestPromise1OfAuditsOfNoneNewMemory(t *testing.T) {
	n := numbers(237)
	for range 300 {
		c := someAuditCall(&n)
		c.v.Requests = c.v.Requests[:0]
		given := c.memory()
		got, kept := c.ask(), c.ask()
		if kept.answered.Took || kept.drained.Took || kept.answered.Viewer.Bad != min(c.v.Bad+1, 9999) || kept.drained.Viewer.Bad != c.v.Bad {
			t.Fatalf("%v: %v", c, kept)
		}
		spoilResult(t, got.answered, kept.answered)
		spoilResult(t, got.drained, kept.drained)
		expectOwnMemory(t, c, given, kept, c.spoil)
	}
}

// P1, chapter 15: a map whose features are those of the tiles that are there, in
// memory, is read alone, and no answer shares any with it.
func TestPromise1OfAuditsWithSharedMemory(t *testing.T) {
	features, ids := two(), plain(0)
	cache := impl.Cache{Size: 6}
	for _, r := range []impl.Ref{ref(2, 1, 0), ref(2, 1, 1)} {
		cache.Kept = append(cache.Kept, impl.Kept{Tile: tileOf(r, features...), Ids: ids})
	}
	v := looking(four(), 5, cache, req(ref(2, 0, 1), 6, 1), req(ref(2, 0, 0), 6, 1))
	expectViewerFault(t, "shared", v, impl.OK)
	c := auditCall{list: features, v: v, r: ref(2, 0, 0)}
	given, kept := c.memory(), c.copy().ask()
	if len(kept.answered.Viewer.Cache.Kept[2].Tile.Features) != 2 {
		t.Fatal("the test asks for little", kept)
	}
	for _, pick := range []func(a auditAnswers) impl.ViewerResult{
		func(a auditAnswers) impl.ViewerResult { return a.answered },
		func(a auditAnswers) impl.ViewerResult { return a.drained },
	} {
		got := c.ask()
		if !reflect.DeepEqual(got, kept) {
			t.Fatalf("%v, not %v", got, kept)
		}
		spoilResult(t, pick(got), pick(kept))
		if !reflect.DeepEqual(given, c.memory()) || !reflect.DeepEqual(features, two()) || !slices.Equal(ids, plain(0)) {
			t.Fatal("the argument was spoiled", c)
		}
	}
}

// P1, chapter 15: nothing hangs on the order in which the map is told; what is
// told as right or not does not hang on the order in which tiles are kept either,
// nor on what was asked for, nor on the time.
func TestPromise1OfAuditsInWhateverOrder(t *testing.T) {
	n := numbers(238)
	for range 200 {
		c := someAuditCall(&n)
		expectInWhateverOrder(t, &n, c.list, c.ask)
		want := judge(c.list, c.v)
		for range 3 {
			other := c.copy()
			shuffle(&n, other.v.Cache.Kept)
			other.v.Now, other.v.Bad = n.next(0, 9000), n.next(0, 9999)
			other.v.Requests = other.v.Requests[:n.next(0, int64(len(other.v.Requests)))]
			if got := judge(other.list, other.v); got != want {
				t.Fatalf("%v: %v, not %v", other, got, want)
			}
		}
	}
}

// P1, chapter 15: nothing is kept from call to call: the same map and viewer tell
// the same, whatever others told in between.
func TestPromise1OfAuditsKeepsNothing(t *testing.T) {
	n := numbers(239)
	var calls []auditCall
	var answers []auditAnswers
	for range 150 {
		c := someAuditCall(&n)
		calls, answers = append(calls, c), append(answers, c.ask())
	}
	for i, c := range slices.Backward(calls) {
		if got := c.ask(); !reflect.DeepEqual(got, answers[i]) {
			t.Fatalf("%v: %v, then %v", c, answers[i], got)
		}
	}
}

// P1, chapter 15: as many calls at once as there may be tell what each tells
// alone.
func TestPromise1OfAuditsAtOnce(t *testing.T) {
	n := numbers(240)
	c := someAuditCall(&n)
	want := c.copy().ask()
	answers := make(chan auditAnswers)
	for range 20 {
		go func() { answers <- c.ask() }()
	}
	for range 20 {
		if got := <-answers; !reflect.DeepEqual(got, want) {
			t.Errorf("%v: %v, not %v", c, got, want)
		}
	}
}
