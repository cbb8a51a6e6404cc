package tests

import (
	"reflect"
	"slices"
	"testing"

	"loop.example/g00403/impl"
)

// post has of each ref that is asked for when it was sent last.
type post struct {
	last map[impl.Ref]int64
	sent int
	kept int // was asked for, and not sent
}

// expectAsked asks for a tile: it is sent once, and then asked for; where it was
// asked for already nothing is sent.
func (p *post) expectAsked(t *testing.T, list []impl.Request, r impl.Ref, now int64) []impl.Request {
	t.Helper()
	_, isThere := p.last[r]
	got := impl.AskTile(list, r, now)
	if !isThere && len(p.last) == 8 {
		expectNoRequests(t, "no room", got, impl.ErrFull)
		return list
	}
	if got.Code != impl.OK || !impl.IsAsked(got.Requests, r) {
		t.Fatalf("%v: %v", r, got)
	}
	if isThere {
		p.kept++
		if len(got.Sent) != 0 || !slices.Equal(got.Requests, list) {
			t.Fatalf("%v was asked for already: %v", r, got)
		}
		return got.Requests
	}
	p.last[r] = now
	p.sent++
	if !slices.Equal(got.Sent, []impl.Ref{r}) || !slices.Equal(without(refsAsked(got.Requests), r), eachOnce(refsAsked(list))) {
		t.Fatalf("%v: %v", r, got)
	}
	return got.Requests
}

// expectRetried asks that just those are sent again that were sent a RetryTime
// ago or earlier, each of them once, and that none is gone.
func (p *post) expectRetried(t *testing.T, list []impl.Request, now int64) []impl.Request {
	t.Helper()
	got := impl.RetryAll(list, now)
	if got.Code != impl.OK || !slices.Equal(refsAsked(got.Requests), refsAsked(list)) {
		t.Fatalf("%v at %d: %v", list, now, got)
	}
	var due []impl.Ref
	for _, r := range refsAsked(list) {
		if p.last[r]+impl.RetryTime <= now {
			due = append(due, r)
			p.last[r] = now
			p.sent++
		} else {
			p.kept++
		}
	}
	if !slices.Equal(got.Sent, due) {
		t.Fatalf("%v at %d: %v, not %v", list, now, got.Sent, due)
	}
	return got.Requests
}

// expectDropped asks that what is there is asked for no more, and all else is.
func (p *post) expectDropped(t *testing.T, list []impl.Request, r impl.Ref) []impl.Request {
	t.Helper()
	_, isThere := p.last[r]
	delete(p.last, r)
	got := impl.DropRequest(list, r)
	if !isThere {
		expectNoRequests(t, "not asked for", got, impl.ErrNone)
		return list
	}
	if got.Code != impl.OK || len(got.Sent) != 0 || impl.IsAsked(got.Requests, r) || !slices.Equal(eachOnce(refsAsked(got.Requests)), without(refsAsked(list), r)) {
		t.Fatalf("%v of %v: %v", r, list, got)
	}
	return got.Requests
}

// expectOnlySeen asks that of requests those stay just that are seen, as they
// are and in their order.
func expectOnlySeen(t *testing.T, list []impl.Request, c impl.Camera) []impl.Request {
	t.Helper()
	got := impl.OnlySeen(list, c)
	if got.Code != impl.OK || len(got.Sent) != 0 {
		t.Fatalf("%v of %v: %v", c, list, got)
	}
	rest := got.Requests
	for _, q := range list {
		if impl.IsSeen(c, q.Ref) != impl.IsAsked(got.Requests, q.Ref) {
			t.Fatalf("%v: %v is seen: %v", got, q, impl.IsSeen(c, q.Ref))
		}
		if impl.IsSeen(c, q.Ref) {
			if rest[0] != q {
				t.Fatalf("%v is %v now", q, rest[0])
			}
			rest = rest[1:]
		}
	}
	if len(rest) != 0 {
		t.Fatalf("%v was not there", rest)
	}
	return got.Requests
}

// P13: a tile is asked for once, and again when it is due, until it is there; of
// requests those stay just that are seen.
func TestPromise13(t *testing.T) {
	n := numbers(171)
	sent, kept, gone := 0, 0, 0
	for range 100 {
		var list []impl.Request
		p := &post{last: map[impl.Ref]int64{}}
		now := n.next(0, 8500)
		for range 100 {
			now += n.next(0, 4)
			r := ref(2, n.next(0, 3), n.next(0, 2))
			switch n.next(0, 7) {
			case 0:
				list = p.expectDropped(t, list, r)
			case 1:
				before := len(list)
				list = expectOnlySeen(t, list, cam(2, n.next(0, 24), n.next(4, 16), n.next(4, 8), 8))
				gone += before - len(list)
				for _, r := range refsOf(2) {
					if !impl.IsAsked(list, r) {
						delete(p.last, r)
					}
				}
			case 2, 3:
				list = p.expectRetried(t, list, now)
			default:
				list = p.expectAsked(t, list, r, now)
			}
			expectRequestsFault(t, "whatever was done", list, impl.OK)
			if len(list) != len(p.last) {
				t.Fatalf("%v, not %v", list, p.last)
			}
		}
		sent, kept = sent+p.sent, kept+p.kept
	}
	if sent < 2000 || kept < 2000 || gone < 500 {
		t.Error("the test asks for little", sent, kept, gone)
	}
}

// P13: as time goes on one by one each is sent every RetryTime, from the time at
// which it was asked for on, until it is there.
func TestPromise13OneByOne(t *testing.T) {
	starts := []int64{0, 0, 1, 2, 3, 5, 8, 13}
	ends := []int64{40, 3, 25, 26, 27, 6, 9, 300}
	var list []impl.Request
	sent := map[impl.Ref][]int64{}
	send := func(got impl.RequestsResult, now int64) {
		if got.Code != impl.OK {
			t.Fatalf("at %d: %v", now, got)
		}
		for _, r := range got.Sent {
			sent[r] = append(sent[r], now)
		}
		list = got.Requests
	}
	for now := range int64(320) {
		for i, r := range elevenRefs[:8] {
			if now == ends[i] {
				send(impl.DropRequest(list, r), now)
			}
		}
		send(impl.RetryAll(list, now), now)
		for i, r := range elevenRefs[:8] {
			if now >= starts[i] && now < ends[i] {
				send(impl.AskTile(list, r, now), now)
			}
		}
	}
	for i, r := range elevenRefs[:8] {
		var want []int64
		for now := starts[i]; now < ends[i]; now += 3 {
			want = append(want, now)
		}
		if !slices.Equal(sent[r], want) {
			t.Errorf("%v from %d to %d: %v, not %v", r, starts[i], ends[i], sent[r], want)
		}
	}
	if len(list) != 0 {
		t.Error(list)
	}
}

// P13: whatever camera there is, with a request of each tile that it may see or
// just not.
func TestPromise13OnlySeen(t *testing.T) {
	n := numbers(172)
	left := map[int]int{}
	for range 3000 {
		c := someCamera(&n)
		left[len(expectOnlySeen(t, someRequests(&n, c), c))]++
		var around []impl.Request
		first := refsAs(c)[0]
		for y := first.Y - 1; y <= first.Y+1; y++ {
			for x := first.X - 1; x <= first.X+1; x++ {
				if r := ref(c.Z, x, y); impl.RefFault(r) == impl.OK && len(around) < 8 {
					around = append(around, req(r, n.next(0, 9999), n.next(1, 99)))
				}
			}
		}
		shuffle(&n, around)
		left[len(expectOnlySeen(t, around, c))]++
	}
	for count := range 5 {
		if left[count] < 20 {
			t.Error("the test asks for little", left)
		}
	}
}

// requestAnswers is what the layer of requests answers of the same arguments.
type requestAnswers struct {
	fault                     int64
	asked, dropped, due, seen impl.RequestsResult
	isAsked                   bool
}

// requestCall are these arguments.
type requestCall struct {
	list []impl.Request
	r    impl.Ref
	now  int64
	c    impl.Camera
}

func (c requestCall) ask() requestAnswers {
	return requestAnswers{
		fault:   impl.RequestsFault(c.list),
		asked:   impl.AskTile(c.list, c.r, c.now),
		dropped: impl.DropRequest(c.list, c.r),
		due:     impl.RetryAll(c.list, c.now),
		seen:    impl.OnlySeen(c.list, c.c),
		isAsked: impl.IsAsked(c.list, c.r),
	}
}

func (c requestCall) copy() requestCall {
	c.list = slices.Clone(c.list)
	return c
}

func (c requestCall) memory() requestCall {
	c.list = slices.Clone(c.list[:cap(c.list)])
	return c
}

// spoilRequests writes over all that requests have in memory.
func spoilRequests(list []impl.Request) {
	for i := range list[:cap(list)] {
		list[:cap(list)][i] = req(ref(-7, -7, -7), -7, -7)
	}
}

func (c requestCall) spoil() {
	spoilRequests(c.list)
}

// codes are the codes that the document asks for, and whether a tile is asked
// for.
func (c requestCall) codes() []int64 {
	code, time, full, none := requestsCodeAs(c.list), int64(impl.OK), int64(impl.OK), int64(impl.OK)
	if c.now < 0 || c.now > 9000 {
		time = impl.ErrRange
	}
	isThere := slices.Contains(refsAsked(c.list), c.r)
	if !isThere {
		none = impl.ErrNone
	}
	if !isThere && len(c.list) == 8 {
		full = impl.ErrFull
	}
	return []int64{
		code,
		firstOf(code, time, refCodeAs(c.r), full),
		firstOf(code, none),
		firstOf(code, time),
		firstOf(code, cameraCodeAs(c.c)),
		isSeenAs(isThere && code == impl.OK),
	}
}

func (a requestAnswers) results() []impl.RequestsResult {
	return []impl.RequestsResult{a.asked, a.dropped, a.due, a.seen}
}

func (a requestAnswers) codes() []int64 {
	return []int64{a.fault, a.asked.Code, a.dropped.Code, a.due.Code, a.seen.Code, isSeenAs(a.isAsked)}
}

// isZero tells whether all that stands beside a code is zero.
func (a requestAnswers) isZero() bool {
	for _, result := range a.results() {
		if result.Code != impl.OK && (result.Sent != nil || result.Requests != nil) {
			return false
		}
	}
	return true
}

// strangeTime is a time that may be none.
func strangeTime(n *numbers) int64 {
	edges := []int64{-1, 0, 9000, 9001, 9999, 10000}
	switch n.next(0, 5) {
	case 0:
		return strangeNumber(n)
	case 1:
		return edges[n.next(0, int64(len(edges)-1))]
	}
	return n.next(0, 9000)
}

// roomyRequests is the same list with room behind its end, in which something
// stands.
func roomyRequests(list []impl.Request) []impl.Request {
	return append(slices.Clone(list), req(ref(1, 1, 1), 5, 5), req(ref(0, 0, 0), -5, -5))[:len(list)]
}

// strangeRequests are requests in which something may be wrong.
func strangeRequests(n *numbers, c impl.Camera) []impl.Request {
	list := someRequests(n, c)
	if n.next(0, 1) == 0 {
		list = asked(int(n.next(0, 9)))
		shuffle(n, list)
	}
	if len(list) == 0 {
		return list
	}
	q := &list[n.next(0, int64(len(list)-1))]
	switch n.next(0, 9) {
	case 0:
		q.Ref = strangeRef(n)
	case 1:
		q.Due = strangeTime(n)
	case 2:
		q.Tries = n.next(98, 100)
	case 3:
		q.Tries = strangeNumber(n)
	case 4:
		q.Ref = list[0].Ref
	case 5:
		q.Ref = list[0].Ref
		q.Due = strangeTime(n)
	}
	return list
}

// strangeRequestCall is a call of which anything may be wrong.
func strangeRequestCall(n *numbers) requestCall {
	c := requestCall{r: strangeRef(n), now: strangeTime(n), c: strangeCamera(n)}
	of := c.c
	if cameraCodeAs(of) != impl.OK {
		of = someCamera(n)
	}
	c.list = roomyRequests(strangeRequests(n, of))
	if count := int64(len(c.list)); count > 0 && n.next(0, 1) == 0 {
		c.r = c.list[n.next(0, count-1)].Ref
	}
	return c
}

// P1, chapter 12: an answer at every argument.
func TestPromise1OfRequests(t *testing.T) {
	n := numbers(173)
	of := []int64{impl.ErrRange, impl.ErrMany, impl.ErrTaken}
	expectAnswers(t, 20000, func() requestCall { return strangeRequestCall(&n) },
		of, append(slices.Clone(of), impl.ErrFull), append(slices.Clone(of), impl.ErrNone), of, of, []int64{1})
	c := requestCall{r: ref(1, 1, 0), now: 5, c: cam(0, 0, 0, 8, 8)}
	other := c
	other.list = []impl.Request{}
	if !reflect.DeepEqual(c.ask(), other.ask()) {
		t.Error("an empty list is not nil")
	}
}

// someRequestCall is a call without a fault, of a tile that is asked for.
func someRequestCall(n *numbers) requestCall {
	c := someCamera(n)
	list := someRequests(n, c)
	for len(list) == 0 {
		list = someRequests(n, c)
	}
	return requestCall{list: roomyRequests(list), r: list[n.next(0, int64(len(list)-1))].Ref, now: n.next(0, 9000), c: c}
}

// P1, chapter 12: an answer shares no memory with an argument, nor with another
// answer, and no two of its lists share any.
func TestPromise1OfRequestsNewMemory(t *testing.T) {
	n := numbers(174)
	for range 3000 {
		c := someRequestCall(&n)
		given := c.memory()
		got, kept := c.ask(), c.ask()
		if firstOf(kept.fault, kept.asked.Code, kept.dropped.Code, kept.due.Code, kept.seen.Code) != impl.OK || !kept.isAsked {
			t.Fatalf("%v: %v", c, kept)
		}
		for i, result := range got.results() {
			for k := range result.Sent[:cap(result.Sent)] {
				result.Sent[:cap(result.Sent)][k] = ref(-7, -7, -7)
			}
			if !slices.Equal(result.Requests, kept.results()[i].Requests) {
				t.Fatalf("%v: two lists of an answer share memory", c)
			}
			spoilRequests(result.Requests)
		}
		expectOwnMemory(t, c, given, kept, c.spoil)
	}
}

// P1, chapter 12: of an answer two others are told, and neither changes it or
// the other one: what is put behind the end of one is not in it.
func TestPromise1OfRequestsFromOneAnswer(t *testing.T) {
	for count := range 7 {
		from := impl.AskTile(asked(count), elevenRefs[count], 5).Requests
		given := slices.Clone(from)
		a := impl.AskTile(from, elevenRefs[9], 6)
		b := impl.AskTile(from, elevenRefs[10], 7)
		expectRequests(t, "the first one", a, elevenRefs[9:10], append(slices.Clone(given), req(elevenRefs[9], 9, 1)))
		expectRequests(t, "the other one", b, elevenRefs[10:], append(slices.Clone(given), req(elevenRefs[10], 10, 1)))
		impl.DropRequest(from, from[0].Ref)
		impl.RetryAll(from, 9000)
		impl.OnlySeen(from, cam(0, 0, 0, 1, 1))
		if !slices.Equal(from, given) {
			t.Fatalf("%v was %v", from, given)
		}
	}
}

// What is over is cleared: of a request that is gone nothing is behind the end
// of what is told.
func TestRequestsThatAreOverAreCleared(t *testing.T) {
	n := numbers(175)
	for range 1000 {
		c := someRequestCall(&n)
		answers := c.ask()
		for _, list := range [][]impl.Request{answers.dropped.Requests, answers.seen.Requests} {
			for _, q := range list[len(list):cap(list)] {
				if q != (impl.Request{}) {
					t.Fatalf("%v: %v is behind %v", c, q, list)
				}
			}
		}
	}
}

// P1, chapter 12: nothing is kept from call to call: the same requests tell the
// same, whatever others were told in between.
func TestPromise1OfRequestsKeepsNothing(t *testing.T) {
	n := numbers(176)
	var calls []requestCall
	var answers []requestAnswers
	for range 300 {
		c := someRequestCall(&n)
		calls, answers = append(calls, c), append(answers, c.ask())
	}
	for i, c := range slices.Backward(calls) {
		if got := c.ask(); !reflect.DeepEqual(got, answers[i]) {
			t.Fatalf("%v: %v, then %v", c, answers[i], got)
		}
	}
}
