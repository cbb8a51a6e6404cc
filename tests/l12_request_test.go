package tests

import (
	"fmt"
	"math"
	"reflect"
	"slices"
	"testing"

	"loop.example/g00403/impl"
)

func req(r impl.Ref, due, tries int64) impl.Request {
	return impl.Request{Ref: r, Due: due, Tries: tries}
}

// asked are requests of the first of eleven refs, no two of the same Due or
// Tries.
func asked(count int) []impl.Request {
	var list []impl.Request
	for i, r := range elevenRefs[:count] {
		list = append(list, req(r, int64(100+10*i), int64(1+i)))
	}
	return list
}

// askedBut is a copy of some requests with another one at a place.
func askedBut(list []impl.Request, place int, q impl.Request) []impl.Request {
	other := slices.Clone(list)
	other[place] = q
	return other
}

// refsAsked are the refs of requests, in their order.
func refsAsked(list []impl.Request) []impl.Ref {
	var refs []impl.Ref
	for _, q := range list {
		refs = append(refs, q.Ref)
	}
	return refs
}

func expectRequestsFault(t *testing.T, what string, list []impl.Request, want int64) {
	t.Helper()
	if got := impl.RequestsFault(list); got != want {
		t.Errorf("%s: %v: %d, not %d", what, list, got, want)
	}
}

// expectRequests asks for an answer without a code: what was sent, and what is
// asked for then.
func expectRequests(t *testing.T, what string, got impl.RequestsResult, sent []impl.Ref, want []impl.Request) {
	t.Helper()
	if got.Code != impl.OK || !slices.Equal(got.Sent, sent) || !slices.Equal(got.Requests, want) {
		t.Errorf("%s: %v, not sent %v of %v", what, got, sent, want)
	}
}

func expectNoRequests(t *testing.T, what string, got impl.RequestsResult, code int64) {
	t.Helper()
	if !reflect.DeepEqual(got, impl.RequestsResult{Code: code}) {
		t.Errorf("%s: %v, not %d", what, got, code)
	}
}

func TestRequestConstants(t *testing.T) {
	if impl.MaxRequests != 8 || impl.RetryTime != 3 {
		t.Error(impl.MaxRequests, impl.RetryTime)
	}
}

// As many as there may be, and more: that there are too many is asked ahead of
// all else.
func TestRequestsFaultOfHowMany(t *testing.T) {
	expectRequestsFault(t, "nil", nil, impl.OK)
	expectRequestsFault(t, "an empty list", []impl.Request{}, impl.OK)
	for count := range 9 {
		expectRequestsFault(t, "some", asked(count), impl.OK)
	}
	for count := 9; count <= 11; count++ {
		expectRequestsFault(t, "more", asked(count), impl.ErrMany)
	}
	expectRequestsFault(t, "many more", make([]impl.Request, 5000), impl.ErrMany)
	nine := asked(9)
	for place := range nine {
		for what, q := range map[string]impl.Request{
			"no ref": req(ref(0, 1, 0), 1, 1), "no Due": req(nine[place].Ref, -1, 1), "no Tries": req(nine[place].Ref, 1, 0),
			"a ref that is there": req(nine[(place+1)%9].Ref, 1, 1), "nothing": {},
		} {
			expectRequestsFault(t, what+" of nine", askedBut(nine, place, q), impl.ErrMany)
		}
	}
}

// Due and Tries at their bounds and out of them, at each place.
func TestRequestsFaultOfNumbers(t *testing.T) {
	for count := 1; count <= 8; count++ {
		list := asked(count)
		for place, q := range list {
			for _, due := range []int64{0, 1, 9998, 9999} {
				expectRequestsFault(t, "Due", askedBut(list, place, req(q.Ref, due, 1)), impl.OK)
			}
			for _, tries := range []int64{1, 2, 98, 99} {
				expectRequestsFault(t, "Tries", askedBut(list, place, req(q.Ref, 0, tries)), impl.OK)
			}
			for _, bad := range outsideOf(0, 9999) {
				expectRequestsFault(t, "no Due", askedBut(list, place, req(q.Ref, bad, 1)), impl.ErrRange)
				expectRequestsFault(t, "neither", askedBut(list, place, req(q.Ref, bad, bad)), impl.ErrRange)
			}
			for _, bad := range outsideOf(1, 99) {
				expectRequestsFault(t, "no Tries", askedBut(list, place, req(q.Ref, 9999, bad)), impl.ErrRange)
			}
		}
	}
	for _, due := range []int64{-1, 10000} {
		expectRequestsFault(t, "by one", []impl.Request{req(ref(1, 0, 0), due, 99)}, impl.ErrRange)
	}
	for _, tries := range []int64{0, 100} {
		expectRequestsFault(t, "by one", []impl.Request{req(ref(1, 0, 0), 9999, tries)}, impl.ErrRange)
	}
}

func TestRequestsFaultOfRefs(t *testing.T) {
	for _, r := range allRefs() {
		expectRequestsFault(t, "a ref", []impl.Request{req(r, 0, 1)}, impl.OK)
	}
	list := asked(8)
	for _, r := range wrongRefs() {
		expectRequestsFault(t, "alone", []impl.Request{req(r, 0, 1)}, impl.ErrRange)
		for _, place := range []int{0, 3, 7} {
			expectRequestsFault(t, "among others", askedBut(list, place, req(r, 9999, 99)), impl.ErrRange)
		}
	}
}

// Two of the same ref at each two places, alike or not.
func TestRequestsFaultOfTwo(t *testing.T) {
	for count := 2; count <= 8; count++ {
		list := asked(count)
		for place := range list {
			for other := range list {
				if place == other {
					continue
				}
				expectRequestsFault(t, "alike", askedBut(list, place, list[other]), impl.ErrTaken)
				expectRequestsFault(t, "not alike", askedBut(list, place, req(list[other].Ref, 0, 99)), impl.ErrTaken)
				// the same numbers of another ref are no fault
				same := req(list[place].Ref, list[other].Due, list[other].Tries)
				expectRequestsFault(t, "of another ref", askedBut(list, place, same), impl.OK)
			}
		}
	}
}

// Where several are so of one request, and of several: one by one, and of each
// what the document names first.
func TestRequestsFaultOfSeveral(t *testing.T) {
	a, b := ref(1, 0, 1), ref(2, 3, 3)
	no, late, untried := req(ref(1, 2, 0), 5, 1), req(b, 10000, 1), req(b, 5, 0)
	for _, c := range []struct {
		what string
		list []impl.Request
		want int64
	}{
		{"taken, and no Due", []impl.Request{req(a, 5, 1), req(a, -1, 1)}, impl.ErrRange},
		{"taken, and too late", []impl.Request{req(a, 5, 1), req(a, 10000, 1)}, impl.ErrRange},
		{"taken, and no Tries", []impl.Request{req(a, 5, 1), req(a, 5, 0)}, impl.ErrRange},
		{"taken, and too many Tries", []impl.Request{req(a, 5, 1), req(a, 5, 100)}, impl.ErrRange},
		{"twice no ref", []impl.Request{no, no}, impl.ErrRange},
		{"no ref, no Due, no Tries", []impl.Request{req(ref(4, 0, 0), -1, 0)}, impl.ErrRange},
		{"taken ahead of no ref", []impl.Request{req(a, 5, 1), req(a, 6, 2), no}, impl.ErrTaken},
		{"taken ahead of too late", []impl.Request{req(a, 5, 1), req(a, 6, 2), late}, impl.ErrTaken},
		{"taken ahead of no Tries", []impl.Request{req(a, 5, 1), req(a, 6, 2), untried}, impl.ErrTaken},
		{"no ref ahead of taken", []impl.Request{no, req(a, 5, 1), req(a, 6, 2)}, impl.ErrRange},
		{"too late ahead of taken", []impl.Request{late, req(a, 5, 1), req(a, 6, 2)}, impl.ErrRange},
		{"no Tries ahead of taken", []impl.Request{untried, req(a, 5, 1), req(a, 6, 2)}, impl.ErrRange},
		{"no Tries between two that are taken", []impl.Request{req(a, 5, 1), untried, req(a, 6, 2)}, impl.ErrRange},
		{"no ref between two that are taken", []impl.Request{req(a, 5, 1), no, req(a, 6, 2)}, impl.ErrRange},
		{"taken twice", []impl.Request{req(a, 5, 1), req(b, 5, 1), req(b, 5, 1), req(a, 5, 1)}, impl.ErrTaken},
		{"the last of eight", append(asked(7), req(asked(1)[0].Ref, 0, 1)), impl.ErrTaken},
		{"the last of eight, and too late", append(asked(7), req(asked(1)[0].Ref, 10000, 1)), impl.ErrRange},
		{"the last of nine", append(asked(8), req(asked(1)[0].Ref, 10000, 1)), impl.ErrMany},
	} {
		expectRequestsFault(t, c.what, c.list, c.want)
	}
}

// requestsCodeAs is the code of requests by what the document says of them.
func requestsCodeAs(list []impl.Request) int64 {
	if len(list) > 8 {
		return impl.ErrMany
	}
	for i, q := range list {
		if refCodeAs(q.Ref) != impl.OK || q.Due < 0 || q.Due > 9999 || q.Tries < 1 || q.Tries > 99 {
			return impl.ErrRange
		}
		if slices.Contains(refsAsked(list[:i]), q.Ref) {
			return impl.ErrTaken
		}
	}
	return impl.OK
}

// faultyRequests are requests with a fault of each code.
func faultyRequests() [][]impl.Request {
	two := asked(2)
	return [][]impl.Request{
		asked(9), make([]impl.Request, 40), append(asked(8), asked(1)...),
		{{}}, {req(ref(1, 2, 0), 5, 1)}, askedBut(two, 0, req(two[0].Ref, 10000, 1)), askedBut(two, 1, req(two[1].Ref, -1, 1)),
		askedBut(asked(8), 7, req(asked(8)[7].Ref, 5, 100)), {req(ref(0, 0, 0), math.MaxInt64, 1)}, {req(ref(0, 0, 0), 1, math.MinInt64)},
		append(two, two[0]), append(asked(7), req(asked(7)[6].Ref, 0, 1)),
	}
}

// Each of the others asks for the fault of the requests ahead of a time, a ref
// or a camera with one, and ahead of whether there is one, or room.
func TestRequestFunctionsAskTheFaultFirst(t *testing.T) {
	seen := map[int64]int{}
	refs := []impl.Ref{ref(0, 0, 0), elevenRefs[0], elevenRefs[10], ref(1, 2, 0), ref(-1, 0, 0), ref(math.MinInt64, math.MaxInt64, 0)}
	cameras := []impl.Camera{cam(0, 0, 0, 8, 8), cam(3, 40, 16, 8, 8), {}, cam(0, 1, 0, 8, 8), cam(math.MaxInt64, 0, 0, 1, 1)}
	for i, list := range faultyRequests() {
		code := requestsCodeAs(list)
		seen[code]++
		expectRequestsFault(t, fmt.Sprint(i), list, code)
		for _, r := range refs {
			expectNoRequests(t, fmt.Sprint("drop ", i), impl.DropRequest(list, r), code)
			if impl.IsAsked(list, r) {
				t.Errorf("%v is asked for in %v", r, list)
			}
			for _, now := range []int64{0, 9000, -1, 9001, math.MaxInt64, math.MinInt64} {
				expectNoRequests(t, fmt.Sprint("ask ", i), impl.AskTile(list, r, now), code)
				expectNoRequests(t, fmt.Sprint("retry ", i), impl.RetryAll(list, now), code)
			}
		}
		for _, c := range cameras {
			expectNoRequests(t, fmt.Sprint("only seen ", i), impl.OnlySeen(list, c), code)
		}
	}
	for _, code := range []int64{impl.ErrMany, impl.ErrRange, impl.ErrTaken} {
		if seen[code] < 2 {
			t.Error("the test asks for little", seen)
		}
	}
}

// The times at their bounds, and out of them: with none and with as many
// requests as there may be, of a ref that is there, that is not, and that is
// none.
func TestRequestTimes(t *testing.T) {
	lists := [][]impl.Request{nil, asked(1), asked(5), asked(8)}
	for _, list := range lists {
		for _, now := range outsideOf(0, 9000) {
			for _, r := range []impl.Ref{elevenRefs[0], elevenRefs[10], ref(1, 2, 0)} {
				expectNoRequests(t, fmt.Sprint("ask at ", now), impl.AskTile(list, r, now), impl.ErrRange)
			}
			expectNoRequests(t, fmt.Sprint("retry at ", now), impl.RetryAll(list, now), impl.ErrRange)
		}
	}
	r, other := ref(2, 1, 3), req(ref(3, 0, 7), 9999, 7)
	for _, now := range []int64{0, 1, 8999, 9000} {
		want := req(r, now+3, 1)
		expectRequests(t, "the first", impl.AskTile(nil, r, now), []impl.Ref{r}, []impl.Request{want})
		expectRequests(t, "one more", impl.AskTile([]impl.Request{other}, r, now), []impl.Ref{r}, []impl.Request{other, want})
		expectRequests(t, "again", impl.RetryAll([]impl.Request{other, req(r, now, 1)}, now), []impl.Ref{r}, []impl.Request{other, req(r, now+3, 2)})
		expectRequests(t, "none", impl.RetryAll(nil, now), nil, nil)
		expectRequests(t, "none", impl.RetryAll([]impl.Request{other}, now), nil, []impl.Request{other})
	}
}

// One after the other, of each ref, until there is no room.
func TestAskTile(t *testing.T) {
	for count := range 8 {
		list := asked(count)
		for _, r := range allRefs() {
			if !slices.Contains(elevenRefs[:count], r) {
				got := impl.AskTile(list, r, int64(40*count))
				want := append(slices.Clone(list), req(r, int64(40*count+3), 1))
				expectRequests(t, "a new one", got, []impl.Ref{r}, want)
				expectRequestsFault(t, "a new one", got.Requests, impl.OK)
			}
		}
	}
	var list []impl.Request
	for i, r := range elevenRefs[:8] {
		got := impl.AskTile(list, r, int64(i))
		expectRequests(t, "one after the other", got, []impl.Ref{r}, append(slices.Clone(list), req(r, int64(i+3), 1)))
		list = got.Requests
	}
	for _, r := range elevenRefs[8:] {
		expectNoRequests(t, "no room", impl.AskTile(list, r, 9), impl.ErrFull)
	}
}

// Of a ref that is asked for already nothing is sent, and nothing changes,
// wherever it stands, whether it is due or not, and whether there is room.
func TestAskTileTwice(t *testing.T) {
	for count := 1; count <= 8; count++ {
		list := asked(count)
		for _, q := range list {
			for _, now := range []int64{0, q.Due - 1, q.Due, q.Due + 1, 9000} {
				expectRequests(t, fmt.Sprint(count, " ", now), impl.AskTile(list, q.Ref, now), nil, list)
			}
		}
	}
}

// A ref with a fault has the code of that, whether there is room or not; that
// there is none is told of a ref that is not there alone.
func TestAskTileWrong(t *testing.T) {
	for _, r := range wrongRefs() {
		for count := range 9 {
			expectNoRequests(t, fmt.Sprint(count, " ", r), impl.AskTile(asked(count), r, 5), impl.ErrRange)
		}
		for _, now := range []int64{-1, 9001} {
			expectNoRequests(t, fmt.Sprint(now, " ", r), impl.AskTile(asked(8), r, now), impl.ErrRange)
		}
	}
	full := asked(8)
	for _, r := range allRefs() {
		if slices.Contains(elevenRefs[:8], r) {
			expectRequests(t, "among them", impl.AskTile(full, r, 5), nil, full)
		} else {
			expectNoRequests(t, "not among them", impl.AskTile(full, r, 5), impl.ErrFull)
		}
	}
}

// What is dropped makes room, and is asked for again as if it was never there.
func TestAskTileBehindDrop(t *testing.T) {
	full := asked(8)
	for place, q := range full {
		rest := slices.Delete(slices.Clone(full), place, place+1)
		dropped := impl.DropRequest(full, q.Ref).Requests
		for _, r := range []impl.Ref{q.Ref, elevenRefs[9]} {
			expectRequests(t, "asked then", impl.AskTile(dropped, r, 70), []impl.Ref{r}, append(slices.Clone(rest), req(r, 73, 1)))
		}
	}
}

func TestDropRequest(t *testing.T) {
	for count := 1; count <= 8; count++ {
		list := asked(count)
		for place, q := range list {
			rest := slices.Delete(slices.Clone(list), place, place+1)
			got := impl.DropRequest(list, q.Ref)
			expectRequests(t, fmt.Sprint(place, " of ", count), got, nil, rest)
			expectRequestsFault(t, "what is left", got.Requests, impl.OK)
			expectNoRequests(t, "dropped twice", impl.DropRequest(got.Requests, q.Ref), impl.ErrNone)
		}
	}
	// others with the same numbers stay
	a, b, c := req(ref(1, 0, 0), 5, 2), req(ref(1, 1, 0), 5, 2), req(ref(1, 0, 1), 5, 2)
	expectRequests(t, "the same numbers", impl.DropRequest([]impl.Request{a, b, c}, b.Ref), nil, []impl.Request{a, c})
}

// Refs that are not there: none is of them, whether there may be one or not.
func TestDropRequestOfNone(t *testing.T) {
	for count := range 9 {
		list := asked(count)
		for _, r := range append(allRefs(), wrongRefs()...) {
			if !slices.Contains(elevenRefs[:count], r) {
				expectNoRequests(t, fmt.Sprint(count), impl.DropRequest(list, r), impl.ErrNone)
			}
		}
	}
}

// What is due just now, what was due, and what is due in one.
func TestRetryAll(t *testing.T) {
	a, b, c := ref(3, 7, 7), ref(0, 0, 0), ref(1, 1, 0)
	for _, now := range []int64{1, 2, 3, 500, 8999, 9000} {
		early, just, late := req(a, now-1, 4), req(b, now, 5), req(c, now+1, 6)
		again, same := req(a, now+3, 5), req(b, now+3, 6)
		for _, q := range []struct {
			what string
			list []impl.Request
			sent []impl.Ref
			want []impl.Request
		}{
			{"one below", []impl.Request{early}, []impl.Ref{a}, []impl.Request{again}},
			{"now", []impl.Request{just}, []impl.Ref{b}, []impl.Request{same}},
			{"one above", []impl.Request{late}, nil, []impl.Request{late}},
			{"all", []impl.Request{early, just, late}, []impl.Ref{a, b}, []impl.Request{again, same, late}},
			{"all turned round", []impl.Request{late, just, early}, []impl.Ref{b, a}, []impl.Request{late, same, again}},
			{"one between", []impl.Request{just, late, early}, []impl.Ref{b, a}, []impl.Request{same, late, again}},
		} {
			got := impl.RetryAll(q.list, now)
			expectRequests(t, fmt.Sprint(q.what, " at ", now), got, q.sent, q.want)
			expectRequestsFault(t, q.what, got.Requests, impl.OK)
			expectRequests(t, "at once again", impl.RetryAll(got.Requests, now), nil, q.want)
		}
	}
	expectRequests(t, "none", impl.RetryAll(nil, 5), nil, nil)
	expectRequests(t, "an empty list", impl.RetryAll([]impl.Request{}, 5), nil, nil)
}

// All, none and each one of eight are due: the order of what is sent is theirs,
// not that in which they are due.
func TestRetryAllInOrder(t *testing.T) {
	list := asked(8)
	slices.Reverse(list)
	for _, now := range []int64{0, 99, 100, 109, 110, 135, 169, 170, 171, 9000} {
		var sent []impl.Ref
		var want []impl.Request
		for _, q := range list {
			if q.Due <= now {
				sent = append(sent, q.Ref)
				q = req(q.Ref, now+3, q.Tries+1)
			}
			want = append(want, q)
		}
		expectRequests(t, fmt.Sprint("at ", now), impl.RetryAll(list, now), sent, want)
	}
	for place, q := range asked(8) {
		late := asked(8)
		for i := range late {
			late[i].Due = 9999
		}
		late[place].Due = 9000
		want := askedBut(late, place, req(q.Ref, 9003, q.Tries+1))
		expectRequests(t, fmt.Sprint("one alone ", place), impl.RetryAll(late, 9000), []impl.Ref{q.Ref}, want)
	}
}

// Tries stay at the most that there may be; it is sent nevertheless.
func TestRetryAllUpToTheMostTries(t *testing.T) {
	r := ref(2, 2, 1)
	for _, c := range [][2]int64{{1, 2}, {2, 3}, {97, 98}, {98, 99}, {99, 99}} {
		expectRequests(t, "due", impl.RetryAll([]impl.Request{req(r, 0, c[0])}, 7), []impl.Ref{r}, []impl.Request{req(r, 10, c[1])})
		expectRequests(t, "not due", impl.RetryAll([]impl.Request{req(r, 8, c[0])}, 7), nil, []impl.Request{req(r, 8, c[0])})
	}
	list := []impl.Request{req(r, 0, 1)}
	for i := range int64(150) {
		got := impl.RetryAll(list, 3*i)
		expectRequests(t, fmt.Sprint(i), got, []impl.Ref{r}, []impl.Request{req(r, 3*i+3, min(i+2, 99))})
		list = got.Requests
	}
}

// A camera that sees all of them, some, one and none.
func TestOnlySeen(t *testing.T) {
	a, b, c, d := req(ref(2, 1, 1), 5, 1), req(ref(2, 2, 1), 6, 2), req(ref(2, 1, 2), 7, 3), req(ref(2, 2, 2), 8, 4)
	beside, above := req(ref(2, 3, 1), 9, 5), req(ref(1, 1, 1), 9, 6)
	all := []impl.Request{c, a, d, b}
	for _, s := range []struct {
		what       string
		list, want []impl.Request
		c          impl.Camera
	}{
		{"all", all, all, cam(2, 12, 12, 8, 8)},
		{"all, and others", []impl.Request{beside, c, a, above, d, b}, all, cam(2, 12, 12, 8, 8)},
		{"a row", all, []impl.Request{a, b}, cam(2, 12, 8, 8, 8)},
		{"a column", all, []impl.Request{c, a}, cam(2, 8, 12, 8, 8)},
		{"one, by one pixel", all, []impl.Request{d}, cam(2, 16, 16, 1, 1)},
		{"the last one", all, []impl.Request{b}, cam(2, 23, 15, 1, 1)},
		{"the first one", all, []impl.Request{c}, cam(2, 15, 16, 1, 1)},
		{"none", all, nil, cam(2, 0, 0, 8, 8)},
		{"none, beside", all, nil, cam(2, 24, 24, 8, 8)},
		{"none, of another zoom", all, nil, cam(1, 8, 8, 8, 8)},
		{"none, of the last zoom", all, nil, cam(3, 12, 12, 8, 8)},
		{"none of none", nil, nil, cam(2, 12, 12, 8, 8)},
		{"none of an empty list", []impl.Request{}, nil, cam(0, 0, 0, 1, 1)},
		{"the one of zoom 0", []impl.Request{above, req(ref(0, 0, 0), 3, 1)}, []impl.Request{req(ref(0, 0, 0), 3, 1)}, cam(0, 0, 0, 8, 8)},
	} {
		got := impl.OnlySeen(s.list, s.c)
		expectRequests(t, s.what, got, nil, s.want)
		expectRequests(t, s.what+", again", impl.OnlySeen(got.Requests, s.c), nil, s.want)
	}
}

func TestOnlySeenWrong(t *testing.T) {
	for _, c := range wrongCameras() {
		for _, count := range []int{0, 1, 8} {
			expectNoRequests(t, fmt.Sprint(c), impl.OnlySeen(asked(count), c), impl.ErrRange)
		}
	}
}

// Many requests and cameras, asked for pixel by pixel.
func TestOnlySeenAgainstTheDocument(t *testing.T) {
	n := numbers(161)
	left := map[string]int{}
	for range 6000 {
		c := someCamera(&n)
		list := someRequests(&n, c)
		seen := refsAs(c)
		var want []impl.Request
		for _, q := range list {
			if slices.Contains(seen, q.Ref) {
				want = append(want, q)
			}
		}
		expectRequests(t, fmt.Sprint(c), impl.OnlySeen(list, c), nil, want)
		switch {
		case len(list) == 0:
			left["of none"]++
		case len(want) == len(list):
			left["all"]++
		case len(want) == 0:
			left["none"]++
		default:
			left["some"]++
		}
	}
	for _, what := range []string{"of none", "all", "none", "some"} {
		if left[what] < 200 {
			t.Error("the test asks for little", left)
		}
	}
}

// someRequests are requests without a fault, some of them of tiles that a camera
// sees.
func someRequests(n *numbers, c impl.Camera) []impl.Request {
	refs := refsAs(c)
	shuffle(n, refs)
	refs = refs[:n.next(0, int64(len(refs)))]
	for range n.next(0, 4) {
		if r := someRef(n); !slices.Contains(refs, r) {
			refs = append(refs, r)
		}
	}
	shuffle(n, refs)
	var list []impl.Request
	for _, r := range refs {
		q := req(r, n.next(0, 9999), n.next(1, 99))
		if n.next(0, 1) == 0 {
			q.Due, q.Tries = n.next(0, 9), n.next(97, 99)
		}
		list = append(list, q)
	}
	return list
}

func TestIsAsked(t *testing.T) {
	for count := range 9 {
		list := asked(count)
		for _, r := range append(allRefs(), wrongRefs()...) {
			want := slices.Contains(elevenRefs[:count], r)
			if got := impl.IsAsked(list, r); got != want {
				t.Errorf("%v of %v: %v", r, elevenRefs[:count], got)
			}
		}
	}
	// of requests with a fault nothing is asked for, also what stands ahead of it
	for _, list := range faultyRequests() {
		for _, q := range list {
			if impl.IsAsked(list, q.Ref) {
				t.Errorf("%v: %v", list, q)
			}
		}
	}
}

// slip is a reckoning of one request: when it was sent, from the first time on.
type slip struct {
	ref  impl.Ref
	sent []int64
}

// pile is a reckoning of requests: slips, in the order in which they came.
type pile []*slip

func (p pile) placeOf(r impl.Ref) int {
	return slices.IndexFunc(p, func(s *slip) bool { return s.ref == r })
}

// requests are those that the slips stand for.
func (p pile) requests() []impl.Request {
	var list []impl.Request
	for _, s := range p {
		list = append(list, req(s.ref, s.sent[len(s.sent)-1]+3, min(int64(len(s.sent)), 99)))
	}
	return list
}

// ask tells the code, and what is sent.
func (p *pile) ask(r impl.Ref, now int64) (int64, []impl.Ref) {
	if p.placeOf(r) >= 0 {
		return impl.OK, nil
	}
	if len(*p) == 8 {
		return impl.ErrFull, nil
	}
	*p = append(*p, &slip{ref: r, sent: []int64{now}})
	return impl.OK, []impl.Ref{r}
}

func (p *pile) drop(r impl.Ref) int64 {
	place := p.placeOf(r)
	if place < 0 {
		return impl.ErrNone
	}
	*p = slices.Delete(*p, place, place+1)
	return impl.OK
}

func (p pile) retry(now int64) []impl.Ref {
	var refs []impl.Ref
	for _, s := range p {
		if now-s.sent[len(s.sent)-1] >= 3 {
			s.sent = append(s.sent, now)
			refs = append(refs, s.ref)
		}
	}
	return refs
}

func (p *pile) onlySeen(c impl.Camera) {
	seen := refsAs(c)
	*p = slices.DeleteFunc(*p, func(s *slip) bool { return !slices.Contains(seen, s.ref) })
}

// expectSame does one thing, chosen by chance, to requests and to a pile, and
// asks for the same of both; it tells what is asked for then, and what was done.
func expectSame(t *testing.T, n *numbers, list []impl.Request, p *pile, r impl.Ref, now int64) ([]impl.Request, string) {
	t.Helper()
	var got impl.RequestsResult
	var sent []impl.Ref
	code, what := int64(impl.OK), ""
	switch n.next(0, 9) {
	case 0:
		got, code, what = impl.DropRequest(list, r), p.drop(r), "drop"
	case 1:
		c := someCamera(n)
		if n.next(0, 3) > 0 {
			c = cam(2, n.next(4, 12), n.next(4, 12), 8, 8)
		}
		got, what = impl.OnlySeen(list, c), "only seen"
		p.onlySeen(c)
	case 2, 3, 4:
		got, sent, what = impl.RetryAll(list, now), p.retry(now), "retry"
	default:
		got, what = impl.AskTile(list, r, now), "ask"
		code, sent = p.ask(r, now)
	}
	what = fmt.Sprint(what, " ", code)
	if code != impl.OK {
		expectNoRequests(t, what, got, code)
		return list, what
	}
	if expectRequests(t, what, got, sent, p.requests()); t.Failed() {
		t.FailNow()
	}
	return got.Requests, what
}

// Many tiles that are asked for, asked for again, due again, dropped and out of
// sight, one step behind the other.
func TestRequestsAgainstTheDocument(t *testing.T) {
	n := numbers(162)
	done := map[string]int{}
	for range 60 {
		var list []impl.Request
		p, now := &pile{}, n.next(0, 8400)
		refs := append(refsOf(2), ref(0, 0, 0), ref(1, 1, 1), ref(3, 7, 0))
		for range 300 { // steps of at most 2, so that the time does not run out
			r := refs[n.next(0, int64(len(refs)-1))]
			what := ""
			list, what = expectSame(t, &n, list, p, r, now)
			done[what]++
			for _, r := range refs {
				if impl.IsAsked(list, r) != (p.placeOf(r) >= 0) {
					t.Fatalf("%v of %v", r, list)
				}
			}
			now += max(0, n.next(-2, 2))
		}
	}
	for _, what := range []string{"drop 0", "drop 4", "only seen 0", "retry 0", "ask 0", "ask 7"} {
		if done[what] < 200 {
			t.Error("the test asks for little", done)
		}
	}
}

// One tile: asked for, asked for again, due again, asked for again and dropped.
func TestOneRequest(t *testing.T) {
	r, refs := ref(3, 4, 5), []impl.Ref{ref(3, 4, 5)}
	got := impl.AskTile(nil, r, 10)
	expectRequests(t, "asked for", got, refs, []impl.Request{req(r, 13, 1)})
	got = impl.AskTile(got.Requests, r, 11)
	expectRequests(t, "asked for again", got, nil, []impl.Request{req(r, 13, 1)})
	got = impl.RetryAll(got.Requests, 12)
	expectRequests(t, "not due yet", got, nil, []impl.Request{req(r, 13, 1)})
	got = impl.RetryAll(got.Requests, 13)
	expectRequests(t, "due", got, refs, []impl.Request{req(r, 16, 2)})
	got = impl.RetryAll(got.Requests, 13)
	expectRequests(t, "at once again", got, nil, []impl.Request{req(r, 16, 2)})
	got = impl.AskTile(got.Requests, r, 16)
	expectRequests(t, "asked for where it is due", got, nil, []impl.Request{req(r, 16, 2)})
	got = impl.RetryAll(got.Requests, 20)
	expectRequests(t, "late", got, refs, []impl.Request{req(r, 23, 3)})
	got = impl.OnlySeen(got.Requests, cam(3, 32, 40, 1, 1))
	expectRequests(t, "seen", got, nil, []impl.Request{req(r, 23, 3)})
	got = impl.RetryAll(got.Requests, 0)
	expectRequests(t, "a time ahead of that", got, nil, []impl.Request{req(r, 23, 3)})
	got = impl.DropRequest(got.Requests, r)
	expectRequests(t, "dropped", got, nil, nil)
	expectRequests(t, "due no more", impl.RetryAll(got.Requests, 9000), nil, nil)
	expectRequests(t, "asked for once more", impl.AskTile(got.Requests, r, 24), refs, []impl.Request{req(r, 27, 1)})
}
