package tests

import (
	"fmt"
	"math"
	"reflect"
	"slices"
	"strconv"
	"strings"
	"testing"
	"unsafe"

	"loop.example/g00403/impl"
)

// labelsOf reads labels back from their text.
func labelsOf(t *testing.T, text string) []impl.Placed {
	t.Helper()
	if !strings.HasSuffix(text, "\n") {
		t.Fatalf("%q ends without a line feed", text)
	}
	if text == "none\n" {
		return nil
	}
	var list []impl.Placed
	for _, line := range strings.Split(strings.TrimSuffix(text, "\n"), "\n") {
		words := impl.WordsOf(line).Words
		if len(words) != 6 || words[0] != "label" || strings.Join(words, " ") != line {
			t.Fatalf("%q of %q", line, text)
		}
		a, ok := numbersAs(words[1:], 0)
		if !ok {
			t.Fatalf("%q of %q", line, text)
		}
		list = append(list, box(a[0], a[1], a[2], a[3], a[4]))
	}
	return list
}

// somePlaced are labels without a fault, at the bounds of their numbers or
// within.
func somePlaced(n *numbers) []impl.Placed {
	var list []impl.Placed
	number := func() int64 {
		return []int64{0, 1, n.next(0, 63), n.next(0, 9999), 9998, 9999}[n.next(0, 5)]
	}
	for range n.next(0, 12) {
		list = append(list, box([]int64{1, 999, n.next(1, 999)}[n.next(0, 2)], number(), number(), number(), number()))
	}
	return list
}

// P17: what is said of labels is read back as what they are: whichever they are,
// and those of one who looks, by a line and by a text.
func TestPromise17OfLabels(t *testing.T) {
	n := numbers(251)
	seen := map[int]int{}
	for range 3000 {
		list := somePlaced(&n)
		got := impl.LabelsText(list)
		if got.Code != impl.OK || !reflect.DeepEqual(labelsOf(t, got.Text), list) {
			t.Fatalf("%v: %v", list, got)
		}
		seen[len(list)]++
	}
	for range 300 {
		m := someLook(&n)
		want := impl.LabelsIn(m.Viewer).Placed
		if got := labelsOf(t, impl.StepScript(m, "labels").Said); !slices.Equal(got, want) {
			t.Fatalf("%v: %v, not %v", m, got, want)
		}
		if got := labelsOf(t, impl.RunScript(m, "\nlabels\n").Said); !slices.Equal(got, want) {
			t.Fatalf("%v: %v, not %v", m, got, want)
		}
		seen[100+len(want)]++
	}
	if seen[0] < 100 || seen[1] < 100 || seen[12] < 100 || seen[100] < 50 || seen[101] < 20 || seen[102] < 10 || seen[103] < 10 {
		t.Error("the test asks for little", seen)
	}
}

// P17: no two lists of labels are said alike.
func TestPromise17OfTwoLists(t *testing.T) {
	n := numbers(252)
	for range 3000 {
		list := somePlaced(&n)
		if len(list) == 0 {
			continue
		}
		other := slices.Clone(list)
		field := placedFields[n.next(0, 4)]
		p := &other[n.next(0, int64(len(other)-1))]
		if was := field.of(p); *was < field.high {
			*was++
		} else {
			*was = n.next(field.low, field.high-1)
		}
		if impl.LabelsText(list).Text == impl.LabelsText(other).Text {
			t.Fatalf("%v and %v", list, other)
		}
		shorter := list[:len(list)-1]
		if impl.LabelsText(list).Text == impl.LabelsText(shorter).Text {
			t.Fatalf("%v and %v", list, shorter)
		}
	}
}

// tellAll tells a map feature by feature, in texts of as many lines as there is
// room for.
func tellAll(t *testing.T, m impl.Map, list []impl.Feature) impl.Map {
	t.Helper()
	run := func(text string) {
		got := impl.RunScript(m, text)
		if got.Code != impl.OK || got.Said != strings.Repeat("ok\n", strings.Count(text, "\n")) {
			t.Fatalf("%q: %v", text, got)
		}
		m = got.Map
	}
	text := ""
	for _, f := range list {
		line := "feature " + impl.FeatureText(f).Text + "\n"
		if len(text)+len(line) > impl.MaxScript {
			run(text)
			text = ""
		}
		text += line
	}
	run(text)
	return m
}

// P17: a map that is told is what it is: the features that were told, in their
// order, whatever the viewer is, who stays as he is; and what all that is asked
// for then shows is that map.
func TestPromise17OfMaps(t *testing.T) {
	n := numbers(253)
	seen := map[int]int{}
	for range 200 {
		c := anyCamera(&n)
		list := somePlace(&n, c)
		shuffle(&n, list)
		seen[len(list)]++
		v := impl.NewViewer(c, n.next(4, 10)).Viewer
		m := tellAll(t, mapOf(nil, v), list)
		if !impl.SameFeatures(m.Features, list) || !reflect.DeepEqual(m.Viewer, v) {
			t.Fatalf("%v: %v", list, m)
		}
		one := mapOf(nil, v)
		for _, f := range list {
			step := impl.StepScript(one, "feature "+impl.FeatureText(f).Text)
			if step.Said != "ok" {
				t.Fatalf("%v to %v: %v", f, one, step)
			}
			one = step.Map
		}
		if !reflect.DeepEqual(one, m) {
			t.Fatalf("%v, not %v", one, m)
		}
		expectShown(t, m, list)
	}
	if seen[0] < 5 || seen[1] < 5 || seen[12] < 5 {
		t.Error("the test asks for little", seen)
	}
}

// expectShown asks that a map, when all that was asked for has come, says what
// these features are.
func expectShown(t *testing.T, m impl.Map, list []impl.Feature) {
	t.Helper()
	c := m.Viewer.Camera
	frame := impl.RefFrame(list, c).List
	placed := impl.PlaceLabels(list, c).Placed
	got := impl.RunScript(m, "drain\nshow\nlabels\n")
	if want := "ok\n" + frameTextAs(frame, c.W) + impl.LabelsText(placed).Text; got.Code != impl.OK || got.Said != want {
		t.Fatalf("%v: %q, not %q", m, got.Said, want)
	}
	if !impl.SameFeatures(got.Map.Features, list) || judge(list, got.Map.Viewer) != allRight || !impl.IsComplete(got.Map.Viewer) {
		t.Fatalf("%v: %v", m, got.Map)
	}
	for place := range c.W * c.H {
		x, y := place%c.W, place/c.W
		id := impl.LabelAt(placed, c.X+x, c.Y+y).Value
		if id == 0 {
			id = frame[place]
		}
		if place%7 == 0 {
			expectSays(t, got.Map, fmt.Sprintf("pick %d %d", x, y), strconv.FormatInt(id, 10))
		}
	}
}

// expectCut asks of a text that is done in two parts for what it does in one.
func expectCut(t *testing.T, m impl.Map, text string, whole impl.ScriptResult, place int) {
	t.Helper()
	first := impl.RunScript(m, text[:place])
	second := impl.RunScript(first.Map, text[place:])
	if first.Code != impl.OK || second.Code != impl.OK {
		t.Fatalf("%q at %d: %d and %d", text, place, first.Code, second.Code)
	}
	if first.Said+second.Said != whole.Said || !reflect.DeepEqual(second.Map, whole.Map) {
		t.Fatalf("%q at %d: %q and %q, not %q: %v, not %v", text, place, first.Said, second.Said, whole.Said, second.Map, whole.Map)
	}
}

// P17: a script that is cut behind a line feed, each of them, does in two parts
// what it does in one.
func TestPromise17OfParts(t *testing.T) {
	n := numbers(254)
	cuts, wrong, changes := 0, 0, 0
	for range 120 {
		m := someLook(&n)
		text := someScript(&n, m)
		whole := impl.RunScript(m, text)
		if whole.Code != impl.OK {
			continue
		}
		wrong += strings.Count(whole.Said, "!")
		if !reflect.DeepEqual(whole.Map, tellerOf(m).told()) {
			changes++
		}
		expectCut(t, m, text, whole, 0)
		for place, b := range []byte(text) {
			if b == '\n' {
				cuts++
				expectCut(t, m, text, whole, place+1)
			}
		}
	}
	if cuts < 1000 || wrong < 200 || changes < 60 {
		t.Error("the test asks for little", cuts, wrong, changes)
	}
}

// P17: so it is of each line by itself, of lines that say nothing, of none, and of
// the last line with and without a line feed.
func TestPromise17OfAllLines(t *testing.T) {
	m := mapOf(nil, impl.NewViewer(cam(1, 4, 4, 8, 8), 5).Viewer)
	lines := []string{
		"feature 30 1 area 0 0 - 512,448 1024,448 1024,512 512,512", "", "feature 4 2 point 0 3 -b 416,480", "spoil 1 0 0", "answer 1 0 0", "wink", "answer 1 1 0", "   ", "tick 2",
		"show", "labels", "feature 4 2 point 0 3 -b 416,480", "tick 1", "pan -3 1", "pick 4 0", "pick 0 8", "zoom 2", "size 3 8", "drain", "show", "feature 5 9 line 3 0 -cd 0,0 1024,1024", "pan 101 0", "zoom 0", "answer 0 0 0", "labels", "",
	}
	for _, end := range []string{"", "\n", "\n\n", "\n \n"} {
		text := strings.Join(lines, "\n") + end
		whole := impl.RunScript(m, text)
		if whole.Code != impl.OK || strings.Count(whole.Said, "!") != 4 || len(whole.Map.Features) != 3 {
			t.Fatal(whole)
		}
		for place, b := range []byte(text) {
			if b == '\n' {
				expectCut(t, m, text, whole, place+1)
			}
		}
		for place := range lines {
			part := m
			said := ""
			for _, piece := range []string{strings.Join(lines[:place], "\n"), "\n" + strings.Join(lines[place:], "\n") + end} {
				got := impl.RunScript(part, piece)
				part, said = got.Map, said+got.Said
			}
			// a line feed that ends nothing is a line that says nothing
			if said != whole.Said || !reflect.DeepEqual(part, whole.Map) {
				t.Fatalf("at %d: %q, not %q", place, said, whole.Said)
			}
		}
	}
}

// P17: line by line, with whatever stands between: so many parts as there are
// lines do what one text does.
func TestPromise17OfManyParts(t *testing.T) {
	n := numbers(255)
	for range 80 {
		m := someLook(&n)
		text := someScript(&n, m)
		whole := impl.RunScript(m, text)
		if whole.Code != impl.OK {
			continue
		}
		part, said := m, ""
		for line := range strings.Lines(text) {
			got := impl.RunScript(part, line)
			part, said = got.Map, said+got.Said
			again := impl.RunScript(part, "")
			if again.Said != "" || !reflect.DeepEqual(again.Map, part) {
				t.Fatalf("nothing is told: %v, not %v", again, part)
			}
		}
		if text == "" {
			part = impl.RunScript(m, "").Map
		}
		if said != whole.Said || !reflect.DeepEqual(part, whole.Map) {
			t.Fatalf("%q: %q, not %q", text, said, whole.Said)
		}
	}
}

// scriptAnswers is what the layer of scripts answers of the same arguments.
type scriptAnswers struct {
	fault     int64
	step, run impl.ScriptResult
	labels    impl.TextResult
	words     impl.WordsResult
}

// scriptCall are these arguments.
type scriptCall struct {
	m          impl.Map
	line, text string
	placed     []impl.Placed
}

func (c scriptCall) ask() scriptAnswers {
	return scriptAnswers{
		fault:  impl.MapFault(c.m),
		step:   impl.StepScript(c.m, c.line),
		run:    impl.RunScript(c.m, c.text),
		labels: impl.LabelsText(c.placed),
		words:  impl.WordsOf(c.line),
	}
}

func (c scriptCall) copy() scriptCall {
	c.m = mapOf(copyOf(c.m.Features), copyViewer(c.m.Viewer))
	c.line, c.text, c.placed = strings.Clone(c.line), strings.Clone(c.text), slices.Clone(c.placed)
	return c
}

func (c scriptCall) memory() scriptCall {
	c.m = mapOf(whole(c.m.Features), wholeViewer(c.m.Viewer))
	c.placed = slices.Clone(c.placed[:cap(c.placed)])
	return c
}

func (c scriptCall) spoil() {
	spoil(c.m.Features[:cap(c.m.Features)])
	spoilViewer(c.m.Viewer)
	for i := range c.placed[:cap(c.placed)] {
		c.placed[:cap(c.placed)][i] = box(-7, -7, -7, -7, -7)
	}
}

// labelsCodeAs is the code of labels by what the document says of them.
func labelsCodeAs(list []impl.Placed) int64 {
	if len(list) > 12 {
		return impl.ErrMany
	}
	for _, p := range list {
		if p.Id < 1 || p.Id > 999 || min(p.X, p.Y, p.W, p.H) < 0 || max(p.X, p.Y, p.W, p.H) > 9999 {
			return impl.ErrRange
		}
	}
	return impl.OK
}

// codes are the codes that the document asks for.
func (c scriptCall) codes() []int64 {
	fault := firstOf(impl.FeaturesFault(c.m.Features), viewerCodeAs(c.m.Viewer))
	step, run := fault, fault
	if fault == impl.OK {
		_, step = tellerOf(c.m).does(c.line)
		_, run = tellerOf(c.m).runs(c.text)
	}
	return []int64{fault, step, run, labelsCodeAs(c.placed), impl.OK}
}

func (a scriptAnswers) codes() []int64 {
	return []int64{a.fault, a.step.Code, a.run.Code, a.labels.Code, a.words.Code}
}

// isZero tells whether all that stands beside a code is zero.
func (a scriptAnswers) isZero() bool {
	for _, result := range []impl.ScriptResult{a.step, a.run} {
		if result.Code != impl.OK && !reflect.DeepEqual(result, impl.ScriptResult{Code: result.Code}) {
			return false
		}
	}
	return a.labels.Code == impl.OK || a.labels == (impl.TextResult{Code: a.labels.Code})
}

// roomyLook is the same map with room behind the ends of its lists, in which
// something stands.
func roomyLook(n *numbers, m impl.Map) impl.Map {
	return mapOf(roomyMap(n, m.Features), roomyViewer(n, m.Viewer))
}

// strangeLabels are labels of which some may be wrong, with room behind them.
func strangeLabels(n *numbers) []impl.Placed {
	list := somePlaced(n)
	if n.next(0, 1) == 0 {
		list = append(list, strangePlaced(n))
	}
	if n.next(0, 5) == 0 {
		list = append(list, make([]impl.Placed, 12)...)
	}
	return append(list, box(1, 1, 1, 1, 1), box(2, 2, 2, 2, 2))[:len(list)]
}

// strangeText is a text of any length that may be no script.
func strangeText(n *numbers, m impl.Map) string {
	text := someScript(n, m)
	switch n.next(0, 11) {
	case 0:
		return text + strings.Repeat("\n", int(n.next(0, 60)))
	case 1:
		return text + strings.Repeat("x", int(n.next(0, 3000)))
	case 2:
		return string(n.bytes(int(n.next(0, 300))))
	}
	return text
}

// strangeScriptCall is a call of which anything may be wrong.
func strangeScriptCall(n *numbers) scriptCall {
	m := someLook(n)
	d := tellerOf(m)
	line := d.someLine(n)
	for range n.next(0, 2) {
		line = changedLine(n, line)
	}
	if n.next(0, 3) == 0 {
		line = "feature " + d.someFeature(n)
	}
	c := scriptCall{m: m, line: line, text: strangeText(n, m), placed: strangeLabels(n)}
	switch n.next(0, 3) {
	case 0:
		c.m.Features = strangeFeatures(n)
	case 1:
		c.m.Viewer = strangeViewer(n)
	}
	c.m = roomyLook(n, c.m)
	return c
}

// P1, chapter 16: an answer at every argument.
func TestPromise1OfScripts(t *testing.T) {
	n := numbers(256)
	of := []int64{impl.ErrMany, impl.ErrRange, impl.ErrTaken, impl.ErrState}
	said := map[string]int{}
	expectAnswers(t, 1500, func() scriptCall {
		c := strangeScriptCall(&n)
		said[strings.SplitN(c.copy().ask().step.Said, " ", 2)[0]]++
		return c
	}, of, append(of, impl.ErrText), of, []int64{impl.ErrMany, impl.ErrRange}, nil)
	for _, word := range []string{"", "ok", "sent", "bad", "took"} {
		if said[word] < 15 {
			t.Error("the test asks for little", word, said)
		}
	}
	c := scriptCall{m: mapOf(nil, looking(four(), 5, cacheOf(4, tileOf(ref(2, 0, 0))))), line: "show", text: "show\nlabels\ndrain"}
	other := c.copy()
	other.m.Features, other.placed = []impl.Feature{}, []impl.Placed{}
	other.m.Viewer.Requests = []impl.Request{}
	other.m.Viewer.Cache.Kept[0].Tile.Features = []impl.Feature{}
	if !reflect.DeepEqual(c.ask(), other.ask()) || firstOf(c.ask().codes()...) != impl.OK {
		t.Error("an empty list is not nil")
	}
	c.m.Viewer.Cache.Kept, other.m.Viewer.Cache.Kept = nil, []impl.Kept{}
	if !reflect.DeepEqual(c.ask(), other.ask()) || firstOf(c.ask().codes()...) != impl.OK {
		t.Error("an empty cache is not nil")
	}
}

// P1, chapter 16: texts, lines and lists of any length end.
func TestPromise1OfScriptsOfAnyLength(t *testing.T) {
	m := quay()
	for _, piece := range []string{" ", "\n", "a", "a ", "feature ", "feature " + roadText + " ", "pan 1 1\n", "-", "1", "\xff", "\x00 "} {
		long := strings.Repeat(piece, 1<<20/len(piece))
		if got := impl.StepScript(m, long); got.Code != impl.ErrText && piece != " " {
			t.Errorf("%q: %v", piece, got)
		}
		expectNoScript(t, m, long, impl.ErrMany)
		if got := impl.WordsOf(long); got.Code != impl.OK || len(got.Words) != len(wordsAs(long)) {
			t.Errorf("%q: %d", piece, len(got.Words))
		}
		for _, word := range []string{"pan 1 ", "tick ", "answer 0 0 ", "show ", "feature ", "feature 8 2 line 1 3 -road 1,2 30,4 "} {
			if got := impl.StepScript(m, word+long); got.Code != impl.ErrText && piece != " " {
				t.Errorf("%s%q: %v", word, piece, got)
			}
		}
	}
	wrong := box(math.MinInt64, math.MaxInt64, math.MinInt64, math.MaxInt64, math.MinInt64)
	expectNoLabelsText(t, "far", []impl.Placed{wrong}, impl.ErrRange)
	expectNoLabelsText(t, "long", slices.Repeat([]impl.Placed{wrong}, 1<<18), impl.ErrMany)
}

// spoilScript writes over all that an answer has in memory, one list after the
// other, and asks that none of them hangs on one ahead.
func spoilScript(t *testing.T, got, want impl.ScriptResult) {
	t.Helper()
	for k := range got.Map.Features {
		if !reflect.DeepEqual(got.Map.Features[k:], want.Map.Features[k:]) {
			t.Fatalf("%v: two features share memory", want)
		}
		spoil(got.Map.Features[k : k+1])
	}
	spoil(got.Map.Features[:cap(got.Map.Features)])
	spoilResult(t, impl.ViewerResult{Viewer: got.Map.Viewer}, impl.ViewerResult{Viewer: want.Map.Viewer})
}

// someScriptCall is a call without a fault.
func someScriptCall(n *numbers) scriptCall {
	m := someLook(n)
	d := tellerOf(m)
	line := d.someLine(n)
	for {
		if _, code := d.does(line); code == impl.OK {
			break
		}
		line = d.someLine(n)
	}
	text := someScript(n, m)
	if len(text) > impl.MaxScript || strings.Count(text+"\n", "\n") > impl.MaxLines {
		text = line
	}
	return scriptCall{m: roomyLook(n, m), line: line, text: text, placed: somePlaced(n)}
}

// P1, chapter 16: an answer shares no memory with an argument, nor with another
// answer, and no two of its lists share any; whatever a line does, or does not.
func TestPromise1OfScriptsNewMemory(t *testing.T) {
	n := numbers(257)
	said := map[string]int{}
	for range 500 {
		c := someScriptCall(&n)
		if n.next(0, 3) == 0 {
			c.text = c.line
		}
		given := c.memory()
		got, kept := c.ask(), c.ask()
		if firstOf(kept.codes()...) != impl.OK {
			t.Fatalf("%v: %v", c, kept)
		}
		said[strings.SplitN(c.line, " ", 2)[0]]++
		spoilScript(t, got.step, kept.step)
		spoilScript(t, got.run, kept.run)
		for k := range got.words.Words[:cap(got.words.Words)] {
			got.words.Words[:cap(got.words.Words)][k] = "?"
		}
		expectOwnMemory(t, c, given, kept, c.spoil)
	}
	for word := range countsOf {
		if said[word] < 10 {
			t.Error("the test asks for little", word, said)
		}
	}
}

// P1, chapter 16: so it is of lines that change nothing, and of none: what is told
// is the same map, elsewhere.
func TestPromise1OfScriptsOfNothingNewMemory(t *testing.T) {
	n := numbers(258)
	for range 60 {
		m := someLook(&n)
		want := tellerOf(m).told()
		for _, line := range []string{"", "  ", "show", "labels", "pick 0 0"} {
			c := scriptCall{m: roomyLook(&n, m), line: line, text: line + "\nwink\n\n"}
			given := c.memory()
			got, kept := c.ask(), c.ask()
			if kept.step.Code != impl.OK || !reflect.DeepEqual(kept.step.Map, want) || !reflect.DeepEqual(kept.run.Map, want) {
				t.Fatalf("%v: %v", c, kept)
			}
			spoilScript(t, got.step, kept.step)
			spoilScript(t, got.run, kept.run)
			expectOwnMemory(t, c, given, kept, c.spoil)
		}
	}
}

// isPartOf tells whether a text lies in the memory of another one.
func isPartOf(part, text string) bool {
	if part == "" || text == "" {
		return false
	}
	first, place := uintptr(unsafe.Pointer(unsafe.StringData(text))), uintptr(unsafe.Pointer(unsafe.StringData(part)))
	return first <= place && place < first+uintptr(len(text))
}

// P1, chapter 16: no text of an answer lies in that of a line, nor in a label of
// the map.
func TestPromise1OfScriptsNewTexts(t *testing.T) {
	n := numbers(262)
	labels := 0
	for range 200 {
		c := someScriptCall(&n)
		got := c.ask()
		for _, word := range got.words.Words {
			if isPartOf(word, c.line) {
				t.Fatalf("%q lies in %q", word, c.line)
			}
		}
		for _, m := range []impl.Map{got.step.Map, got.run.Map} {
			for i, f := range m.Features {
				if isPartOf(f.Label, c.line) || isPartOf(f.Label, c.text) || i < len(c.m.Features) && isPartOf(f.Label, c.m.Features[i].Label) {
					t.Fatalf("%q of %v lies elsewhere", f.Label, f)
				}
				labels += len(f.Label)
			}
		}
	}
	if line := strings.Clone(roadText); labels < 200 || !isPartOf(line[2:4], line) || isPartOf(strings.Clone(line), line) {
		t.Error("the test asks for little", labels)
	}
}

// P1, chapter 16: a feature that is told is not written behind the features of the
// argument, where there is room.
func TestPromise1OfScriptsBehindTheEnd(t *testing.T) {
	room := numbered(1, 2, 3, 4, 5)
	m := mapOf(room[:2], halfway())
	first := impl.StepScript(m, "feature 8 2 line 1 3 -a 1,2 30,4").Map
	second := impl.StepScript(m, "feature 9 2 line 1 3 -b 1,2 30,4").Map
	third := impl.RunScript(m, "feature 10 2 line 1 3 -c 1,2 30,4\nfeature 11 2 line 1 3 -d 1,2 30,4").Map
	if !reflect.DeepEqual(room, numbered(1, 2, 3, 4, 5)) {
		t.Error(room)
	}
	for i, got := range []impl.Map{first, second, third} {
		if got.Features[2].Id != int64(8+i) || got.Features[2].Label != string("abc"[i]) {
			t.Error(i, got.Features)
		}
	}
	if len(third.Features) != 4 || third.Features[3].Id != 11 {
		t.Error(third.Features)
	}
}

// P1, chapter 16: features that are those of the tiles, in memory, are read alone,
// and no answer shares any with them.
func TestPromise1OfScriptsWithSharedMemory(t *testing.T) {
	features, ids := two(), plain(0)
	cache := impl.Cache{Size: 6}
	for _, r := range []impl.Ref{ref(2, 1, 0), ref(2, 1, 1)} {
		cache.Kept = append(cache.Kept, impl.Kept{Tile: tileOf(r, features...), Ids: ids})
	}
	v := looking(four(), 5, cache, req(ref(2, 0, 1), 6, 1), req(ref(2, 0, 0), 6, 1))
	expectViewerFault(t, "shared", v, impl.OK)
	for _, line := range []string{"show", "drain", "answer 2 0 0", "spoil 2 0 0", "pan 1 1", "", "feature 8 2 line 1 3 -a 1,2 30,4"} {
		c := scriptCall{m: mapOf(features, v), line: line, text: line}
		given, kept := c.memory(), c.copy().ask()
		if firstOf(kept.codes()...) != impl.OK || len(kept.step.Map.Features) < 2 {
			t.Fatal(line, kept)
		}
		for _, pick := range []func(a scriptAnswers) impl.ScriptResult{
			func(a scriptAnswers) impl.ScriptResult { return a.step },
			func(a scriptAnswers) impl.ScriptResult { return a.run },
		} {
			got := c.ask()
			if !reflect.DeepEqual(got, kept) {
				t.Fatalf("%v, not %v", got, kept)
			}
			spoilScript(t, pick(got), pick(kept))
			if !reflect.DeepEqual(given, c.memory()) || !reflect.DeepEqual(features, two()) || !slices.Equal(ids, plain(0)) {
				t.Fatal("the argument was spoiled", line)
			}
		}
	}
}

// P1, chapter 16: nothing that is said hangs on the order in which the map was
// told, nor on the order of tiles that are kept, where none has to go.
func TestPromise1OfScriptsInWhateverOrder(t *testing.T) {
	n := numbers(259)
	for range 100 {
		m := someLook(&n)
		m.Viewer.Cache.Size = 10
		m.Viewer.Cache.Kept = m.Viewer.Cache.Kept[:min(len(m.Viewer.Cache.Kept), 6)]
		text := "show\nlabels\npick 0 0\ndrain\nshow\nlabels\npick 0 0\n"
		want := impl.RunScript(m, text)
		for range 3 {
			shuffle(&n, m.Features)
			shuffle(&n, m.Viewer.Cache.Kept)
			if got := impl.RunScript(m, text); got.Code != impl.OK || got.Said != want.Said {
				t.Fatalf("%v: %v, not %v", m, got, want)
			}
		}
	}
}

// P1, chapter 16: nothing is kept from call to call: the same map tells the same,
// whatever others told in between.
func TestPromise1OfScriptsKeepsNothing(t *testing.T) {
	n := numbers(260)
	var calls []scriptCall
	var answers []scriptAnswers
	for range 120 {
		c := strangeScriptCall(&n)
		calls, answers = append(calls, c), append(answers, c.copy().ask())
	}
	for i, c := range slices.Backward(calls) {
		if got := c.ask(); !reflect.DeepEqual(got, answers[i]) {
			t.Fatalf("%v: %v, then %v", c, answers[i], got)
		}
	}
}

// P1, chapter 16: as many calls at once as there may be tell what each tells
// alone.
func TestPromise1OfScriptsAtOnce(t *testing.T) {
	n := numbers(261)
	c := someScriptCall(&n)
	want := c.copy().ask()
	answers := make(chan scriptAnswers)
	for range 20 {
		go func() { answers <- c.ask() }()
	}
	for range 20 {
		if got := <-answers; !reflect.DeepEqual(got, want) {
			t.Errorf("%v: %v, not %v", c, got, want)
		}
	}
}
