package tests

import (
	"fmt"
	"math"
	"reflect"
	"slices"
	"strconv"
	"strings"
	"testing"

	"loop.example/g00403/impl"
)

func mapOf(list []impl.Feature, v impl.Viewer) impl.Map {
	return impl.Map{Features: list, Viewer: v}
}

// quay is a map at which one looks to whom half of what is seen is there.
func quay() impl.Map {
	return mapOf(harbour(), halfway())
}

// seeingAll is who looks at four tiles, and to whom all of a map came.
func seeingAll(list []impl.Feature) impl.Viewer {
	return seeing(four(), builtOf(list, refsAs(four())...)...)
}

// expectLine asks for the map that a line leaves, and for what it says.
func expectLine(t *testing.T, m impl.Map, line string, want impl.Map, said string) {
	t.Helper()
	if got := impl.StepScript(m, line); !reflect.DeepEqual(got, impl.ScriptResult{Map: want, Said: said}) {
		t.Errorf("%.80q: %v, not %v and %q", line, got, want, said)
	}
}

// expectSays asks for a line that changes nothing.
func expectSays(t *testing.T, m impl.Map, line, said string) {
	t.Helper()
	expectLine(t, m, line, m, said)
}

// expectNoLine asks for a code, and for nothing else.
func expectNoLine(t *testing.T, m impl.Map, line string, code int64) {
	t.Helper()
	if got := impl.StepScript(m, line); !reflect.DeepEqual(got, impl.ScriptResult{Code: code}) {
		t.Errorf("%.80q: %v, not %d", line, got, code)
	}
}

// expectBecomes asks for a line that does to the viewer what was done already.
func expectBecomes(t *testing.T, m impl.Map, line string, result impl.ViewerResult, said string) {
	t.Helper()
	if result.Code != impl.OK {
		t.Fatal(line, result)
	}
	expectLine(t, m, line, mapOf(m.Features, result.Viewer), said)
}

// expectScript asks for the map that a text leaves, and for what it says.
func expectScript(t *testing.T, m impl.Map, text string, want impl.Map, said string) {
	t.Helper()
	if got := impl.RunScript(m, text); !reflect.DeepEqual(got, impl.ScriptResult{Map: want, Said: said}) {
		t.Errorf("%.80q: %v, not %v and %q", text, got, want, said)
	}
}

func expectNoScript(t *testing.T, m impl.Map, text string, code int64) {
	t.Helper()
	if got := impl.RunScript(m, text); !reflect.DeepEqual(got, impl.ScriptResult{Code: code}) {
		t.Errorf("%.80q: %v, not %d", text, got, code)
	}
}

func TestConstantsOfScripts(t *testing.T) {
	if impl.MaxScript != 1500 || impl.MaxLines != 30 {
		t.Error(impl.MaxScript, impl.MaxLines)
	}
}

// A blank alone stands between words: all other bytes are of a word.
func TestWordsOf(t *testing.T) {
	for _, c := range []struct {
		line string
		want []string
	}{
		{"", nil},
		{" ", nil},
		{"      ", nil},
		{strings.Repeat(" ", 100000), nil},
		{"a", []string{"a"}},
		{"pan", []string{"pan"}},
		{" pan", []string{"pan"}},
		{"   pan", []string{"pan"}},
		{"pan ", []string{"pan"}},
		{"pan    ", []string{"pan"}},
		{"  pan  ", []string{"pan"}},
		{"pan 1 -2", []string{"pan", "1", "-2"}},
		{"pan   1    -2", []string{"pan", "1", "-2"}},
		{"  pan   1 -2  ", []string{"pan", "1", "-2"}},
		{"b a b a", []string{"b", "a", "b", "a"}},
		{"\t", []string{"\t"}},
		{"\t \n", []string{"\t", "\n"}},
		{"a\tb", []string{"a\tb"}},
		{"a\nb c\n", []string{"a\nb", "c\n"}},
		{"a\rb\vc\fd\x00e", []string{"a\rb\vc\fd\x00e"}},
		{"a\u00a0b\u2003c\u0085d\u3000e", []string{"a\u00a0b\u2003c\u0085d\u3000e"}},
		{"\xff \xc3\x28 \xa0 \x85", []string{"\xff", "\xc3\x28", "\xa0", "\x85"}},
		{"\xe2\x80 \x83", []string{"\xe2\x80", "\x83"}},
		{"größe größer", []string{"größe", "größer"}},
		{"\x1f\x21 \x7f", []string{"\x1f\x21", "\x7f"}},
	} {
		if got := impl.WordsOf(c.line); !reflect.DeepEqual(got, impl.WordsResult{Words: c.want}) {
			t.Errorf("%.80q: %q, not %q", c.line, got.Words, c.want)
		}
	}
	long := impl.WordsOf(strings.Repeat("ab ", 20000)).Words
	if len(long) != 20000 || long[19999] != "ab" {
		t.Error(len(long))
	}
	for b := range 256 {
		want := []string{"a" + string([]byte{byte(b)}) + "c"}
		if b == 32 {
			want = []string{"a", "c"}
		}
		if got := impl.WordsOf("a" + string([]byte{byte(b)}) + "c").Words; !slices.Equal(got, want) {
			t.Errorf("%d: %q, not %q", b, got, want)
		}
	}
}

// wordsAs are the words of a line by what the document says of them.
func wordsAs(line string) []string {
	var words []string
	for _, word := range strings.Split(line, " ") {
		if word != "" {
			words = append(words, word)
		}
	}
	return words
}

// Each text of a few bytes, and what is left of words with one blank between.
func TestWordsOfAgainstTheDocument(t *testing.T) {
	const bytes = " a\n-"
	var lines []string
	for first := []string{""}; len(first[0]) < 6; {
		var longer []string
		for _, line := range first {
			for _, b := range bytes {
				longer = append(longer, line+string(b))
			}
		}
		lines, first = append(lines, longer...), longer
	}
	for _, line := range lines {
		got := impl.WordsOf(line)
		if want := wordsAs(line); got.Code != impl.OK || !reflect.DeepEqual(got.Words, want) {
			t.Fatalf("%q: %q, not %q", line, got.Words, want)
		}
		if again := impl.WordsOf(strings.Join(got.Words, " ")); !reflect.DeepEqual(again, got) {
			t.Fatalf("%q: %q, then %q", line, got.Words, again.Words)
		}
	}
}

func expectMapFault(t *testing.T, what string, m impl.Map, want int64) {
	t.Helper()
	if got := impl.MapFault(m); got != want {
		t.Errorf("%s: %v: %d, not %d", what, m, got, want)
	}
}

// Features with a fault, a viewer with one, and both beside each other: that of
// the features comes first.
func TestMapFault(t *testing.T) {
	expectMapFault(t, "right", quay(), impl.OK)
	expectMapFault(t, "no features", mapOf(nil, halfway()), impl.OK)
	expectMapFault(t, "an empty list", mapOf([]impl.Feature{}, halfway()), impl.OK)
	expectMapFault(t, "twelve", mapOf(numbered(1, 2, 3, 4, 5, 6, 7, 8, 9, 10, 11, 12), halfway()), impl.OK)
	expectMapFault(t, "nothing", impl.Map{}, impl.ErrRange)
	expectMapFault(t, "no viewer", mapOf(harbour(), impl.Viewer{}), impl.ErrRange)
	expectMapFault(t, "not of that map", mapOf(harbour(), seeingAll(two())), impl.OK)
	maps, codes := wrongMaps()
	viewers := faultyViewers()
	for i, list := range maps {
		v := viewers[i*37%len(viewers)]
		expectMapFault(t, "features", mapOf(list, halfway()), codes[i])
		expectMapFault(t, "both", mapOf(list, v), codes[i])
		expectMapFault(t, "both", mapOf(list, impl.Viewer{}), codes[i])
	}
	for i, v := range viewers {
		if i%5 == 0 {
			expectMapFault(t, "the viewer", mapOf(harbour(), v), viewerCodeAs(v))
			expectMapFault(t, "the viewer", mapOf(nil, v), viewerCodeAs(v))
		}
	}
}

// A map with a fault: its code, whatever the line or the text is.
func TestScriptsOfWrongMaps(t *testing.T) {
	lines := []string{"", "wink", "\n", "show", "feature " + roadText, "pan 0 0", "tick 101", "answer 9 9 9", "pick 99 99", "drain"}
	expectNothingDone := func(m impl.Map, code int64) {
		t.Helper()
		for _, line := range lines {
			expectNoLine(t, m, line, code)
			expectNoScript(t, m, line+"\n", code)
		}
		expectNoScript(t, m, strings.Repeat(" ", 1501), code)
		expectNoScript(t, m, strings.Repeat("\n", 31), code)
	}
	maps, codes := wrongMaps()
	for i, list := range maps {
		if i%4 == 0 || len(list) != 1 {
			expectNothingDone(mapOf(list, looking(four(), 5, cacheOf(4))), codes[i])
		}
	}
	for i, v := range faultyViewers() {
		if i%40 == 0 {
			expectNothingDone(mapOf(harbour(), v), viewerCodeAs(v))
		}
	}
	stray := looking(four(), 5, cacheOf(4), req(ref(2, 3, 3), 5, 1))
	expectNothingDone(mapOf(nil, stray), impl.ErrState)
	expectNothingDone(mapOf(numbered(4, 4), stray), impl.ErrTaken)
	expectNothingDone(impl.Map{}, impl.ErrRange)
}

func expectLabelsText(t *testing.T, what string, list []impl.Placed, want string) {
	t.Helper()
	if got := impl.LabelsText(list); got != (impl.TextResult{Text: want}) {
		t.Errorf("%s: %v, not %q", what, got, want)
	}
}

func expectNoLabelsText(t *testing.T, what string, list []impl.Placed, code int64) {
	t.Helper()
	if got := impl.LabelsText(list); got != (impl.TextResult{Code: code}) {
		t.Errorf("%s: %v, not %d", what, got, code)
	}
}

// labelsUpTo are so many labels, that overlap one another.
func labelsUpTo(count int) []impl.Placed {
	var list []impl.Placed
	for i := range int64(count) {
		list = append(list, box(i+1, i, 0, 2, 3))
	}
	return list
}

func TestLabelsText(t *testing.T) {
	expectLabelsText(t, "none", nil, "none\n")
	expectLabelsText(t, "an empty list", []impl.Placed{}, "none\n")
	expectLabelsText(t, "one", []impl.Placed{box(7, 1, 2, 8, 3)}, "label 7 1 2 8 3\n")
	expectLabelsText(t, "the least", []impl.Placed{box(1, 0, 0, 0, 0)}, "label 1 0 0 0 0\n")
	expectLabelsText(t, "the greatest", []impl.Placed{box(999, 9999, 9998, 9997, 9996)}, "label 999 9999 9998 9997 9996\n")
	expectLabelsText(t, "in their order", []impl.Placed{box(9, 5, 0, 2, 3), box(3, 0, 5, 10, 12), box(100, 63, 63, 12, 3)}, "label 9 5 0 2 3\nlabel 3 0 5 10 12\nlabel 100 63 63 12 3\n")
	expectLabelsText(t, "twice", []impl.Placed{box(9, 5, 0, 2, 3), box(9, 5, 0, 2, 3)}, "label 9 5 0 2 3\nlabel 9 5 0 2 3\n")
	want := ""
	for i := range 12 {
		want += "label " + strconv.Itoa(i+1) + " " + strconv.Itoa(i) + " 0 2 3\n"
		expectLabelsText(t, "many", labelsUpTo(i+1), want)
	}
	for _, count := range []int{13, 14, 100, 5000} {
		expectNoLabelsText(t, "too many", labelsUpTo(count), impl.ErrMany)
		expectNoLabelsText(t, "too many, none right", make([]impl.Placed, count), impl.ErrMany)
	}
}

// placedFields are the numbers of a label, each with its bounds.
var placedFields = []struct {
	low, high int64
	of        func(p *impl.Placed) *int64
}{
	{1, 999, func(p *impl.Placed) *int64 { return &p.Id }},
	{0, 9999, func(p *impl.Placed) *int64 { return &p.X }},
	{0, 9999, func(p *impl.Placed) *int64 { return &p.Y }},
	{0, 9999, func(p *impl.Placed) *int64 { return &p.W }},
	{0, 9999, func(p *impl.Placed) *int64 { return &p.H }},
}

// Each number of a label at its bounds, beyond them and far, at each place among
// right ones.
func TestLabelsTextOfNumbers(t *testing.T) {
	others := []impl.Placed{box(12, 5, 6, 7, 8), box(13, 0, 0, 2, 3)}
	const first, second = "label 12 5 6 7 8\n", "label 13 0 0 2 3\n"
	for k, field := range placedFields {
		for _, n := range []int64{field.low, field.low + 1, field.low + 10, 99, 100, field.high - 1, field.high} {
			p := box(4, 5, 6, 7, 8)
			*field.of(&p) = n
			words := []string{"label", "4", "5", "6", "7", "8"}
			words[k+1] = strconv.FormatInt(n, 10)
			line := strings.Join(words, " ") + "\n"
			expectLabelsText(t, "alone", []impl.Placed{p}, line)
			expectLabelsText(t, "first", append([]impl.Placed{p}, others...), line+first+second)
			expectLabelsText(t, "between", slices.Insert(slices.Clone(others), 1, p), first+line+second)
			expectLabelsText(t, "last", append(slices.Clone(others), p), first+second+line)
		}
		for _, n := range append(outsideOf(field.low, field.high), field.low-1, field.high+1, -1, 10000) {
			p := box(4, 5, 6, 7, 8)
			*field.of(&p) = n
			for place := range 3 {
				expectNoLabelsText(t, fmt.Sprint(k, " ", n), slices.Insert(slices.Clone(others), place, p), impl.ErrRange)
			}
			expectNoLabelsText(t, fmt.Sprint(k, " ", n), []impl.Placed{p}, impl.ErrRange)
			expectNoLabelsText(t, "the last of twelve", append(labelsUpTo(11), p), impl.ErrRange)
			expectNoLabelsText(t, "the last of thirteen", append(labelsUpTo(12), p), impl.ErrMany)
		}
	}
}

// A line without words changes nothing and says nothing.
func TestStepScriptOfNoWords(t *testing.T) {
	for _, line := range []string{"", " ", "    ", strings.Repeat(" ", 5000)} {
		expectSays(t, quay(), line, "")
		expectSays(t, mapOf(nil, looking(cam(0, 3, 4, 1, 1), 9000, cacheOf(4))), line, "")
	}
}

func TestStepScriptFeature(t *testing.T) {
	m := quay()
	for _, c := range []struct {
		text string
		want impl.Feature
	}{
		{"1 0 point 0 0 - 0,0", impl.Feature{Id: 1, Kind: impl.KindPoint, Points: []impl.Point{at(0, 0)}}},
		{"999 9 point 3 9 -abcdef 1024,1024", impl.Feature{Id: 999, Layer: 9, Kind: impl.KindPoint, Width: 3, Priority: 9, Label: "abcdef", Points: []impl.Point{at(1024, 1024)}}},
		{"8 2 line 1 3 -road 1,2 30,4", impl.Feature{Id: 8, Layer: 2, Kind: impl.KindLine, Width: 1, Priority: 3, Label: "road", Points: []impl.Point{at(1, 2), at(30, 4)}}},
		{"51 1 area 0 5 -z 0,0 512,0 0,1000", impl.Feature{Id: 51, Layer: 1, Kind: impl.KindArea, Priority: 5, Label: "z", Points: []impl.Point{at(0, 0), at(512, 0), at(0, 1000)}}},
	} {
		want := mapOf(append(harbour(), c.want), halfway())
		expectLine(t, m, "feature "+c.text, want, "ok")
		expectLine(t, m, "  feature   "+strings.ReplaceAll(c.text, " ", "   ")+" ", want, "ok")
		for i, word := range wordsAs(c.text) {
			words := slices.Insert(wordsAs(c.text), i, "")
			expectLine(t, m, "feature "+strings.Join(words, " "), want, "ok")
			words = slices.Delete(wordsAs(c.text), i, i+1)
			if i < 6 {
				expectNoLine(t, m, "feature "+strings.Join(words, " "), impl.ErrText)
			}
			words = wordsAs(c.text)
			words[i] = word + " " + word
			if i < 6 {
				expectNoLine(t, m, "feature "+strings.Join(words, " "), impl.ErrText)
			}
		}
	}
	list := []impl.Feature{named(400, 0, 2, 3, 4, "a")}
	expectLine(t, mapOf(nil, halfway()), "feature "+impl.FeatureText(list[0]).Text, mapOf(list, halfway()), "ok")
}

// The last one, whatever its Id and Layer; as many as there may be, and one
// more.
func TestStepScriptFeatureOfMany(t *testing.T) {
	m := mapOf(nil, halfway())
	var list []impl.Feature
	for i := range int64(12) {
		f := named(900-7*i, 3, 2, i, i, "a")
		f.Layer = 5 * i % 7
		for _, there := range list {
			expectNoLine(t, m, "feature "+impl.FeatureText(there).Text, impl.ErrTaken)
			other := road()
			other.Id = there.Id
			expectNoLine(t, m, "feature "+impl.FeatureText(other).Text, impl.ErrTaken)
		}
		list = append(list, f)
		line := "feature " + impl.FeatureText(f).Text
		expectLine(t, m, line, mapOf(list, halfway()), "ok")
		m = impl.StepScript(m, line).Map
	}
	if len(m.Features) != 12 {
		t.Fatal(m)
	}
	for _, id := range []int64{1, 7, 899, 901, 999} {
		other := road()
		other.Id = id
		expectNoLine(t, m, "feature "+impl.FeatureText(other).Text, impl.ErrMany)
	}
	for _, there := range list {
		expectNoLine(t, m, "feature "+impl.FeatureText(there).Text, impl.ErrTaken)
	}
	expectNoLine(t, m, "feature 1 2 line 1 3 -road 1,2", impl.ErrText)
	expectNoLine(t, m, "feature 900 2 line 1 3 -road 1,2", impl.ErrText)
	// only the words are too many
	expectSays(t, m, "show", impl.FrameText(m.Viewer).Text)
}

// What is no text of a feature.
func TestStepScriptFeatureUnread(t *testing.T) {
	for _, text := range []string{
		"", "8", "8 2", "8 2 line", "8 2 line 1", "8 2 line 1 3", "8 2 line 1 3 -road", "8 2 line 1 3 -road 1,2",
		"8 2 point 1 3 -road 1,2 30,4", "8 2 area 1 3 -road 1,2 30,4", "8 2 lines 1 3 -road 1,2 30,4", "8 2 Line 1 3 -road 1,2 30,4",
		"0 2 line 1 3 -road 1,2 30,4", "1000 2 line 1 3 -road 1,2 30,4", "08 2 line 1 3 -road 1,2 30,4", "-8 2 line 1 3 -road 1,2 30,4",
		"8 10 line 1 3 -road 1,2 30,4", "8 2 line 4 3 -road 1,2 30,4", "8 2 line 1 10 -road 1,2 30,4", "8 2 line 1 3 road 1,2 30,4",
		"8 2 line 1 3 -roadway 1,2 30,4", "8 2 line 1 3 -Road 1,2 30,4", "8 2 line 1 3 - road 1,2 30,4", "8 2 line 1 3 -road 1,2 30,",
		"8 2 line 1 3 -road 1,2 1025,4", "8 2 line 1 3 -road 1,-2 30,4", "8 2 line 1 3 -road 1, 2 30,4", "8 2 line 1 3 -road 1,2,30,4",
		"8 2 line 1 3 -road 1,2 30,4,", "8 2 line 1 3 -road 1,2 30,04", "8\t2 line 1 3 -road 1,2 30,4", "feature 8 2 line 1 3 -road 1,2 30,4",
		"8 2 line 1 3 -road" + strings.Repeat(" 1,2", 13), "8 2 line 1 3 -road" + strings.Repeat(" 1,2", 20000), strings.Repeat("8 ", 20000),
	} {
		expectNoLine(t, quay(), "feature "+text, impl.ErrText)
	}
	list, codes := wrongFeatures()
	for i, f := range list {
		text := bareText(f)
		if isText(text) || codes[i] == impl.OK {
			t.Fatal("the test has no fault", text)
		}
		expectNoLine(t, quay(), "feature "+text, impl.ErrText)
	}
}

// bareText is the text of a feature that may have a fault.
func bareText(f impl.Feature) string {
	kind, ok := map[int64]string{1: "point", 2: "line", 3: "area"}[f.Kind]
	if !ok {
		kind = strconv.FormatInt(f.Kind, 10)
	}
	text := fmt.Sprint(f.Id, " ", f.Layer, " ", kind, " ", f.Width, " ", f.Priority, " -", f.Label)
	for _, p := range f.Points {
		text += fmt.Sprintf(" %d,%d", p.X, p.Y)
	}
	return text
}

// Moves: what is sent is told, ref by ref in their order, and nothing but the
// word where nothing is.
func TestStepScriptMoves(t *testing.T) {
	m := quay()
	v := m.Viewer
	for _, c := range []struct {
		line string
		want impl.ViewerResult
		said string
	}{
		{"pan 0 0", impl.PanViewer(v, 0, 0), "sent"},
		{"pan -3 3", impl.PanViewer(v, -3, 3), "sent"},
		{"pan 8 0", impl.PanViewer(v, 8, 0), "sent 2/2/0 2/2/1"},
		{"pan 0 8", impl.PanViewer(v, 0, 8), "sent 2/0/2 2/1/2"},
		{"pan 16 16", impl.PanViewer(v, 16, 16), "sent 2/2/2 2/3/2 2/2/3"},
		{"pan -4 -4", impl.PanViewer(v, -4, -4), "sent"},
		{"pan 4 -4", impl.PanViewer(v, 4, -4), "sent"},
		{"pan 100 -100", impl.PanViewer(v, 100, -100), "sent 2/3/0"},
		{"pan -100 100", impl.PanViewer(v, -100, 100), "sent 2/0/3"},
		{"pan 99 -99", impl.PanViewer(v, 99, -99), "sent 2/3/0"},
		{"zoom 0", impl.ZoomViewer(v, 0), "sent 0/0/0"},
		{"zoom 1", impl.ZoomViewer(v, 1), "sent 1/0/0"},
		{"zoom 2", impl.ZoomViewer(v, 2), "sent"},
		{"zoom 3", impl.ZoomViewer(v, 3), "sent 3/1/1 3/2/1 3/1/2 3/2/2"},
		{"size 8 8", impl.SizeViewer(v, 8, 8), "sent"},
		{"size 8 4", impl.SizeViewer(v, 8, 4), "sent"},
		{"size 1 8", impl.SizeViewer(v, 1, 8), "sent"},
		{"size 1 1", impl.SizeViewer(v, 1, 1), "sent"},
		{"tick 0", impl.TickViewer(v, 0), "sent"},
		{"tick 1", impl.TickViewer(v, 1), "sent 2/0/1"},
		{"tick 9", impl.TickViewer(v, 9), "sent 2/0/1"},
		{"tick 10", impl.TickViewer(v, 10), "sent 2/0/1 2/1/0"},
		{"tick 100", impl.TickViewer(v, 100), "sent 2/0/1 2/1/0"},
	} {
		expectBecomes(t, m, c.line, c.want, c.said)
		expectBecomes(t, mapOf(nil, v), c.line, c.want, c.said)
	}
	small := looking(cam(2, 7, 7, 1, 1), 9, cacheOf(4, spotted(ref(2, 0, 0), 3)))
	expectBecomes(t, mapOf(two(), small), "size 2 2", impl.SizeViewer(small, 2, 2), "sent 2/1/0 2/0/1 2/1/1")
	last := looking(cam(3, 63, 0, 1, 1), 9000, cacheOf(4))
	expectBecomes(t, mapOf(two(), last), "pan 0 63", impl.PanViewer(last, 0, 63), "sent 3/7/7")
	expectBecomes(t, mapOf(two(), last), "tick 0", impl.TickViewer(last, 0), "sent")
}

// Numbers that a camera, or the time, has no room for: their code, up to those
// that are no numbers any more.
func TestStepScriptMovesWrong(t *testing.T) {
	m := quay()
	late := mapOf(harbour(), looking(four(), 8950, cacheOf(4)))
	for _, n := range []int64{101, 102, 128, 256, 999, 1000, 1024, 9999} {
		word := strconv.FormatInt(n, 10)
		for _, line := range []string{"pan W 0", "pan 0 W", "pan W W", "pan -W 0", "pan 0 -W", "pan -W -W", "pan 1 -W", "zoom W", "size W 1", "size 1 W", "size W W", "tick W"} {
			expectNoLine(t, m, strings.ReplaceAll(line, "W", word), impl.ErrRange)
		}
	}
	for _, line := range []string{"zoom 4", "zoom 5", "zoom 9", "size 0 1", "size 1 0", "size 0 0", "size 9 1", "size 1 9", "size 9 9"} {
		expectNoLine(t, m, line, impl.ErrRange)
	}
	expectBecomes(t, late, "tick 50", impl.TickViewer(late.Viewer, 50), "sent")
	expectNoLine(t, late, "tick 51", impl.ErrRange)
	expectNoLine(t, late, "tick 100", impl.ErrRange)
	for _, word := range []string{"10000", "10100", "99999", "65536", "9223372036854775807", "18446744073709551616", strings.Repeat("1", 3000)} {
		for _, line := range []string{"pan W 0", "pan 0 W", "pan -W 0", "pan 0 -W", "zoom W", "size W 1", "size 1 W", "tick W", "answer W 0 0", "answer 0 W 0", "answer 0 0 W", "spoil W 0 0", "spoil 0 W 0", "spoil 0 0 W", "pick W 0", "pick 0 W"} {
			expectNoLine(t, m, strings.ReplaceAll(line, "W", word), impl.ErrText)
		}
	}
}

// Tiles that are asked for come as they are on the map, or with another last
// byte, which is never right.
func TestStepScriptAnswerAndSpoil(t *testing.T) {
	for _, v := range []impl.Viewer{halfway(), impl.NewViewer(four(), 4).Viewer, impl.NewViewer(cam(0, 1, 2, 3, 4), 5).Viewer} {
		for _, list := range [][]impl.Feature{nil, two(), harbour()} {
			m := mapOf(list, v)
			for _, q := range v.Requests {
				words := fmt.Sprintf(" %d %d %d", q.Ref.Z, q.Ref.X, q.Ref.Y)
				expectBecomes(t, m, "answer"+words, impl.AnswerOne(list, v, q.Ref), "took")
				bad := v
				bad.Bad++
				expectLine(t, m, "spoil"+words, mapOf(list, bad), "bad")
				bad.Bad = 9999
				expectLine(t, mapOf(list, bad), "spoil"+words, mapOf(list, bad), "bad")
				done := impl.StepScript(m, "answer"+words).Map
				if !slices.Contains(refsIn(done.Viewer.Cache), q.Ref) || len(done.Viewer.Requests) != len(v.Requests)-1 {
					t.Errorf("%v: %v", q.Ref, done)
				}
			}
			asked := refsAsked(v.Requests)
			for _, r := range allRefs() {
				if slices.Contains(asked, r) {
					continue
				}
				bad := v
				bad.Bad++
				for _, word := range []string{"answer", "spoil"} {
					expectLine(t, m, fmt.Sprintf("%s %d %d %d", word, r.Z, r.X, r.Y), mapOf(list, bad), "bad")
				}
			}
			for _, r := range wrongRefs() {
				if min(r.Z, r.X, r.Y) < 0 || max(r.Z, r.X, r.Y) > 9999 {
					continue
				}
				for _, word := range []string{"answer", "spoil"} {
					expectNoLine(t, m, fmt.Sprintf("%s %d %d %d", word, r.Z, r.X, r.Y), impl.ErrRange)
				}
			}
		}
	}
}

// lastByteOf is the last byte of the tile of 0/0/0, told by what the document says
// of it.
func lastByteOf(list []impl.Feature) byte {
	data := listAs(builtOf(list, ref(0, 0, 0))[0].Features)
	return data[len(data)-1]
}

// A last byte of 255 becomes 0, and of 254 it becomes 255: both are not right.
func TestStepScriptSpoilOfLastBytes(t *testing.T) {
	seen := map[byte]bool{}
	bad := impl.NewViewer(cam(0, 0, 0, 8, 8), 4).Viewer
	m := mapOf(nil, bad)
	bad.Bad = 1
	for x := int64(0); x <= 1024; x += 32 {
		for y := int64(0); y <= 1024; y += 32 {
			m.Features = []impl.Feature{named(7, 0, 0, 0, 0, "")}
			m.Features[0].Points[0] = at(x, y)
			last := lastByteOf(m.Features)
			if (last >= 127 && last <= 128 || last >= 254 || last == 0) && !seen[last] {
				seen[last] = true
				expectLine(t, m, "spoil 0 0 0", mapOf(m.Features, bad), "bad")
			}
		}
	}
	if len(seen) != 5 {
		t.Error("the test asks for little", seen)
	}
}

// What is spoiled is told from what is not, also where nothing is on the map.
func TestStepScriptSpoilThenAnswer(t *testing.T) {
	for _, list := range [][]impl.Feature{nil, harbour()} {
		m := mapOf(list, impl.NewViewer(cam(1, 0, 0, 8, 8), 4).Viewer)
		spoiled := impl.StepScript(m, "spoil 1 0 0")
		if spoiled.Said != "bad" || spoiled.Map.Viewer.Bad != 1 || len(spoiled.Map.Viewer.Requests) != 1 {
			t.Fatal(spoiled)
		}
		want := impl.AnswerOne(list, m.Viewer, ref(1, 0, 0)).Viewer
		want.Bad = 1
		expectLine(t, spoiled.Map, "answer 1 0 0", mapOf(list, want), "took")
		want.Bad = 2
		expectLine(t, impl.StepScript(spoiled.Map, "answer 1 0 0").Map, "answer 1 0 0", mapOf(list, want), "bad")
	}
}

func TestStepScriptDrain(t *testing.T) {
	for _, v := range []impl.Viewer{halfway(), impl.NewViewer(four(), 4).Viewer, seeingAll(harbour()), looking(four(), 5, cacheOf(4))} {
		for _, list := range [][]impl.Feature{nil, harbour()} {
			expectBecomes(t, mapOf(list, v), "drain", impl.DrainViewer(list, v), "ok")
			expectBecomes(t, mapOf(list, v), "  drain ", impl.DrainViewer(list, v), "ok")
		}
	}
	m := impl.StepScript(mapOf(harbour(), impl.NewViewer(four(), 4).Viewer), "drain").Map
	if !reflect.DeepEqual(m.Viewer.Cache, cacheOf(4, builtOf(harbour(), refsAs(four())...)...)) || m.Viewer.Requests != nil {
		t.Error(m)
	}
}

// Each pixel of the frame, and outside of it.
func TestStepScriptPick(t *testing.T) {
	seen := map[int64]int{}
	for _, v := range []impl.Viewer{halfway(), seeingAll(harbour()), seeing(cam(2, 7, 6, 3, 2), builtOf(harbour(), refsAs(four())...)...)} {
		m, c := mapOf(harbour(), v), v.Camera
		for y := range c.H {
			for x := range c.W {
				id := pickAs(v, x, y)
				seen[id]++
				expectSays(t, m, fmt.Sprintf("pick %d %d", x, y), strconv.FormatInt(id, 10))
			}
		}
		for _, n := range []int64{8, 9, 10, 64, 99, 100, 999, 1000, 9999} {
			for _, line := range []string{"pick %d 0", "pick 0 %d", "pick 1 %d", "pick %[1]d %[1]d"} {
				expectNoLine(t, m, fmt.Sprintf(line, n), impl.ErrRange)
			}
		}
		expectNoLine(t, m, fmt.Sprintf("pick %d 0", c.W), impl.ErrRange)
		expectNoLine(t, m, fmt.Sprintf("pick 0 %d", c.H), impl.ErrRange)
	}
	if len(seen) < 6 || seen[0] < 10 || seen[90] < 10 {
		t.Error("the test asks for little", seen)
	}
}

func TestStepScriptShow(t *testing.T) {
	expectSays(t, mapOf(harbour(), looking(cam(2, 4, 4, 3, 2), 5, cacheOf(4))), "show", "0 0 0\n0 0 0\n")
	expectSays(t, mapOf(nil, seeing(cam(2, 7, 7, 1, 1), flat(ref(2, 0, 0), 321))), "show", "321\n")
	rows := seeing(cam(1, 6, 1, 4, 2), stripes(ref(1, 0, 0), 10, true), stripes(ref(1, 1, 0), 20, true))
	expectSays(t, mapOf(two(), rows), "show", "11 11 21 21\n12 12 22 22\n")
	all := seeingAll(harbour())
	expectSays(t, mapOf(nil, all), "show", frameTextAs(frameIn(all), 8))
	expectSays(t, quay(), " show ", frameTextAs(frameIn(halfway()), 8))
}

func TestStepScriptLabels(t *testing.T) {
	expectSays(t, mapOf(harbour(), looking(four(), 5, cacheOf(4))), "labels", "none\n")
	expectSays(t, mapOf(nil, seeing(four(), flat(ref(2, 0, 0), 321))), "labels", "none\n")
	named := []impl.Feature{named(12, 2, 2, 7, 7, "ab"), named(3, 1, 2, 4, 11, "abcdef"), named(40, 0, 2, 30, 2, "far")}
	expectSays(t, mapOf(nil, seeingAll(named)), "labels", "label 3 4 11 12 3\nlabel 12 7 7 4 3\n")
	harboured := "label 12 7 7 4 3\nlabel 7 11 10 2 3\n"
	expectSays(t, mapOf(harbour(), seeingAll(harbour())), " labels ", harboured)
	// as many as there is room for, of more features than a map has
	full := seeing(four(), crammed(four())...)
	want := ""
	for _, p := range labelsAs(full) {
		want += fmt.Sprintf("label %d %d %d %d %d\n", p.Id, p.X, p.Y, p.W, p.H)
	}
	expectSays(t, mapOf(nil, full), "labels", want)
	if strings.Count(want, "\n") != 12 {
		t.Error("the test asks for little", want)
	}
}

// rightLines are lines of each command that have no code of quay, word by word;
// of the words behind the first one those that are steps.
var rightLines = []struct {
	line  string
	steps bool
}{
	{"pan 1 2", true}, {"pan -1 -2", true}, {"pan 0 9", true}, {"zoom 1", false}, {"size 3 4", false}, {"tick 2", false}, {"answer 2 1 0", false}, {"answer 3 0 0", false},
	{"spoil 2 1 0", false}, {"drain", false}, {"pick 1 2", false}, {"labels", false}, {"show", false},
}

// Lines with blanks ahead, behind and between are the same line; with a word too
// few or too many, another first word, or a byte 10 within they are none.
func TestStepScriptOfLines(t *testing.T) {
	m := quay()
	lines := []string{"feature " + strings.Replace(roadText, "7", "8", 1)}
	for _, c := range rightLines {
		lines = append(lines, c.line)
	}
	for _, line := range lines {
		want := impl.StepScript(m, line)
		if want.Code != impl.OK || want.Said == "" {
			t.Fatal(line, want)
		}
		for _, other := range []string{" " + line, line + " ", "   " + line + "   ", strings.ReplaceAll(line, " ", "  "), "  " + strings.ReplaceAll(line, " ", "     ") + " "} {
			expectLine(t, m, other, want.Map, want.Said)
		}
		words := wordsAs(line)
		for i := range len(words) {
			if fewer := slices.Delete(slices.Clone(words), i, i+1); len(fewer) > 0 && len(words) < 7 {
				expectNoLine(t, m, strings.Join(fewer, " "), impl.ErrText)
			}
		}
		for _, more := range []string{" 0", " 1", " -1", " show", " 1,2,3", " -", " a"} {
			expectNoLine(t, m, line+more, impl.ErrText)
			expectNoLine(t, m, line+strings.Repeat(more, 3000), impl.ErrText)
		}
		first, rest := words[0], line[len(words[0]):]
		for _, word := range []string{strings.ToUpper(first), strings.ToUpper(first[:1]) + first[1:], first + "s", first[:len(first)-1], first[1:], first + first, first + ".", "-" + first, "wink", "0", first + "\x00", "\t" + first, first + "\r", first + ","} {
			expectNoLine(t, m, word+rest, impl.ErrText)
		}
		for k := range len(line) + 1 {
			expectNoLine(t, m, line[:k]+"\n"+line[k:], impl.ErrText)
		}
		for k := range len(line) {
			if line[k] == ' ' {
				for _, blank := range []string{"", "\t", "\r", "\n", "\u00a0", "\x00", "_", "\n ", " \n"} {
					expectNoLine(t, m, line[:k]+blank+line[k+1:], impl.ErrText)
				}
			}
		}
	}
	for _, line := range []string{"\n", "\n\n", " \n", "\n ", "\t", "\r", "\x00", "\u00a0", "1", "-1", "0 0", "ok", "none", "label 7 1 2 8 3", "sent", "! 5", "# show", strings.Repeat("x", 5000)} {
		expectNoLine(t, m, line, impl.ErrText)
	}
}

// In the place of each number what is none, and steps below 0 where a number is
// asked.
func TestStepScriptOfNumbers(t *testing.T) {
	m := quay()
	none := []string{"-", "-0", "--1", "-01", "-00", "01", "00", "000", "0001", "+1", "+0", "1.", "1.0", ".1", "1,", "1,2", "0x1", "1e1", "1_0", "a", "1a", "a1", "N", "D", "10000", "99999", "-10000", "-99999", "00001", "1-", "1-1", "\uff11", "\u0661", "\u22121", "\xb9", "1\x00", "\x001", "1\t", "\r1", "1/2", "'1'", strings.Repeat("0", 400)}
	for _, c := range rightLines {
		words := wordsAs(c.line)
		for i := 1; i < len(words); i++ {
			with := func(word string) string {
				other := slices.Clone(words)
				other[i] = word
				return strings.Join(other, " ")
			}
			for _, word := range none {
				expectNoLine(t, m, with(word), impl.ErrText)
			}
			for _, word := range []string{"-1", "-2", "-9", "-10", "-999", "-9999"} {
				if !c.steps {
					expectNoLine(t, m, with(word), impl.ErrText)
				}
			}
		}
	}
	for _, n := range []int64{1, 9, 10, 11, 99, 100} {
		v := m.Viewer
		expectLine(t, m, fmt.Sprintf("pan -%d %d", n, n), mapOf(m.Features, impl.PanViewer(v, -n, n).Viewer), sentAs(impl.PanViewer(v, -n, n).Sent))
		expectLine(t, m, fmt.Sprintf("pan %d -%d", n, n), mapOf(m.Features, impl.PanViewer(v, n, -n).Viewer), sentAs(impl.PanViewer(v, n, -n).Sent))
	}
	for _, line := range []string{"pan 1000 0", "pan -1000 0", "pan 0 9999", "pan 0 -9999", "pan 101 0", "pan 0 -101", "zoom 1000", "tick 9999", "answer 1000 0 0", "pick 1000 0"} {
		expectNoLine(t, m, line, impl.ErrRange)
	}
}

// sentAs is what is said of refs that were sent.
func sentAs(refs []impl.Ref) string {
	said := "sent"
	for _, r := range refs {
		said += fmt.Sprintf(" %d/%d/%d", r.Z, r.X, r.Y)
	}
	return said
}

// Of several that are so the one that the document names first.
func TestStepScriptOfSeveral(t *testing.T) {
	full := mapOf(numbered(1, 2, 3, 4, 5, 6, 7, 8, 9, 10, 11, 12), halfway())
	expectNoLine(t, full, "feature "+roadText, impl.ErrTaken)
	expectNoLine(t, full, "feature 1"+roadText, impl.ErrMany)
	expectNoLine(t, full, "feature 17 2 line 1 3 -road 1,2 30,4\n", impl.ErrText)
	expectNoLine(t, full, "feature 7 2 line 1 3 -road 1,2 30,4 ?", impl.ErrText)
	expectNoLine(t, full, "pan 101 01", impl.ErrText)
	expectNoLine(t, full, "pan 101 0 0", impl.ErrText)
	expectNoLine(t, full, "pick 8 8\n", impl.ErrText)
	expectNoLine(t, full, "answer 4 0 -0", impl.ErrText)
	wrong := mapOf(numbered(1, 1), halfway())
	expectNoLine(t, wrong, "wink", impl.ErrTaken)
	expectNoLine(t, wrong, "pan 101 0", impl.ErrTaken)
	expectNoScript(t, wrong, strings.Repeat("\n", 31), impl.ErrTaken)
}

// The lines of a text: what a line feed ends, and what is behind the last one.
func TestRunScript(t *testing.T) {
	m := mapOf(two(), looking(cam(2, 4, 4, 3, 2), 5, cacheOf(4)))
	const shown = "0 0 0\n0 0 0\n"
	for _, c := range []struct {
		text, said string
	}{
		{"", ""},
		{"\n", ""},
		{"\n\n\n", ""},
		{" ", ""},
		{"   \n  \n ", ""},
		{"show", shown},
		{"show\n", shown},
		{"\nshow", shown},
		{"show\n\n", shown},
		{"show\nshow", shown + shown},
		{"show\nshow\n", shown + shown},
		{"  show  \n\n  show  \n", shown + shown},
		{"labels", "none\n"},
		{"pick 0 0", "0\n"},
		{"pick 0 0\n", "0\n"},
		{"pick 0 0\npick 2 1\nlabels\n", "0\n0\nnone\n"},
		{"drain\nshow", "ok\n" + shown},
		{"wink", "! 5\n"},
		{"wink\n", "! 5\n"},
		{"pick 9 9\nwink\n", "! 3\n! 5\n"},
		{"\r\n", "! 5\n"},
		{"show\r\nshow", "! 5\n" + shown},
		{"\x00\n\t\n", "! 5\n! 5\n"},
		{"feature 7 0 point 0 0 - 0,0\nfeature 7", "! 6\n! 5\n"},
		{"zoom 4\nsize 0 1\ntick 101\nanswer 4 0 0\nspoil 0 1 0", "! 3\n! 3\n! 3\n! 3\n! 3\n"},
	} {
		expectScript(t, m, c.text, m, c.said)
	}
	v := m.Viewer
	moved := mapOf(two(), impl.PanViewer(v, 0, 0).Viewer)
	expectScript(t, m, "pan 0 0", moved, "sent 2/0/0\n")
	expectScript(t, m, "pan 0 0\npan 0 0", moved, "sent 2/0/0\nsent\n")
	expectScript(t, m, "tick 0\npan 0 0\ntick 0\n", moved, "sent\nsent 2/0/0\nsent\n")
	later := impl.TickViewer(moved.Viewer, 3).Viewer
	expectScript(t, m, "pan 0 0\nwink\ntick 3\n", mapOf(two(), later), "sent 2/0/0\n! 5\nsent 2/0/0\n")
}

// What the shortest way from nothing to a frame says, told by hand.
func TestRunScriptByHand(t *testing.T) {
	m := mapOf(nil, impl.NewViewer(cam(1, 6, 7, 4, 2), 4).Viewer)
	text := "show\nlabels\n" +
		"feature 30 1 area 0 0 -  512,448 1024,448 1024,512 512,512\n" +
		"feature 4 2 point 0 3 -b 416,480\n" +
		"feature 30 0 point 0 0 - 0,0\n" +
		"answer 1 0 0\nspoil 1 1 0\nshow\nlabels\ntick 3\nanswer 1 0 0\nanswer 1 1 0\nshow\npick 1 0\npick 2 0\npick 4 0\npan -1 -7\nlabels\n\nzoom 0\n drain \nshow"
	want := "0 0 0 0\n0 0 0 0\nnone\n" +
		"ok\nok\n! 6\n" +
		"took\nbad\n4 0 0 0\n0 0 0 0\nlabel 4 6 7 2 3\nsent 1/1/0 1/0/1 1/1/1\nbad\ntook\n4 0 30 30\n0 0 0 0\n4\n30\n! 3\nsent\nnone\nsent 0/0/0\nok\n0 0 0 0\n0 0 0 0\n"
	got := impl.RunScript(m, text)
	if got.Code != impl.OK || got.Said != want {
		t.Errorf("%v: %q, not %q", got.Code, got.Said, want)
	}
	v := got.Map.Viewer
	if len(got.Map.Features) != 2 || v.Bad != 2 || v.Now != 3 || v.Camera != cam(0, 1, 0, 4, 2) || !slices.Equal(refsIn(v.Cache), []impl.Ref{ref(1, 0, 0), ref(1, 1, 0), ref(0, 0, 0)}) {
		t.Error(got.Map)
	}
}

// As many lines and bytes as there may be, and one more of each.
func TestRunScriptOfMany(t *testing.T) {
	m := mapOf(two(), looking(cam(2, 4, 4, 3, 2), 5, cacheOf(4)))
	says := func(text string, count int) {
		t.Helper()
		expectScript(t, m, text, m, strings.Repeat("0\n", count))
	}
	const line = "pick 2 1\n"
	for count := range 31 {
		says(strings.Repeat("\n", count), 0)
		says(strings.Repeat(line, count), count)
		if count < 30 {
			says(strings.Repeat(line, count)+"pick 2 1", count+1)
			says(strings.Repeat("\n", count)+"pick 2 1", 1)
			says(strings.Repeat("\n", count)+" ", 0)
		}
	}
	for _, text := range []string{
		strings.Repeat("\n", 31), strings.Repeat(line, 31), strings.Repeat(line, 30) + "pick 2 1", strings.Repeat(line, 30) + " ", strings.Repeat("\n", 30) + "x",
		strings.Repeat(line, 30) + "\n", "\n" + strings.Repeat(line, 30), strings.Repeat("\n", 1500), strings.Repeat("\n", 100000), strings.Repeat("wink\n", 31),
	} {
		expectNoScript(t, m, text, impl.ErrMany)
	}
	for _, count := range []int{1499, 1500} {
		says(strings.Repeat(" ", count), 0)
		says(strings.Repeat(" ", count-8)+"pick 2 1", 1)
		says("pick 2 1"+strings.Repeat(" ", count-8), 1)
		says(strings.Repeat(line, 29)+strings.Repeat(" ", count-29*9-9)+line, 30)
		expectScript(t, m, strings.Repeat("x", count), m, "! 5\n")
		expectScript(t, m, strings.Repeat("\xff", count), m, "! 5\n")
	}
	for _, text := range []string{
		strings.Repeat(" ", 1501), strings.Repeat(" ", 1493) + "pick 2 1", strings.Repeat(" ", 1500) + "\n", strings.Repeat("x", 1501), strings.Repeat("ä", 751),
		strings.Repeat(line, 29) + strings.Repeat(" ", 1501-29*9-9) + line, strings.Repeat(" ", 100000), strings.Repeat(line, 1000),
	} {
		expectNoScript(t, m, text, impl.ErrMany)
	}
	says(strings.Repeat(" ", 1490)+"\n"+line, 1)
}

// wrongLines are lines with a code, of each that a line may have of full.
var wrongLines = []struct {
	line string
	code int64
}{
	{"wink", impl.ErrText}, {"pan 1", impl.ErrText}, {"pan -0 0", impl.ErrText}, {"zoom -1", impl.ErrText}, {"feature 1", impl.ErrText},
	{"pan 101 0", impl.ErrRange}, {"zoom 4", impl.ErrRange}, {"size 9 9", impl.ErrRange}, {"tick 101", impl.ErrRange}, {"answer 0 1 0", impl.ErrRange}, {"spoil 9 0 0", impl.ErrRange}, {"pick 8 0", impl.ErrRange},
	{"feature 7 0 point 0 0 - 0,0", impl.ErrTaken}, {"feature 100 0 point 0 0 - 0,0", impl.ErrMany},
}

// A line with a code leaves the map as it was: in one line nothing is told of it,
// and in a text nothing comes of it but its code, wherever it stands.
func TestLinesWithACode(t *testing.T) {
	full := mapOf(numbered(1, 2, 3, 4, 5, 6, 7, 8, 9, 10, 11, 12), impl.NewViewer(four(), 4).Viewer)
	lines := []string{"answer 2 1 0", "spoil 2 0 0", "pan -2 3", "tick 3", "show", "drain", "labels"}
	said := make([]string, len(lines)+1)
	maps := []impl.Map{full}
	for i, line := range lines {
		step := impl.StepScript(maps[i], line)
		said[i] = step.Said
		if !strings.HasSuffix(step.Said, "\n") {
			said[i] += "\n"
		}
		maps = append(maps, step.Map)
	}
	whole := impl.RunScript(full, strings.Join(lines, "\n"))
	if !reflect.DeepEqual(whole, impl.ScriptResult{Map: maps[len(lines)], Said: strings.Join(said, "")}) {
		t.Fatal(whole)
	}
	for _, wrong := range wrongLines {
		for i, m := range maps {
			expectNoLine(t, m, wrong.line, wrong.code)
			expectScript(t, m, wrong.line, m, fmt.Sprintf("! %d\n", wrong.code))
			text := slices.Insert(slices.Clone(lines), i, wrong.line)
			want := slices.Insert(slices.Clone(said), i, fmt.Sprintf("! %d\n", wrong.code))
			expectScript(t, full, strings.Join(text, "\n"), whole.Map, strings.Join(want, ""))
		}
	}
}

// teller is a reckoning of a map that is told lines: its features, and the seat of
// the one who looks at it.
type teller struct {
	list []impl.Feature
	s    *seat
}

func tellerOf(m impl.Map) *teller {
	return &teller{list: append([]impl.Feature(nil), copyOf(m.Features)...), s: seatOf(copyViewer(m.Viewer))}
}

// told is the map of a reckoning, in memory of its own.
func (d *teller) told() impl.Map {
	return mapOf(append([]impl.Feature(nil), copyOf(d.list)...), copyViewer(d.s.viewer()))
}

// countsOf are the words that stand behind that of a command.
var countsOf = map[string]int{"pan": 2, "zoom": 1, "size": 2, "tick": 1, "answer": 3, "spoil": 3, "drain": 0, "pick": 2, "labels": 0, "show": 0}

// numbersAs are the numbers of words from low on; false where one is none.
func numbersAs(words []string, low int) (list []int64, ok bool) {
	for _, word := range words {
		n, err := strconv.Atoi(word)
		if err != nil || strconv.Itoa(n) != word || n < low || n > 9999 {
			return nil, false
		}
		list = append(list, int64(n))
	}
	return list, true
}

// does tells what a line says, and its code, by what the document says of both.
func (d *teller) does(line string) (said string, code int64) {
	words := wordsAs(line)
	if len(words) == 0 {
		return "", impl.OK
	}
	if words[0] == "feature" {
		return d.adds(strings.Join(words[1:], " "))
	}
	low := 0
	if words[0] == "pan" {
		low = -9999
	}
	count, isCommand := countsOf[words[0]]
	a, areNumbers := numbersAs(words[1:], low)
	if !isCommand || !areNumbers || len(a) != count {
		return "", impl.ErrText
	}
	switch words[0] {
	case "answer", "spoil":
		return d.hears(ref(a[0], a[1], a[2]), words[0] == "spoil")
	case "drain":
		for len(d.s.p) > 0 {
			r := d.s.p[0].ref
			d.s.reply(r, listAs(tileAs(d.list, r)))
		}
		return "ok", impl.OK
	case "pick", "labels", "show":
		return d.tells(words[0], a)
	}
	return d.moves(words[0], append(a, 0))
}

// adds reads word by word what has the form of a feature's text.
func (d *teller) adds(text string) (said string, code int64) {
	if !isText(text) {
		return "", impl.ErrText
	}
	words := strings.Split(text, " ")
	number := func(word string) int64 {
		n, _ := strconv.Atoi(word)
		return int64(n)
	}
	f := impl.Feature{Id: number(words[0]), Layer: number(words[1]), Kind: int64(slices.Index([]string{"", "point", "line", "area"}, words[2])), Width: number(words[3]), Priority: number(words[4]), Label: words[5][1:]}
	for _, word := range words[6:] {
		x, y, _ := strings.Cut(word, ",")
		f.Points = append(f.Points, at(number(x), number(y)))
	}
	if slices.ContainsFunc(d.list, func(other impl.Feature) bool { return other.Id == f.Id }) {
		return "", impl.ErrTaken
	}
	if len(d.list) >= 12 {
		return "", impl.ErrMany
	}
	d.list = append(d.list, f)
	return "ok", impl.OK
}

func (d *teller) moves(word string, a []int64) (said string, code int64) {
	var sent []impl.Ref
	bounds := map[string][2]int64{"pan": {-100, 100}, "zoom": {0, 3}, "size": {1, 8}, "tick": {0, 100}}[word]
	if code = rangeAs(bounds[0], bounds[1], a[:countsOf[word]]...); code != impl.OK {
		return "", code
	}
	switch word {
	case "pan":
		sent = d.s.look(panAs(d.s.c, a[0], a[1]))
	case "zoom":
		sent = d.s.look(nearerAs(d.s.c, a[0]))
	case "size":
		sent = d.s.look(sizedAs(d.s.c, a[0], a[1]))
	case "tick":
		if d.s.now+a[0] > 9000 {
			return "", impl.ErrRange
		}
		sent = d.s.tick(a[0])
	}
	return sentAs(sent), impl.OK
}

func (d *teller) hears(r impl.Ref, isSpoiled bool) (said string, code int64) {
	if code = refCodeAs(r); code != impl.OK {
		return "", code
	}
	data := listAs(tileAs(d.list, r))
	if isSpoiled {
		data[len(data)-1]++
	}
	if d.s.reply(r, data) {
		return "took", impl.OK
	}
	return "bad", impl.OK
}

func (d *teller) tells(word string, a []int64) (said string, code int64) {
	v := d.s.viewer()
	switch word {
	case "show":
		return frameTextAs(frameIn(v), v.Camera.W), impl.OK
	case "pick":
		if a[0] >= v.Camera.W || a[1] >= v.Camera.H {
			return "", impl.ErrRange
		}
		return strconv.FormatInt(pickAs(v, a[0], a[1]), 10), impl.OK
	}
	for _, p := range labelsAs(v) {
		said += fmt.Sprintf("label %d %d %d %d %d\n", p.Id, p.X, p.Y, p.W, p.H)
	}
	if said == "" {
		return "none\n", impl.OK
	}
	return said, impl.OK
}

// runs tells what the lines of a text say, and the code of the text, which does
// nothing then.
func (d *teller) runs(text string) (said string, code int64) {
	lines := strings.Split(text, "\n")
	if lines[len(lines)-1] == "" {
		lines = lines[:len(lines)-1]
	}
	if len(text) > 1500 || len(lines) > 30 {
		return "", impl.ErrMany
	}
	for _, line := range lines {
		one, code := d.does(line)
		if code != impl.OK {
			one = fmt.Sprintf("! %d", code)
		}
		if one != "" {
			said += strings.TrimSuffix(one, "\n") + "\n"
		}
	}
	return said, impl.OK
}

// someFeature is the text of a feature, often one that is seen, and at times of an
// Id that is there.
func (d *teller) someFeature(n *numbers) string {
	f := n.feature(n.next(1, 999))
	unit := units[d.s.c.Z]
	if n.next(0, 2) > 0 {
		f.Points[0] = at(min((d.s.c.X+n.next(0, 8))*unit, 1024), min((d.s.c.Y+n.next(0, 8))*unit, 1024))
	}
	if n.next(0, 1) == 0 && len(f.Points) > 2 {
		f.Kind, f.Points = impl.KindLine, f.Points[:2]
	}
	if n.next(0, 3) == 0 {
		f.Id = n.next(1, 9)
	}
	return impl.FeatureText(f).Text
}

// someRefText is most often a ref that was asked for.
func (d *teller) someRefText(n *numbers) string {
	r := someRef(n)
	if len(d.s.p) > 0 && n.next(0, 3) > 0 {
		r = d.s.p[n.next(0, int64(len(d.s.p)-1))].ref
	}
	if n.next(0, 9) == 0 {
		r.Z, r.X = n.next(0, 4), n.next(0, 9)
	}
	return fmt.Sprint(r.Z, " ", r.X, " ", r.Y)
}

// someLine is a line that most often has no code.
func (d *teller) someLine(n *numbers) string {
	switch n.next(0, 14) {
	case 0, 1:
		return "feature " + d.someFeature(n)
	case 2, 3:
		far := []int64{3, 8, 101}[n.next(0, 2)]
		return fmt.Sprintf("pan %d %d", n.next(-far, far), n.next(-far, far))
	case 4:
		return fmt.Sprintf("zoom %d", n.next(0, 4))
	case 5:
		return fmt.Sprintf("size %d %d", n.next(1, 8), n.next(0, 9))
	case 6, 7:
		return fmt.Sprintf("tick %d", []int64{n.next(0, 3), n.next(0, 3), n.next(0, 101)}[n.next(0, 2)])
	case 8, 9:
		return "answer " + d.someRefText(n)
	case 10:
		return "spoil " + d.someRefText(n)
	case 11:
		return "drain"
	case 12:
		return fmt.Sprintf("pick %d %d", n.next(0, d.s.c.W), n.next(0, d.s.c.H))
	case 13:
		return "labels"
	}
	return "show"
}

// changedLine is a line with one change, by which it may be none any more.
func changedLine(n *numbers, line string) string {
	place := int(n.next(0, int64(len(line))))
	words := strings.Split(line, " ")
	k := int(n.next(0, int64(len(words)-1)))
	switch n.next(0, 6) {
	case 0:
		return line[:place] + string(" \t-019a,/.\x00\xff"[n.next(0, 11)]) + line[place:]
	case 1:
		return line[:place] + line[min(place+1, len(line)):]
	case 2:
		return line[:place] + strings.Repeat(" ", int(n.next(1, 3))) + line[place:]
	case 3:
		words[k] = []string{"", "0", "-1", "-0", "01", "9999", "10000", "-10000", "pan", "show"}[n.next(0, 9)]
	case 4:
		words = append(words, words[k])
	case 5:
		words = slices.Delete(words, k, k+1)
	case 6:
		return strings.Repeat(" ", int(n.next(0, 4)))
	}
	return strings.Join(words, " ")
}

// someLook is a map and one who looks at it, who came of a new one or not.
func someLook(n *numbers) impl.Map {
	list, v := someSight(n)
	if n.next(0, 1) == 0 {
		v = impl.NewViewer(anyCamera(n), n.next(4, 10)).Viewer
	}
	list = list[:n.next(0, int64(len(list)))]
	return mapOf(append([]impl.Feature(nil), list...), v)
}

// Line by line, from any map on.
func TestStepScriptAgainstTheDocument(t *testing.T) {
	n := numbers(241)
	said, codes := map[string]int{}, map[int64]int{}
	for range 200 {
		m := someLook(&n)
		d := tellerOf(m)
		for range 30 {
			line := d.someLine(&n)
			if n.next(0, 3) == 0 {
				line = changedLine(&n, line)
			}
			was := d.told()
			want, code := d.does(line)
			codes[code]++
			if code != impl.OK {
				expectNoLine(t, m, line, code)
				if !reflect.DeepEqual(d.told(), was) {
					t.Fatal("the test changed its map", line)
				}
				continue
			}
			said[strings.SplitN(strings.TrimSpace(want), " ", 2)[0]]++
			expectLine(t, m, line, d.told(), want)
			m = impl.StepScript(m, line).Map
		}
		if t.Failed() {
			t.FailNow()
		}
	}
	for _, word := range []string{"", "ok", "sent", "took", "bad", "0", "none", "label"} {
		if said[word] < 50 {
			t.Error("the test asks for little", word, said)
		}
	}
	for _, code := range []int64{impl.OK, impl.ErrMany, impl.ErrRange, impl.ErrText, impl.ErrTaken} {
		if codes[code] < 20 {
			t.Error("the test asks for little", codes)
		}
	}
}

// someScript is a text of lines that was made with a reckoning, so that refs are
// asked for that were sent on the way. It may be one line or one byte too long,
// and end with a line feed or not.
func someScript(n *numbers, m impl.Map) string {
	d, text := tellerOf(m), ""
	for range n.next(0, 31) {
		line := d.someLine(n)
		if n.next(0, 5) == 0 {
			line = changedLine(n, line)
		}
		if len(text)+len(line) > 1499 {
			break
		}
		text += line + "\n"
		d.does(line)
	}
	if n.next(0, 3) == 0 {
		return strings.TrimSuffix(text, "\n")
	}
	if n.next(0, 20) == 0 {
		return text + strings.Repeat(" ", 1500-len(text)+int(n.next(0, 1)))
	}
	return text
}

// Text by text.
func TestRunScriptAgainstTheDocument(t *testing.T) {
	n := numbers(242)
	codes, lines := map[int64]int{}, map[int]int{}
	for range 250 {
		m := someLook(&n)
		text := someScript(&n, m)
		d := tellerOf(m)
		want, code := d.runs(text)
		codes[code]++
		if code != impl.OK {
			expectNoScript(t, m, text, code)
			continue
		}
		lines[strings.Count(text, "\n")/10]++
		expectScript(t, m, text, d.told(), want)
		if t.Failed() {
			t.FailNow()
		}
	}
	if codes[impl.ErrMany] < 5 || lines[0] < 40 || lines[1] < 40 || lines[2] < 40 || lines[3] < 2 {
		t.Error("the test asks for little", codes, lines)
	}
}

// What StepScript says of each line is what RunScript says of all of them, with a
// line feed behind it.
func TestRunScriptIsToStep(t *testing.T) {
	n := numbers(243)
	for range 100 {
		m := someLook(&n)
		text := someScript(&n, m)
		whole := impl.RunScript(m, text)
		if whole.Code != impl.OK {
			continue
		}
		said := ""
		for line := range strings.Lines(text) {
			step := impl.StepScript(m, strings.TrimSuffix(line, "\n"))
			if step.Code != impl.OK {
				said += "! " + strconv.FormatInt(step.Code, 10) + "\n"
				continue
			}
			m = step.Map
			if step.Said != "" {
				said += strings.TrimSuffix(step.Said, "\n") + "\n"
			}
		}
		if !reflect.DeepEqual(whole, impl.ScriptResult{Map: m, Said: said}) {
			t.Fatalf("%q: %v, not %v and %q", text, whole, m, said)
		}
	}
}

// A map that is told has no fault, whatever it is told.
func TestScriptsLeaveNoFault(t *testing.T) {
	n := numbers(244)
	for range 150 {
		m := someLook(&n)
		if n.next(0, 1) == 0 {
			m.Viewer.Now, m.Viewer.Bad = n.next(8990, 9000), n.next(9995, 9999)
		}
		got := impl.RunScript(m, someScript(&n, m))
		if got.Code == impl.OK && (impl.MapFault(got.Map) != impl.OK || firstOf(impl.FeaturesFault(got.Map.Features), viewerCodeAs(got.Map.Viewer)) != impl.OK) {
			t.Fatalf("%v: %v", m, got.Map)
		}
	}
	if impl.MapFault(mapOf(nil, looking(cam(0, 0, 0, math.MaxInt64, 1), 0, cacheOf(4)))) != impl.ErrRange {
		t.Error("no fault")
	}
}
