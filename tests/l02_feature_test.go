package tests

import (
	"reflect"
	"slices"
	"strconv"
	"strings"
	"testing"

	"loop.example/g00403/impl"
)

// road is a feature without a fault; a test changes what it asks about.
func road() impl.Feature {
	return impl.Feature{Id: 7, Layer: 2, Kind: impl.KindLine, Width: 1, Priority: 3, Label: "road", Points: []impl.Point{at(1, 2), at(30, 4)}}
}

const roadText = "7 2 line 1 3 -road 1,2 30,4"

// numbered are features with these Ids, of one layer.
func numbered(ids ...int64) []impl.Feature {
	var list []impl.Feature
	for _, id := range ids {
		f := road()
		f.Id = id
		list = append(list, f)
	}
	return list
}

// fields are the numbers of a feature but for its kind, each with its bounds.
var fields = []struct {
	low, high int64
	of        func(f *impl.Feature) *int64
}{
	{1, 999, func(f *impl.Feature) *int64 { return &f.Id }},
	{0, 9, func(f *impl.Feature) *int64 { return &f.Layer }},
	{0, 3, func(f *impl.Feature) *int64 { return &f.Width }},
	{0, 9, func(f *impl.Feature) *int64 { return &f.Priority }},
}

func TestConstantsOfFeatures(t *testing.T) {
	if impl.KindPoint != 1 || impl.KindLine != 2 || impl.KindArea != 3 || impl.MaxPoints != 12 || impl.MaxFeatures != 12 {
		t.Error(impl.KindPoint, impl.KindLine, impl.KindArea, impl.MaxPoints, impl.MaxFeatures)
	}
}

// expectFault asks for the fault of a feature, and for the same code of all
// that ask for it.
func expectFault(t *testing.T, f impl.Feature, want int64) {
	t.Helper()
	list := []impl.Feature{f}
	text, sorted := impl.FeatureText(f), impl.SortFeatures(list)
	if got := impl.FeatureFault(f); got != want || impl.FeaturesFault(list) != want || text.Code != want || sorted.Code != want {
		t.Errorf("%v: %d %d %d %d, not %d", f, got, impl.FeaturesFault(list), text.Code, sorted.Code, want)
	}
	if want != impl.OK && (text.Text != "" || len(sorted.Features) != 0) {
		t.Errorf("%v: beside a code %v %v", f, text, sorted)
	}
}

func TestFeatureFaultOfNumbers(t *testing.T) {
	for _, field := range fields {
		for n := field.low; n <= field.high; n++ {
			f := road()
			*field.of(&f) = n
			expectFault(t, f, impl.OK)
		}
		for _, n := range append([]int64{field.low - 1, field.high + 1, field.high + 256}, far...) {
			f := road()
			*field.of(&f) = n
			expectFault(t, f, impl.ErrRange)
		}
	}
	for _, n := range append([]int64{-1, 0, 4, 5, 257, 258}, far...) {
		f := road()
		f.Kind = n
		expectFault(t, f, impl.ErrRange)
	}
}

func TestFeatureFaultOfHowManyPoints(t *testing.T) {
	for _, k := range kindBounds {
		for count := range int64(43) {
			f := road()
			f.Kind = k.kind
			f.Points = slices.Repeat([]impl.Point{at(5, 6)}, int(count))
			want := int64(impl.ErrMany)
			if count >= k.least && count <= k.most {
				want = impl.OK
			}
			expectFault(t, f, want)
		}
		f := road()
		f.Kind, f.Points = k.kind, nil
		expectFault(t, f, impl.ErrMany)
	}
}

func TestFeatureFaultOfPoints(t *testing.T) {
	for _, k := range kindBounds {
		for place := range k.most {
			f := road()
			f.Kind = k.kind
			put := func(p impl.Point) impl.Feature {
				f.Points = slices.Repeat([]impl.Point{at(5, 6)}, int(k.most))
				f.Points[place] = p
				return f
			}
			for _, n := range []int64{0, 1, impl.World - 1, impl.World} {
				expectFault(t, put(at(n, 7)), impl.OK)
				expectFault(t, put(at(7, n)), impl.OK)
			}
			for _, n := range append([]int64{-1, impl.World + 1, 4 * impl.World, -impl.World}, far...) {
				expectFault(t, put(at(n, 7)), impl.ErrRange)
				expectFault(t, put(at(7, n)), impl.ErrRange)
			}
		}
	}
}

func TestFeatureFaultOfLabels(t *testing.T) {
	for _, label := range []string{"", "a", "z", "abcdef", "zzzzzz", "az"} {
		f := road()
		f.Label = label
		expectFault(t, f, impl.OK)
	}
	for _, label := range []string{"abcdefg", "A", "aB", "a b", " ", "-", "a-", "`", "{", "0", "a1", "ä", "é", "a\n", "\x00", "a\xff", "ſ", "abcde\u0061\u0301", strings.Repeat("a", 256), strings.Repeat("a", 1<<16)} {
		f := road()
		f.Label = label
		expectFault(t, f, impl.ErrText)
	}
	for b := range 256 {
		want := int64(impl.ErrText)
		if b >= 'a' && b <= 'z' {
			want = impl.OK
		}
		for _, label := range []string{string([]byte{byte(b)}), "abcde" + string([]byte{byte(b)}), string([]byte{byte(b)}) + "abcde"} {
			f := road()
			f.Label = label
			expectFault(t, f, want)
		}
	}
}

// Codes in the order in which they are named, each over all of the feature.
func TestFeatureFaultOrder(t *testing.T) {
	for _, field := range fields {
		f := road()
		*field.of(&f) = -1
		f.Label, f.Points = "???", nil
		expectFault(t, f, impl.ErrRange)
	}
	f := road()
	f.Kind, f.Label, f.Points = 4, "???", nil
	expectFault(t, f, impl.ErrRange)
	f = road()
	f.Label, f.Points = "???", []impl.Point{at(-1, 0)}
	expectFault(t, f, impl.ErrMany)
	f.Points = slices.Repeat([]impl.Point{at(-1, 0)}, 13)
	expectFault(t, f, impl.ErrMany)
	f.Points = []impl.Point{at(0, 0), at(0, 2000)}
	expectFault(t, f, impl.ErrRange)
	f.Points[1].Y = 0
	expectFault(t, f, impl.ErrText)
}

func TestFeaturesFault(t *testing.T) {
	ids := []int64{1, 999, 3, 2, 12, 11, 10, 9, 8, 7, 6, 5, 4}
	for count := range 13 {
		if code := impl.FeaturesFault(numbered(ids[:count]...)); code != impl.OK {
			t.Errorf("%d: %d", count, code)
		}
	}
	if impl.FeaturesFault(nil) != impl.OK || impl.FeaturesFault([]impl.Feature{}) != impl.OK {
		t.Error("none")
	}
	if code := impl.FeaturesFault(numbered(ids...)); code != impl.ErrMany {
		t.Errorf("13: %d", code)
	}
	for a := range 12 {
		for b := range a {
			list := numbered(ids[:12]...)
			list[a].Id, list[a].Layer, list[a].Label = list[b].Id, 9, "other"
			if code := impl.FeaturesFault(list); code != impl.ErrTaken {
				t.Errorf("%d and %d: %d", b, a, code)
			}
		}
	}
}

func TestFeaturesFaultOrder(t *testing.T) {
	wrong := numbered(5)[0]
	wrong.Label = "?"
	low := numbered(0)[0]
	all := slices.Repeat([]impl.Feature{wrong}, 13)
	cases := []struct {
		list []impl.Feature
		want int64
	}{
		{all, impl.ErrMany},
		{slices.Repeat([]impl.Feature{low}, 1000), impl.ErrMany},
		{all[:12], impl.ErrText},
		// one by one: the first of them that has any fault
		{append(numbered(4, 4), low), impl.ErrTaken},
		{append(numbered(4), low, road(), road()), impl.ErrRange},
		{append(numbered(1, 2), wrong, low), impl.ErrText},
		{append(numbered(1, 2), low, wrong), impl.ErrRange},
		// of one feature: its own fault ahead of the Id
		{append(numbered(5), wrong), impl.ErrText},
		{[]impl.Feature{low, low}, impl.ErrRange},
	}
	for i, c := range cases {
		if code := impl.FeaturesFault(c.list); code != c.want {
			t.Errorf("%d: %d, not %d", i, code, c.want)
		}
		if got := impl.SortFeatures(c.list); got.Code != c.want || got.Features != nil {
			t.Errorf("%d sorted: %v", i, got)
		}
	}
}

func TestSortFeatures(t *testing.T) {
	list := numbered(9, 1, 999, 3, 8, 2)
	for i, layer := range []int64{0, 9, 0, 5, 0, 5} {
		list[i].Layer = layer
	}
	got := impl.SortFeatures(list)
	want := []impl.Feature{list[4], list[0], list[2], list[5], list[3], list[1]}
	if got.Code != impl.OK || !impl.SameFeatures(got.Features, want) {
		t.Error(got)
	}
	for _, none := range [][]impl.Feature{nil, {}} {
		if got := impl.SortFeatures(none); got.Code != impl.OK || len(got.Features) != 0 {
			t.Error(got)
		}
	}
}

func TestFeatureText(t *testing.T) {
	area := impl.Feature{Id: 999, Layer: 9, Kind: impl.KindArea, Width: 3, Priority: 9, Label: "abcdef", Points: slices.Repeat([]impl.Point{at(1024, 1024)}, 12)}
	cases := []struct {
		f    impl.Feature
		want string
	}{
		{road(), roadText},
		{impl.Feature{Id: 1, Kind: impl.KindPoint, Points: []impl.Point{at(0, 0)}}, "1 0 point 0 0 - 0,0"},
		{impl.Feature{Id: 10, Layer: 1, Kind: impl.KindArea, Label: "z", Points: []impl.Point{at(0, 1024), at(7, 0), at(100, 10)}}, "10 1 area 0 0 -z 0,1024 7,0 100,10"},
		{area, "999 9 area 3 9 -abcdef" + strings.Repeat(" 1024,1024", 12)},
		{impl.Feature{Id: 5, Kind: impl.KindLine, Points: []impl.Point{at(3, 3), at(3, 3)}}, "5 0 line 0 0 - 3,3 3,3"},
	}
	for _, c := range cases {
		if got := impl.FeatureText(c.f); got != (impl.TextResult{Text: c.want}) {
			t.Errorf("%v: %v", c.f, got)
		}
		if got := impl.ParseFeature(c.want); !reflect.DeepEqual(got, impl.FeatureResult{Feature: c.f}) {
			t.Errorf("%q: %v", c.want, got)
		}
	}
}

func TestParseFeatureOfTextsThatNoneHas(t *testing.T) {
	texts := []string{
		"", " ", "-", ",", "7", "7 ", "hello",
		// labels
		"7 2 line 1 3 road 1,2 30,4", "7 2 line 1 3  1,2 30,4", "7 2 line 1 3 1,2 30,4", "7 2 line 1 3 --road 1,2 30,4",
		"7 2 line 1 3 -abcdefg 1,2 30,4", "7 2 line 1 3 -Road 1,2 30,4", "7 2 line 1 3 -ro4d 1,2 30,4", "7 2 line 1 3 -ro-d 1,2 30,4",
		"7 2 line 1 3 - road 1,2 30,4", "7 2 line 1 3 -road1,2 30,4", "7 2 line 1 3 -röad 1,2 30,4", "7 2 line 1 3-road 1,2 30,4",
		// points without a comma, and with other than one
		"7 2 line 1 3 -road 1 2 30 4", "7 2 line 1 3 -road 1,2 30", "7 2 line 1 3 -road 12 30,4", "7 2 line 1 3 -road 1,2 30 4",
		"7 2 line 1 3 -road 1,,2 30,4", "7 2 line 1 3 -road 1,2,3 30,4", "7 2 line 1 3 -road 1,2, 30,4", "7 2 line 1 3 -road ,2 30,4",
		"7 2 line 1 3 -road 1, 30,4", "7 2 line 1 3 -road 1,2,30,4", "7 2 line 1 3 -road 1, 2 30,4", "7 2 line 1 3 -road 1 ,2 30,4",
		"7 2 line 1 3 -road 1.2 30,4", "7 2 line 1 3 -road 1;2 30;4", "7 2 line 1 3 -road 1,2 30,4,",
		// blanks
		" " + roadText, roadText + " ", roadText + "\n", "\n" + roadText, "7  2 line 1 3 -road 1,2 30,4", "7 2 line 1 3 -road 1,2  30,4",
		"7\t2 line 1 3 -road 1,2 30,4", "7 2line 1 3 -road 1,2 30,4", "7 2 line1 3 -road 1,2 30,4", "7 2 line 1 3 -road 1,230,4", "7 2 line 1 3 -road  1,2 30,4",
		strings.ReplaceAll(roadText, " ", ""), strings.ReplaceAll(roadText, " ", "\u00a0"),
		// numbers
		"07 2 line 1 3 -road 1,2 30,4", "7 02 line 1 3 -road 1,2 30,4", "7 2 line 01 3 -road 1,2 30,4", "7 2 line 1 03 -road 1,2 30,4",
		"7 00 line 1 3 -road 1,2 30,4", "7 2 line 1 3 -road 01,2 30,4", "7 2 line 1 3 -road 1,02 30,4", "7 2 line 1 3 -road 1,2 30,00",
		"7 2 line 1 3 -road 00,2 30,4", "0007 2 line 1 3 -road 1,2 30,4", "00007 2 line 1 3 -road 1,2 30,4", "7 2 line 1 3 -road 1,2 30,00004",
		"+7 2 line 1 3 -road 1,2 30,4", "-7 2 line 1 3 -road 1,2 30,4", "7 -0 line 1 3 -road 1,2 30,4", "7 2 line 1 3 -road 1,+2 30,4", "7 2 line 1 3 -road -1,2 30,4",
		"7 2 line 1 3 -road 1,2 30,-4", "7 2 line 1 3 -road 0x1,2 30,4", "7 2 line 1 3 -road 1,2 1_0,4", "7 2 line 1 3 -road 1e1,2 30,4", "٧ 2 line 1 3 -road 1,2 30,4",
		"0 2 line 1 3 -road 1,2 30,4", "1000 2 line 1 3 -road 1,2 30,4", "10000 2 line 1 3 -road 1,2 30,4", "7 10 line 1 3 -road 1,2 30,4", "7 2 line 4 3 -road 1,2 30,4",
		"7 2 line 1 10 -road 1,2 30,4", "7 2 line 1 3 -road 1025,2 30,4", "7 2 line 1 3 -road 1,1025 30,4", "7 2 line 1 3 -road 1,2 9999,4", "7 2 line 1 3 -road 1,2 30,10000",
		"7 2 line 1 3 -road 18446744073709551617,2 30,4", "18446744073709551623 2 line 1 3 -road 1,2 30,4", "7 2 line 1 3 -road 1,2 30,18446744073709551620", "7 2 line 1 3 -road 4294967297,2 30,4",
		// kinds
		"7 2  1 3 -road 1,2 30,4", "7 2 lines 1 3 -road 1,2 30,4", "7 2 lin 1 3 -road 1,2 30,4", "7 2 Line 1 3 -road 1,2 30,4", "7 2 LINE 1 3 -road 1,2 30,4", "7 2 2 1 3 -road 1,2 30,4",
		"7 2 road 1 3 -road 1,2 30,4", "7 2 lineline 1 3 -road 1,2 30,4", "7 2 pointe 1 3 -road 1,2",
		// more or fewer points than the kind has
		"7 2 point 1 3 -road", "7 2 point 1 3 -road 1,2 30,4", "7 2 line 1 3 -road", "7 2 line 1 3 -road 1,2", "7 2 area 1 3 -road", "7 2 area 1 3 -road 1,2", "7 2 area 1 3 -road 1,2 30,4",
		"7 2 line 1 3 -road" + strings.Repeat(" 1,2", 13), "7 2 area 1 3 -road" + strings.Repeat(" 1,2", 13), "7 2 line 1 3 -road" + strings.Repeat(" 1,2", 100000),
		"7 2 line 1 3 -road" + strings.Repeat(" 1,2", 12) + " ", "7 2 line 1 3 -road" + strings.Repeat(" 1,2", 12) + " x",
		// words in another order
		"7 line 2 1 3 -road 1,2 30,4", "7 2 line 1 -road 3 1,2 30,4", "7 2 line 1 3 1,2 30,4 -road",
		strings.Repeat("7", 100000), strings.Repeat(" ", 100000), "7 2 " + strings.Repeat("line", 30000), "7 2 line 1 3 -" + strings.Repeat("a", 100000),
	}
	for _, text := range texts {
		if got := impl.ParseFeature(text); !reflect.DeepEqual(got, impl.FeatureResult{Code: impl.ErrText}) {
			t.Errorf("%.80q: %v", text, got)
		}
	}
}

// isText tells by the form alone, word by word, whether a feature has text.
func isText(text string) bool {
	words := strings.Split(text, " ")
	if len(words) < 7 || !strings.HasPrefix(words[5], "-") {
		return false
	}
	within := func(word string, low, high int) bool {
		n, err := strconv.Atoi(word)
		return err == nil && strconv.Itoa(n) == word && n >= low && n <= high
	}
	counts := map[string][2]int{"point": {1, 1}, "line": {2, 12}, "area": {3, 12}}[words[2]]
	label := words[5][1:]
	if !within(words[0], 1, 999) || !within(words[1], 0, 9) || !within(words[3], 0, 3) || !within(words[4], 0, 9) ||
		len(label) > 6 || strings.Trim(label, "abcdefghijklmnopqrstuvwxyz") != "" || len(words)-6 < counts[0] || len(words)-6 > counts[1] {
		return false
	}
	for _, word := range words[6:] {
		x, y, ok := strings.Cut(word, ",")
		if !ok || !within(x, 0, 1024) || !within(y, 0, 1024) {
			return false
		}
	}
	return true
}

// expectParse asks for the feature of a text, whether or not one has it.
func expectParse(t *testing.T, text string) {
	t.Helper()
	got := impl.ParseFeature(text)
	if !isText(text) {
		if !reflect.DeepEqual(got, impl.FeatureResult{Code: impl.ErrText}) {
			t.Errorf("%q: %v", text, got)
		}
		return
	}
	if back := impl.FeatureText(got.Feature); got.Code != impl.OK || back != (impl.TextResult{Text: text}) {
		t.Errorf("%q: %v, which is %v", text, got, back)
	}
}

// A text that is cut anywhere, or in which one byte is gone, doubled, another
// one or new, is read only where it is again a feature's.
func TestParseFeatureOfTextsWithOneChange(t *testing.T) {
	n := numbers(21)
	for i := range 60 {
		text := impl.FeatureText(n.feature(n.next(1, 999))).Text
		if i == 0 {
			text = roadText
		}
		for k := range len(text) {
			expectParse(t, text[:k])
			expectParse(t, text[k:])
			expectParse(t, text[:k]+text[k+1:])
			for _, b := range "019 ,-az+.A\n\x00" {
				expectParse(t, text[:k]+string(b)+text[k:])
				expectParse(t, text[:k]+string(b)+text[k+1:])
			}
			expectParse(t, text+string(text[k]))
		}
	}
}

func TestSameFeatures(t *testing.T) {
	if !impl.SameFeatures(nil, nil) || !impl.SameFeatures(nil, []impl.Feature{}) || !impl.SameFeatures([]impl.Feature{}, nil) {
		t.Error("none")
	}
	one := []impl.Feature{road()}
	if impl.SameFeatures(one, nil) || impl.SameFeatures(nil, one) || impl.SameFeatures(one, numbered(7, 7)) || impl.SameFeatures(numbered(7, 8), one) {
		t.Error("lists of other lengths are the same")
	}
	if !impl.SameFeatures(numbered(1, 2, 3), numbered(1, 2, 3)) || impl.SameFeatures(numbered(1, 2, 3), numbered(1, 3, 2)) {
		t.Error("the order")
	}
	if !impl.SameFeatures([]impl.Feature{{}}, []impl.Feature{{Points: []impl.Point{}}}) {
		t.Error("an empty list of points is not nil")
	}
	changes := []func(f *impl.Feature){
		func(f *impl.Feature) { f.Kind = impl.KindArea },
		func(f *impl.Feature) { f.Label = "roads" },
		func(f *impl.Feature) { f.Label = "" },
		func(f *impl.Feature) { f.Label = "Road" },
		func(f *impl.Feature) { f.Points = nil },
		func(f *impl.Feature) { f.Points = f.Points[:1] },
		func(f *impl.Feature) { f.Points = append(f.Points, at(30, 4)) },
		func(f *impl.Feature) { f.Points[0].X++ },
		func(f *impl.Feature) { f.Points[0].Y++ },
		func(f *impl.Feature) { f.Points[1].X = 1 << 60 },
		func(f *impl.Feature) { f.Points[1].Y-- },
		func(f *impl.Feature) { slices.Reverse(f.Points) },
	}
	for _, field := range fields {
		changes = append(changes, func(f *impl.Feature) { *field.of(f)++ }, func(f *impl.Feature) { *field.of(f) += 1 << 32 })
	}
	for i, change := range changes {
		a, b := numbered(1, 2, 3), numbered(1, 2, 3)
		for place := range a {
			changed := copyOf(b)
			change(&changed[place])
			if impl.SameFeatures(a, changed) || impl.SameFeatures(changed, a) {
				t.Errorf("change %d at %d is the same", i, place)
			}
			// a fault is no reason to be another one
			if !impl.SameFeatures(changed, copyOf(changed)) {
				t.Errorf("change %d at %d is not itself", i, place)
			}
		}
	}
	long := slices.Repeat(one, 5000)
	if !impl.SameFeatures(long, slices.Clone(long)) || impl.SameFeatures(long, long[:4999]) {
		t.Error("long lists")
	}
}
