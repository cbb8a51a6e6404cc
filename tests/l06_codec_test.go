package tests

import (
	"bytes"
	"encoding/binary"
	"fmt"
	"math"
	"math/big"
	"reflect"
	"slices"
	"strings"
	"testing"

	"loop.example/g00403/impl"
)

// greatest is the greatest number that is told as bytes.
const greatest = 1 << 40

// outsideOf are numbers outside of two bounds: by one, and far.
func outsideOf(low, high int64) []int64 {
	list := []int64{low - 1, low - 2, high + 1, high + 2}
	for _, n := range append([]int64{-128, -greatest, 1 << 41, 1 << 42, 1<<42 + 5, 1 << 48, 1 << 62, -1 << 62}, far...) {
		if n < low || n > high {
			list = append(list, n)
		}
	}
	return list
}

// numberBytes are numbers with their bytes, told by hand.
var numberBytes = []struct {
	n    int64
	data []byte
}{
	{0, []byte{0}},
	{1, []byte{1}},
	{126, []byte{126}},
	{127, []byte{127}},
	{128, []byte{128, 1}},
	{129, []byte{129, 1}},
	{255, []byte{255, 1}},
	{256, []byte{128, 2}},
	{300, []byte{172, 2}},
	{999, []byte{231, 7}},
	{16383, []byte{255, 127}},
	{16384, []byte{128, 128, 1}},
	{1<<21 - 1, []byte{255, 255, 127}},
	{1 << 21, []byte{128, 128, 128, 1}},
	{1<<28 - 1, []byte{255, 255, 255, 127}},
	{1 << 28, []byte{128, 128, 128, 128, 1}},
	{1 << 32, []byte{128, 128, 128, 128, 16}},
	{1<<35 - 1, []byte{255, 255, 255, 255, 127}},
	{1 << 35, []byte{128, 128, 128, 128, 128, 1}},
	{greatest - 1, []byte{255, 255, 255, 255, 255, 31}},
	{greatest, []byte{128, 128, 128, 128, 128, 32}},
}

func TestConstantsOfTheForm(t *testing.T) {
	if impl.MaxTileBytes != 900 {
		t.Error(impl.MaxTileBytes)
	}
}

func TestPutNumber(t *testing.T) {
	for _, c := range numberBytes {
		if got := impl.PutNumber(c.n); got.Code != impl.OK || !bytes.Equal(got.Bytes, c.data) {
			t.Errorf("%d: %v, not %v", c.n, got, c.data)
		}
	}
	for _, n := range outsideOf(0, greatest) {
		if got := impl.PutNumber(n); got.Code != impl.ErrRange || got.Bytes != nil {
			t.Errorf("%d: %v", n, got)
		}
	}
}

// expectNumber asks for a number that is read; beside a code there is none.
func expectNumber(t *testing.T, data []byte, want impl.NumberResult) {
	t.Helper()
	if got := impl.ReadNumber(data); got != want {
		t.Fatalf("%v: %v, not %v", data[:min(len(data), 12)], got, want)
	}
}

var unread = impl.NumberResult{Code: impl.ErrText}

func TestReadNumber(t *testing.T) {
	for _, c := range numberBytes {
		want := impl.NumberResult{Value: c.n, Used: int64(len(c.data))}
		expectNumber(t, c.data, want)
		for b := range 256 {
			expectNumber(t, append(slices.Clone(c.data), byte(b)), want)
			expectNumber(t, append(slices.Clone(c.data), byte(b), 255, 0, byte(b)), want)
		}
		expectNumber(t, append(slices.Clone(c.data), make([]byte, 100000)...), want)
		for end := range c.data {
			expectNumber(t, c.data[:end], unread)
			// what is behind the end of a list is none of it
			expectNumber(t, slices.Clone(c.data)[:end], unread)
		}
	}
}

// A number with a byte more than is needed: 0 behind its last one.
func TestReadNumberOfAByteMore(t *testing.T) {
	for _, c := range numberBytes {
		last := len(c.data) - 1
		for more := range 12 {
			data := slices.Clone(c.data)
			data[last] |= 128
			data = append(data, bytes.Repeat([]byte{128}, more)...)
			expectNumber(t, append(data, 0), unread)
			expectNumber(t, append(data, 0, 1, 2), unread)
			expectNumber(t, data, unread)
		}
	}
}

func TestReadNumberWrong(t *testing.T) {
	for _, data := range [][]byte{
		nil, {}, {128}, {255}, {128, 128}, {255, 255, 255, 255, 255}, {128, 0}, {255, 0}, {128, 128, 0},
		{129, 128, 128, 128, 128, 32},                         // the greatest number and 1
		{128, 128, 128, 128, 128, 33},                         // more above it
		{255, 255, 255, 255, 255, 127},                        // all of six bytes
		{128, 128, 128, 128, 128, 64},                         // 2^41
		{128, 128, 128, 128, 128, 128, 1},                     // 2^42
		{128, 128, 128, 128, 128, 160, 0},                     // the greatest number, and a byte more
		{129, 128, 128, 128, 128, 128, 0},                     // 1 in seven bytes
		{128, 128, 128, 128, 128, 128, 128},                   // no end
		{172, 130, 0},                                         // 300 in three bytes
		{128, 128, 128, 128, 128, 128, 128, 128, 128, 1},      // 2^63
		{129, 128, 128, 128, 128, 128, 128, 128, 128, 2},      // 2^64 and 1
		{129, 128, 128, 128, 128, 128, 128, 128, 128, 128, 2}, // 2^71 and 1
		{255, 255, 255, 255, 255, 255, 255, 255, 255, 1},      // 2^64 less 1
		bytes.Repeat([]byte{128}, 100000), bytes.Repeat([]byte{255}, 100000), append(bytes.Repeat([]byte{128}, 64), 1),
	} {
		expectNumber(t, data, unread)
	}
}

// readAs is a number at the beginning of data by the library's reading, as far
// as it is written again as it stands.
func readAs(data []byte) impl.NumberResult {
	n, used := binary.Uvarint(data)
	if used <= 0 || n > greatest || !bytes.Equal(binary.AppendUvarint(nil, n), data[:used]) {
		return unread
	}
	return impl.NumberResult{Value: int64(n), Used: int64(used)}
}

func TestReadNumberOfAllShortBytes(t *testing.T) {
	for a := range 256 {
		expectNumber(t, []byte{byte(a)}, readAs([]byte{byte(a)}))
		for b := range 256 {
			data := []byte{byte(a), byte(b)}
			expectNumber(t, data, readAs(data))
		}
	}
}

func TestReadNumberAgainstTheLibrary(t *testing.T) {
	n := numbers(69)
	seen := map[int64]int{}
	parts := []byte{0, 1, 2, 16, 31, 32, 33, 63, 64, 127, 128, 129, 160, 200, 255}
	for range 200000 {
		data := []byte{}
		for range n.next(0, 9) {
			b := parts[n.next(0, int64(len(parts)-1))]
			if n.next(0, 2) > 0 {
				b |= 128
			}
			data = append(data, b)
		}
		want := readAs(data)
		expectNumber(t, data, want)
		seen[want.Used]++
	}
	for used := range int64(7) {
		if seen[used] < 100 {
			t.Error("the test asks for little", used, seen)
		}
	}
}

func TestFoldNumber(t *testing.T) {
	for _, c := range [][2]int64{{0, 0}, {-1, 1}, {1, 2}, {-2, 3}, {2, 4}, {-3, 5}, {3, 6}, {63, 126}, {-64, 127}, {64, 128}, {-1024, 2047}, {1024, 2048},
		{-1 << 30, 1<<31 - 1}, {1 << 30, 1 << 31}, {1 - 1<<30, 1<<31 - 3}, {1<<30 - 1, 1<<31 - 2}} {
		if got := impl.FoldNumber(c[0]); got != (impl.IntResult{Value: c[1]}) {
			t.Errorf("%d: %v, not %d", c[0], got, c[1])
		}
		if got := impl.UnfoldNumber(c[1]); got != (impl.IntResult{Value: c[0]}) {
			t.Errorf("%d: %v, not %d", c[1], got, c[0])
		}
	}
	for _, n := range outsideOf(-1<<30, 1<<30) {
		if got := impl.FoldNumber(n); got != (impl.IntResult{Code: impl.ErrRange}) {
			t.Errorf("fold %d: %v", n, got)
		}
	}
	for _, n := range outsideOf(0, 1<<31) {
		if got := impl.UnfoldNumber(n); got != (impl.IntResult{Code: impl.ErrRange}) {
			t.Errorf("unfold %d: %v", n, got)
		}
	}
}

// sumAs is the sum with numbers of any size, of which what is left is told at
// the end alone.
func sumAs(data []byte) int64 {
	sum := big.NewInt(1)
	for _, b := range data {
		sum.Add(sum.Mul(sum, big.NewInt(31)), big.NewInt(int64(b)))
	}
	return sum.Mod(sum, big.NewInt(65521)).Int64()
}

func TestSumBytes(t *testing.T) {
	for _, c := range []struct {
		data []byte
		want int64
	}{
		{nil, 1}, {[]byte{}, 1}, {[]byte{0}, 31}, {[]byte{2}, 33}, {[]byte{255}, 286}, {[]byte{2, 0}, 1023}, {[]byte{0, 2}, 963},
		{[]byte{255, 255, 255}, (286*31+255)*31 + 255 - 4*65521}, {[]byte{0, 0, 0, 0}, 31*31*31*31 - 14*65521},
		{[]byte{0, 0, 0, 7}, 31*31*31*31 + 7 - 14*65521},
	} {
		if got := impl.SumBytes(c.data); got != (impl.IntResult{Value: c.want}) {
			t.Errorf("%v: %v, not %d", c.data, got, c.want)
		}
	}
	n := numbers(70)
	for _, count := range []int{1, 2, 3, 10, 500, 747, 899, 900} {
		for _, b := range []byte{0, 1, 128, 255} {
			data := bytes.Repeat([]byte{b}, count)
			if got := impl.SumBytes(data); got != (impl.IntResult{Value: sumAs(data)}) {
				t.Errorf("%d times %d: %v", count, b, got)
			}
		}
		for range 20 {
			data := n.bytes(count)
			if got := impl.SumBytes(data); got != (impl.IntResult{Value: sumAs(data)}) {
				t.Errorf("%v: %v", data, got)
			}
		}
	}
	for _, count := range []int{901, 902, 1800, 1 << 20} {
		if got := impl.SumBytes(make([]byte, count)); got != (impl.IntResult{Code: impl.ErrMany}) {
			t.Errorf("%d: %v", count, got)
		}
	}
}

// ofSum are bytes that have that sum.
func ofSum(sum int64) []byte {
	for a := range 256 {
		for b := range 256 {
			data := []byte{byte(a), byte(b), 0, 0}
			left := (sum - sumAs(data) + 65521) % 65521
			if left/31 < 256 {
				data[2], data[3] = byte(left/31), byte(left%31)
				return data
			}
		}
	}
	return nil
}

// All that the prime may leave, at its ends.
func TestSumBytesAtTheEnds(t *testing.T) {
	for _, sum := range []int64{0, 1, 2, 255, 256, 257, 32767, 32768, 65279, 65280, 65518, 65519, 65520} {
		if got := impl.SumBytes(ofSum(sum)); got != (impl.IntResult{Value: sum}) {
			t.Errorf("%v: %v, not %d", ofSum(sum), got, sum)
		}
	}
}

// bytes are count bytes.
func (n *numbers) bytes(count int) []byte {
	data := []byte{}
	for range count {
		data = append(data, byte(n.next(0, 255)))
	}
	return data
}

// bodyAs are the bytes of a feature by the library's way to write numbers,
// whatever is wrong of it.
func bodyAs(f impl.Feature) []byte {
	data := []byte{}
	for _, n := range []int64{f.Id, f.Layer, f.Kind, f.Width, f.Priority, int64(len(f.Label))} {
		data = binary.AppendUvarint(data, uint64(n))
	}
	data = append(data, f.Label...)
	data = binary.AppendUvarint(data, uint64(len(f.Points)))
	x, y := int64(0), int64(0)
	for _, p := range f.Points {
		data = binary.AppendVarint(data, p.X-x)
		data = binary.AppendVarint(data, p.Y-y)
		x, y = p.X, p.Y
	}
	return data
}

// summed are bytes with their sum behind them, the higher byte first.
func summed(body []byte) []byte {
	return binary.BigEndian.AppendUint16(slices.Clone(body), uint16(sumAs(body)))
}

// listAs are the bytes of features, whatever is wrong of them.
func listAs(list []impl.Feature) []byte {
	body := binary.AppendUvarint(nil, uint64(len(list)))
	for _, f := range list {
		body = append(body, bodyAs(f)...)
	}
	return summed(body)
}

// bare is a feature of the Id 1, of which all else is 0 or empty.
func bare(kind int64, points ...impl.Point) impl.Feature {
	return impl.Feature{Id: 1, Kind: kind, Points: points}
}

func TestPackFeature(t *testing.T) {
	all := impl.Feature{Id: 999, Layer: 9, Kind: impl.KindArea, Width: 3, Priority: 9, Label: "zzzzzz", Points: []impl.Point{at(1024, 0), at(0, 1024), at(1024, 0)}}
	for _, c := range []struct {
		what string
		f    impl.Feature
		want []byte
	}{
		{"the least one", bare(impl.KindPoint, at(0, 0)), []byte{1, 0, 1, 0, 0, 0, 1, 0, 0}},
		{"a road", road(), []byte{7, 2, 2, 1, 3, 4, 'r', 'o', 'a', 'd', 2, 2, 4, 58, 4}},
		{"steps below 0", bare(impl.KindLine, at(100, 7), at(36, 6), at(35, 70), at(35, 6)),
			[]byte{1, 0, 2, 0, 0, 0, 4, 200, 1, 14, 127, 1, 1, 128, 1, 0, 127}},
		{"all at its greatest", all,
			[]byte{231, 7, 9, 3, 3, 9, 6, 'z', 'z', 'z', 'z', 'z', 'z', 3, 128, 16, 0, 255, 15, 128, 16, 128, 16, 255, 15}},
		{"an Id of one byte", impl.Feature{Id: 127, Kind: impl.KindPoint, Points: []impl.Point{at(63, 64)}}, []byte{127, 0, 1, 0, 0, 0, 1, 126, 128, 1}},
		{"an Id of two", impl.Feature{Id: 128, Kind: impl.KindPoint, Points: []impl.Point{at(64, 63)}, Label: "a"}, []byte{128, 1, 0, 1, 0, 0, 1, 'a', 1, 128, 1, 126}},
	} {
		if got := impl.PackFeature(c.f); got.Code != impl.OK || !bytes.Equal(got.Bytes, c.want) || !bytes.Equal(bodyAs(c.f), c.want) {
			t.Errorf("%s: %v, not %v", c.what, got, c.want)
		}
	}
}

// wrongFeatures are features with a fault, with the code of it.
func wrongFeatures() (list []impl.Feature, codes []int64) {
	add := func(code int64, change func(f *impl.Feature)) {
		f := road()
		change(&f)
		list, codes = append(list, f), append(codes, code)
	}
	for _, field := range fields {
		for _, n := range outsideOf(field.low, field.high) {
			add(impl.ErrRange, func(f *impl.Feature) { *field.of(f) = n })
		}
	}
	for _, n := range outsideOf(1, 3) {
		add(impl.ErrRange, func(f *impl.Feature) { f.Kind = n })
	}
	for _, k := range kindBounds {
		for _, count := range []int64{k.least - 1, k.most + 1, 0, 13, 200} {
			add(impl.ErrMany, func(f *impl.Feature) {
				f.Kind, f.Points = k.kind, slices.Repeat([]impl.Point{at(5, 6)}, int(count))
			})
		}
	}
	for _, n := range outsideOf(0, impl.World) {
		for place := range 2 {
			add(impl.ErrRange, func(f *impl.Feature) { f.Points[place].X = n })
			add(impl.ErrRange, func(f *impl.Feature) { f.Points[place].Y = n })
		}
	}
	for _, label := range []string{"abcdefg", "A", "a b", "0", "\xff", "ä", strings.Repeat("a", 128), strings.Repeat("a", 1000)} {
		add(impl.ErrText, func(f *impl.Feature) { f.Label = label })
	}
	// more than one fault: the first code
	add(impl.ErrRange, func(f *impl.Feature) { f.Width, f.Points, f.Label = 4, nil, "?" })
	add(impl.ErrMany, func(f *impl.Feature) { f.Points, f.Label = []impl.Point{at(-1, 0)}, "?" })
	add(impl.ErrRange, func(f *impl.Feature) { f.Points[0].X, f.Label = math.MinInt64, "?" })
	return list, codes
}

func TestPackFeatureWrong(t *testing.T) {
	list, codes := wrongFeatures()
	for i, f := range list {
		if got := impl.PackFeature(f); got.Code != codes[i] || got.Bytes != nil {
			t.Errorf("%v: %v, not %d", f, got, codes[i])
		}
		for _, l := range [][]impl.Feature{{f}, append(numbered(1), f), {f, road()}} {
			if got := impl.PackList(l); got.Code != codes[i] || got.Bytes != nil {
				t.Errorf("%v: %v, not %d", l, got, codes[i])
			}
		}
	}
}

// two are features in order: of one Layer by Id.
func two() []impl.Feature {
	first := bare(impl.KindPoint, at(3, 0))
	first.Layer = 2
	return []impl.Feature{first, road()}
}

func TestPackList(t *testing.T) {
	for _, c := range []struct {
		what string
		list []impl.Feature
		want []byte
	}{
		{"nil", nil, []byte{0, 0, 31}},
		{"none", []impl.Feature{}, []byte{0, 0, 31}},
		{"one", two()[:1], summed([]byte{1, 1, 2, 1, 0, 0, 0, 1, 6, 0})},
		{"two", two(), summed([]byte{2, 1, 2, 1, 0, 0, 0, 1, 6, 0, 7, 2, 2, 1, 3, 4, 'r', 'o', 'a', 'd', 2, 2, 4, 58, 4})},
	} {
		if got := impl.PackList(c.list); got.Code != impl.OK || !bytes.Equal(got.Bytes, c.want) || !bytes.Equal(listAs(c.list), c.want) {
			t.Errorf("%s: %v, not %v", c.what, got, c.want)
		}
		if got := impl.UnpackList(c.want); got.Code != impl.OK || !impl.SameFeatures(got.Features, c.list) {
			t.Errorf("%s: back %v", c.what, got)
		}
	}
}

// The two bytes of the sum, told by hand, the higher first.
func TestPackListSum(t *testing.T) {
	got := impl.PackList(two()[:1]).Bytes
	sum := int64(1)
	for _, b := range []int64{1, 1, 2, 1, 0, 0, 0, 1, 6, 0} {
		sum = (sum*31 + b) % 65521
	}
	if end := got[len(got)-2:]; sum < 256 || int64(end[0]) != sum/256 || int64(end[1]) != sum%256 || end[0] == end[1] {
		t.Error(got, sum)
	}
	turned := slices.Clone(got)
	slices.Reverse(turned[len(turned)-2:])
	expectUnread(t, "the lower byte first", turned)
}

// Not in order: by Layer, of the same by Id; and the codes ahead of that.
func TestPackListOrder(t *testing.T) {
	layered := func(layers ...int64) []impl.Feature {
		list := numbered(1, 2, 3, 4)[:len(layers)]
		for i, layer := range layers {
			list[i].Layer = layer
		}
		return list
	}
	wrong := road()
	wrong.Label = "?"
	for _, c := range []struct {
		what string
		list []impl.Feature
		want int64
	}{
		{"rising Ids", numbered(1, 2, 3), impl.OK},
		{"rising Ids of two and three digits", numbered(9, 10, 99, 100, 999), impl.OK},
		{"rising Layers", layered(0, 1, 5, 9), impl.OK},
		{"Ids that fall where Layers rise", []impl.Feature{layered(0)[0], layered(0, 0, 0, 3)[3], layered(0, 0, 4)[2]}, impl.OK},
		{"falling Ids", numbered(2, 1), impl.ErrForm},
		{"falling Ids at the end", numbered(1, 2, 4, 3), impl.ErrForm},
		{"falling Layers", layered(1, 0), impl.ErrForm},
		{"falling Layers at the end", layered(1, 1, 2, 1), impl.ErrForm},
		{"the same Id twice", numbered(1, 1), impl.ErrTaken},
		{"the same Id twice, of rising Layers", []impl.Feature{layered(1)[0], layered(2)[0]}, impl.ErrTaken},
		{"the same Id twice, not in order", numbered(3, 2, 3), impl.ErrTaken},
		{"a fault behind what is not in order", append(numbered(9, 8), wrong), impl.ErrText},
		{"a fault ahead of what is not in order", append([]impl.Feature{wrong}, numbered(9, 8)...), impl.ErrText},
		{"an Id that is taken ahead of a fault", append(numbered(9, 9), wrong), impl.ErrTaken},
		{"as many as there may be", numbered(1, 2, 3, 4, 5, 6, 7, 8, 9, 10, 11, 12), impl.OK},
		{"one more", numbered(1, 2, 3, 4, 5, 6, 7, 8, 9, 10, 11, 12, 13), impl.ErrMany},
		{"one more, and not in order", numbered(13, 12, 11, 10, 9, 8, 7, 6, 5, 4, 3, 2, 1), impl.ErrMany},
		{"many more, and not one of them right", make([]impl.Feature, 5000), impl.ErrMany},
	} {
		got := impl.PackList(c.list)
		if got.Code != c.want || c.want != impl.OK && got.Bytes != nil {
			t.Errorf("%s: %v, not %d", c.what, got, c.want)
		}
		if c.want == impl.OK && !bytes.Equal(got.Bytes, listAs(c.list)) {
			t.Errorf("%s: %v, not %v", c.what, got, listAs(c.list))
		}
	}
}

// longest are features that have as many bytes as features may have.
func longest() []impl.Feature {
	var list []impl.Feature
	for i := range int64(12) {
		f := impl.Feature{Id: 988 + i, Layer: 9, Kind: impl.KindArea, Width: 3, Priority: 9, Label: "zzzzzz"}
		for k := range int64(12) {
			f.Points = append(f.Points, at((k+1)%2*1024, (k+1)%2*1024))
		}
		list = append(list, f)
	}
	return list
}

// Features that have no fault stay below MaxTileBytes: 62 bytes are the most
// that one has.
func TestPackListOfTheLongest(t *testing.T) {
	if got := impl.PackFeature(longest()[0]); len(got.Bytes) != 62 {
		t.Error(len(got.Bytes))
	}
	got := impl.PackList(longest())
	if got.Code != impl.OK || len(got.Bytes) != 1+12*62+2 || !bytes.Equal(got.Bytes, listAs(longest())) {
		t.Error(got)
	}
	if back := impl.UnpackList(got.Bytes); back.Code != impl.OK || !reflect.DeepEqual(back.Features, longest()) {
		t.Error(back)
	}
}

func expectUnread(t *testing.T, what string, data []byte) {
	t.Helper()
	if got := impl.UnpackList(data); !reflect.DeepEqual(got, impl.FeaturesResult{Code: impl.ErrText}) {
		t.Fatalf("%s: %v: %v", what, data[:min(len(data), 200)], got)
	}
}

func TestUnpackListOfHowManyBytes(t *testing.T) {
	expectUnread(t, "nil", nil)
	expectUnread(t, "none", []byte{})
	expectUnread(t, "one", []byte{0})
	expectUnread(t, "a sum alone", []byte{0, 1})
	expectUnread(t, "a sum alone, the lower byte first", []byte{1, 0})
	expectUnread(t, "no features, another sum", []byte{0, 0, 30})
	expectUnread(t, "no features, the lower byte first", []byte{0, 31, 0})
	if got := impl.UnpackList([]byte{0, 0, 31}); !reflect.DeepEqual(got, impl.FeaturesResult{}) {
		t.Error(got)
	}
	n := numbers(71)
	for _, count := range []int{748, 800, 899, 900} {
		expectUnread(t, "zeros", make([]byte, count))
		expectUnread(t, "zeros with their sum", summed(make([]byte, count-2)))
		expectUnread(t, "any bytes with their sum", summed(n.bytes(count-2)))
		expectUnread(t, "ones with their sum", summed(bytes.Repeat([]byte{255}, count-2)))
		body := listAs(longest())
		body = body[:len(body)-2]
		expectUnread(t, "features and more, with their sum", summed(append(body, make([]byte, count-2-len(body))...)))
	}
	for _, count := range []int{901, 902, 5000} {
		for _, data := range [][]byte{make([]byte, count), make([]byte, count<<8), summed(make([]byte, count-2)), append(listAs(two()), make([]byte, count)...)[:count], bytes.Repeat([]byte{255}, count)} {
			if got := impl.UnpackList(data); !reflect.DeepEqual(got, impl.FeaturesResult{Code: impl.ErrMany}) {
				t.Errorf("%d: %v", count, got)
			}
		}
	}
}

// Bytes that are cut off anywhere, without a byte, or with one more, with their
// own sum or the one of what they are then.
func TestUnpackListOfOtherLengths(t *testing.T) {
	n := numbers(72)
	for i := range 40 {
		list := n.inOrder(int(n.next(1, 4)))
		if i == 0 {
			list = two()
		}
		data := listAs(list)
		body := data[:len(data)-2]
		for k := range data {
			expectUnread(t, "cut off behind", data[:k])
			expectUnread(t, "cut off ahead", data[k+1:])
		}
		for k := range body {
			expectUnread(t, "cut off, with a sum", summed(body[:k]))
			expectList(t, "without a byte, with a sum", summed(slices.Delete(slices.Clone(body), k, k+1)))
		}
		for b := range 256 {
			expectUnread(t, "one more behind", append(slices.Clone(data), byte(b)))
			expectUnread(t, "one more behind, with a sum", summed(append(slices.Clone(body), byte(b))))
			expectUnread(t, "one more ahead", append([]byte{byte(b)}, data...))
		}
		expectUnread(t, "twice", append(slices.Clone(data), data...))
	}
}

// inOrder are count features without a fault, in order.
func (n *numbers) inOrder(count int) []impl.Feature {
	list := n.features(count)
	slices.SortFunc(list, func(a, b impl.Feature) int { return int((a.Layer-b.Layer)*1000 + a.Id - b.Id) })
	return list
}

// unpackAs reads data as far as the library reads numbers, whatever they are,
// and then asks whether the features that this gives are told by just data.
func unpackAs(data []byte) (list []impl.Feature, ok bool) {
	rest, ok := data, true
	number := func() uint64 {
		n, used := binary.Uvarint(rest)
		if used <= 0 || n > math.MaxInt64 {
			ok = false
			return 0
		}
		rest = rest[used:]
		return n
	}
	step := func() int64 {
		n := number()
		return int64(n>>1) ^ -int64(n&1)
	}
	for count := number(); ok && count > 0; count-- {
		f := impl.Feature{Id: int64(number()), Layer: int64(number()), Kind: int64(number()), Width: int64(number()), Priority: int64(number())}
		length := number()
		if !ok || length > uint64(len(rest)) {
			return nil, false
		}
		f.Label, rest = string(rest[:length]), rest[length:]
		p := at(0, 0)
		for points := number(); ok && points > 0; points-- {
			p = at(p.X+step(), p.Y+step())
			f.Points = append(f.Points, p)
		}
		list = append(list, f)
	}
	sorted := impl.SortFeatures(list)
	if !ok || sorted.Code != impl.OK || !impl.SameFeatures(sorted.Features, list) || !bytes.Equal(listAs(list), data) {
		return nil, false
	}
	return list, true
}

// expectList asks for the features that data tells, whether or not it does.
func expectList(t *testing.T, what string, data []byte) {
	t.Helper()
	list, ok := unpackAs(data)
	if !ok {
		expectUnread(t, what, data)
		return
	}
	if got := impl.UnpackList(data); got.Code != impl.OK || !impl.SameFeatures(got.Features, list) {
		t.Fatalf("%s: %v: %v, not %v", what, data, got, list)
	}
}

// numberPlaces are the places in bytes of features at which a number begins,
// each with the place behind it.
func numberPlaces(list []impl.Feature) [][2]int {
	var places [][2]int
	data := listAs(list)
	place := 0
	skip := func() (n int) {
		value, used := binary.Uvarint(data[place:])
		places = append(places, [2]int{place, place + used})
		place += used
		return int(value)
	}
	for range skip() {
		for range 5 {
			skip()
		}
		place += skip()
		for range 2 * skip() {
			skip()
		}
	}
	return places
}

// Each number with a byte more than is needed, with a right sum: it is the same
// number, but PackList does not write it so.
func TestUnpackListOfNumbersWithAByteMore(t *testing.T) {
	n := numbers(73)
	for range 60 {
		list := n.inOrder(int(n.next(0, 5)))
		data := listAs(list)
		body := data[:len(data)-2]
		for _, place := range numberPlaces(list) {
			for more := 1; more < 9; more++ {
				longer := slices.Clone(body[:place[1]])
				longer[place[1]-1] |= 128
				longer = append(longer, bytes.Repeat([]byte{128}, more-1)...)
				longer = append(append(longer, 0), body[place[1]:]...)
				expectUnread(t, fmt.Sprint("the number at ", place, " with ", more, " more"), summed(longer))
			}
		}
	}
}

// Each number as another one, with a right sum, numbers far outside of all
// bounds among them.
func TestUnpackListOfOtherNumbers(t *testing.T) {
	n := numbers(74)
	others := []uint64{0, 1, 2, 3, 4, 6, 7, 9, 10, 12, 13, 127, 128, 999, 1000, 1024, 2047, 2048, 2049, 2050, 1 << 30, 1 << 31, 1<<31 + 1, 1 << 32, 1 << 39, 1 << 40, 1<<40 + 1, 1 << 62, 1 << 63, math.MaxUint64}
	read := 0
	for i := range 40 {
		list := n.inOrder(int(n.next(1, 3)))
		if i == 0 {
			list = two()
		}
		data := listAs(list)
		body := data[:len(data)-2]
		for _, place := range numberPlaces(list) {
			for _, other := range others {
				changed := binary.AppendUvarint(slices.Clone(body[:place[0]]), other)
				changed = summed(append(changed, body[place[1]:]...))
				expectList(t, fmt.Sprint("the number at ", place, " as ", other), changed)
				if _, ok := unpackAs(changed); ok {
					read++
				}
			}
		}
	}
	if read < 500 {
		t.Error("the test asks for little", read)
	}
}

// Features that are not in order or have a fault, with a right sum.
func TestUnpackListOfWrongFeatures(t *testing.T) {
	list, _ := wrongFeatures()
	for _, f := range list {
		for _, l := range [][]impl.Feature{{f}, append(numbered(1), f), {f, numbered(9)[0]}} {
			if data := listAs(l); len(data) <= impl.MaxTileBytes {
				expectUnread(t, fmt.Sprint(l), data)
			}
		}
	}
	for _, ids := range [][]int64{{2, 1}, {1, 2, 4, 3}, {1, 1}, {1, 2, 1}, {0}, {0, 1}, {999, 1000}, {1, 2, 3, 4, 5, 6, 7, 8, 9, 10, 11, 12, 13}} {
		expectUnread(t, fmt.Sprint(ids), listAs(numbered(ids...)))
	}
	fallen := numbered(1, 2)
	fallen[0].Layer = 3
	expectUnread(t, "Layers that fall", listAs(fallen))
	taken := numbered(1, 1)
	taken[1].Layer = 3
	expectUnread(t, "an Id twice, of Layers that rise", listAs(taken))
	expectUnread(t, "thirteen of none", summed(append([]byte{13}, make([]byte, 13*8)...)))
	expectUnread(t, "more than are there", summed(append([]byte{3}, listAs(two())[1:25]...)))
	expectUnread(t, "fewer than are there", summed(append([]byte{1}, listAs(two())[1:25]...)))
	expectUnread(t, "none, where two are there", summed(append([]byte{0}, listAs(two())[1:25]...)))
	expectUnread(t, "a label that is longer than all", summed([]byte{1, 7, 2, 2, 1, 3, 6, 'a'}))
	expectUnread(t, "a label that goes on into the sum", summed([]byte{1, 7, 2, 2, 1, 3, 2}))
	expectUnread(t, "points that go on into the sum", summed([]byte{1, 7, 2, 1, 1, 3, 0, 1}))
	expectUnread(t, "a last number without an end", summed([]byte{1, 7, 2, 1, 1, 3, 0, 1, 2, 130}))
}

// A way that leaves the world and comes back to it is no fault of the ends
// alone: each point is asked.
func TestUnpackListOfFarSteps(t *testing.T) {
	for _, far := range []int64{1025, 1 << 29, 1<<30 - 1, 1 << 30, 1<<30 + 1, 1 << 31, 1 << 38} {
		f := bare(impl.KindLine, at(0, 0), at(far, 0), at(0, 0))
		expectUnread(t, fmt.Sprint("there and back by ", far), listAs([]impl.Feature{f}))
		f = bare(impl.KindLine, at(0, 0), at(0, -far), at(0, 0))
		expectUnread(t, fmt.Sprint("back and there by ", far), listAs([]impl.Feature{f}))
	}
}

// Any change of the bytes ahead of a right sum.
func TestUnpackListAgainstTheDocument(t *testing.T) {
	n := numbers(75)
	read := map[bool]int{}
	for range 30000 {
		data := listAs(n.inOrder(int(n.next(0, 5))))
		body := data[:len(data)-2]
		for range n.next(0, 2) {
			place := int(n.next(0, int64(len(body)-1)))
			switch n.next(0, 3) {
			case 0:
				body[place] = byte(n.next(0, 255))
			case 1:
				body[place] += byte(n.next(-1, 1))
			case 2:
				body = slices.Insert(slices.Clone(body), place, byte(n.next(0, 255)))
			case 3:
				body = slices.Concat(body[:place], body[min(place+int(n.next(0, 3)), len(body)-1):])
			}
		}
		expectList(t, "changed", summed(body))
		_, ok := unpackAs(summed(body))
		read[ok]++
	}
	if read[true] < 5000 || read[false] < 5000 {
		t.Error("the test asks for little", read)
	}
}
