package tests

import (
	"bytes"
	"math"
	"reflect"
	"slices"
	"testing"

	"loop.example/g00403/impl"
)

// someNumber is a number that is told as bytes, of each length as often.
func someNumber(n *numbers) int64 {
	return min(n.next(0, 1<<n.next(0, 41)), greatest)
}

// P7: a number is read back from its bytes, whatever stands behind it.
func TestPromise7NumberReadBack(t *testing.T) {
	n := numbers(76)
	ask := func(number int64) {
		put := impl.PutNumber(number)
		want := impl.NumberResult{Value: number, Used: int64(len(put.Bytes))}
		if put.Code != impl.OK || impl.ReadNumber(put.Bytes) != want {
			t.Fatalf("%d: %v, and back %v", number, put, impl.ReadNumber(put.Bytes))
		}
		for _, behind := range [][]byte{{0}, {128}, {255}, {127, 127}, put.Bytes, n.bytes(int(n.next(0, 9)))} {
			if got := impl.ReadNumber(slices.Concat(put.Bytes, behind)); got != want {
				t.Fatalf("%d: %v, and with %v behind it %v", number, put, behind, got)
			}
		}
	}
	for _, number := range []int64{0, 127, 128, greatest - 1, greatest} {
		ask(number)
	}
	for bit := range 40 {
		for away := int64(-2); away <= 2; away++ {
			ask(max(0, 1<<bit+away))
		}
	}
	for number := range int64(40000) {
		ask(number)
	}
	for range 20000 {
		ask(someNumber(&n))
	}
}

// P7: numbers one behind another are read back one by one; nothing but its own
// bytes tells where one ends.
func TestPromise7NumbersInARow(t *testing.T) {
	n := numbers(77)
	for range 2000 {
		var told []int64
		var data []byte
		for range n.next(1, 20) {
			told = append(told, someNumber(&n))
			data = append(data, impl.PutNumber(told[len(told)-1]).Bytes...)
		}
		for _, want := range told {
			got := impl.ReadNumber(data)
			if got.Code != impl.OK || got.Value != want || got.Used < 1 {
				t.Fatalf("%v: %v", told, got)
			}
			data = data[got.Used:]
		}
		if len(data) != 0 {
			t.Fatalf("%v: %v is left", told, data)
		}
	}
}

// P7: what is folded is unfolded to what it was, and no two are folded alike.
func TestPromise7FoldedBack(t *testing.T) {
	n := numbers(78)
	for i := range int64(30000) {
		number := n.next(-1<<n.next(0, 30), 1<<n.next(0, 30))
		if i < 10000 {
			number = i - 5000
		}
		folded := impl.FoldNumber(number)
		if folded.Code != impl.OK || folded.Value < 0 || impl.UnfoldNumber(folded.Value) != (impl.IntResult{Value: number}) {
			t.Fatalf("%d: %v", number, folded)
		}
		if back := impl.UnfoldNumber(i); back.Code != impl.OK || impl.FoldNumber(back.Value) != (impl.IntResult{Value: i}) {
			t.Fatalf("%d: %v", i, back)
		}
	}
}

// someInOrder are features in order, some of them at their ends.
func someInOrder(n *numbers) []impl.Feature {
	list := n.inOrder(int(n.next(0, 12)))
	for i := range list {
		switch n.next(0, 5) {
		case 0:
			list[i].Label = ""
		case 1:
			for k := range list[i].Points {
				list[i].Points[k] = at(n.next(0, 1)*impl.World, n.next(0, 1)*impl.World)
			}
		case 2: // no step in X is above 0
			slices.SortFunc(list[i].Points, func(a, b impl.Point) int { return int(b.X - a.X) })
		}
	}
	return list
}

// P7: features are read back from their bytes.
func TestPromise7FeaturesReadBack(t *testing.T) {
	n := numbers(79)
	for i := range 8000 {
		list := someInOrder(&n)
		if i == 0 {
			list = longest()
		}
		packed := impl.PackList(list)
		if packed.Code != impl.OK || !bytes.Equal(packed.Bytes, listAs(list)) {
			t.Fatalf("%v: %v, not %v", list, packed, listAs(list))
		}
		back := impl.UnpackList(packed.Bytes)
		if back.Code != impl.OK || !reflect.DeepEqual(back.Features, list) || !impl.SameFeatures(back.Features, list) {
			t.Fatalf("%v: back %v", list, back)
		}
		for _, f := range list {
			alone := impl.PackFeature(f)
			if alone.Code != impl.OK || !bytes.Contains(packed.Bytes, alone.Bytes) {
				t.Fatalf("%v: %v is not in %v", f, alone, packed)
			}
		}
	}
}

// P7: features at the ends of all that they have, all of them together.
func TestPromise7FeaturesReadBackAtTheEdges(t *testing.T) {
	for _, k := range kindBounds {
		for _, count := range []int64{k.least, k.most} {
			for _, label := range []string{"", "a", "zzzzzz"} {
				for bits := range 64 {
					end := func(bit int, low, high int64) int64 {
						if bits>>bit&1 == 0 {
							return low
						}
						return high
					}
					f := impl.Feature{
						Id: end(0, 1, 999), Layer: end(1, 0, 9), Kind: k.kind, Width: end(2, 0, 3), Priority: end(3, 0, 9), Label: label,
						Points: slices.Repeat([]impl.Point{at(end(4, 0, impl.World), end(5, 0, impl.World))}, int(count)),
					}
					list := []impl.Feature{f}
					if back := impl.UnpackList(impl.PackList(list).Bytes); back.Code != impl.OK || !reflect.DeepEqual(back.Features, list) {
						t.Fatalf("%v: back %v", f, back)
					}
				}
			}
		}
	}
}

// P7: where one byte is another one they are not read back: each byte as each
// other one.
func TestPromise7OneByteIsAnotherOne(t *testing.T) {
	n := numbers(80)
	unreadList := impl.FeaturesResult{Code: impl.ErrText}
	for i := range 40 {
		list := n.inOrder(int(n.next(0, 5)))
		switch i {
		case 0:
			list = nil
		case 1:
			list = longest()
		}
		data := impl.PackList(list).Bytes
		for place, was := range data {
			for other := range 256 {
				if data[place] = byte(other); byte(other) == was {
					continue
				}
				if got := impl.UnpackList(data); !reflect.DeepEqual(got, unreadList) {
					t.Fatalf("%v: %d at %d: %v", list, other, place, got)
				}
			}
			data[place] = was
		}
		if got := impl.UnpackList(data); got.Code != impl.OK || !impl.SameFeatures(got.Features, list) {
			t.Fatalf("%v: %v", list, got)
		}
	}
}

// formAnswers is what the layer of the form of tiles answers of the same
// arguments.
type formAnswers struct {
	put      impl.BytesResult
	read     impl.NumberResult
	folded   impl.IntResult
	unfolded impl.IntResult
	sum      impl.IntResult
	feature  impl.BytesResult
	packed   impl.BytesResult
	unpacked impl.FeaturesResult
}

func askForm(number int64, data []byte, f impl.Feature, list []impl.Feature) formAnswers {
	return formAnswers{
		put:      impl.PutNumber(number),
		read:     impl.ReadNumber(data),
		folded:   impl.FoldNumber(number),
		unfolded: impl.UnfoldNumber(number),
		sum:      impl.SumBytes(data),
		feature:  impl.PackFeature(f),
		packed:   impl.PackList(list),
		unpacked: impl.UnpackList(data),
	}
}

// strangeValue is a number at, beside or far outside of the bounds of numbers.
func strangeValue(n *numbers) int64 {
	if n.next(0, 1) == 0 {
		return someNumber(n)
	}
	edges := []int64{-1, 0, 1, 127, 128, -1 << 30, -1<<30 - 1, 1 << 30, 1<<30 + 1, 1 << 31, 1<<31 + 1, greatest, greatest + 1, math.MinInt64, math.MaxInt64, math.MinInt64 + 1}
	return edges[n.next(0, int64(len(edges)-1))]
}

// strangeBytes are bytes of features, spoiled or not, or any, with room behind
// their end.
func strangeBytes(n *numbers) []byte {
	data := listAs(n.inOrder(int(n.next(0, 6))))
	switch n.next(0, 6) {
	case 0:
		data = n.bytes(int(n.next(0, 30)))
	case 1:
		data = summed(n.bytes(int(n.next(0, 30))))
	case 2:
		data = data[:n.next(0, int64(len(data)-1))]
	case 3:
		data[n.next(0, int64(len(data)-1))]++
	case 4:
		data = n.bytes(int(n.next(890, 910)))
	}
	return append(slices.Clone(data), 1, 2, 3)[:len(data)]
}

// strangeOrder are features that may be wrong, or not in order.
func strangeOrder(n *numbers) []impl.Feature {
	list := strangeFeatures(n)
	if n.next(0, 2) > 0 {
		slices.SortFunc(list, func(a, b impl.Feature) int {
			switch {
			case a.Layer < b.Layer || a.Layer == b.Layer && a.Id < b.Id:
				return -1
			case a.Layer == b.Layer && a.Id == b.Id:
				return 0
			}
			return 1
		})
	}
	return list
}

// formCodes are the codes that the document asks for.
func formCodes(number int64, data []byte, f impl.Feature, list []impl.Feature) [8]int64 {
	code := func(wrong bool, code int64) int64 {
		if wrong {
			return code
		}
		return impl.OK
	}
	_, ok := unpackAs(data)
	sorted := impl.SortFeatures(list)
	order := code(sorted.Code == impl.OK && !impl.SameFeatures(sorted.Features, list), impl.ErrForm)
	return [8]int64{
		code(number < 0 || number > greatest, impl.ErrRange),
		readAs(data).Code,
		code(number < -1<<30 || number > 1<<30, impl.ErrRange),
		code(number < 0 || number > 1<<31, impl.ErrRange),
		code(len(data) > 900, impl.ErrMany),
		impl.FeatureFault(f),
		firstOf(sorted.Code, order),
		firstOf(code(len(data) > 900, impl.ErrMany), code(!ok, impl.ErrText)),
	}
}

func (a formAnswers) codes() [8]int64 {
	return [8]int64{a.put.Code, a.read.Code, a.folded.Code, a.unfolded.Code, a.sum.Code, a.feature.Code, a.packed.Code, a.unpacked.Code}
}

// formIsZero tells whether all that stands beside a code is zero.
func formIsZero(a formAnswers) bool {
	return (a.put.Code == impl.OK || a.put.Bytes == nil) && (a.read.Code == impl.OK || a.read.Value == 0 && a.read.Used == 0) &&
		(a.folded.Code == impl.OK || a.folded.Value == 0) && (a.unfolded.Code == impl.OK || a.unfolded.Value == 0) &&
		(a.sum.Code == impl.OK || a.sum.Value == 0) && (a.feature.Code == impl.OK || a.feature.Bytes == nil) &&
		(a.packed.Code == impl.OK || a.packed.Bytes == nil) && (a.unpacked.Code == impl.OK || a.unpacked.Features == nil)
}

// P1, chapter 6: an answer at every argument, with the code that is asked for,
// which changes none, is zero beside a code, and is the same again for the same
// arguments elsewhere.
func TestPromise1OfTheForm(t *testing.T) {
	n := numbers(81)
	seen := [8]map[int64]int{}
	for i := range seen {
		seen[i] = map[int64]int{}
	}
	for range 12000 {
		number, data, f, list := strangeValue(&n), strangeBytes(&n), strangeFeature(&n), strangeOrder(&n)
		f.Points = append(slices.Clone(f.Points), at(1, 1))[:len(f.Points)]
		givenData, givenF, givenList := slices.Clone(data[:cap(data)]), whole([]impl.Feature{f}), whole(list)
		got := askForm(number, data, f, list)
		if !bytes.Equal(givenData, data[:cap(data)]) || !reflect.DeepEqual(givenF, whole([]impl.Feature{f})) || !reflect.DeepEqual(givenList, whole(list)) {
			t.Fatalf("%v %v %v: an argument was changed", data, f, list)
		}
		if want := formCodes(number, data, f, list); got.codes() != want {
			t.Fatalf("%d %v %v %v: %v, not %v", number, data, f, list, got, want)
		}
		if !formIsZero(got) {
			t.Fatalf("beside a code: %v", got)
		}
		if again := askForm(number, slices.Clone(data), copyOf([]impl.Feature{f})[0], copyOf(list)); !reflect.DeepEqual(again, got) {
			t.Fatalf("%v, then %v", got, again)
		}
		for i, code := range got.codes() {
			seen[i][code]++
		}
	}
	for i, codes := range [8][]int64{
		{impl.ErrRange}, {impl.ErrText}, {impl.ErrRange}, {impl.ErrRange}, {impl.ErrMany},
		{impl.ErrRange, impl.ErrMany, impl.ErrText}, {impl.ErrRange, impl.ErrMany, impl.ErrText, impl.ErrTaken, impl.ErrForm}, {impl.ErrMany, impl.ErrText},
	} {
		for _, code := range append(codes, impl.OK) {
			if seen[i][code] < 50 {
				t.Error("the test asks for little", i, code, seen[i])
			}
		}
	}
	if !reflect.DeepEqual(askForm(1, nil, impl.Feature{}, nil), askForm(1, []byte{}, impl.Feature{Points: []impl.Point{}}, []impl.Feature{})) {
		t.Error("an empty list is not nil")
	}
}

// spoilBytes writes over all that bytes have in memory, up to their capacity.
func spoilBytes(data []byte) {
	for i := range data[:cap(data)] {
		data[:cap(data)][i] = 7
	}
}

// P1, chapter 6: an answer shares no memory with an argument, nor with an
// answer that was given ahead.
func TestPromise1OfTheFormNewMemory(t *testing.T) {
	n := numbers(82)
	for range 3000 {
		list := n.inOrder(int(n.next(1, 8)))
		f, number := list[0], someNumber(&n)
		data := append(listAs(list), 1, 2, 3)
		data = data[:len(data)-3]
		givenData, givenList := slices.Clone(data[:cap(data)]), whole(list)
		got, kept := askForm(number, data, f, list), askForm(number, data, f, list)
		spoilBytes(got.put.Bytes)
		spoilBytes(got.feature.Bytes)
		spoilBytes(got.packed.Bytes)
		spoil(got.unpacked.Features)
		if !bytes.Equal(givenData, data[:cap(data)]) || !reflect.DeepEqual(givenList, whole(list)) {
			t.Fatalf("%v %v: an answer is of its memory", data, list)
		}
		if again := askForm(number, data, f, list); !reflect.DeepEqual(again, kept) {
			t.Fatalf("%v %v: an answer hangs on another one", data, list)
		}
		want := copyOf(list)
		spoilBytes(data)
		spoil(list)
		if !reflect.DeepEqual(kept.unpacked.Features, want) || !bytes.Equal(kept.packed.Bytes, listAs(want)) || !bytes.Equal(kept.feature.Bytes, bodyAs(want[0])) {
			t.Fatalf("%v: it was spoiled with the argument", kept)
		}
	}
}

// P1, chapter 6: no two lists of one answer share memory, not even behind their
// ends.
func TestPromise1OfTheFormListsApart(t *testing.T) {
	n := numbers(83)
	for range 2000 {
		list := n.inOrder(int(n.next(2, 12)))
		got := impl.UnpackList(listAs(list)).Features
		for i := range got {
			spoil(got[i : i+1])
			if !reflect.DeepEqual(got[i+1:], list[i+1:]) {
				t.Fatalf("%v: the points of %d and of one behind", list, i)
			}
		}
		got = impl.UnpackList(listAs(list)).Features
		for i := range got {
			got[i].Points = append(got[i].Points, at(-7, int64(i)))
		}
		for i, f := range got {
			if last := len(f.Points) - 1; f.Points[last] != at(-7, int64(i)) || !slices.Equal(f.Points[:last], list[i].Points) {
				t.Fatalf("%v: what is put behind the points of %d", list, i)
			}
		}
	}
}
