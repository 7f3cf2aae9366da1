package tests

import (
	"slices"
	"testing"

	"loop.example/g00840/impl"
)

const mostInt, leastInt = int(^uint(0) >> 1), -int(^uint(0)>>1) - 1

// half is the gap between two serials of which none is before the other.
const half = impl.Numbers / 2

var noSerials = []int{-1, -2, -half, -65535, -65536, 65536, 65537, 131072, 1 << 32, -1 << 32, mostInt, leastInt}

// edgeSerials has the serials around the first, the middle and the last one.
var edgeSerials = []int{0, 1, 2, 5, 19, 20, 21, 32766, 32767, 32768, 32769, 40000, 65515, 65516, 65530, 65533, 65534, 65535}

func TestLimitsOfSerials(t *testing.T) {
	if impl.Numbers != 65536 || impl.MaxSerials != 20 {
		t.Error("limits", impl.Numbers, impl.MaxSerials)
	}
}

func TestIsSerial(t *testing.T) {
	for x := range 65536 {
		if !impl.IsSerial(x) {
			t.Fatal("not a serial", x)
		}
	}
	for _, x := range noSerials {
		if impl.IsSerial(x) {
			t.Error("a serial", x)
		}
	}
}

func TestAfterSerial(t *testing.T) {
	for _, c := range [][3]int{
		{0, 0, 0}, {0, 1, 1}, {5, 10, 15}, {65535, 0, 65535}, {65535, 1, 0}, {65535, 2, 1}, {65534, 1, 65535},
		{0, -1, 65535}, {1, -1, 0}, {1, -2, 65535}, {5, -10, 65531}, {15, -10, 5}, {65535, -65535, 0}, {0, -65535, 1}, {0, 65535, 65535}, {65535, 65535, 65534},
		{0, 65536, 0}, {0, -65536, 0}, {65535, 65536, 65535}, {65535, -65536, 65535}, {7, 65536, 7}, {7, -65536, 7},
		{0, 32768, 32768}, {32768, 32768, 0}, {0, -32768, 32768}, {32767, 32768, 65535}, {40000, 30000, 4464}, {4464, -30000, 40000},
	} {
		if x, ok := impl.AfterSerial(c[0], c[1]); !ok || x != c[2] {
			t.Errorf("AfterSerial(%d, %d) = %d, %v", c[0], c[1], x, ok)
		}
	}
}

func TestAfterSerialRefuses(t *testing.T) {
	for _, bad := range noSerials {
		for _, n := range []int{0, 1, -1, 65536, -65536} {
			if x, ok := impl.AfterSerial(bad, n); ok || x != 0 {
				t.Errorf("AfterSerial(%d, %d) = %d, %v", bad, n, x, ok)
			}
		}
	}
	for _, n := range []int{65537, -65537, 131072, -131072, 1 << 32, -1 << 32, mostInt, leastInt} {
		for _, from := range edgeSerials {
			if x, ok := impl.AfterSerial(from, n); ok || x != 0 {
				t.Errorf("AfterSerial(%d, %d) = %d, %v", from, n, x, ok)
			}
		}
	}
}

// One step after the other leads around all the numbers and back, in both directions.
func TestAfterSerialStepByStep(t *testing.T) {
	for _, from := range edgeSerials {
		forward, back := from, from
		for n := range impl.Numbers + 1 {
			if x, ok := impl.AfterSerial(from, n); !ok || x != forward {
				t.Fatal("forward", from, n, x, ok)
			}
			if x, ok := impl.AfterSerial(from, -n); !ok || x != back {
				t.Fatal("back", from, n, x, ok)
			}
			forward, back = nextNumber(forward), numberBefore(back)
		}
	}
}

func TestSerialGap(t *testing.T) {
	for _, c := range [][3]int{
		{0, 0, 0}, {5, 5, 0}, {65535, 65535, 0}, {0, 1, 1}, {1, 0, 65535}, {65535, 0, 1}, {0, 65535, 65535}, {65530, 4, 10}, {4, 65530, 65526},
		{0, 32768, 32768}, {32768, 0, 32768}, {1, 32768, 32767}, {32768, 1, 32769}, {65535, 32767, 32768}, {32767, 65535, 32768}, {100, 300, 200}, {300, 100, 65336},
	} {
		if n, ok := impl.SerialGap(c[0], c[1]); !ok || n != c[2] {
			t.Errorf("SerialGap(%d, %d) = %d, %v", c[0], c[1], n, ok)
		}
	}
	eachNoSerial(func(a, b int) {
		if n, ok := impl.SerialGap(a, b); ok || n != 0 {
			t.Errorf("SerialGap(%d, %d) = %d, %v", a, b, n, ok)
		}
	})
}

func TestSerialGapIsTheNumberOfSteps(t *testing.T) {
	for _, a := range edgeSerials {
		b := a
		for n := range impl.Numbers {
			if gap, ok := impl.SerialGap(a, b); !ok || gap != n {
				t.Fatal("gap", a, b, gap, ok)
			}
			if x, ok := impl.AfterSerial(a, n); !ok || x != b {
				t.Fatal("after", a, n, x, ok)
			}
			b = nextNumber(b)
		}
	}
}

func TestIsBefore(t *testing.T) {
	for _, c := range [][2]int{
		{0, 1}, {65535, 0}, {65534, 1}, {65530, 4}, {0, 32767}, {1, 32768}, {32768, 65535}, {32769, 0}, {65535, 32766}, {40000, 1}, {5, 6},
	} {
		if yes, ok := impl.IsBefore(c[0], c[1]); !ok || !yes {
			t.Error("before", c, yes, ok)
		}
		if yes, ok := impl.IsBefore(c[1], c[0]); !ok || yes {
			t.Error("both before", c, yes, ok)
		}
	}
	for _, c := range [][2]int{{0, 0}, {5, 5}, {65535, 65535}, {0, 32768}, {32768, 0}, {65535, 32767}, {32767, 65535}, {1, 32769}, {0, 32769}, {65535, 32768}} {
		if yes, ok := impl.IsBefore(c[0], c[1]); !ok || yes {
			t.Error("not before", c, yes, ok)
		}
	}
	eachNoSerial(func(a, b int) {
		if yes, ok := impl.IsBefore(a, b); ok || yes {
			t.Errorf("IsBefore(%d, %d) = %v, %v", a, b, yes, ok)
		}
	})
}

// Of two serials at most one is before the other, and exactly one if they are neither equal nor
// half of all numbers apart.
func TestAtMostOneIsBefore(t *testing.T) {
	for _, a := range edgeSerials {
		for n := range impl.Numbers {
			b := (a + n) % impl.Numbers
			there, ok := impl.IsBefore(a, b)
			back, fine := impl.IsBefore(b, a)
			if !ok || !fine || there && back {
				t.Fatal("both", a, b, there, back)
			}
			if there != (n > 0 && n < half) || back != (n > half) {
				t.Fatal("wrong", a, b, there, back)
			}
		}
	}
}

func TestInSpan(t *testing.T) {
	cases := []struct {
		x, from, count int
		want           bool
	}{
		{0, 0, 0, false}, {5, 5, 0, false}, {65535, 65535, 0, false}, {4, 5, 0, false},
		{0, 0, 1, true}, {5, 5, 1, true}, {65535, 65535, 1, true}, {6, 5, 1, false}, {4, 5, 1, false}, {0, 65535, 1, false},
		{65535, 65535, 4, true}, {0, 65535, 4, true}, {2, 65535, 4, true}, {3, 65535, 4, false}, {65534, 65535, 4, false},
		{14, 5, 10, true}, {15, 5, 10, false}, {32767, 0, 32768, true}, {32768, 0, 32768, false}, {32768, 0, 32769, true},
		{4, 5, 65535, false}, {3, 5, 65535, true}, {65535, 0, 65535, false}, {4, 5, 65536, true}, {5, 5, 65536, true}, {65535, 0, 65536, true}, {0, 65535, 65536, true},
	}
	for _, c := range cases {
		if in, ok := impl.InSpan(c.x, c.from, c.count); !ok || in != c.want {
			t.Errorf("InSpan(%d, %d, %d) = %v, %v", c.x, c.from, c.count, in, ok)
		}
	}
}

func TestInSpanRefuses(t *testing.T) {
	for _, count := range []int{-1, -2, -65536, 65537, 65538, 131072, mostInt, leastInt} {
		for _, x := range edgeSerials {
			if in, ok := impl.InSpan(x, x, count); ok || in {
				t.Errorf("InSpan(%d, %d, %d) = %v, %v", x, x, count, in, ok)
			}
		}
	}
	eachNoSerial(func(x, from int) {
		for _, count := range []int{0, 1, 65536} {
			if in, ok := impl.InSpan(x, from, count); ok || in {
				t.Errorf("InSpan(%d, %d, %d) = %v, %v", x, from, count, in, ok)
			}
		}
	})
}

func TestInSpanHasAsManyAsItsCount(t *testing.T) {
	for _, from := range []int{0, 1, 32768, 65535} {
		for _, count := range []int{0, 1, 2, 20, 32767, 32768, 32769, 65535, 65536} {
			x := from
			for n := range impl.Numbers {
				if in, ok := impl.InSpan(x, from, count); !ok || in != (n < count) {
					t.Fatal("span", x, from, count, in, ok)
				}
				x = nextNumber(x)
			}
		}
	}
}

func TestLaterSerial(t *testing.T) {
	for _, c := range [][3]int{
		{0, 1, 1}, {1, 0, 1}, {65530, 4, 4}, {4, 65530, 4}, {65535, 0, 0}, {0, 65535, 0}, {5, 5, 5}, {0, 0, 0}, {65535, 65535, 65535},
		{0, 32767, 32767}, {32767, 0, 32767}, {0, 32768, 0}, {32768, 0, 32768}, {65535, 32767, 65535}, {32767, 65535, 32767}, {0, 32769, 0}, {32769, 0, 0},
	} {
		if x, ok := impl.LaterSerial(c[0], c[1]); !ok || x != c[2] {
			t.Errorf("LaterSerial(%d, %d) = %d, %v", c[0], c[1], x, ok)
		}
	}
	eachNoSerial(func(a, b int) {
		if x, ok := impl.LaterSerial(a, b); ok || x != 0 {
			t.Errorf("LaterSerial(%d, %d) = %d, %v", a, b, x, ok)
		}
	})
}

func TestLaterSerialIsOneThatIsNotBefore(t *testing.T) {
	for _, a := range edgeSerials {
		for n := range impl.Numbers {
			b := (a + n) % impl.Numbers
			want := a
			if n > 0 && n < half {
				want = b
			}
			if x, ok := impl.LaterSerial(a, b); !ok || x != want {
				t.Fatal("later", a, b, x, ok)
			}
		}
	}
}

func TestSerialSpan(t *testing.T) {
	cases := []struct {
		from, to int
		want     []int
	}{
		{0, 0, nil}, {5, 5, nil}, {65535, 65535, nil}, {0, 1, []int{0}}, {65535, 0, []int{65535}}, {65534, 2, []int{65534, 65535, 0, 1}},
		{3, 7, []int{3, 4, 5, 6}}, {65532, 65535, []int{65532, 65533, 65534}}, {32767, 32769, []int{32767, 32768}},
	}
	for _, c := range cases {
		if l, ok := impl.SerialSpan(c.from, c.to); !ok || !slices.Equal(l, c.want) {
			t.Errorf("SerialSpan(%d, %d) = %v, %v", c.from, c.to, l, ok)
		}
	}
	eachNoSerial(func(from, to int) {
		if l, ok := impl.SerialSpan(from, to); ok || len(l) != 0 {
			t.Errorf("SerialSpan(%d, %d) = %v, %v", from, to, l, ok)
		}
	})
}

func TestSerialSpanOfEveryLength(t *testing.T) {
	for _, from := range edgeSerials {
		want, to := []int{}, from
		for n := range impl.Numbers {
			l, ok := impl.SerialSpan(from, to)
			if n <= 20 && (!ok || !slices.Equal(l, want)) {
				t.Fatal("span", from, to, l, ok)
			}
			if n > 20 && (ok || len(l) != 0) {
				t.Fatal("too many", from, to, l, ok)
			}
			if n < 20 {
				want = append(want, to)
			}
			to = nextNumber(to)
		}
	}
}

func TestSortSerials(t *testing.T) {
	cases := []struct {
		list []int
		from int
		want []int
	}{
		{nil, 0, nil}, {[]int{}, 65535, nil}, {[]int{7}, 9, []int{7}}, {[]int{5, 65535, 0}, 65530, []int{65535, 0, 5}},
		{[]int{5, 65535, 0}, 0, []int{0, 5, 65535}}, {[]int{5, 65535, 0}, 1, []int{5, 65535, 0}}, {[]int{5, 65535, 0}, 5, []int{5, 65535, 0}}, {[]int{5, 65535, 0}, 6, []int{65535, 0, 5}},
		{[]int{3, 1, 3, 2, 1}, 2, []int{2, 3, 3, 1, 1}}, {[]int{9, 9, 9}, 9, []int{9, 9, 9}}, {[]int{9, 9, 9}, 10, []int{9, 9, 9}},
		// The order goes on beyond half of all numbers.
		{[]int{99, 32868, 32867, 32869, 100}, 100, []int{100, 32867, 32868, 32869, 99}}, {[]int{65535, 32768, 0}, 32769, []int{65535, 0, 32768}},
	}
	for _, c := range cases {
		if l, ok := impl.SortSerials(c.list, c.from); !ok || !slices.Equal(l, c.want) {
			t.Errorf("SortSerials(%v, %d) = %v, %v", c.list, c.from, l, ok)
		}
	}
}

func TestSortSerialsAtItsLimit(t *testing.T) {
	list := []int{}
	for n := range 20 {
		list = append(list, (19-n)*3277)
	}
	want := slices.Clone(list)
	slices.Reverse(want)
	if l, ok := impl.SortSerials(list, 0); !ok || !slices.Equal(l, want) {
		t.Error("twenty", l, ok)
	}
	if l, ok := impl.SortSerials(append(list, 1), 0); ok || len(l) != 0 {
		t.Error("one too many", l, ok)
	}
	if l, ok := impl.SortSerials(make([]int, 100000), 0); ok || len(l) != 0 {
		t.Error("far too many", len(l), ok)
	}
}

func TestSortSerialsRefuses(t *testing.T) {
	for _, bad := range noSerials {
		for _, list := range [][]int{{bad}, {bad, 1, 2}, {1, bad, 2}, {1, 2, bad}} {
			if l, ok := impl.SortSerials(list, 5); ok || len(l) != 0 {
				t.Errorf("SortSerials(%v, 5) = %v, %v", list, l, ok)
			}
		}
		for _, list := range [][]int{nil, {1}, {2, 1}, make([]int, 21)} {
			if l, ok := impl.SortSerials(list, bad); ok || len(l) != 0 {
				t.Errorf("SortSerials(%v, %d) = %v, %v", list, bad, l, ok)
			}
		}
	}
}

func TestSortSerialsOfManyLists(t *testing.T) {
	eachSerials(4, func(list []int) {
		for _, from := range []int{0, 1, 32767, 32768, 65535} {
			got, ok := impl.SortSerials(list, from)
			if !ok || len(got) != len(list) {
				t.Fatal("sorted", list, from, got, ok)
			}
			want := slices.Clone(list)
			slices.SortFunc(want, func(a, b int) int { return stepsFrom(from, a) - stepsFrom(from, b) })
			if !slices.Equal(got, want) {
				t.Fatal("order", list, from, got)
			}
		}
	})
}

func TestSpanOf(t *testing.T) {
	cases := []struct {
		list        []int
		from, count int
	}{
		{[]int{0}, 0, 1}, {[]int{7}, 7, 1}, {[]int{65535}, 65535, 1}, {[]int{7, 7, 7}, 7, 1}, {[]int{65535, 65535}, 65535, 1},
		{[]int{1, 2}, 1, 2}, {[]int{2, 1}, 1, 2}, {[]int{0, 65535}, 65535, 2}, {[]int{65535, 0}, 65535, 2}, {[]int{5, 65535, 0}, 65535, 7},
		{[]int{1, 3, 2, 3}, 1, 3}, {[]int{1, 65530, 3, 65534}, 65530, 10}, {[]int{10, 40000, 20}, 40000, 25557},
		// One step less than half, half, and one step more: at half the smaller serial comes first.
		{[]int{0, 32767}, 0, 32768}, {[]int{32767, 0}, 0, 32768}, {[]int{0, 32768}, 0, 32769}, {[]int{32768, 0}, 0, 32769}, {[]int{0, 32769}, 32769, 32768}, {[]int{32769, 0}, 32769, 32768},
		{[]int{65535, 32767}, 32767, 32769}, {[]int{32767, 65535}, 32767, 32769}, {[]int{5, 32773}, 5, 32769}, {[]int{32773, 5, 5}, 5, 32769},
		// Several spans that are equally short.
		{[]int{0, 16384, 32768, 49152}, 0, 49153}, {[]int{49152, 32768, 16384, 0}, 0, 49153}, {[]int{50152, 1000, 33768, 17384}, 1000, 49153},
		{[]int{32768, 10, 32778, 0}, 0, 32779}, {[]int{10, 32778, 32768, 0}, 0, 32779}, {[]int{65535, 32767, 9, 32777}, 32767, 32779},
	}
	for _, c := range cases {
		wantFrom, wantCount := shortestSpan(c.list)
		if c.from != wantFrom || c.count != wantCount {
			t.Errorf("the case %v is wrong: %d, %d", c.list, wantFrom, wantCount)
		}
		if from, count, ok := impl.SpanOf(c.list); !ok || from != c.from || count != c.count {
			t.Errorf("SpanOf(%v) = %d, %d, %v", c.list, from, count, ok)
		}
	}
}

func TestSpanOfAtItsLimit(t *testing.T) {
	list := []int{}
	for n := range 20 {
		list = append(list, (65530+3*n)%65536)
	}
	if from, count, ok := impl.SpanOf(list); !ok || from != 65530 || count != 58 {
		t.Error("twenty", from, count, ok)
	}
	even := []int{}
	for n := range 16 {
		even = append(even, (5+(15-n)*4096)%65536)
	}
	if from, count, ok := impl.SpanOf(append(even, 5, 5, 4101, 4101)); !ok || from != 5 || count != 61441 {
		t.Error("evenly spread", from, count, ok)
	}
	for _, long := range [][]int{append(list, 65530), make([]int, 21), make([]int, 100000)} {
		if from, count, ok := impl.SpanOf(long); ok || from != 0 || count != 0 {
			t.Error("too many", len(long), from, count, ok)
		}
	}
}

func TestSpanOfRefuses(t *testing.T) {
	lists := [][]int{nil, {}}
	for _, bad := range noSerials {
		lists = append(lists, []int{bad}, []int{bad, 1, 2}, []int{1, bad, 2}, []int{1, 2, bad}, []int{bad, bad})
	}
	for _, list := range lists {
		if from, count, ok := impl.SpanOf(list); ok || from != 0 || count != 0 {
			t.Errorf("SpanOf(%v) = %d, %d, %v", list, from, count, ok)
		}
	}
}

func TestSpanOfManyLists(t *testing.T) {
	eachSerials(4, func(list []int) {
		if len(list) == 0 {
			return
		}
		wantFrom, wantCount := shortestSpan(list)
		from, count, ok := impl.SpanOf(list)
		if !ok || from != wantFrom || count != wantCount {
			t.Fatal("span", list, from, count, ok, "not", wantFrom, wantCount)
		}
		for _, x := range list {
			if in, ok := impl.InSpan(x, from, count); !ok || !in {
				t.Fatal("left out", list, x, from, count)
			}
		}
	})
}

func TestSerialsKeepTheirArguments(t *testing.T) {
	all := []int{5, 65535, 0, -1, 70000}
	kept := slices.Clone(all)
	// What lies beyond the length is no part of the list.
	list := all[:3]
	sorted, ok := impl.SortSerials(list, 65530)
	if !ok || !slices.Equal(sorted, []int{65535, 0, 5}) {
		t.Error("sorted", sorted, ok)
	}
	if from, count, ok := impl.SpanOf(list); !ok || from != 65535 || count != 7 {
		t.Error("span of", from, count, ok)
	}
	if _, ok := impl.SortSerials(all, 0); ok {
		t.Error("no serials")
	}
	if !slices.Equal(all, kept) {
		t.Error("changed", all)
	}
	sorted[0] = 9
	_ = append(sorted, 8)
	if !slices.Equal(all, kept) {
		t.Error("shared", all)
	}
	inOrder := []int{1, 2, 3}
	same, _ := impl.SortSerials(inOrder, 0)
	same[0] = 9
	if inOrder[0] != 1 {
		t.Error("shared in order", inOrder)
	}
}

func TestSerialSpanGivesNewMemory(t *testing.T) {
	first, _ := impl.SerialSpan(65534, 2)
	second, _ := impl.SerialSpan(65534, 2)
	first[0] = 9
	_ = append(first[:1], 8)
	if !slices.Equal(second, []int{65534, 65535, 0, 1}) {
		t.Error("shared", first, second)
	}
}

// eachNoSerial calls f with pairs of which at least one is no serial.
func eachNoSerial(f func(a, b int)) {
	for _, bad := range noSerials {
		for _, good := range []int{0, 1, 32768, 65535} {
			f(bad, good)
			f(good, bad)
		}
		for _, other := range noSerials {
			f(bad, other)
		}
	}
}

// eachSerials calls f with every list of at most that many of some serials, the empty one too.
func eachSerials(most int, f func(list []int)) {
	some := []int{0, 1, 16384, 32767, 32768, 32769, 49152, 65534, 65535}
	lists := [][]int{{}}
	for len(lists) > 0 {
		list := lists[0]
		lists = lists[1:]
		f(list)
		for _, x := range some {
			if len(list) < most {
				lists = append(lists, append(slices.Clone(list), x))
			}
		}
	}
}

// shortestSpan leaves out the longest way between neighbours of the sorted list; of several as
// long, that whose end is the smallest.
func shortestSpan(list []int) (int, int) {
	sorted := slices.Clone(list)
	slices.Sort(sorted)
	sorted = slices.Compact(sorted)
	from, longest := sorted[0], sorted[0]+65536-sorted[len(sorted)-1]
	for i := 1; i < len(sorted); i++ {
		if way := sorted[i] - sorted[i-1]; way > longest {
			from, longest = sorted[i], way
		}
	}
	return from, 65536 - longest + 1
}

func stepsFrom(a, b int) int {
	if b >= a {
		return b - a
	}
	return b + 65536 - a
}

func nextNumber(x int) int {
	if x == 65535 {
		return 0
	}
	return x + 1
}

func numberBefore(x int) int {
	if x == 0 {
		return 65535
	}
	return x - 1
}
