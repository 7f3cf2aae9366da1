package tests

import (
	"fmt"
	"math/bits"
	"regexp"
	"slices"
	"strconv"
	"strings"
	"testing"

	"loop.example/g00840/impl"
)

// window is how many numbers, from some number on, the tests mark by the bits of one uint64.
const window = 64

// topWindow is the number from which a window ends with the last word.
const topWindow = 65536 - window

// noSets has lists of ranges that are no sets.
var noSets = [][]impl.Range{
	{{From: 2, To: 1}}, {{From: 65535, To: 0}}, {{From: 1, To: 0}}, {{From: 65535, To: 65534}},
	{{From: -1, To: -1}}, {{From: -1, To: 0}}, {{From: -2, To: -1}}, {{From: 65535, To: 65536}}, {{From: 65536, To: 65536}}, {{From: 0, To: 65536}}, {{From: -1, To: 65536}},
	{{From: leastInt, To: leastInt}}, {{From: mostInt, To: mostInt}}, {{From: leastInt, To: mostInt}}, {{From: mostInt, To: leastInt}}, {{From: 0, To: mostInt}}, {{From: leastInt, To: 0}},
	// Ranges that touch, that overlap, and that are in another order.
	{{From: 1, To: 2}, {From: 3, To: 4}}, {{From: 1, To: 1}, {From: 2, To: 2}}, {{From: 0, To: 0}, {From: 1, To: 65535}}, {{From: 0, To: 65534}, {From: 65535, To: 65535}},
	{{From: 1, To: 3}, {From: 3, To: 5}}, {{From: 1, To: 9}, {From: 3, To: 5}}, {{From: 3, To: 5}, {From: 1, To: 9}}, {{From: 7, To: 7}, {From: 7, To: 7}}, {{From: 1, To: 2}, {From: 1, To: 4}},
	{{From: 5, To: 6}, {From: 1, To: 2}}, {{From: 5, To: 6}, {From: 3, To: 4}}, {{From: 9, To: 9}, {From: 0, To: 0}}, {{From: 65535, To: 65535}, {From: 0, To: 0}},
	// What is wrong is the first, the last, or one in the middle of several ranges.
	{{From: -1, To: 0}, {From: 3, To: 4}, {From: 6, To: 7}}, {{From: 1, To: 0}, {From: 3, To: 4}, {From: 6, To: 7}}, {{From: 0, To: 1}, {From: 4, To: 3}, {From: 6, To: 7}}, {{From: 0, To: 1}, {From: 3, To: 5}, {From: 6, To: 7}},
	{{From: 0, To: 1}, {From: 2, To: 4}, {From: 6, To: 7}}, {{From: 0, To: 1}, {From: 3, To: 4}, {From: 7, To: 6}}, {{From: 0, To: 1}, {From: 3, To: 4}, {From: 6, To: 65536}}, {{From: 0, To: 1}, {From: 6, To: 7}, {From: 3, To: 4}},
	{{From: 0, To: mostInt}, {From: 3, To: 4}}, {{From: 0, To: 1}, {From: mostInt, To: mostInt}}, {{From: 3, To: 4}, {From: leastInt, To: mostInt}}, {{From: 0, To: mostInt}, {From: leastInt, To: 1}},
	// Ranges too many.
	marked(0x155555, 0), marked(0x155555, 65515), marked(0x555555555555, 9), marked(0xdb6db6db, 7), make([]impl.Range, 2), make([]impl.Range, 10), make([]impl.Range, 11), make([]impl.Range, 100000),
}

func TestLimitsOfRanges(t *testing.T) {
	if impl.MaxRanges != 10 {
		t.Error("limit", impl.MaxRanges)
	}
}

func TestRangeSetsByHand(t *testing.T) {
	for _, c := range []struct {
		set  []impl.Range
		text string
		size int
	}{
		{nil, "none", 0}, {[]impl.Range{}, "none", 0}, {[]impl.Range{{}}, "0", 1}, {[]impl.Range{{From: 65535, To: 65535}}, "65535", 1}, {[]impl.Range{{From: 0, To: 65535}}, "0-65535", 65536},
		{[]impl.Range{{From: 3, To: 3}, {From: 7, To: 9}, {From: 12, To: 12}}, "3,7-9,12", 5}, {[]impl.Range{{From: 0, To: 1}}, "0-1", 2}, {[]impl.Range{{From: 65534, To: 65535}}, "65534-65535", 2},
		// Ranges that lie one missing number apart.
		{[]impl.Range{{From: 0, To: 0}, {From: 2, To: 2}}, "0,2", 2}, {[]impl.Range{{From: 1, To: 3}, {From: 5, To: 6}}, "1-3,5-6", 5}, {[]impl.Range{{From: 0, To: 65533}, {From: 65535, To: 65535}}, "0-65533,65535", 65535}, {[]impl.Range{{From: 0, To: 0}, {From: 2, To: 65535}}, "0,2-65535", 65535},
		{[]impl.Range{{From: 9, To: 10}, {From: 99, To: 100}, {From: 999, To: 1000}, {From: 9999, To: 10000}}, "9-10,99-100,999-1000,9999-10000", 8},
		{marked(0x55555, 0), "0,2,4,6,8,10,12,14,16,18", 10}, {marked(0x55555, 65517), "65517,65519,65521,65523,65525,65527,65529,65531,65533,65535", 10}, {marked(0x1b6db6db, 0), "0-1,3-4,6-7,9-10,12-13,15-16,18-19,21-22,24-25,27-28", 20},
	} {
		recoverSet(t, c.set)
		if s, ok := impl.SetText(c.set); !ok || s != c.text {
			t.Errorf("SetText(%v) = %q, %v, not %q", c.set, s, ok, c.text)
		}
		if n, ok := impl.SetSize(c.set); !ok || n != c.size {
			t.Errorf("SetSize(%v) = %d, %v", c.set, n, ok)
		}
	}
}

// Sets are recovered from their texts.
func TestEverySetOfSomeNumbers(t *testing.T) {
	for _, base := range []int{0, 4, 95, 9994, topWindow} {
		for _, shift := range []int{0, 50} {
			for marks := range uint64(1 << 14) {
				set := marked(marks<<shift, base)
				recoverSet(t, set)
				if n, ok := impl.SetSize(set); !ok || n != bits.OnesCount64(marks) {
					t.Fatal("size", set, n, ok)
				}
			}
		}
	}
}

func TestHasNumber(t *testing.T) {
	for _, base := range []int{0, 500, topWindow} {
		for _, marks := range somePatterns() {
			set := marked(marks, base)
			for x := range 65536 {
				if x > base+2*window && x%1000 != 0 && x < topWindow {
					continue
				}
				yes, ok := impl.HasNumber(set, x)
				if !ok || yes != isMarked(marks, base, x) {
					t.Fatal("has", set, x, yes, ok)
				}
			}
		}
	}
}

func TestNextMissing(t *testing.T) {
	for _, base := range []int{0, 500, topWindow} {
		for _, marks := range somePatterns() {
			set := marked(marks, base)
			for from := range 65536 {
				if from > base+2*window && from%1000 != 0 && from < topWindow {
					continue
				}
				want := from
				for isMarked(marks, base, want) {
					want++
				}
				n, ok := impl.NextMissing(set, from)
				if want < 65536 && (!ok || n != want) || want == 65536 && (ok || n != 0) {
					t.Fatal("missing", set, from, n, ok, "not", want)
				}
			}
		}
	}
}

func TestNextMissingByHand(t *testing.T) {
	all, last, first := ranges(0, 65535), ranges(9, 65535), ranges(0, 65534)
	for _, c := range []struct {
		set        []impl.Range
		from, want int
		ok         bool
	}{
		{nil, 0, 0, true}, {nil, 65535, 65535, true}, {nil, 77, 77, true}, {all, 0, 0, false}, {all, 77, 0, false}, {all, 65535, 0, false},
		{last, 0, 0, true}, {last, 8, 8, true}, {last, 9, 0, false}, {last, 65535, 0, false}, {first, 0, 65535, true}, {first, 65534, 65535, true}, {first, 65535, 65535, true},
		{ranges(65535, 65535), 65535, 0, false}, {ranges(65535, 65535), 65534, 65534, true}, {ranges(0, 0), 0, 1, true}, {ranges(1, 2, 4, 5), 0, 0, true}, {ranges(1, 2, 4, 5), 1, 3, true}, {ranges(1, 2, 4, 5), 4, 6, true},
		{ranges(0, 9, 11, 65535), 0, 10, true}, {ranges(0, 9, 11, 65535), 10, 10, true}, {ranges(0, 9, 11, 65535), 11, 0, false},
	} {
		if n, ok := impl.NextMissing(c.set, c.from); ok != c.ok || n != c.want {
			t.Errorf("NextMissing(%v, %d) = %d, %v", c.set, c.from, n, ok)
		}
	}
}

// The sizes of the union and of the common numbers add up.
func TestEveryTwoSetsOfSomeNumbers(t *testing.T) {
	for _, base := range []int{0, 1000, topWindow} {
		for a := range uint64(1 << 8) {
			for b := range uint64(1 << 8) {
				combine(t, a<<56, b<<56, base)
				combine(t, a<<3, b, base)
			}
		}
	}
}

// All results of at most MaxRanges ranges are given, and those of more are not.
func TestTwoSetsOfManyRanges(t *testing.T) {
	exact, over := 0, 0
	for _, base := range []int{0, 1000, topWindow} {
		for _, a := range somePatterns() {
			for _, b := range somePatterns() {
				combine(t, a, b, base)
				for _, result := range []uint64{a | b, a & b, a &^ b} {
					switch len(marked(result, base)) {
					case 10:
						exact++
					case 11:
						over++
					}
				}
			}
		}
	}
	if exact < 1000 || over < 100 {
		t.Error("few results at the limit", exact, over)
	}
}

func TestSetsAtTheLimitByHand(t *testing.T) {
	ten := ranges(0, 0, 2, 2, 4, 4, 6, 6, 8, 8, 10, 10, 12, 12, 14, 14, 16, 16, 18, 18)
	nine, wide := ten[:9], ranges(0, 100)
	if s, ok := impl.UnionOf(nine, ranges(18, 18)); !ok || !slices.Equal(s, ten) {
		t.Error("ten", s, ok)
	}
	if s, ok := impl.UnionOf(ten, ranges(20, 20)); ok || len(s) != 0 {
		t.Error("one more behind", s, ok)
	}
	if s, ok := impl.UnionOf(ten, ranges(1, 1, 20, 20)); !ok || len(s) != 10 || s[0] != (impl.Range{From: 0, To: 2}) || s[9] != (impl.Range{From: 20, To: 20}) {
		t.Error("two became one, and one more", s, ok)
	}
	if s, ok := impl.AddRange(ten, 19, 65535); !ok || len(s) != 10 || s[9] != (impl.Range{From: 18, To: 65535}) {
		t.Error("one that touches", s, ok)
	}
	if s, ok := impl.AddRange(ten, 20, 65535); ok || len(s) != 0 {
		t.Error("one added", s, ok)
	}
	if s, ok := impl.AddRange(ten, 0, 65535); !ok || !slices.Equal(s, ranges(0, 65535)) {
		t.Error("all added", s, ok)
	}
	if s, ok := impl.RemoveRange(ranges(0, 0, 2, 2, 4, 4, 6, 6, 8, 8, 10, 10, 12, 12, 14, 14, 16, 18), 17, 17); !ok || !slices.Equal(s, ten) {
		t.Error("parted", s, ok)
	}
	if s, ok := impl.RemoveRange(append(slices.Clone(nine), impl.Range{From: 18, To: 20}), 19, 19); ok || len(s) != 0 {
		t.Error("one more by parting", s, ok)
	}
	if s, ok := impl.WithoutOf(wide, ten); !ok || len(s) != 10 || s[9] != (impl.Range{From: 19, To: 100}) {
		t.Error("without the first", s, ok)
	}
	if s, ok := impl.WithoutOf(wide, append(ranges(1, 1, 3, 3), ten[2:]...)); ok || len(s) != 0 {
		t.Error("without touching ranges", s, ok)
	}
	later := ranges(1, 1, 3, 3, 5, 5, 7, 7, 9, 9, 11, 11, 13, 13, 15, 15, 17, 17, 19, 19)
	if s, ok := impl.WithoutOf(wide, later); ok || len(s) != 0 {
		t.Error("eleven are left", s, ok)
	}
	if s, ok := impl.CommonOf(ranges(0, 1, 3, 100), ranges(0, 0, 4, 4, 6, 6, 8, 8, 10, 10, 12, 12, 14, 14, 16, 16, 18, 18, 20, 20)); !ok || len(s) != 10 {
		t.Error("ten in common", s, ok)
	}
	if s, ok := impl.CommonOf(ranges(0, 1, 3, 100), ranges(1, 3, 5, 5, 7, 7, 9, 9, 11, 11, 13, 13, 15, 15, 17, 17, 19, 19, 21, 21)); ok || len(s) != 0 {
		t.Error("eleven in common", s, ok)
	}
}

func TestAddAndRemoveEveryRange(t *testing.T) {
	for _, base := range []int{0, topWindow} {
		for _, marks := range somePatterns() {
			set := marked(marks, base)
			for from := range window {
				for to := from; to < window; to++ {
					part := spanOfMarks(from, to)
					added, ok := impl.AddRange(set, base+from, base+to)
					expectSet(t, added, ok, marks|part, base)
					left, ok := impl.RemoveRange(set, base+from, base+to)
					expectSet(t, left, ok, marks&^part, base)
				}
			}
		}
	}
}

func TestNumbersAndRangesThatAreNone(t *testing.T) {
	for _, set := range [][]impl.Range{nil, ranges(0, 0), ranges(0, 65535), ranges(3, 3, 7, 9, 12, 12), ranges(65535, 65535), marked(0x55555, 0)} {
		for _, bad := range noWords {
			if yes, ok := impl.HasNumber(set, bad); yes || ok {
				t.Error("has", set, bad, yes, ok)
			}
			if n, ok := impl.NextMissing(set, bad); n != 0 || ok {
				t.Error("missing", set, bad, n, ok)
			}
			for _, good := range []int{0, 1, 7, 65534, 65535, bad} {
				refuseRange(t, set, bad, good)
				refuseRange(t, set, good, bad)
			}
		}
		for _, c := range [][2]int{{1, 0}, {2, 1}, {9, 7}, {8, 7}, {65535, 65534}, {65535, 0}, {2, 0}} {
			refuseRange(t, set, c[0], c[1])
		}
	}
}

func TestListsThatAreNoSets(t *testing.T) {
	for _, bad := range noSets {
		if impl.IsRangeSet(bad) {
			t.Error("a set", brief(bad))
		}
		yes, has := impl.HasNumber(bad, 1)
		size, sized := impl.SetSize(bad)
		next, found := impl.NextMissing(bad, 1)
		text, written := impl.SetText(bad)
		if yes || has || size != 0 || sized || next != 0 || found || text != "" || written {
			t.Error("taken", brief(bad), yes, has, size, sized, next, found, text, written)
		}
		for _, c := range [][2]int{{0, 65535}, {1, 2}, {5, 5}, {2, 1}, {-1, 0}} {
			refuseRange(t, bad, c[0], c[1])
		}
		for _, good := range [][]impl.Range{nil, ranges(0, 65535), ranges(3, 3, 7, 9), bad} {
			refuseSets(t, bad, good)
			refuseSets(t, good, bad)
		}
	}
}

func TestTextsThatAreNoSets(t *testing.T) {
	for _, s := range []string{
		"", " ", ",", "-", "none,none", "none,3", "3,none", "None", "NONE", "none ", " none", "non", "nonee", "0-none", "none-0", "0,", ",0", "3,", "3,,5", ",,", "3-", "-3", "3--4", "-3-4", "3-4-", "3-4-5",
		"3-3", "0-0", "65535-65535", "7-6", "1-0", "3,4", "3-4,5", "3,4-5", "3-4,5-6", "3,3", "3-5,5-7", "3-9,5-7", "5,3", "5-6,1-2", "12,7-9,3", "9,10", "99,100",
		"03", "00", "0-01", "00-1", "01-2", "1-02", "3,05", "+3", "-0", "3-+4", "3 ", " 3", "3, 5", "3 ,5", "3 -4", "3- 4", "3;5", "3.5", "3..5", "3_0", "0x3", "3e0", "a", "3a", "a3", "3\n", "3\x00", "\u0663",
		"65536", "0-65536", "65535-65536", "65536-65537", "999999", "1000000", "1000000-1000001", "9223372036854775807", "9223372036854775808", "18446744073709551616", "0-9223372036854775807", "0-99999999999999999999", "99999999999999999999",
		"0,2,4,6,8,10,12,14,16,18,20", "0-1,3-4,6-7,9-10,12-13,15-16,18-19,21-22,24-25,27-28,30-31", strings.Repeat(",", 100000), strings.Repeat("1", 100000), strings.Repeat("0,", 5000), strings.Repeat("-", 4001), strings.Repeat("none", 1001),
	} {
		if set, ok := impl.ParseSet(s); ok || len(set) != 0 {
			t.Errorf("ParseSet(%.60q) = %v, %v", s, set, ok)
		}
	}
}

func TestEveryShortText(t *testing.T) {
	sets := 0
	check := func(s string) {
		if parseAsWritten(t, s) {
			sets++
		}
	}
	eachText("0139,-", 7, check)
	eachText("noe,1", 5, check)
	if sets < 1000 {
		t.Error("few sets", sets)
	}
}

func TestEveryChangedByteOfATextOfASet(t *testing.T) {
	for _, s := range []string{"none", "0", "3,7-9,12", "0-65535", "0-65533,65535", "9-10,99-100,999-1000,9999-10000", "0,2,4,6,8,10,12,14,16,18", "65517-65518,65520"} {
		for at := range len(s) {
			parseAsWritten(t, s[:at]+s[at+1:])
			for b := range 256 {
				parseAsWritten(t, s[:at]+string([]byte{byte(b)})+s[at+1:])
				parseAsWritten(t, s[:at]+string([]byte{byte(b)})+s[at:])
			}
		}
		for b := range 256 {
			parseAsWritten(t, s+string([]byte{byte(b)}))
		}
	}
}

// What is beyond the length of a list is no part of it, and stays as it is.
func TestSetsKeepTheirArguments(t *testing.T) {
	all := append(ranges(1, 2, 4, 4, 8, 9, 20, 30), impl.Range{From: -5, To: -7}, impl.Range{From: 0, To: 1})
	kept := slices.Clone(all)
	for n := range 5 {
		for m := range 5 {
			a, b := all[:n], all[:m]
			union, one := impl.UnionOf(a, b)
			common, two := impl.CommonOf(a, b)
			left, three := impl.WithoutOf(a, b)
			added, four := impl.AddRange(a, 3, 40)
			cut, five := impl.RemoveRange(a, 9, 40)
			if !one || !two || !three || !four || !five || !slices.Equal(union, kept[:max(n, m)]) || !slices.Equal(common, kept[:min(n, m)]) || !slices.Equal(left, kept[min(n, m):n]) {
				t.Fatal("sets", a, b, union, common, left)
			}
			for _, result := range [][]impl.Range{union, common, left, added, cut} {
				// Other results and the arguments must not change with one result.
				others := fmt.Sprint(union, common, left, added, cut)
				saved := slices.Clone(result)
				for i := range result {
					result[i] = impl.Range{From: 77, To: 78}
				}
				_ = append(result[:0], impl.Range{From: 79, To: 80})
				copy(result, saved)
				if fmt.Sprint(union, common, left, added, cut) != others || !slices.Equal(all, kept) {
					t.Fatal("shared", a, b)
				}
			}
		}
	}
	if impl.IsRangeSet(all) || !slices.Equal(all, kept) {
		t.Error("all", all)
	}
}

func TestSetsGiveNewMemory(t *testing.T) {
	a, b := ranges(3, 3, 7, 9), ranges(11, 12)
	for name, f := range map[string]func() ([]impl.Range, bool){
		"union of nothing": func() ([]impl.Range, bool) { return impl.UnionOf(a, nil) },
		"union with all":   func() ([]impl.Range, bool) { return impl.UnionOf(nil, a) },
		"union":            func() ([]impl.Range, bool) { return impl.UnionOf(a, b) },
		"common":           func() ([]impl.Range, bool) { return impl.CommonOf(a, a) },
		"without nothing":  func() ([]impl.Range, bool) { return impl.WithoutOf(a, nil) },
		"added":            func() ([]impl.Range, bool) { return impl.AddRange(a, 3, 3) },
		"removed":          func() ([]impl.Range, bool) { return impl.RemoveRange(a, 4, 5) },
		"parsed":           func() ([]impl.Range, bool) { return impl.ParseSet("3,7-9") },
	} {
		first, ok := f()
		second, _ := f()
		want := slices.Clone(second)
		for i := range first {
			first[i] = impl.Range{From: 77, To: 78}
		}
		if !ok || !slices.Equal(second, want) || !slices.Equal(a, ranges(3, 3, 7, 9)) || !slices.Equal(b, ranges(11, 12)) {
			t.Error(name, first, second, a, b)
		}
	}
}

// recoverSet tells if a set is none, or is not recovered from its text.
func recoverSet(t *testing.T, set []impl.Range) {
	t.Helper()
	text, ok := impl.SetText(set)
	if !impl.IsRangeSet(set) || !ok || text != textOfSet(set) {
		t.Fatal("no text", set, text, ok)
	}
	if back, ok := impl.ParseSet(text); !ok || !slices.Equal(back, set) {
		t.Fatal("not recovered", set, text, back, ok)
	}
}

// combine tells if the functions of two sets give other numbers than the marks.
func combine(t *testing.T, a, b uint64, base int) {
	t.Helper()
	one, other := marked(a, base), marked(b, base)
	union, united := impl.UnionOf(one, other)
	expectSet(t, union, united, a|b, base)
	common, met := impl.CommonOf(one, other)
	expectSet(t, common, met, a&b, base)
	left, ok := impl.WithoutOf(one, other)
	expectSet(t, left, ok, a&^b, base)
	if !united || !met {
		return
	}
	sizes := 0
	for _, set := range [][]impl.Range{one, other} {
		n, _ := impl.SetSize(set)
		sizes += n
	}
	for _, set := range [][]impl.Range{union, common} {
		n, _ := impl.SetSize(set)
		sizes -= n
	}
	if sizes != 0 {
		t.Fatal("sizes", one, other, union, common)
	}
}

// expectSet tells if a result does not have the marked numbers, or has too many ranges.
func expectSet(t *testing.T, set []impl.Range, ok bool, marks uint64, base int) {
	t.Helper()
	want := marked(marks, base)
	if len(want) > 10 {
		want = nil
		if ok {
			t.Fatal("too many ranges", set)
		}
	} else if !ok {
		t.Fatal("no set", want)
	}
	if !slices.Equal(set, want) {
		t.Fatal("result", set, "not", want)
	}
}

func refuseRange(t *testing.T, set []impl.Range, from, to int) {
	t.Helper()
	if s, ok := impl.AddRange(set, from, to); ok || len(s) != 0 {
		t.Error("added", brief(set), from, to, s)
	}
	if s, ok := impl.RemoveRange(set, from, to); ok || len(s) != 0 {
		t.Error("removed", brief(set), from, to, s)
	}
}

func refuseSets(t *testing.T, a, b []impl.Range) {
	t.Helper()
	for _, f := range []func(a, b []impl.Range) ([]impl.Range, bool){impl.UnionOf, impl.CommonOf, impl.WithoutOf} {
		if s, ok := f(a, b); ok || len(s) != 0 {
			t.Error("taken", brief(a), brief(b), s)
		}
	}
}

var setPattern = regexp.MustCompile(`^(0|[1-9][0-9]{0,4})(-[1-9][0-9]{0,4})?(,[1-9][0-9]{0,4}(-[1-9][0-9]{0,4})?)*$`)

// parseAsWritten reports whether a text is that of a set, and tells if ParseSet says something else.
func parseAsWritten(t *testing.T, s string) bool {
	t.Helper()
	want, isSet := setOfText(s)
	set, ok := impl.ParseSet(s)
	if ok != isSet || !slices.Equal(set, want) {
		t.Fatalf("ParseSet(%q) = %v, %v, not %v, %v", s, set, ok, want, isSet)
	}
	return isSet
}

// setOfText follows the rules of the texts one after the other: how numbers are written, that a range has at least two
// numbers if both ends are written, and that at least one number is missing in between.
func setOfText(s string) ([]impl.Range, bool) {
	if s == "none" {
		return nil, true
	}
	if !setPattern.MatchString(s) || strings.Count(s, ",") > 9 {
		return nil, false
	}
	set, least := []impl.Range{}, 0
	for _, part := range strings.Split(s, ",") {
		ends := strings.Split(part, "-")
		from, _ := strconv.Atoi(ends[0])
		to, _ := strconv.Atoi(ends[len(ends)-1])
		if from < least || to > 65535 || from > to || len(ends) == 2 && from == to {
			return nil, false
		}
		set, least = append(set, impl.Range{From: from, To: to}), to+2
	}
	return set, true
}

func textOfSet(set []impl.Range) string {
	text := ""
	for _, r := range set {
		if r.From == r.To {
			text += fmt.Sprintf(",%d", r.From)
		} else {
			text += fmt.Sprintf(",%d-%d", r.From, r.To)
		}
	}
	if text == "" {
		return "none"
	}
	return text[1:]
}

// ranges makes a list of the numbers, two for each range.
func ranges(ends ...int) []impl.Range {
	list := []impl.Range{}
	for i := 0; i < len(ends); i += 2 {
		list = append(list, impl.Range{From: ends[i], To: ends[i+1]})
	}
	return list
}

// marked gives the list of the numbers whose marks are set, from base on.
func marked(marks uint64, base int) []impl.Range {
	list := []impl.Range{}
	for marks != 0 {
		skipped := bits.TrailingZeros64(marks)
		base, marks = base+skipped, marks>>skipped
		size := bits.TrailingZeros64(^marks)
		list = append(list, impl.Range{From: base, To: base + size - 1})
		base, marks = base+size, marks>>size
	}
	return list
}

func isMarked(marks uint64, base, x int) bool {
	return x >= base && x < base+window && marks>>(x-base)&1 == 1
}

func spanOfMarks(from, to int) uint64 {
	marks := uint64(0)
	for i := from; i <= to; i++ {
		marks |= 1 << i
	}
	return marks
}

// somePatterns has marks of no number, of one, of all, and of up to ten ranges, most of them of nine and ten.
func somePatterns() []uint64 {
	patterns := []uint64{0, 1, 1 << 63, 1<<63 | 1, 1<<64 - 1, 1<<63 - 1, 1<<64 - 2, 1<<32 - 1, 1<<64 - 1<<32, 0xf0}
	for _, p := range []uint64{0x55555, 0x5555500000, 0x2aaaa, 0xaaaaa << 44, 0x1b6db6db, 0x7fff5555f, 0x77777777 << 20, 0x3333333333 << 8, 0x9249249, 0x6db6d << 3, 0x0f0f0f0f0f0f0f0f, 0x1f3f5f7f9f} {
		patterns = append(patterns, p, p<<1, p|1<<63)
	}
	return slices.DeleteFunc(patterns, func(p uint64) bool { return len(marked(p, 0)) > 10 })
}

func brief(list []impl.Range) []impl.Range { return list[:min(len(list), 12)] }
