package tests

import (
	"slices"
	"strings"
	"testing"

	"loop.example/g00840/impl"
)

var noWords = []int{-1, -2, -255, -65535, -65536, 65536, 65537, 131070, 131071, 1 << 32, -1 << 32, mostInt, leastInt}

// edgeWords has the words around the ends of both bytes.
var edgeWords = []int{0, 1, 2, 255, 256, 257, 32767, 32768, 32769, 65279, 65280, 65281, 65533, 65534, 65535}

func TestLimitsOfWords(t *testing.T) {
	if impl.MaxWord != 65535 || impl.MaxWords != 40 {
		t.Error("limits", impl.MaxWord, impl.MaxWords)
	}
}

func TestAddWords(t *testing.T) {
	for _, c := range [][3]int{
		{0, 0, 0}, {0, 1, 1}, {1, 2, 3}, {0, 65535, 65535}, {65535, 0, 65535}, {65535, 1, 1}, {65535, 2, 2}, {65535, 65534, 65534}, {65535, 65535, 65535},
		{1, 65534, 65535}, {2, 65534, 1}, {65534, 65534, 65533}, {32767, 32768, 65535}, {32768, 32768, 1}, {32767, 32767, 65534}, {40000, 30000, 4465}, {40000, 25535, 65535}, {40000, 25536, 1},
	} {
		if n, ok := impl.AddWords(c[0], c[1]); !ok || n != c[2] {
			t.Errorf("AddWords(%d, %d) = %d, %v", c[0], c[1], n, ok)
		}
	}
	for _, a := range edgeWords {
		for b := range 65536 {
			one, ok := impl.AddWords(a, b)
			other, fine := impl.AddWords(b, a)
			if want := wordTotal(a, b); !ok || !fine || one != want || other != want {
				t.Fatal("added", a, b, one, ok, other, fine)
			}
		}
	}
}

func TestAddWordsRefuses(t *testing.T) {
	for _, bad := range noWords {
		for _, x := range append(slices.Clone(noWords), edgeWords...) {
			if n, ok := impl.AddWords(bad, x); ok || n != 0 {
				t.Errorf("AddWords(%d, %d) = %d, %v", bad, x, n, ok)
			}
			if n, ok := impl.AddWords(x, bad); ok || n != 0 {
				t.Errorf("AddWords(%d, %d) = %d, %v", x, bad, n, ok)
			}
		}
	}
}

func TestSumAndCheckOfWords(t *testing.T) {
	cases := []struct {
		list       []int
		sum, check int
	}{
		{nil, 0, 65535}, {[]int{}, 0, 65535}, {[]int{0}, 0, 65535}, {[]int{0, 0, 0}, 0, 65535}, {[]int{1}, 1, 65534}, {[]int{1, 2}, 3, 65532}, {[]int{65534}, 65534, 1},
		// A sum that reaches MaxWord stays there, and is not 0.
		{[]int{65535}, 65535, 0}, {[]int{65534, 1}, 65535, 0}, {[]int{1, 65534, 0}, 65535, 0}, {[]int{65535, 0}, 65535, 0}, {[]int{65535, 65535}, 65535, 0}, {[]int{32767, 32768}, 65535, 0}, {[]int{65535, 65534, 1}, 65535, 0},
		{[]int{65535, 1}, 1, 65534}, {[]int{1, 2, 65535}, 3, 65532}, {[]int{65535, 65535, 65535, 7}, 7, 65528}, {[]int{65534, 2}, 1, 65534}, {[]int{65534, 65534, 65534}, 65532, 3},
		{[]int{0x0001, 0xf203, 0xf4f5, 0xf6f7}, 0xddf2, 0x220d},
	}
	for _, c := range cases {
		if n, ok := impl.WordSum(c.list); !ok || n != c.sum {
			t.Errorf("WordSum(%v) = %d, %v", c.list, n, ok)
		}
		if n, ok := impl.WordCheck(c.list); !ok || n != c.check {
			t.Errorf("WordCheck(%v) = %d, %v", c.list, n, ok)
		}
		if yes, ok := impl.IsSoundList(c.list); !ok || yes != (c.sum == 65535) {
			t.Errorf("IsSoundList(%v) = %v, %v", c.list, yes, ok)
		}
	}
}

func TestSealWords(t *testing.T) {
	for _, c := range [][]int{
		{65535}, {0, 65535}, {65535, 0}, {1, 65534}, {65534, 1}, {1, 2, 65532}, {65534, 1, 0}, {65535, 65535, 0}, {65535, 1, 65534}, {0, 0, 0, 65535}, {1, 2, 3, 0xddf2, 8711},
	} {
		list := c[:len(c)-1]
		if l, ok := impl.SealWords(slices.Clone(list)); !ok || !slices.Equal(l, c) {
			t.Errorf("SealWords(%v) = %v, %v", list, l, ok)
		}
	}
	if l, ok := impl.SealWords(nil); !ok || !slices.Equal(l, []int{65535}) {
		t.Error("nothing sealed", l, ok)
	}
}

func TestListsOfWordsAtTheirLimit(t *testing.T) {
	for _, x := range []int{0, 1, 1639, 65534, 65535} {
		list := []int{}
		for n := range 45 {
			sum, summed := impl.WordSum(list)
			check, checked := impl.WordCheck(list)
			sound, judged := impl.IsSoundList(list)
			want := wordTotal(list...)
			if n <= 40 && (!summed || !checked || !judged || sum != want || check != 65535-want || sound != (want == 65535)) {
				t.Error("words", x, n, sum, check, sound)
			}
			if n > 40 && (summed || checked || judged || sum != 0 || check != 0 || sound) {
				t.Error("too many", x, n, sum, check, sound)
			}
			sealed, ok := impl.SealWords(list)
			if n < 40 && (!ok || len(sealed) != n+1 || !slices.Equal(sealed[:n], list) || sealed[n] != 65535-want) {
				t.Error("sealed", x, n, sealed, ok)
			}
			if n >= 40 && (ok || len(sealed) != 0) {
				t.Error("no room", x, n, sealed, ok)
			}
			list = append(list, x)
		}
	}
	refuseList(t, make([]int, 100000))
}

func TestListsOfNoWords(t *testing.T) {
	for _, bad := range noWords {
		for _, list := range [][]int{{bad}, {bad, 1, 2}, {1, bad, 2}, {1, 2, bad}, {bad, -bad}, {bad, bad}, {65535 - bad, bad}} {
			refuseList(t, list)
		}
		long := make([]int, 40)
		long[39] = bad
		refuseList(t, long)
	}
}

// A sealed list is sound, and the order of words does not matter.
func TestSealedListsAreSound(t *testing.T) {
	eachWords(4, func(list []int) {
		want := wordTotal(list...)
		sealed, ok := impl.SealWords(list)
		if !ok || len(sealed) != len(list)+1 || !slices.Equal(sealed[:len(list)], list) || sealed[len(list)] != 65535-want {
			t.Fatal("sealed", list, sealed, ok)
		}
		for range sealed {
			sealed = append(sealed[1:], sealed[0])
			if sound, ok := impl.IsSoundList(sealed); !ok || !sound {
				t.Fatal("not sound", sealed, ok)
			}
		}
		slices.Reverse(sealed)
		if sound, ok := impl.IsSoundList(sealed); !ok || !sound {
			t.Fatal("not sound from behind", sealed, ok)
		}
	})
}

func TestOrderOfWords(t *testing.T) {
	eachOrder([]int{65535, 1, 40000, 65534, 30000, 0}, func(list []int) {
		sum, ok := impl.WordSum(list)
		check, fine := impl.WordCheck(list)
		if !ok || !fine || sum != 4465 || check != 61070 {
			t.Fatal("order", list, sum, check)
		}
	})
	eachOrder([]int{65535, 1, 0, 65534, 2, 65533}, func(list []int) {
		if sound, ok := impl.IsSoundList(list); !ok || !sound {
			t.Fatal("order", list, sound, ok)
		}
	})
}

// A changed word is noticed, but for one of 0 and MaxWord in place of the other.
func TestChangedWordOfASealedList(t *testing.T) {
	sealed, _ := impl.SealWords([]int{0, 65535, 300, 40000})
	for at, old := range sealed {
		for now := range 65536 {
			changed := slices.Clone(sealed)
			changed[at] = now
			if sound, ok := impl.IsSoundList(changed); !ok || sound != (now%65535 == old%65535) {
				t.Fatal("changed", at, now, sound, ok)
			}
		}
	}
	if sound, ok := impl.IsSoundList(make([]int, 40)); !ok || sound {
		t.Error("only zeros", sound, ok)
	}
}

func TestUpdateCheck(t *testing.T) {
	for _, c := range [][4]int{
		{65532, 2, 5, 65529}, {65532, 5, 2, 0}, {65532, 2, 2, 65532}, {65532, 1, 0, 65533}, {65532, 2, 65535, 65534}, {100, 40000, 30000, 10100}, {100, 30000, 40000, 55635},
		// The list of one word: from 0 to 0, from MaxWord to 0, and others from and to a check at the end.
		{65535, 0, 0, 0}, {0, 65535, 0, 0}, {65535, 0, 65535, 0}, {0, 65535, 65535, 0}, {65535, 0, 1, 65534}, {0, 65535, 1, 65534}, {65534, 1, 0, 0}, {65534, 1, 65535, 0}, {1, 65534, 65535, 0}, {0, 65534, 65533, 1},
		{65535, 65535, 0, 65535}, {65535, 65535, 1, 65534}, {65535, 65535, 65535, 0}, {0, 0, 0, 0}, {0, 0, 65535, 0}, {0, 0, 1, 65534}, {65535, 1, 0, 1}, {65535, 1, 1, 0},
	} {
		if n, ok := impl.UpdateCheck(c[0], c[1], c[2]); !ok || n != c[3] {
			t.Errorf("UpdateCheck(%d, %d, %d) = %d, %v", c[0], c[1], c[2], n, ok)
		}
	}
	for _, check := range edgeWords {
		for _, old := range edgeWords {
			for _, now := range edgeWords {
				want := 65535 - wordTotal(65535-check, 65535-old, now)
				if n, ok := impl.UpdateCheck(check, old, now); !ok || n != want {
					t.Errorf("UpdateCheck(%d, %d, %d) = %d, %v", check, old, now, n, ok)
				}
			}
		}
	}
}

func TestUpdateCheckAgreesWithTheList(t *testing.T) {
	eachWords(3, func(list []int) {
		check, _ := impl.WordCheck(list)
		for at, old := range list {
			for _, now := range edgeWords {
				changed := slices.Clone(list)
				changed[at] = now
				want, _ := impl.WordCheck(changed)
				n, ok := impl.UpdateCheck(check, old, now)
				if !ok || n != want && (n%65535 != 0 || want%65535 != 0) {
					t.Fatal("updated", list, at, now, n, ok, "not", want)
				}
			}
		}
	})
}

func TestUpdateCheckRefuses(t *testing.T) {
	for _, bad := range noWords {
		for _, good := range edgeWords {
			for _, c := range [][3]int{{bad, good, good}, {good, bad, good}, {good, good, bad}, {bad, bad, good}, {good, bad, bad}, {bad, good, bad}, {bad, bad, bad}} {
				if n, ok := impl.UpdateCheck(c[0], c[1], c[2]); ok || n != 0 {
					t.Errorf("UpdateCheck(%d, %d, %d) = %d, %v", c[0], c[1], c[2], n, ok)
				}
			}
		}
	}
}

func TestSwapWord(t *testing.T) {
	for _, c := range [][2]int{{0, 0}, {1, 256}, {255, 65280}, {256, 1}, {257, 257}, {4660, 13330}, {32768, 128}, {65280, 255}, {65534, 65279}, {65535, 65535}} {
		if n, ok := impl.SwapWord(c[0]); !ok || n != c[1] {
			t.Errorf("SwapWord(%d) = %d, %v", c[0], n, ok)
		}
	}
	for x := range 65536 {
		n, ok := impl.SwapWord(x)
		back, fine := impl.SwapWord(n)
		if !ok || !fine || n != x%256*256+x/256 || back != x {
			t.Fatal("swapped", x, n, ok, back, fine)
		}
	}
	for _, bad := range noWords {
		if n, ok := impl.SwapWord(bad); ok || n != 0 {
			t.Errorf("SwapWord(%d) = %d, %v", bad, n, ok)
		}
	}
}

func TestWordsOf(t *testing.T) {
	cases := map[string][]int{
		"": nil, "a": {24832}, "ab": {24930}, "ba": {25185}, "abc": {24930, 25344}, "abcd": {24930, 25444}, "\x00": {0}, "\x00\x00": {0}, "\x00\x00\x00": {0, 0},
		"\x00\x01": {1}, "\x01": {256}, "\x01\x00": {256}, "\xff": {65280}, "\xff\xff": {65535}, "\xff\xff\xff": {65535, 65280}, "\u00e4": {0xc3a4}, "a\u00e4": {0x61c3, 0xa400}, "\u20ac": {0xe282, 0xac00},
	}
	for s, want := range cases {
		if l, ok := impl.WordsOf(s); !ok || !slices.Equal(l, want) {
			t.Errorf("WordsOf(%q) = %v, %v", s, l, ok)
		}
	}
	for x := range 65536 {
		s := string([]byte{byte(x / 256), byte(x % 256)})
		if l, ok := impl.WordsOf(s); !ok || !slices.Equal(l, []int{x}) {
			t.Fatal("two bytes", x, l, ok)
		}
		if l, ok := impl.WordsOf("ab" + s + "\xfe"); !ok || !slices.Equal(l, []int{24930, x, 0xfe00}) {
			t.Fatal("in the middle", x, l, ok)
		}
	}
}

func TestWordsOfEveryLength(t *testing.T) {
	text := ""
	for n := range 100 {
		l, ok := impl.WordsOf(text)
		sum, fine := impl.TextSum(text, "")
		if n <= 80 && (!ok || !fine || !slices.Equal(l, pairsOf(text)) || sum != wordTotal(l...)) {
			t.Error("words", n, l, ok, sum, fine)
		}
		if n > 80 && (ok || fine || len(l) != 0 || sum != 0) {
			t.Error("too long", n, l, ok, sum, fine)
		}
		text += string([]byte{byte(250 - 3*n)})
	}
	if l, ok := impl.WordsOf(strings.Repeat("x", 100000)); ok || len(l) != 0 {
		t.Error("far too long", len(l), ok)
	}
}

func TestTextSum(t *testing.T) {
	cases := []struct {
		a, b string
		want int
	}{
		{"", "", 0}, {"a", "", 24832}, {"", "a", 24832}, {"ab", "", 24930}, {"a", "b", 24930}, {"", "ab", 24930}, {"b", "a", 25185}, {"ab", "c", 50274}, {"a", "bc", 50274}, {"abc", "", 50274}, {"c", "ab", 50529},
		{"\x00", "\x01", 1}, {"\x00\x00", "\x01", 256}, {"\x00\x00\x00", "\x00", 0},
		// Sums of MaxWord, and one step on from there.
		{"\xff", "\xff", 65535}, {"\xff\xff", "", 65535}, {"\xff\xff", "\xff\xff", 65535}, {"\xff", "\xff\xff\xff", 65535}, {"\xff\xfe\x00", "\x01", 65535}, {"\xff\xfe", "\x00\x02", 1}, {"\xff\xff\xff", "", 65280}, {"\xff\xff", "\x00\x01", 1},
	}
	for _, c := range cases {
		want := wordTotal(pairsOf(c.a + c.b)...)
		if c.want != want {
			t.Errorf("the case %q, %q is wrong: %d", c.a, c.b, want)
		}
		if n, ok := impl.TextSum(c.a, c.b); !ok || n != want {
			t.Errorf("TextSum(%q, %q) = %d, %v", c.a, c.b, n, ok)
		}
	}
}

// Where a text is cut does not matter, also where the cut parts two bytes of one word.
func TestTextSumOfEveryCut(t *testing.T) {
	for size := range 90 {
		text := ""
		for n := range size {
			text += string([]byte{byte(7 + 53*n)})
		}
		for cut := range size + 1 {
			n, ok := impl.TextSum(text[:cut], text[cut:])
			if size <= 80 && (!ok || n != wordTotal(pairsOf(text)...)) {
				t.Error("cut", size, cut, n, ok)
			}
			if size > 80 && (ok || n != 0) {
				t.Error("too long", size, cut, n, ok)
			}
		}
	}
	long := strings.Repeat("\xff", 100000)
	for _, c := range [][2]string{{long, ""}, {"", long}, {long, long}, {"a", long}} {
		if n, ok := impl.TextSum(c[0], c[1]); ok || n != 0 {
			t.Error("far too long", len(c[0]), len(c[1]), n, ok)
		}
	}
}

func TestWordsKeepTheirArguments(t *testing.T) {
	all := []int{1, 2, 65535, -1, 70000}
	kept := slices.Clone(all)
	// What lies beyond the length is no part of the list, and must not be overwritten.
	for n := range 4 {
		list := all[:n]
		sum, summed := impl.WordSum(list)
		check, checked := impl.WordCheck(list)
		_, judged := impl.IsSoundList(list)
		sealed, ok := impl.SealWords(list)
		want := wordTotal(list...)
		if !summed || !checked || !judged || !ok || sum != want || check != 65535-want || !slices.Equal(sealed[:n], list) || sealed[n] != check {
			t.Error("words", list, sum, check, sealed)
		}
		for i := range sealed {
			sealed[i] = 9
		}
		_ = append(sealed[:0], 8, 8)
		if !slices.Equal(all, kept) {
			t.Fatal("changed", n, all)
		}
	}
	refuseList(t, all)
	if !slices.Equal(all, kept) {
		t.Error("changed", all)
	}
}

func TestWordsGiveNewMemory(t *testing.T) {
	first, _ := impl.WordsOf("abcde")
	second, _ := impl.WordsOf("abcde")
	first[0] = 9
	_ = append(first[:1], 8)
	if !slices.Equal(second, []int{24930, 25444, 25856}) {
		t.Error("shared", first, second)
	}
}

// refuseList tells if one of the functions takes a list that it must not take.
func refuseList(t *testing.T, list []int) {
	t.Helper()
	sum, summed := impl.WordSum(list)
	check, checked := impl.WordCheck(list)
	sound, judged := impl.IsSoundList(list)
	sealed, ok := impl.SealWords(list)
	if summed || checked || judged || ok || sum != 0 || check != 0 || sound || len(sealed) != 0 {
		t.Error("taken", len(list), list[:min(len(list), 40)], sum, check, sound, sealed)
	}
}

// wordTotal tells what the words add up to by their plain total: only a total of 0 gives 0.
func wordTotal(words ...int) int {
	total := 0
	for _, x := range words {
		total += x
	}
	if total == 0 {
		return 0
	}
	return (total-1)%65535 + 1
}

// pairsOf fills a text of odd length up with a zero byte, and then takes two bytes at a time.
func pairsOf(text string) []int {
	if len(text)%2 == 1 {
		text += "\x00"
	}
	pairs := []int{}
	for ; text != ""; text = text[2:] {
		pairs = append(pairs, int(text[0])*256+int(text[1]))
	}
	return pairs
}

// eachWords calls f with every list of at most that many of some words, the empty one too.
func eachWords(most int, f func(list []int)) {
	lists := [][]int{{}}
	for len(lists) > 0 {
		list := lists[0]
		lists = lists[1:]
		f(list)
		for _, x := range []int{0, 1, 255, 256, 32767, 32768, 65534, 65535} {
			if len(list) < most {
				lists = append(lists, append(slices.Clone(list), x))
			}
		}
	}
}

// eachOrder calls f with the list in every order.
func eachOrder(list []int, f func(list []int)) {
	var order func(done, rest []int)
	order = func(done, rest []int) {
		if len(rest) == 0 {
			f(done)
		}
		for i, x := range rest {
			order(append(slices.Clone(done), x), slices.Concat(rest[:i], rest[i+1:]))
		}
	}
	order(nil, list)
}
