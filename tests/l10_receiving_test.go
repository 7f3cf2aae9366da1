package tests

import (
	"regexp"
	"slices"
	"strconv"
	"strings"
	"testing"

	"loop.example/g00840/impl"
)

// In these tests, a pattern has a byte for each Slot: `?` where no item is, `.` for an empty one, and else a letter.

func TestLimitOfReceiveWindows(t *testing.T) {
	if impl.MaxAhead != 8 {
		t.Error("limit", impl.MaxAhead)
	}
}

func TestReceiveWindowsOfAllShapes(t *testing.T) {
	eachText("?.x", 9, func(s string) {
		pattern := lettered(s)
		for _, next := range []int{0, 32764, 65535} {
			if isShape(pattern) {
				expectReceiving(t, receiving(next, pattern), next, pattern)
			} else {
				refuseReceiving(t, receiving(next, pattern))
			}
		}
	})
	for _, next := range edgeSerials {
		for _, pattern := range []string{"", "?a", "?.", "??c", "?bcdefgh", "???????h", "?b?d?f?h"} {
			expectReceiving(t, receiving(next, pattern), next, pattern)
		}
		for _, pattern := range []string{"?", "??", "a", ".", "ab", "a?", "?b?", "?bcdefghi", "????????i", "?b??????", "????????", ".bcdefgh"} {
			refuseReceiving(t, receiving(next, pattern))
		}
	}
	expectReceiving(t, impl.ReceiveWindow{}, 0, "")
	expectReceiving(t, impl.ReceiveWindow{Slots: []impl.Slot{}}, 0, "")
}

func TestReceiveWindowsThatAreNone(t *testing.T) {
	for _, w := range noReceivings() {
		refuseReceiving(t, w)
	}
}

// An item is one wherever it is in a window, as what is taken, and in a text.
func TestItemsOfReceiveWindows(t *testing.T) {
	for x := range 256 {
		one := string([]byte{byte(x)})
		for _, item := range []string{one, "abc" + one, one + "abcdefg", "abcdefg" + one, "abc" + one + "defg"} {
			if x >= 'a' && x <= 'z' {
				expectSlotItem(t, item)
			} else {
				refuseSlotItem(t, item)
			}
		}
	}
	for _, item := range someData {
		expectSlotItem(t, item)
	}
	for _, item := range noData {
		refuseSlotItem(t, item)
	}
}

// Where no item has come, none is kept: neither a good one nor a sign.
func TestItemsThatHaveNotCome(t *testing.T) {
	for _, item := range slices.Concat(someData[1:], noData, []string{"?", "."}) {
		for at := range 8 {
			w := receiving(7, "?bcdefgh")
			w.Slots[at] = impl.Slot{Item: item}
			refuseReceiving(t, w)
		}
		refuseReceiving(t, impl.ReceiveWindow{Next: 7, Slots: []impl.Slot{{Item: item}}})
		refuseReceiving(t, impl.ReceiveWindow{Next: 65535, Slots: []impl.Slot{{Item: item}, {Have: true}}})
	}
}

func TestTakeItemByHand(t *testing.T) {
	for _, c := range []struct {
		next       int
		pattern    string
		number     int
		item       string
		wantNext   int
		want, told string
	}{
		// At Next.
		{10, "", 10, "x", 11, "", "x"}, {10, "", 10, ".", 11, "", "."}, {10, "?b", 10, "x", 12, "", "xb"}, {10, "?b", 10, ".", 12, "", ".b"}, {10, "??c", 10, "x", 11, "?c", "x"}, {10, "?b?d", 10, "x", 12, "?d", "xb"}, {10, "?.?d", 10, ".", 12, "?d", ".."}, {10, "?bcdefgh", 10, "x", 18, "", "xbcdefgh"}, {10, "???????h", 10, "x", 11, "??????h", "x"},
		// Behind it: past the last Slot, in a gap, and as far as it can be.
		{10, "", 11, "x", 10, "?x", ""}, {10, "", 11, ".", 10, "?.", ""}, {10, "", 12, "x", 10, "??x", ""}, {10, "", 17, "x", 10, "???????x", ""}, {10, "", 17, ".", 10, "???????.", ""}, {10, "?b", 12, "x", 10, "?bx", ""}, {10, "?b", 17, "x", 10, "?b?????x", ""}, {10, "??c", 11, "x", 10, "?xc", ""}, {10, "??c", 11, ".", 10, "?.c", ""}, {10, "???????h", 16, "x", 10, "??????xh", ""}, {10, "?bcdefg", 17, "x", 10, "?bcdefgx", ""},
		// There already: what is there stays.
		{10, "?b", 11, "x", 10, "?b", ""}, {10, "?b", 11, "b", 10, "?b", ""}, {10, "?.", 11, "x", 10, "?.", ""}, {10, "?b", 11, ".", 10, "?b", ""}, {10, "?b?d", 13, "x", 10, "?b?d", ""}, {10, "???????h", 17, "x", 10, "???????h", ""}, {10, "?bcdefgh", 14, "x", 10, "?bcdefgh", ""},
		// Before Next.
		{10, "", 9, "x", 10, "", ""}, {10, "", 8, ".", 10, "", ""}, {10, "?b", 9, "x", 10, "?b", ""}, {10, "?b", 0, "x", 10, "?b", ""}, {10, "?b", 65535, "x", 10, "?b", ""}, {10, "??c", 32779, "x", 10, "??c", ""}, {0, "", 65535, "x", 0, "", ""}, {0, "?b", 32769, "x", 0, "?b", ""}, {65535, "?b", 65534, "x", 65535, "?b", ""}, {65535, "?b", 32768, "x", 65535, "?b", ""}, {32767, "", 0, "x", 32767, "", ""}, {32768, "", 1, "x", 32768, "", ""},
		// Across the end of the numbers.
		{65535, "", 65535, "x", 0, "", "x"}, {65535, "?b", 65535, "x", 1, "", "xb"}, {65534, "?b?d", 65534, "x", 0, "?d", "xb"}, {65534, "?b?d", 0, "x", 65534, "?bxd", ""}, {65534, "?b?d", 1, "x", 65534, "?b?d", ""}, {65535, "", 6, "x", 65535, "???????x", ""}, {65528, "?bcdefgh", 65528, "x", 0, "", "xbcdefgh"}, {65529, "?bcdefgh", 65529, "x", 1, "", "xbcdefgh"}, {65530, "??c", 1, "x", 65530, "??c????x", ""}, {0, "??c", 0, "x", 1, "?c", "x"},
	} {
		w, events, ok := impl.TakeItem(receiving(c.next, c.pattern), c.number, strings.TrimSuffix(c.item, "."))
		expectMoved(t, w, events, ok, c.wantNext, c.want, c.told)
		expectReceiving(t, w, c.wantNext, c.want)
	}
	for _, c := range []struct {
		next    int
		pattern string
		number  int
	}{
		{10, "", 18}, {10, "", 19}, {10, "?b", 18}, {10, "??c", 18}, {10, "???????h", 18}, {10, "?bcdefgh", 18}, {10, "", 100}, {10, "", 32777}, {10, "?b", 32778}, {10, "", 32778}, {0, "", 8}, {0, "?b", 32768}, {65535, "", 7}, {65535, "?b", 7}, {65535, "?b", 32767}, {65528, "", 0}, {65529, "?b", 1}, {32768, "", 0}, {32768, "?bcdefgh", 32776},
	} {
		refuseTake(t, receiving(c.next, c.pattern), c.number, "x")
		refuseTake(t, receiving(c.next, c.pattern), c.number, "")
	}
}

// Longer items are released as they came.
func TestReleasedItemsByHand(t *testing.T) {
	w := impl.ReceiveWindow{Next: 65534}
	for number, item := range map[int]string{65535: "abcdefgh", 0: "", 2: "zz"} {
		next, events, ok := impl.TakeItem(w, number, item)
		if !ok || len(events) != 0 {
			t.Fatal("taken", w, number, events)
		}
		w = next
	}
	if text, ok := impl.SlotsText(w); !ok || text != "65534: ? abcdefgh . ? zz" {
		t.Error("text", text)
	}
	if x, events, ok := impl.TakeItem(w, 65534, "hgfedcba"); !ok || !slices.Equal(events, []string{"+hgfedcba", "+abcdefgh", "+"}) || x.Next != 1 || !slices.Equal(x.Slots, []impl.Slot{{}, {Have: true, Item: "zz"}}) {
		t.Error("released", x, events)
	}
	x, events, ok := impl.GiveUpTo(w, 2)
	if !ok || !slices.Equal(events, []string{"-", "+abcdefgh", "+", "-", "+zz"}) || !isReceiving(x, 3, "") {
		t.Error("given up", x, events)
	}
}

func TestMissingSerialsByHand(t *testing.T) {
	for _, c := range []struct {
		next    int
		pattern string
		lead    int
		want    []int
	}{
		// A lead at Next, between, at the end of the Slots, and past it.
		{10, "", 10, nil}, {10, "?b", 10, nil}, {10, "", 11, []int{10}}, {10, "", 13, []int{10, 11, 12}}, {10, "", 18, []int{10, 11, 12, 13, 14, 15, 16, 17}},
		{10, "?b", 11, []int{10}}, {10, "?b", 12, []int{10}}, {10, "?b", 13, []int{10, 12}}, {10, "?b", 18, []int{10, 12, 13, 14, 15, 16, 17}}, {10, "?.", 12, []int{10}}, {10, "?.?d", 14, []int{10, 12}}, {10, "?.?d", 13, []int{10, 12}}, {10, "?.?d", 12, []int{10}},
		{10, "???????h", 17, []int{10, 11, 12, 13, 14, 15, 16}}, {10, "???????h", 18, []int{10, 11, 12, 13, 14, 15, 16}}, {10, "?bcdefgh", 18, []int{10}}, {10, "?bcdefgh", 14, []int{10}}, {10, "?b?d?f?h", 18, []int{10, 12, 14, 16}},
		// Across the end of the numbers.
		{65535, "", 65535, nil}, {65535, "", 0, []int{65535}}, {65535, "", 1, []int{65535, 0}}, {65535, "?b?d", 3, []int{65535, 1}}, {65535, "", 7, []int{65535, 0, 1, 2, 3, 4, 5, 6}}, {65533, "??c?e", 3, []int{65533, 65534, 0, 2}}, {65528, "?b", 0, []int{65528, 65530, 65531, 65532, 65533, 65534, 65535}}, {0, "?b", 3, []int{0, 2}},
	} {
		if list, ok := impl.MissingSerials(receiving(c.next, c.pattern), c.lead); !ok || !slices.Equal(list, c.want) {
			t.Error("missing", c, list, ok)
		}
	}
	for _, c := range []struct {
		next    int
		pattern string
		lead    int
	}{
		{10, "", 9}, {10, "?b", 9}, {10, "", 19}, {10, "?b", 19}, {10, "?bcdefgh", 19}, {10, "", 0}, {10, "", 65535}, {10, "", 32778}, {10, "", 32777}, {10, "", 32779}, {0, "", 65535}, {0, "", 9}, {65535, "", 65534}, {65535, "", 8}, {65535, "?b", 32767}, {65527, "", 0}, {32768, "", 0},
	} {
		refuseLead(t, receiving(c.next, c.pattern), c.lead)
	}
}

func TestGiveUpToByHand(t *testing.T) {
	for _, c := range []struct {
		next       int
		pattern    string
		trail      int
		wantNext   int
		want, told string
	}{
		// A trail at Next and before it.
		{10, "", 10, 10, "", ""}, {10, "?b", 10, 10, "?b", ""}, {10, "", 9, 10, "", ""}, {10, "?b", 9, 10, "?b", ""}, {10, "??c", 2, 10, "??c", ""}, {10, "?b", 0, 10, "?b", ""}, {10, "?b", 65535, 10, "?b", ""}, {10, "?b", 32779, 10, "?b", ""}, {0, "?b", 32769, 0, "?b", ""}, {65535, "??c", 32768, 65535, "??c", ""}, {32767, "?b", 0, 32767, "?b", ""}, {0, "", 65535, 0, "", ""},
		// Between, with an item behind it that is released then, and with none.
		{10, "?b", 11, 12, "", "?b"}, {10, "?.", 11, 12, "", "?."}, {10, "??c", 11, 11, "?c", "?"}, {10, "??c", 12, 13, "", "??c"}, {10, "?bc?e", 11, 13, "?e", "?bc"}, {10, "?bc?e", 12, 13, "?e", "?bc"}, {10, "?bc?e", 13, 13, "?e", "?bc"}, {10, "?bc?e", 14, 15, "", "?bc?e"}, {10, "?.c?e", 11, 13, "?e", "?.c"}, {10, "?b?d?f?h", 11, 12, "?d?f?h", "?b"}, {10, "?b?d?f?h", 12, 12, "?d?f?h", "?b"}, {10, "?b?d?f?h", 13, 14, "?f?h", "?b?d"}, {10, "???????h", 16, 16, "?h", "??????"}, {10, "???????h", 17, 18, "", "???????h"},
		// At the end of the Slots and past it.
		{10, "?b", 12, 12, "", "?b"}, {10, "?b", 13, 13, "", "?b?"}, {10, "?.", 13, 13, "", "?.?"}, {10, "??c", 18, 18, "", "??c?????"}, {10, "", 11, 11, "", "?"}, {10, "", 12, 12, "", "??"}, {10, "", 18, 18, "", "????????"}, {10, "???????h", 18, 18, "", "???????h"}, {10, "?bcdefgh", 18, 18, "", "?bcdefgh"}, {10, "?bcdefgh", 11, 18, "", "?bcdefgh"},
		// Across the end of the numbers.
		{65535, "", 0, 0, "", "?"}, {65535, "?b", 0, 1, "", "?b"}, {65535, "", 7, 7, "", "????????"}, {65534, "?b?d", 65535, 0, "?d", "?b"}, {65534, "?b?d", 0, 0, "?d", "?b"}, {65534, "?b?d", 1, 2, "", "?b?d"}, {65528, "", 0, 0, "", "????????"}, {65530, "??c?e", 65531, 65531, "?c?e", "?"},
	} {
		w, events, ok := impl.GiveUpTo(receiving(c.next, c.pattern), c.trail)
		expectMoved(t, w, events, ok, c.wantNext, c.want, c.told)
		expectReceiving(t, w, c.wantNext, c.want)
	}
	for _, c := range []struct {
		next    int
		pattern string
		trail   int
	}{
		{10, "", 19}, {10, "?b", 19}, {10, "?bcdefgh", 19}, {10, "", 20}, {10, "", 32777}, {10, "", 32778}, {10, "?b", 32778}, {0, "", 9}, {0, "", 32768}, {65535, "", 8}, {65535, "?b", 32767}, {65527, "", 0}, {32768, "", 0}, {32768, "?b", 65535},
	} {
		refuseTrail(t, receiving(c.next, c.pattern), c.trail)
	}
}

func TestHaveItemByHand(t *testing.T) {
	for _, c := range []struct {
		next    int
		pattern string
		number  int
		want    bool
	}{
		// Before Next, at Next, in the window and past it.
		{10, "", 9, true}, {10, "", 10, false}, {10, "", 11, false}, {10, "?b", 9, true}, {10, "?b", 10, false}, {10, "?b", 11, true}, {10, "?.", 11, true}, {10, "?b", 12, false}, {10, "?b?d", 12, false}, {10, "?b?d", 13, true}, {10, "???????h", 16, false}, {10, "???????h", 17, true}, {10, "???????h", 18, false}, {10, "", 0, true}, {10, "", 65535, true}, {10, "", 32779, true}, {10, "", 32778, false}, {10, "", 32777, false}, {10, "", 100, false},
		{65535, "?b", 65534, true}, {65535, "?b", 65535, false}, {65535, "?b", 0, true}, {65535, "?b", 1, false}, {65535, "?b", 32768, true}, {65535, "?b", 32767, false}, {0, "?b", 65535, true}, {0, "?b", 1, true}, {0, "?b", 32769, true}, {0, "?b", 32768, false},
	} {
		if have, ok := impl.HaveItem(receiving(c.next, c.pattern), c.number); !ok || have != c.want {
			t.Error("have", c, have, ok)
		}
	}
}

func TestEndsAndCountsByHand(t *testing.T) {
	for _, c := range []struct {
		next             int
		pattern          string
		end, have, empty int
		text             string
	}{
		{10, "", 10, 0, 0, "10:"}, {0, "", 0, 0, 0, "0:"}, {65535, "", 65535, 0, 0, "65535:"}, {10, "?b", 12, 1, 1, "10: ? b"}, {10, "?.", 12, 1, 1, "10: ? ."}, {10, "??c", 13, 1, 2, "10: ? ? c"}, {7, "?.c?e", 12, 3, 2, "7: ? . c ? e"}, {10, "?bcdefgh", 18, 7, 1, "10: ? b c d e f g h"}, {10, "???????.", 18, 1, 7, "10: ? ? ? ? ? ? ? ."}, {65534, "?b", 0, 1, 1, "65534: ? b"}, {65535, "?b", 1, 1, 1, "65535: ? b"}, {65533, "?......h", 5, 7, 1, "65533: ? . . . . . . h"},
	} {
		w := receiving(c.next, c.pattern)
		if end, ok := impl.HighestSeen(w); !ok || end != c.end {
			t.Error("highest", c, end)
		}
		if have, empty, ok := impl.CountWaiting(w); !ok || have != c.have || empty != c.empty {
			t.Error("waiting", c, have, empty)
		}
		if text, ok := impl.SlotsText(w); !ok || text != c.text {
			t.Error("text", c, text)
		}
		if parsed, ok := impl.ParseSlots(c.text); !ok || !isReceiving(parsed, c.next, c.pattern) {
			t.Error("parsed", c, parsed)
		}
	}
	w := impl.ReceiveWindow{Next: 65535, Slots: []impl.Slot{{}, {Have: true, Item: "abcdefgh"}, {Have: true}, {}, {Have: true, Item: "ab"}}}
	if text, ok := impl.SlotsText(w); !ok || text != "65535: ? abcdefgh . ? ab" {
		t.Error("text", text)
	}
	if parsed, ok := impl.ParseSlots("65535: ? abcdefgh . ? ab"); !ok || parsed.Next != 65535 || !slices.Equal(parsed.Slots, w.Slots) {
		t.Error("parsed", parsed)
	}
}

// Whatever is taken or given up, wherever, is as in a pattern that is cut and lengthened.
func TestEveryReceiveWindow(t *testing.T) {
	eachText("?.x", 8, func(s string) {
		pattern := lettered(s)
		if !isShape(pattern) {
			return
		}
		for _, next := range []int{0, 65529, 65535} {
			for steps := -3; steps <= 10; steps++ {
				expectTaken(t, next, pattern, steps, "x")
				expectTaken(t, next, pattern, steps, "")
				expectGiven(t, next, pattern, steps)
			}
		}
	})
}

// Only numbers near Next are taken, missing and given up to; those up to half way back are released.
func TestEveryNumberOfAReceiveWindow(t *testing.T) {
	for _, next := range []int{0, 7, 32768, 65533} {
		for _, pattern := range []string{"", "?b", "??c?.", "?bcdefgh", "???????h"} {
			w := receiving(next, pattern)
			number := next
			for ahead := range 65536 {
				steps := ahead
				if ahead > 32768 {
					steps = ahead - 65536
				}
				expectTaken(t, next, pattern, steps, "x")
				expectGiven(t, next, pattern, steps)
				isThere := steps < 0 || steps < len(pattern) && pattern[steps] != '?'
				if have, ok := impl.HaveItem(w, number); !ok || have != isThere {
					t.Fatal("have", w, number, have)
				}
				if ahead > 8 {
					refuseLead(t, w, number)
				} else if list, ok := impl.MissingSerials(w, number); !ok || !slices.Equal(list, missingIn(next, pattern, ahead)) {
					t.Fatal("missing", w, number, list)
				}
				number = nextNumber(number)
			}
			// Numbers that are no serials are not taken for ones that many steps from them.
			for _, bad := range append([]int{next - 65536, next + 65536, next + 65537, next + 1<<32, next - 1<<32, next - 65537}, noSerials...) {
				refuseReceived(t, w, bad)
			}
		}
	}
}

// In whatever order items come, and however often, all are released once and in order.
func TestItemsInEveryOrder(t *testing.T) {
	for _, items := range [][]string{{"a", "b", "c", "d", "e", "f", "g", "h"}, {"", "abcdefgh", "", "", "x", "x", "", "zz"}} {
		first := 65532
		want := []string{}
		for _, item := range items {
			want = append(want, "+"+item)
		}
		eachOrder([]int{0, 1, 2, 3, 4, 5, 6, 7}, func(order []int) {
			w, all := impl.ReceiveWindow{Next: first}, []string{}
			for _, at := range order {
				number := (first + at) % 65536
				taken, events, ok := impl.TakeItem(w, number, items[at])
				again, none, fine := impl.TakeItem(taken, number, "other")
				if !ok || !fine || len(none) != 0 || again.Next != taken.Next || !slices.Equal(again.Slots, taken.Slots) {
					t.Fatal("taken", order, w, taken, again, none)
				}
				w, all = again, append(all, events...)
			}
			if !isReceiving(w, 4, "") || !slices.Equal(all, want) {
				t.Fatal("released", order, w, all)
			}
		})
	}
}

// However items are taken and given up, each up to Next was told once and in order: as the first one taken for its serial, or as lost.
func TestReceiveWindowsOfManySteps(t *testing.T) {
	for _, first := range []int{65531, 32765} {
		eachList(0, 20, 4, func(steps []int) {
			w, all := impl.ReceiveWindow{Next: first}, []string{}
			came, next := map[int]string{}, 0
			for i, step := range steps {
				// The first ten steps take the item of a serial, the others give up to one.
				at := step % 10
				number := (first + at) % 65536
				item := strings.Repeat(string(rune('a'+at)), i)
				var after impl.ReceiveWindow
				var events []string
				var ok, fine bool
				if step < 10 {
					after, events, ok = impl.TakeItem(w, number, item)
					fine = at-next < 8
					if came[at] == "" && fine {
						came[at] = "+" + item
					}
				} else {
					after, events, ok = impl.GiveUpTo(w, number)
					fine = at-next <= 8
					for ; fine && next < at; next++ {
						if came[next] == "" {
							came[next] = "-"
						}
					}
				}
				if ok != fine || !ok && (len(events) != 0 || !isNoReceiving(after)) {
					t.Fatal("step", steps, w, at, after, events, ok)
				}
				for came[next] != "" {
					next++
				}
				if ok {
					w, all = after, append(all, events...)
				}
			}
			want := []string{}
			for at := range next {
				want = append(want, came[at])
			}
			if !impl.IsValidReceiveWindow(w) || w.Next != (first+next)%65536 || !slices.Equal(all, want) {
				t.Fatal("told", steps, w, all, want)
			}
			for at := -1; at < 20; at++ {
				have, ok := impl.HaveItem(w, (first+at+65536)%65536)
				if !ok || have != (at < next || came[at] != "") {
					t.Fatal("have", steps, w, at, have)
				}
			}
		})
	}
}

// Three items at a time, the last one first, once around all numbers; sometimes the first one never comes.
func TestTakeAroundAllNumbers(t *testing.T) {
	w := impl.ReceiveWindow{Next: 65000}
	for block := range 22000 {
		numbers := []int{}
		for i := range 4 {
			numbers = append(numbers, (65000+3*block+i)%65536)
		}
		item := string([]byte{byte('a' + block%26), byte('a' + block/26%26), byte('a' + block/676%26)})
		third, none, ok := impl.TakeItem(w, numbers[2], "z"+item)
		second, nothing, fine := impl.TakeItem(third, numbers[1], "")
		if !ok || !fine || len(none)+len(nothing) != 0 || second.Next != numbers[0] || len(second.Slots) != 3 {
			t.Fatal("taken", w, third, second)
		}
		first, events, ok := impl.TakeItem(second, numbers[0], item)
		want := []string{"+" + item, "+", "+z" + item}
		if block%7 == 6 {
			first, events, ok = impl.GiveUpTo(second, numbers[1])
			want[0] = "-"
		}
		if !ok || !isReceiving(first, numbers[3], "") || !slices.Equal(events, want) {
			t.Fatal("released", second, first, events)
		}
		for i, number := range numbers {
			if have, ok := impl.HaveItem(first, number); !ok || have != (i < 3) {
				t.Fatal("have", first, number, have)
			}
		}
		w = first
	}
}

func TestEveryTextOfAReceiveWindow(t *testing.T) {
	parsed := 0
	eachText("0:? .a", 7, func(s string) {
		if readAsWritten(t, s) {
			parsed++
		}
	})
	// These are `0:`, `0: ? .`, `0: ? a` and `0: ? aa`.
	if parsed != 4 {
		t.Error("parsed", parsed)
	}
}

func TestTextsNearThoseOfReceiveWindows(t *testing.T) {
	for _, text := range []string{"0:", "65535:", "10: ? ? c", "65535: ? abcdefgh . ? ab", "7: ? . . . . . . .", "32768: ? ? ? ? ? ? ? zzzzzzzz"} {
		if !readAsWritten(t, text) {
			t.Error("not read", text)
		}
		for at := 0; at <= len(text); at++ {
			readAsWritten(t, text[:at])
			readAsWritten(t, text[at:])
			for x := range 256 {
				one := string([]byte{byte(x)})
				readAsWritten(t, text[:at]+one+text[at:])
				if at < len(text) {
					readAsWritten(t, text[:at]+one+text[at+1:])
				}
			}
			if at < len(text) {
				readAsWritten(t, text[:at]+text[at+1:])
			}
		}
	}
}

func TestTextsOfNoReceiveWindow(t *testing.T) {
	for _, s := range []string{
		"", ":", "10", " ", "?", ".", "10:: ? a", "10 ? a", "10 : ? a", "10;", "10:?a", "10:? a", "10:  ? a", "10: ?  a", "10: ? a ", " 10: ? a", "10: ", " 10:", "10:\n", "10: ? a\n", "10:\t? a", "10: ?\ta", "10: ?,a",
		// Numbers that are written otherwise, or are no serials.
		"010: ? a", "00:", "+10:", "-1:", "-0:", "1e1:", "0x10:", "65536:", "65536: ? a", "131072:", "999999:", "1000000:", "4294967296:", "18446744073709551616:", "ten:", ": ? a", "a: ? a", "1 0:",
		// Words that are neither items nor signs.
		"10: ? A", "10: ? abcdefghi", "10: ? 1", "10: ? a.", "10: ? .a", "10: ? ..", "10: ? ?a", "10: ? a?", "10: ? ??", "10: ?? a", "10: ? -", "10: ? +a", "10: ? \x00", "10: ? \u00e4", "10: ? a: b", "10: ? a A b", "10: ? a - b", "10: ? {",
		// A first Slot with Have, a last one without, and too many.
		"10: a", "10: .", "10: ?", "10: a b", "10: . b", "10: a ?", "10: ? a ?", "10: ? ?", "10: ? . ?", "10: ? b c d e f g h i", "10: ? ? ? ? ? ? ? ? i", "10: ? b c d e f g h ?", "10: ? . . . . . . . .",
		strings.Repeat("?", 100), "10:" + strings.Repeat(" ?", 5000), "10:" + strings.Repeat(" ?", 5000) + " a", "10: ? " + strings.Repeat("a", 100000), strings.Repeat("0", 100000) + ":", "10:" + strings.Repeat(" ", 100000) + "? a",
	} {
		if w, ok := impl.ParseSlots(s); ok || !isNoReceiving(w) {
			t.Errorf("ParseSlots(%.30q) = %v, %v", s, w, ok)
		}
	}
}

// What is beyond the length of the Slots is no part of them, and stays as it is.
func TestReceiveWindowsKeepTheirArguments(t *testing.T) {
	all := append(receiving(0, "?b?.efgh").Slots, impl.Slot{Item: "NO"}, impl.Slot{Have: true, Item: "abcdefghi"})
	kept := slices.Clone(all)
	for count := 0; count <= 10; count++ {
		w := impl.ReceiveWindow{Next: 65533, Slots: all[:count]}
		if impl.IsValidReceiveWindow(w) != slices.Contains([]int{0, 2, 4, 5, 6, 7, 8}, count) {
			t.Error("validity", count)
		}
		for _, number := range []int{-1, 65531, 65532, 65533, 65534, 65535, 0, 1, 2, 3, 4, 5, 6, 7, 65536} {
			for _, item := range []string{"x", "", "NO"} {
				impl.TakeItem(w, number, item)
			}
			impl.MissingSerials(w, number)
			impl.GiveUpTo(w, number)
			impl.HaveItem(w, number)
		}
		impl.HighestSeen(w)
		impl.SlotsText(w)
		impl.CountWaiting(w)
		if !slices.Equal(all, kept) {
			t.Fatal("changed", count, all)
		}
	}
}

// A change of a result is not seen in the window that was given or in another result, nor the other way round.
func TestReceiveWindowsGiveNewMemory(t *testing.T) {
	take := func(number int) func(impl.ReceiveWindow) (impl.ReceiveWindow, []string, bool) {
		return func(w impl.ReceiveWindow) (impl.ReceiveWindow, []string, bool) {
			return impl.TakeItem(w, number, "x")
		}
	}
	give := func(trail int) func(impl.ReceiveWindow) (impl.ReceiveWindow, []string, bool) {
		return func(w impl.ReceiveWindow) (impl.ReceiveWindow, []string, bool) { return impl.GiveUpTo(w, trail) }
	}
	for name, f := range map[string]func(impl.ReceiveWindow) (impl.ReceiveWindow, []string, bool){
		"taken before": take(65530), "taken again": take(65535), "taken between": take(0), "taken at the end": take(3), "taken past it": take(5), "released": take(65534),
		"given up to before": give(65530), "given up to Next": give(65534), "one given up": give(65535), "three given up": give(1), "seven given up": give(5), "all given up": give(6),
	} {
		// Room for more in the memory of the window must not be used for a result.
		start := impl.ReceiveWindow{Next: 65534, Slots: append(make([]impl.Slot, 0, 20), receiving(65534, "?b?de").Slots...)}
		kept := slices.Clone(start.Slots[:12])
		first, told, ok := f(start)
		other, events, fine := f(start)
		want, wantTold := textOfSlots(other), strings.Join(events, ",")
		_, _ = append(first.Slots, impl.Slot{Have: true, Item: "y"}), append(told, "y")
		for i := range first.Slots {
			first.Slots[i] = impl.Slot{Have: true, Item: "y"}
		}
		for i := range told {
			told[i] = "y"
		}
		again, toldAgain, fair := f(start)
		if !ok || !fine || !fair || textOfSlots(other) != want || textOfSlots(again) != want || strings.Join(events, ",") != wantTold || strings.Join(toldAgain, ",") != wantTold || !slices.Equal(start.Slots[:12], kept) {
			t.Error(name, first, other, again, events, toldAgain, start)
		}
		for i := range start.Slots[:12] {
			start.Slots[:12][i] = impl.Slot{Item: "z"}
		}
		if textOfSlots(other) != want {
			t.Error("changed by the argument", name, other)
		}
	}
	w := receiving(65534, "?b?de")
	list, _ := impl.MissingSerials(w, 4)
	parsed, _ := impl.ParseSlots("65534: ? b ? d e")
	_, list[0] = append(list, 88), 88
	parsed.Slots[0].Have = true
	if again, ok := impl.MissingSerials(w, 4); !ok || !slices.Equal(again, []int{65534, 0, 3}) {
		t.Error("missing", again)
	}
	if again, ok := impl.ParseSlots("65534: ? b ? d e"); !ok || !isReceiving(again, 65534, "?b?de") {
		t.Error("parsed", again)
	}
}

// expectReceiving tells if a window is not that of a pattern, or answers otherwise.
func expectReceiving(t *testing.T, w impl.ReceiveWindow, next int, pattern string) {
	t.Helper()
	if !impl.IsValidReceiveWindow(w) || !isReceiving(w, next, pattern) {
		t.Fatal("window", w, "not", next, pattern)
	}
	for steps := -2; steps <= 10; steps++ {
		number := (next + 65536 + steps) % 65536
		isThere := steps < 0 || steps < len(pattern) && pattern[steps] != '?'
		if have, ok := impl.HaveItem(w, number); !ok || have != isThere {
			t.Fatal("have", w, number, have)
		}
		if steps < 0 || steps > 8 {
			refuseLead(t, w, number)
		} else if list, ok := impl.MissingSerials(w, number); !ok || !slices.Equal(list, missingIn(next, pattern, steps)) {
			t.Fatal("missing", w, number, list)
		}
	}
	if end, ok := impl.HighestSeen(w); !ok || end != (next+len(pattern))%65536 {
		t.Fatal("highest", w, end)
	}
	empty := strings.Count(pattern, "?")
	if have, without, ok := impl.CountWaiting(w); !ok || have != len(pattern)-empty || without != empty {
		t.Fatal("waiting", w, have, without)
	}
	text, ok := impl.SlotsText(w)
	if want := strings.Join(append([]string{strconv.Itoa(next) + ":"}, texts(pattern)...), " "); !ok || text != want {
		t.Fatalf("text %q not %q", text, want)
	}
	if parsed, ok := impl.ParseSlots(text); !ok || !isReceiving(parsed, next, pattern) {
		t.Fatal("parsed", text, parsed)
	}
}

// refuseReceiving tells if a window that is not valid is taken for one.
func refuseReceiving(t *testing.T, w impl.ReceiveWindow) {
	t.Helper()
	if impl.IsValidReceiveWindow(w) {
		t.Fatal("valid", w.Next, len(w.Slots))
	}
	for _, number := range []int{w.Next, w.Next + 1, w.Next - 1, 0, 1, 8, 65535} {
		refuseReceived(t, w, number)
	}
	if end, ok := impl.HighestSeen(w); ok || end != 0 {
		t.Fatal("highest", w.Next, len(w.Slots), end)
	}
	if text, ok := impl.SlotsText(w); ok || text != "" {
		t.Fatal("text", w.Next, len(w.Slots), text)
	}
	if have, empty, ok := impl.CountWaiting(w); ok || have != 0 || empty != 0 {
		t.Fatal("waiting", w.Next, len(w.Slots), have, empty)
	}
}

// refuseReceived tells if a number is taken that is no serial, or for a window that is not valid.
func refuseReceived(t *testing.T, w impl.ReceiveWindow, number int) {
	t.Helper()
	refuseTake(t, w, number, "x")
	refuseTake(t, w, number, "")
	refuseLead(t, w, number)
	refuseTrail(t, w, number)
	if have, ok := impl.HaveItem(w, number); ok || have {
		t.Fatal("have", w.Next, len(w.Slots), number, have)
	}
}

func refuseTake(t *testing.T, w impl.ReceiveWindow, number int, item string) {
	t.Helper()
	if taken, events, ok := impl.TakeItem(w, number, item); ok || len(events) != 0 || !isNoReceiving(taken) {
		t.Fatalf("taken %.20q: %v %v %v %v %v", item, w.Next, len(w.Slots), number, taken, events)
	}
}

func refuseLead(t *testing.T, w impl.ReceiveWindow, lead int) {
	t.Helper()
	if list, ok := impl.MissingSerials(w, lead); ok || len(list) != 0 {
		t.Fatal("missing", w.Next, len(w.Slots), lead, list)
	}
}

func refuseTrail(t *testing.T, w impl.ReceiveWindow, trail int) {
	t.Helper()
	if given, events, ok := impl.GiveUpTo(w, trail); ok || len(events) != 0 || !isNoReceiving(given) {
		t.Fatal("given up", w.Next, len(w.Slots), trail, given, events)
	}
}

func expectSlotItem(t *testing.T, item string) {
	t.Helper()
	for at := 1; at < 8; at++ {
		w := receiving(65534, "?bcdefgh")
		w.Slots[at].Item = item
		text, ok := impl.SlotsText(w)
		parsed, fine := impl.ParseSlots(text)
		if !impl.IsValidReceiveWindow(w) || !ok || !fine || parsed.Next != 65534 || !slices.Equal(parsed.Slots, w.Slots) {
			t.Fatal("item", w, text, parsed)
		}
		given, events, ok := impl.GiveUpTo(w, 65535)
		if !ok || !isReceiving(given, 6, "") || events[at] != "+"+item {
			t.Fatal("given up", w, given, events)
		}
	}
	w, events, ok := impl.TakeItem(receiving(65535, "?b"), 65535, item)
	if !ok || !isReceiving(w, 1, "") || !slices.Equal(events, []string{"+" + item, "+b"}) {
		t.Fatal("released", item, w, events)
	}
	w, events, ok = impl.TakeItem(receiving(65535, "?b"), 2, item)
	if !ok || w.Next != 65535 || len(events) != 0 || !slices.Equal(w.Slots, []impl.Slot{{}, {Have: true, Item: "b"}, {}, {Have: true, Item: item}}) {
		t.Fatal("taken", item, w, events)
	}
}

// An item that is none is not taken either where one that is would change nothing.
func refuseSlotItem(t *testing.T, item string) {
	t.Helper()
	for at := 1; at < 8; at++ {
		w := receiving(3, "?bcdefgh")
		w.Slots[at].Item = item
		refuseReceiving(t, w)
	}
	for _, pattern := range []string{"", "?b", "?b?d", "?bcdefgh"} {
		for _, number := range []int{0, 2, 3, 4, 5, 6, 7, 10, 11, 32771, 32772, 65535} {
			refuseTake(t, receiving(3, pattern), number, item)
		}
	}
	readAsWritten(t, "3: ? b "+item+" d")
}

// expectTaken tells if an item is taken otherwise than a pattern takes its sign.
func expectTaken(t *testing.T, next int, pattern string, steps int, item string) {
	t.Helper()
	w, number := receiving(next, pattern), (next+65536+steps)%65536
	want, told, fine := takenInto(pattern, steps, item)
	if !fine {
		refuseTake(t, w, number, item)
		return
	}
	taken, events, ok := impl.TakeItem(w, number, item)
	expectMoved(t, taken, events, ok, (next+len(told))%65536, want, told)
}

func expectGiven(t *testing.T, next int, pattern string, steps int) {
	t.Helper()
	w, trail := receiving(next, pattern), (next+65536+steps)%65536
	want, told, fine := givenUp(pattern, steps)
	if !fine {
		refuseTrail(t, w, trail)
		return
	}
	given, events, ok := impl.GiveUpTo(w, trail)
	expectMoved(t, given, events, ok, (next+len(told))%65536, want, told)
}

// expectMoved tells if a window or its events are other than those of a pattern and of what is told of it.
func expectMoved(t *testing.T, w impl.ReceiveWindow, events []string, ok bool, next int, pattern, told string) {
	t.Helper()
	if !ok || !isReceiving(w, next, pattern) || !slices.Equal(events, eventsOf(told)) {
		t.Fatal("moved to", w, events, ok, "not", next, pattern, told)
	}
}

func receiving(next int, pattern string) impl.ReceiveWindow {
	slots := []impl.Slot{}
	for _, sign := range texts(pattern) {
		switch sign {
		case "?":
			slots = append(slots, impl.Slot{})
		case ".":
			slots = append(slots, impl.Slot{Have: true})
		default:
			slots = append(slots, impl.Slot{Have: true, Item: sign})
		}
	}
	return impl.ReceiveWindow{Next: next, Slots: slots}
}

func isReceiving(w impl.ReceiveWindow, next int, pattern string) bool {
	return w.Next == next && slices.Equal(w.Slots, receiving(next, pattern).Slots)
}

func isNoReceiving(w impl.ReceiveWindow) bool { return w.Next == 0 && len(w.Slots) == 0 }

// isShape reports whether a pattern is that of a valid window.
func isShape(pattern string) bool {
	return pattern == "" || len(pattern) <= 8 && strings.HasPrefix(pattern, "?") && !strings.HasSuffix(pattern, "?")
}

// lettered gives each x of a pattern a letter that tells its place.
func lettered(pattern string) string {
	letters := []byte(pattern)
	for i, x := range letters {
		if x == 'x' {
			letters[i] = byte('a' + i)
		}
	}
	return string(letters)
}

// eventsOf gives the events of a pattern all of which is told.
func eventsOf(pattern string) []string {
	events := []string{}
	for _, sign := range texts(pattern) {
		switch sign {
		case "?":
			events = append(events, "-")
		case ".":
			events = append(events, "+")
		default:
			events = append(events, "+"+sign)
		}
	}
	return events
}

// takenInto gives the pattern after an item was taken, and the part of it that is released.
func takenInto(pattern string, steps int, item string) (string, string, bool) {
	if steps < 0 || steps < len(pattern) && pattern[steps] != '?' {
		return pattern, "", true
	}
	if steps > 7 {
		return "", "", false
	}
	filled := pattern + "????????"[:max(steps+1-len(pattern), 0)]
	filled = filled[:steps] + (item + ".")[:1] + filled[steps+1:]
	told := strings.Index(filled+"?", "?")
	return filled[told:], filled[:told], true
}

// givenUp gives the pattern after items were given up, and the part of it that is told.
func givenUp(pattern string, steps int) (string, string, bool) {
	if steps > 8 {
		return "", "", false
	}
	steps = max(steps, 0)
	filled := pattern + "????????"[:max(steps-len(pattern), 0)]
	told := steps + strings.Index(filled[steps:]+"?", "?")
	return filled[told:], filled[:told], true
}

// missingIn gives the serials of the first signs of a pattern, and of what is behind it, that are ?.
func missingIn(next int, pattern string, count int) []int {
	list := []int{}
	for i, sign := range texts(pattern + "????????") {
		if i < count && sign == "?" {
			list = append(list, (next+i)%65536)
		}
	}
	return list
}

// textOfSlots writes a window in words of its own, also one that is not valid.
func textOfSlots(w impl.ReceiveWindow) string {
	text := strconv.Itoa(w.Next)
	for _, slot := range w.Slots {
		text += "," + strconv.FormatBool(slot.Have) + slot.Item
	}
	return text
}

var slotsPattern = regexp.MustCompile(`^(0|[1-9][0-9]{0,4}):( \?( (\?|\.|[a-z]{1,8})){0,6} (\.|[a-z]{1,8}))?$`)

// readAsWritten reports whether a text is that of a window, and tells if ParseSlots says something else.
func readAsWritten(t *testing.T, s string) bool {
	t.Helper()
	want, isText := impl.ReceiveWindow{}, slotsPattern.MatchString(s)
	if isText {
		number, words, _ := strings.Cut(s, ":")
		want.Next, _ = strconv.Atoi(number)
		isText = want.Next <= 65535
		for _, word := range strings.Fields(words) {
			want.Slots = append(want.Slots, impl.Slot{Have: word != "?", Item: strings.Trim(word, "?.")})
		}
	}
	if !isText {
		want = impl.ReceiveWindow{}
	}
	w, ok := impl.ParseSlots(s)
	if ok != isText || w.Next != want.Next || !slices.Equal(w.Slots, want.Slots) {
		t.Fatalf("ParseSlots(%q) = %v, %v, not %v, %v", s, w, ok, want, isText)
	}
	if text, ok := impl.SlotsText(w); isText && (!ok || text != s) {
		t.Fatalf("SlotsText(%v) = %q, not %q", w, text, s)
	}
	return isText
}

// noReceivings has what breaks a rule of windows in its Next or the number of its Slots.
func noReceivings() []impl.ReceiveWindow {
	none := []impl.ReceiveWindow{
		receiving(7, "?"), receiving(7, "a"), receiving(65535, "."), receiving(7, "?bcdefghi"), receiving(7, "????????i"), receiving(65530, "?bcdefgh?"),
		{Next: 7, Slots: make([]impl.Slot, 1)}, {Next: 7, Slots: make([]impl.Slot, 8)}, {Next: 7, Slots: make([]impl.Slot, 9)}, {Next: 7, Slots: make([]impl.Slot, 100000)},
		{Slots: append(make([]impl.Slot, 8), impl.Slot{Have: true})}, {Slots: append(make([]impl.Slot, 100000), impl.Slot{Have: true, Item: "a"})},
	}
	for _, next := range noSerials {
		for _, pattern := range []string{"", "?b", "??c", "?bcdefgh"} {
			none = append(none, receiving(next, pattern))
		}
	}
	return none
}
