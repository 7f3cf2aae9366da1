package tests

import (
	"slices"
	"strings"
	"testing"

	"loop.example/g00840/impl"
)

// noSizes has numbers that are no Size of a window.
var noSizes = []int{0, -1, -2, -6, -7, 7, 8, 12, 100, 1 << 32, -1 << 32, 1<<32 + 3, mostInt, leastInt}

// endTrails has Trails from which a window is, or is not, across the end of the numbers.
var endTrails = []int{0, 1, 7, 32761, 32767, 32768, 65529, 65530, 65531, 65532, 65533, 65534, 65535}

func TestLimitOfWindows(t *testing.T) {
	if impl.MaxWindow != 6 {
		t.Error("limit", impl.MaxWindow)
	}
}

func TestWindowsOfAllSizes(t *testing.T) {
	for _, trail := range edgeSerials {
		for size := 1; size <= 6; size++ {
			for count := range 10 {
				w := impl.SendWindow{Trail: trail, Size: size, Items: texts("abcdefghij"[:count])}
				if count > size {
					refuseWindow(t, w)
					continue
				}
				expectHeld(t, w, trail, size, "abcdefghij"[:count])
			}
		}
		for _, size := range noSizes {
			for _, items := range []string{"", "a", "abcdef", "abcdefg"} {
				refuseWindow(t, impl.SendWindow{Trail: trail, Size: size, Items: texts(items)})
			}
		}
	}
	expectHeld(t, impl.SendWindow{Size: 1}, 0, 1, "")
	expectHeld(t, impl.SendWindow{Trail: 65535, Size: 6, Items: []string{}}, 65535, 6, "")
}

func TestWindowsThatAreNone(t *testing.T) {
	for _, w := range noWindows() {
		refuseWindow(t, w)
	}
}

// An item is one wherever it is in a window, and as what is pushed.
func TestItemsOfWindows(t *testing.T) {
	for x := range 256 {
		one := string([]byte{byte(x)})
		for _, item := range []string{one, "abc" + one, one + "abcdefg", "abcdefg" + one, "abc" + one + "defg"} {
			if x >= 'a' && x <= 'z' {
				expectItem(t, item)
			} else {
				refuseItem(t, item)
			}
		}
	}
	for _, item := range someData {
		expectItem(t, item)
	}
	for _, item := range noData {
		refuseItem(t, item)
	}
}

func TestPushItemByHand(t *testing.T) {
	for _, c := range []struct {
		trail, size  int
		items, item  string
		wantTrail    int
		wantItems    string
		number, lead int
	}{
		// On an empty window.
		{0, 1, "", "x", 0, "x", 0, 1}, {0, 6, "", "x", 0, "x", 0, 1}, {7, 3, "", "x", 7, "x", 7, 8}, {65535, 1, "", "x", 65535, "x", 65535, 0}, {65535, 6, "", "x", 65535, "x", 65535, 0},
		// On one that is not full.
		{7, 2, "a", "x", 7, "ax", 8, 9}, {7, 6, "a", "x", 7, "ax", 8, 9}, {7, 6, "abcde", "x", 7, "abcdex", 12, 13}, {65535, 2, "a", "x", 65535, "ax", 0, 1}, {65534, 3, "a", "x", 65534, "ax", 65535, 0}, {65534, 4, "abc", "x", 65534, "abcx", 1, 2}, {65530, 6, "abcde", "x", 65530, "abcdex", 65535, 0}, {65531, 6, "abcde", "x", 65531, "abcdex", 0, 1},
		// On a full one.
		{7, 1, "a", "x", 8, "x", 8, 9}, {7, 2, "ab", "x", 8, "bx", 9, 10}, {7, 6, "abcdef", "x", 8, "bcdefx", 13, 14}, {65535, 1, "a", "x", 0, "x", 0, 1}, {65534, 1, "a", "x", 65535, "x", 65535, 0}, {65535, 2, "ab", "x", 0, "bx", 1, 2}, {65534, 2, "ab", "x", 65535, "bx", 0, 1}, {65533, 2, "ab", "x", 65534, "bx", 65535, 0}, {65529, 6, "abcdef", "x", 65530, "bcdefx", 65535, 0}, {65530, 6, "abcdef", "x", 65531, "bcdefx", 0, 1}, {65535, 6, "abcdef", "x", 0, "bcdefx", 5, 6},
		// An item that is there already.
		{7, 3, "ab", "a", 7, "aba", 9, 10}, {7, 2, "ab", "a", 8, "ba", 9, 10}, {7, 2, "ab", "b", 8, "bb", 9, 10}, {7, 1, "a", "a", 8, "a", 8, 9},
	} {
		w, p, ok := impl.PushItem(impl.SendWindow{Trail: c.trail, Size: c.size, Items: texts(c.items)}, c.item)
		want := impl.Packet{Kind: impl.KindData, Number: c.number, Trail: c.wantTrail, Lead: c.lead, Data: c.item}
		if !ok || p != want {
			t.Error("packet", c, p, ok)
		}
		expectHeld(t, w, c.wantTrail, c.size, c.wantItems)
	}
}

// A pushed item is held under the number of its packet: from one push to the next, once around all numbers.
func TestPushAroundAllNumbers(t *testing.T) {
	for size := 1; size <= 6; size++ {
		w, last := impl.SendWindow{Trail: 65000, Size: size}, []string{}
		number := 65000
		for n := range 66000 {
			item := string([]byte{byte('a' + n%26), byte('a' + n/26%26), byte('a' + n/676%26)})
			last = append(last, item)
			last = last[max(len(last)-size, 0):]
			next, p, ok := impl.PushItem(w, item)
			held, fine := impl.HeldItem(next, p.Number)
			if !ok || !fine || held != item || p.Number != number || !slices.Equal(next.Items, last) || next.Size != size {
				t.Fatal("pushed", w, item, next, p, held)
			}
			number = nextNumber(number)
			if lead, ok := impl.LeadOf(next); !ok || lead != number || p.Lead != number || p.Trail != next.Trail || stepsFrom(next.Trail, number) != len(last) {
				t.Fatal("lead", next, p, lead, number)
			}
			if dropped, ok := impl.HeldItem(next, (number+65535-size)%65536); ok || dropped != "" {
				t.Fatal("dropped", next, dropped)
			}
			w = next
		}
	}
}

// However a window is pushed to, dropped from and resized, it has the last items of all that were pushed.
func TestWindowsOfManySteps(t *testing.T) {
	sizes := []int{1, 2, 3, 6}
	for _, first := range []int{0, 65532, 65535} {
		eachList(0, 8, 5, func(steps []int) {
			w := impl.SendWindow{Trail: first, Size: 3, Items: texts("ab")}
			// All items that were ever pushed are in sent; those up to gone are not held any more.
			sent, gone, size := "ab", 0, 3
			for _, step := range steps {
				switch {
				case step == 0:
					item := "abcdefghij"[len(sent) : len(sent)+1]
					next, p, ok := impl.PushItem(w, item)
					number := (first + len(sent)) % 65536
					sent += item
					gone = max(gone, len(sent)-size)
					want := impl.Packet{Kind: impl.KindData, Number: number, Trail: (first + gone) % 65536, Lead: nextNumber(number), Data: item}
					if held, fine := impl.HeldItem(next, p.Number); !ok || p != want || !fine || held != item {
						t.Fatal("pushed", w, steps, p, held)
					}
					w = next
				case step <= 3:
					next, n, ok := impl.DropItems(w, (first+gone+step)%65536)
					if fine := gone+step <= len(sent); ok != fine || fine && n != step {
						t.Fatal("dropped", w, steps, next, n, ok)
					}
					if ok {
						w, gone = next, gone+step
					}
				default:
					size = sizes[step-4]
					next, ok := impl.ResizeWindow(w, size)
					if !ok {
						t.Fatal("resized", w, steps)
					}
					w, gone = next, max(gone, len(sent)-size)
				}
			}
			expectHeld(t, w, (first+gone)%65536, size, sent[gone:])
		})
	}
}

// Each number is held, or can be dropped up to, only if it is in the window or, for the latter, its lead.
func TestEveryNumberOfAWindow(t *testing.T) {
	for _, trail := range []int{0, 7, 32768, 65533, 65535} {
		for _, items := range []string{"", "a", "abc", "abcdef"} {
			w := impl.SendWindow{Trail: trail, Size: 6, Items: texts(items)}
			number := trail
			for steps := range 65536 {
				held, ok := impl.HeldItem(w, number)
				a, fine := impl.AnswerTo(w, impl.Packet{Kind: impl.KindRequest, Number: number})
				if steps < len(items) {
					if !ok || held != items[steps:steps+1] || !fine || a.Data != held || a.Number != number {
						t.Fatal("held", w, number, held, a)
					}
				} else if ok || held != "" || fine || a != noPacket {
					t.Fatal("not held", w, number, held, a)
				}
				dropped, n, ok := impl.DropItems(w, number)
				if steps <= len(items) {
					if !ok || n != steps || !isWindow(dropped, number, 6, items[steps:]) {
						t.Fatal("dropped", w, number, dropped, n)
					}
				} else if ok || n != 0 || !isNoWindow(dropped) {
					t.Fatal("not dropped", w, number, dropped, n)
				}
				number = nextNumber(number)
			}
			for _, bad := range noSerials {
				refuseNumber(t, w, bad)
			}
		}
	}
}

func TestHeldItemByHand(t *testing.T) {
	w := impl.SendWindow{Trail: 65534, Size: 5, Items: []string{"abc", "", "z", "abcdefgh"}}
	for _, c := range []struct {
		number int
		want   string
		held   bool
	}{{65534, "abc", true}, {65535, "", true}, {0, "z", true}, {1, "abcdefgh", true}, {2, "", false}, {3, "", false}, {65533, "", false}, {65532, "", false}, {32766, "", false}, {32767, "", false}} {
		if s, ok := impl.HeldItem(w, c.number); ok != c.held || s != c.want {
			t.Error("held", c, s, ok)
		}
	}
	// Numbers that are no serials are not held, also where one that is many steps from them is.
	for _, bad := range []int{-1, -2, 65536, 65537, 131070, 131071, 1<<32 - 1, 1 << 32, -65536} {
		refuseNumber(t, w, bad)
	}
}

func TestDropItemsByHand(t *testing.T) {
	for _, c := range []struct {
		trail, size int
		items       string
		to          int
		want        string
		n           int
	}{
		// Up to the Trail, between, the last item and the lead.
		{7, 6, "abcd", 7, "abcd", 0}, {7, 6, "abcd", 8, "bcd", 1}, {7, 6, "abcd", 9, "cd", 2}, {7, 6, "abcd", 10, "d", 3}, {7, 6, "abcd", 11, "", 4},
		{65534, 4, "abcd", 65534, "abcd", 0}, {65534, 4, "abcd", 65535, "bcd", 1}, {65534, 4, "abcd", 0, "cd", 2}, {65534, 4, "abcd", 1, "d", 3}, {65534, 4, "abcd", 2, "", 4},
		{65530, 6, "abcdef", 0, "", 6}, {65531, 6, "abcdef", 1, "", 6}, {65531, 6, "abcdef", 0, "f", 5}, {0, 1, "a", 1, "", 1}, {65535, 1, "a", 0, "", 1}, {65535, 1, "a", 65535, "a", 0},
		// Of an empty window, none can be dropped.
		{7, 6, "", 7, "", 0}, {0, 1, "", 0, "", 0}, {65535, 3, "", 65535, "", 0},
	} {
		w, n, ok := impl.DropItems(impl.SendWindow{Trail: c.trail, Size: c.size, Items: texts(c.items)}, c.to)
		if !ok || n != c.n {
			t.Error("dropped", c, n, ok)
		}
		expectHeld(t, w, c.to, c.size, c.want)
	}
	for _, c := range []struct {
		trail, size int
		items       string
		to          int
	}{
		// Past the lead, before the Trail, and far away.
		{7, 6, "abcd", 12}, {7, 6, "abcd", 13}, {7, 6, "abcd", 6}, {7, 6, "abcd", 5}, {7, 6, "abcd", 0}, {7, 6, "abcd", 65535}, {7, 6, "abcd", 32775}, {7, 6, "abcd", 32774}, {7, 6, "abcdef", 14},
		{65534, 4, "abcd", 3}, {65534, 4, "abcd", 65533}, {65534, 6, "abcd", 3}, {0, 1, "a", 2}, {0, 1, "a", 65535}, {65535, 1, "a", 1}, {65535, 1, "a", 65534},
		{7, 6, "", 8}, {7, 6, "", 6}, {0, 1, "", 1}, {0, 1, "", 65535}, {65535, 3, "", 0}, {65535, 3, "", 65534},
	} {
		w, n, ok := impl.DropItems(impl.SendWindow{Trail: c.trail, Size: c.size, Items: texts(c.items)}, c.to)
		if ok || n != 0 || !isNoWindow(w) {
			t.Error("not dropped", c, w, n, ok)
		}
	}
}

func TestResizeWindowByHand(t *testing.T) {
	for _, c := range []struct {
		trail, size int
		items       string
		now         int
		wantTrail   int
		want        string
	}{
		// The same size.
		{7, 3, "ab", 3, 7, "ab"}, {7, 3, "abc", 3, 7, "abc"}, {7, 1, "", 1, 7, ""}, {65535, 6, "abcdef", 6, 65535, "abcdef"},
		// A smaller one that drops none.
		{7, 6, "abc", 5, 7, "abc"}, {7, 6, "abc", 3, 7, "abc"}, {7, 6, "", 1, 7, ""}, {65535, 6, "a", 1, 65535, "a"}, {65535, 2, "", 1, 65535, ""},
		// A smaller one that drops some, of a full window and of one that is not full.
		{7, 3, "abc", 2, 8, "bc"}, {7, 3, "abc", 1, 9, "c"}, {7, 6, "abcdef", 1, 12, "f"}, {7, 6, "abcdef", 5, 8, "bcdef"}, {7, 6, "abcd", 3, 8, "bcd"}, {7, 6, "abcd", 1, 10, "d"}, {65535, 2, "ab", 1, 0, "b"}, {65531, 6, "abcdef", 1, 0, "f"}, {65531, 6, "abcdef", 2, 65535, "ef"}, {65533, 6, "abcdef", 2, 1, "ef"}, {65534, 5, "abc", 1, 0, "c"},
		// A greater one.
		{7, 3, "abc", 4, 7, "abc"}, {7, 3, "abc", 6, 7, "abc"}, {7, 1, "", 6, 7, ""}, {7, 1, "a", 2, 7, "a"}, {65535, 2, "ab", 6, 65535, "ab"}, {7, 5, "ab", 6, 7, "ab"},
	} {
		w, ok := impl.ResizeWindow(impl.SendWindow{Trail: c.trail, Size: c.size, Items: texts(c.items)}, c.now)
		if !ok {
			t.Error("resized", c)
		}
		expectHeld(t, w, c.wantTrail, c.now, c.want)
	}
	for _, items := range []string{"", "a", "abc"} {
		for _, bad := range noSizes {
			if w, ok := impl.ResizeWindow(impl.SendWindow{Trail: 7, Size: 3, Items: texts(items)}, bad); ok || !isNoWindow(w) {
				t.Error("size", items, bad, w, ok)
			}
		}
	}
}

func TestAnswersByHand(t *testing.T) {
	w := impl.SendWindow{Trail: 65534, Size: 5, Items: []string{"abc", "", "z", "abcdefgh"}}
	for number, data := range map[int]string{65534: "abc", 65535: "", 0: "z", 1: "abcdefgh"} {
		want := impl.Packet{Kind: impl.KindRepair, Number: number, Trail: 65534, Lead: 2, Data: data}
		// The answer tells the Trail and the lead of the window, whatever the request tells.
		for _, ends := range [][2]int{{0, 0}, {65534, 2}, {65530, 1}, {5, 12}, {65535, 32766}} {
			if a, ok := impl.AnswerTo(w, impl.Packet{Kind: impl.KindRequest, Number: number, Trail: ends[0], Lead: ends[1]}); !ok || a != want {
				t.Error("answer", number, a, ok)
			}
		}
	}
	for _, number := range []int{2, 3, 65533, 32766, 32767, 5, -1, -2, 65536, 131070, 1 << 32, mostInt, leastInt} {
		refuseAnswer(t, w, impl.Packet{Kind: impl.KindRequest, Number: number})
		refuseAnswer(t, w, impl.Packet{Kind: impl.KindRequest, Number: number, Trail: 65534, Lead: 2})
	}
	for number := range 8 {
		refuseAnswer(t, impl.SendWindow{Trail: 5, Size: 6}, impl.Packet{Kind: impl.KindRequest, Number: number})
	}
}

// Only a valid request is answered, though the item with the Number is held.
func TestPacketsThatAreNotAnswered(t *testing.T) {
	w := impl.SendWindow{Trail: 5, Size: 6, Items: texts("abcdef")}
	for _, kind := range []int{1, 2, 4, 5, 0, -1, -3, 6, 7, 259, 1<<32 + 3, mostInt, leastInt} {
		for _, data := range []string{"", "b", "abcdefgh"} {
			refuseAnswer(t, w, impl.Packet{Kind: kind, Number: 6, Trail: 5, Lead: 11, Data: data})
			refuseAnswer(t, w, impl.Packet{Kind: kind, Number: 6, Data: data})
		}
	}
	refuseAnswer(t, w, noPacket)
	refuseAnswer(t, impl.SendWindow{Size: 6, Items: texts("abc")}, noPacket)
	for _, data := range append(slices.Clone(noData), someData[1:]...) {
		refuseAnswer(t, w, impl.Packet{Kind: impl.KindRequest, Number: 6, Trail: 5, Lead: 11, Data: data})
	}
	for _, bad := range noSerials {
		refuseAnswer(t, w, impl.Packet{Kind: impl.KindRequest, Number: 6, Trail: bad, Lead: 11})
		refuseAnswer(t, w, impl.Packet{Kind: impl.KindRequest, Number: 6, Trail: 5, Lead: bad})
		refuseAnswer(t, w, impl.Packet{Kind: impl.KindRequest, Number: bad, Trail: 5, Lead: 11})
	}
	for _, ends := range [][2]int{{0, 32768}, {5, 4}, {11, 5}, {1, 0}, {65535, 65534}, {32768, 0}, {5, 32773}, {5, 40000}} {
		refuseAnswer(t, w, impl.Packet{Kind: impl.KindRequest, Number: 6, Trail: ends[0], Lead: ends[1]})
	}
	if a, ok := impl.AnswerTo(w, impl.Packet{Kind: impl.KindRequest, Number: 6, Trail: 5, Lead: 32772}); !ok || a != (impl.Packet{Kind: impl.KindRepair, Number: 6, Trail: 5, Lead: 11, Data: "b"}) {
		t.Error("answer", a, ok)
	}
}

// What a window is pushed, told and asked for can all be sent.
func TestPacketsOfWindowsAreValid(t *testing.T) {
	for _, trail := range endTrails {
		for _, item := range someData {
			for size := 1; size <= 6; size++ {
				w := impl.SendWindow{Trail: trail, Size: size}
				for range size + 2 {
					next, p, ok := impl.PushItem(w, item)
					status, fine := impl.StatusOf(next)
					answer, fair := impl.AnswerTo(next, impl.Packet{Kind: impl.KindRequest, Number: p.Number})
					repair, good := impl.RepairOf(p, next.Trail, status.Lead)
					if !ok || !fine || !fair || !good || answer != repair || !impl.IsValidPacket(p) || !impl.IsValidPacket(status) || !impl.IsValidPacket(answer) {
						t.Fatal("packets", w, p, status, answer, repair)
					}
					w = next
				}
			}
		}
	}
}

// What is beyond the length of the Items is no part of them, and stays as it is.
func TestWindowsKeepTheirArguments(t *testing.T) {
	all := []string{"a", "b", "c", "d", "e", "f", "NO", "abcdefghi"}
	kept := slices.Clone(all)
	for held := 0; held <= 8; held++ {
		for size := 1; size <= 7; size++ {
			w := impl.SendWindow{Trail: 65533, Size: size, Items: all[:held]}
			if impl.IsValidSendWindow(w) != (held <= size && size <= 6) {
				t.Error("validity", held, size)
			}
			impl.LeadOf(w)
			for _, item := range []string{"x", "", "NO"} {
				impl.PushItem(w, item)
			}
			for _, number := range []int{-1, 65532, 65533, 65534, 65535, 0, 1, 2, 3, 4, 65536} {
				impl.HeldItem(w, number)
				impl.DropItems(w, number)
				impl.AnswerTo(w, impl.Packet{Kind: impl.KindRequest, Number: number})
			}
			for now := range 8 {
				impl.ResizeWindow(w, now)
			}
			impl.StatusOf(w)
			impl.HeldSerials(w)
			if !slices.Equal(all, kept) {
				t.Fatal("changed", held, size, all)
			}
		}
	}
}

// A change of a result is not seen in the window that was given or in another result, nor the other way round.
func TestWindowsGiveNewMemory(t *testing.T) {
	for name, f := range map[string]func(impl.SendWindow) (impl.SendWindow, bool){
		"pushed":        func(w impl.SendWindow) (impl.SendWindow, bool) { x, _, ok := impl.PushItem(w, "x"); return x, ok },
		"none dropped":  func(w impl.SendWindow) (impl.SendWindow, bool) { x, _, ok := impl.DropItems(w, 65534); return x, ok },
		"one dropped":   func(w impl.SendWindow) (impl.SendWindow, bool) { x, _, ok := impl.DropItems(w, 65535); return x, ok },
		"all dropped":   func(w impl.SendWindow) (impl.SendWindow, bool) { x, _, ok := impl.DropItems(w, 1); return x, ok },
		"the same size": func(w impl.SendWindow) (impl.SendWindow, bool) { return impl.ResizeWindow(w, w.Size) },
		"smaller":       func(w impl.SendWindow) (impl.SendWindow, bool) { return impl.ResizeWindow(w, 2) },
		"greater":       func(w impl.SendWindow) (impl.SendWindow, bool) { return impl.ResizeWindow(w, 6) },
	} {
		// A full window, and one that is not; each with room for more in its memory.
		for size := 3; size <= 4; size++ {
			start := impl.SendWindow{Trail: 65534, Size: size, Items: append(make([]string, 0, 20), "a", "b", "c")}
			kept := slices.Clone(start.Items[:8])
			first, ok := f(start)
			other, fine := f(start)
			want := strings.Join(other.Items, ",")
			_ = append(first.Items, "y", "y", "y")
			for i := range first.Items {
				first.Items[i] = "y"
			}
			if again, fair := f(start); !ok || !fine || !fair || strings.Join(again.Items, ",") != want || strings.Join(other.Items, ",") != want || !slices.Equal(start.Items[:8], kept) {
				t.Error(name, first, other, again, start)
			}
			for i := range start.Items[:8] {
				start.Items[:8][i] = "z"
			}
			if strings.Join(other.Items, ",") != want {
				t.Error("changed by the argument", name, other)
			}
		}
	}
	w := impl.SendWindow{Trail: 65534, Size: 3, Items: texts("abc")}
	first, _ := impl.HeldSerials(w)
	_ = append(first, 88)
	first[0] = 88
	if again, ok := impl.HeldSerials(w); !ok || !slices.Equal(again, []int{65534, 65535, 0}) {
		t.Error("serials", again)
	}
}

// expectHeld tells if a window has other items than these, one letter each, or answers other than with them.
func expectHeld(t *testing.T, w impl.SendWindow, trail, size int, letters string) {
	t.Helper()
	if !impl.IsValidSendWindow(w) || !isWindow(w, trail, size, letters) {
		t.Fatal("window", w, "not", trail, size, letters)
	}
	serials, number := []int{}, trail
	for _, letter := range texts(letters) {
		if s, ok := impl.HeldItem(w, number); !ok || s != letter {
			t.Fatal("held", w, number, s)
		}
		serials = append(serials, number)
		number = nextNumber(number)
	}
	for _, serial := range serials {
		a, ok := impl.AnswerTo(w, impl.Packet{Kind: impl.KindRequest, Number: serial})
		if want := (impl.Packet{Kind: impl.KindRepair, Number: serial, Trail: trail, Lead: number, Data: letters[stepsFrom(trail, serial):][:1]}); !ok || a != want {
			t.Fatal("answer", w, serial, a)
		}
	}
	for _, other := range []int{number, nextNumber(number), numberBefore(trail)} {
		if s, ok := impl.HeldItem(w, other); ok || s != "" {
			t.Fatal("not held", w, other, s)
		}
	}
	if lead, ok := impl.LeadOf(w); !ok || lead != number {
		t.Fatal("lead", w, lead)
	}
	if list, ok := impl.HeldSerials(w); !ok || !slices.Equal(list, serials) {
		t.Fatal("serials", w, list)
	}
	if p, ok := impl.StatusOf(w); !ok || p != (impl.Packet{Kind: impl.KindStatus, Number: trail, Trail: trail, Lead: number}) {
		t.Fatal("status", w, p)
	}
}

func expectItem(t *testing.T, item string) {
	t.Helper()
	for at := range 3 {
		items := texts("abc")
		items[at] = item
		w := impl.SendWindow{Trail: 65534, Size: 3, Items: items}
		held, ok := impl.HeldItem(w, (65534+at)%65536)
		if !impl.IsValidSendWindow(w) || !ok || held != item {
			t.Fatal("item", w, held)
		}
	}
	w, p, ok := impl.PushItem(impl.SendWindow{Trail: 65535, Size: 3, Items: texts("ab")}, item)
	if !ok || p != (impl.Packet{Kind: impl.KindData, Number: 1, Trail: 65535, Lead: 2, Data: item}) || !slices.Equal(w.Items, []string{"a", "b", item}) {
		t.Fatal("pushed", item, w, p)
	}
}

func refuseItem(t *testing.T, item string) {
	t.Helper()
	for size := 1; size <= 6; size++ {
		for at := range size {
			items := texts("abcdef"[:size])
			items[at] = item
			refuseWindow(t, impl.SendWindow{Trail: 3, Size: size, Items: items})
		}
		for held := 0; held <= size; held++ {
			w, p, ok := impl.PushItem(impl.SendWindow{Trail: 3, Size: size, Items: texts("abcdef"[:held])}, item)
			if ok || p != noPacket || !isNoWindow(w) {
				t.Fatalf("pushed %.20q %v %v", item, w, p)
			}
		}
	}
}

// refuseWindow tells if a window that is not valid is taken for one.
func refuseWindow(t *testing.T, w impl.SendWindow) {
	t.Helper()
	if impl.IsValidSendWindow(w) {
		t.Fatal("valid", w.Trail, w.Size, len(w.Items))
	}
	if lead, ok := impl.LeadOf(w); ok || lead != 0 {
		t.Fatal("lead", w.Trail, w.Size, lead)
	}
	for _, item := range []string{"", "x", "abcdefgh", "X"} {
		if pushed, p, ok := impl.PushItem(w, item); ok || p != noPacket || !isNoWindow(pushed) {
			t.Fatal("pushed", w.Trail, w.Size, pushed, p)
		}
	}
	for _, number := range []int{w.Trail, w.Trail + 1, 0, 3, 4, 65535} {
		refuseNumber(t, w, number)
	}
	for now := range 8 {
		if resized, ok := impl.ResizeWindow(w, now); ok || !isNoWindow(resized) {
			t.Fatal("resized", w.Trail, w.Size, now, resized)
		}
	}
	if p, ok := impl.StatusOf(w); ok || p != noPacket {
		t.Fatal("status", w.Trail, w.Size, p)
	}
	if list, ok := impl.HeldSerials(w); ok || len(list) != 0 {
		t.Fatal("serials", w.Trail, w.Size, list)
	}
}

// refuseNumber tells if a number is taken that is no serial, or for a window that is not valid.
func refuseNumber(t *testing.T, w impl.SendWindow, number int) {
	t.Helper()
	if s, ok := impl.HeldItem(w, number); ok || s != "" {
		t.Fatal("held", w.Trail, w.Size, number, s)
	}
	if dropped, n, ok := impl.DropItems(w, number); ok || n != 0 || !isNoWindow(dropped) {
		t.Fatal("dropped", w.Trail, w.Size, number, dropped, n)
	}
	refuseAnswer(t, w, impl.Packet{Kind: impl.KindRequest, Number: number})
}

func refuseAnswer(t *testing.T, w impl.SendWindow, p impl.Packet) {
	t.Helper()
	if a, ok := impl.AnswerTo(w, p); ok || a != noPacket {
		t.Fatal("answer", w.Trail, w.Size, p.Kind, p.Number, a)
	}
}

func isWindow(w impl.SendWindow, trail, size int, letters string) bool {
	return w.Trail == trail && w.Size == size && slices.Equal(w.Items, texts(letters))
}

func isNoWindow(w impl.SendWindow) bool { return w.Trail == 0 && w.Size == 0 && len(w.Items) == 0 }

// noWindows has what breaks a rule of windows in its Trail, its Size or the number of its Items.
func noWindows() []impl.SendWindow {
	none := []impl.SendWindow{
		{}, {Trail: 7}, {Items: texts("a")}, {Size: -1, Items: texts("a")}, {Size: 7, Items: texts("abcdefg")}, {Size: 100, Items: make([]string, 100)},
		{Size: 1, Items: texts("ab")}, {Size: 2, Items: texts("abc")}, {Size: 5, Items: texts("abcdef")}, {Size: 6, Items: texts("abcdefg")}, {Size: 1, Items: make([]string, 2)}, {Size: 6, Items: make([]string, 7)}, {Size: 6, Items: make([]string, 100000)},
		{Trail: 65535, Size: 1, Items: texts("ab")}, {Trail: -1, Size: 0, Items: texts("A")},
	}
	for _, trail := range noSerials {
		for size := 1; size <= 6; size++ {
			none = append(none, impl.SendWindow{Trail: trail, Size: size}, impl.SendWindow{Trail: trail, Size: size, Items: texts("abcdef"[:size])})
		}
	}
	for _, size := range noSizes {
		none = append(none, impl.SendWindow{Size: size}, impl.SendWindow{Trail: 65535, Size: size, Items: texts("a")}, impl.SendWindow{Trail: 7, Size: size, Items: texts("abcdef")})
	}
	return none
}
