package tests

import (
	"slices"
	"strings"
	"testing"

	"loop.example/g00840/impl"
)

// noClocks has numbers that are no Clock of a source.
var noClocks = []int{-1, -2, -3, -4, -9999, -10000, 10000, 10001, 10002, 20000, 1 << 32, -1 << 32, 1<<32 + 5, mostInt, mostInt - 3, leastInt, leastInt + 3}

// noQuiets has numbers that are no Quiet of a source.
var noQuiets = []int{-1, -2, -3, -4, 4, 5, 7, 8, 100, 1 << 32, -1 << 32, 1<<32 + 2, mostInt, leastInt}

// lastClocks has clocks at both ends, and some between.
var lastClocks = []int{0, 1, 2, 3, 4, 5000, 9994, 9995, 9996, 9997, 9998, 9999}

func TestLimitsOfSources(t *testing.T) {
	if impl.MaxClock != 9999 || impl.HoldTime != 3 || impl.StatusEvery != 4 {
		t.Error("limits", impl.MaxClock, impl.HoldTime, impl.StatusEvery)
	}
}

func TestNewSources(t *testing.T) {
	for _, first := range edgeSerials {
		for size := 1; size <= 6; size++ {
			s, ok := impl.NewSource(first, size)
			expectSource(t, s, ok, source(first, size, "", 0, 0))
		}
		for _, size := range noSizes {
			refuseNew(t, first, size)
		}
	}
	for _, first := range noSerials {
		for size := 1; size <= 6; size++ {
			refuseNew(t, first, size)
		}
		for _, size := range noSizes {
			refuseNew(t, first, size)
		}
	}
}

func TestClocksAndQuietsOfSources(t *testing.T) {
	for _, clock := range lastClocks {
		for quiet := range 4 {
			expectSource(t, source(7, 3, "ab", clock, quiet), true, source(7, 3, "ab", clock, quiet))
			expectSource(t, source(65535, 1, "a", clock, quiet, 65535, clock+3), true, source(65535, 1, "a", clock, quiet, 65535, clock+3))
		}
		for _, quiet := range noQuiets {
			refuseSource(t, source(7, 3, "ab", clock, quiet))
			refuseSource(t, source(7, 3, "ab", clock, quiet, 8, clock+1))
			refuseSource(t, source(0, 1, "", clock, quiet))
		}
	}
	for _, clock := range noClocks {
		for quiet := range 4 {
			refuseSource(t, source(7, 3, "ab", clock, quiet))
			refuseSource(t, source(7, 3, "ab", clock, quiet, 8, clock+1))
			refuseSource(t, source(7, 3, "ab", clock, quiet, 8, clock+3))
			refuseSource(t, source(0, 1, "", clock, quiet))
		}
		for _, quiet := range noQuiets {
			refuseSource(t, source(7, 3, "ab", clock, quiet))
		}
	}
}

func TestWindowsOfSources(t *testing.T) {
	refuseSource(t, impl.Source{})
	for _, w := range noWindows() {
		refuseSource(t, impl.Source{Window: w})
		refuseSource(t, impl.Source{Window: w, Clock: 9999, Quiet: 3})
		refuseSource(t, impl.Source{Window: w, Clock: 5, Holds: holds(w.Trail, 6)})
	}
	for _, item := range noData {
		refuseSource(t, impl.Source{Window: impl.SendWindow{Trail: 7, Size: 3, Items: []string{"a", item}}})
		refuseSource(t, impl.Source{Window: impl.SendWindow{Trail: 7, Size: 3, Items: []string{"a", item}}, Holds: holds(7, 1)})
	}
	for _, item := range someData {
		s := impl.Source{Window: impl.SendWindow{Trail: 65535, Size: 2, Items: []string{"a", item}}, Holds: holds(0, 1)}
		if hold, ok := impl.IsOnHold(s, 0); !impl.IsValidSource(s) || !ok || !hold {
			t.Error("item", s)
		}
	}
}

// A Hold lasts at least until the next tick, and at most HoldTime, also where this is past the last tick.
func TestTicksOfHolds(t *testing.T) {
	for _, clock := range lastClocks {
		for until := clock - 5; until <= clock+8; until++ {
			fine := until > clock && until < clock+4
			for _, s := range []impl.Source{
				source(7, 3, "a", clock, 1, 7, until), source(65534, 3, "abc", clock, 0, 0, until), source(65535, 6, "abcdef", clock, 3, 65535, clock+3, 2, until), source(65535, 6, "abcdef", clock, 3, 2, until, 4, clock+1),
			} {
				if fine {
					expectSource(t, s, true, s)
				} else {
					refuseSource(t, s)
				}
			}
		}
		for _, until := range []int{-1, 0, -9999, 1 << 32, -1 << 32, 1<<32 + clock + 1, mostInt, mostInt - 1, leastInt, leastInt + clock + 1} {
			refuseSource(t, source(7, 3, "ab", clock, 0, 8, until))
		}
	}
	refuseSource(t, source(7, 3, "ab", 9999, 0, 8, 9999))
	refuseSource(t, source(7, 3, "ab", 9999, 0, 8, 10003))
}

// Every list of up to four Holds for the serials of a window, and for those next to it, is taken only in strictly ascending order of the gaps.
func TestListsOfHolds(t *testing.T) {
	valid := 0
	for _, trail := range []int{5, 65532, 65533, 65534, 65535, 0} {
		for _, letters := range []string{"", "a", "abc", "abcd"} {
			eachList(-1, 6, 4, func(list []int) {
				s := source(trail, 5, letters, 40, 2)
				fine := true
				for i, steps := range list {
					s.Holds = append(s.Holds, impl.Hold{Number: (trail + 65536 + steps) % 65536, Until: 41 + i%3})
					fine = fine && steps >= 0 && steps < len(letters) && (i == 0 || steps > list[i-1])
				}
				if impl.IsValidSource(s) != fine {
					t.Fatal("validity", s, fine)
				}
				if fine {
					expectSource(t, s, true, s)
					valid++
				}
			})
		}
	}
	// For each Trail, one for each part of the window.
	if valid != 6*(1+2+8+16) {
		t.Error("valid lists", valid)
	}
}

func TestHoldsThatAreNone(t *testing.T) {
	full := source(65533, 6, "abcdef", 5, 0, 65533, 6, 65534, 7, 65535, 8, 0, 6, 1, 7, 2, 8)
	expectSource(t, full, true, full)
	for _, s := range []impl.Source{
		// For items that are not held: before the Trail, the lead, behind it, and in an empty window.
		source(7, 3, "ab", 5, 0, 6, 6), source(7, 3, "ab", 5, 0, 9, 6), source(7, 3, "ab", 5, 0, 10, 6), source(7, 3, "", 5, 0, 7, 6), source(0, 3, "a", 5, 0, 65535, 6), source(65535, 3, "a", 5, 0, 0, 6), source(7, 3, "ab", 5, 0, 32775, 6), source(7, 3, "ab", 5, 0, 7, 6, 9, 6), source(7, 3, "ab", 5, 0, 6, 6, 7, 6),
		// Two for one item.
		source(7, 3, "ab", 5, 0, 7, 6, 7, 6), source(7, 3, "ab", 5, 0, 7, 6, 7, 7), source(7, 3, "ab", 5, 0, 8, 8, 8, 7), source(65535, 3, "abc", 5, 0, 65535, 6, 1, 6, 1, 6), source(65535, 3, "abc", 5, 0, 65535, 6, 1, 6, 65535, 6),
		// In another order of their gaps, also in that of the numbers alone.
		source(7, 3, "ab", 5, 0, 8, 6, 7, 6), source(7, 3, "abc", 5, 0, 7, 6, 9, 6, 8, 6), source(65534, 4, "abcd", 5, 0, 0, 6, 65534, 6), source(65534, 4, "abcd", 5, 0, 0, 6, 1, 6, 65534, 6, 65535, 6), source(65534, 4, "abcd", 5, 0, 65535, 6, 65534, 6),
		// More than there are items.
		source(7, 1, "a", 5, 0, 7, 6, 8, 6), {Window: full.Window, Clock: 5, Holds: append(slices.Clone(full.Holds), full.Holds[5])}, {Window: full.Window, Clock: 5, Holds: slices.Repeat(full.Holds, 10000)}, {Window: full.Window, Clock: 5, Holds: make([]impl.Hold, 100000)},
		// The zero Hold, where 0 is held.
		{Window: full.Window, Holds: make([]impl.Hold, 1)}, {Window: full.Window, Clock: 9999, Holds: make([]impl.Hold, 1)},
	} {
		refuseSource(t, s)
	}
	for _, bad := range noSerials {
		refuseSource(t, source(7, 3, "ab", 5, 0, bad, 6))
		refuseSource(t, source(0, 6, "abcdef", 5, 0, bad, 6))
		refuseSource(t, source(65535, 3, "abc", 5, 0, 65535, 6, bad, 6))
	}
	// What breaks a rule is found wherever it is in a list.
	for at := range 6 {
		for _, bad := range []impl.Hold{{Number: full.Holds[at].Number, Until: 5}, {Number: full.Holds[at].Number, Until: 9}, {Number: 3, Until: 6}, {Number: 65532, Until: 6}, {Number: -1, Until: 6}, {Number: 65536, Until: 6}} {
			s := impl.Source{Window: full.Window, Clock: 5, Holds: slices.Clone(full.Holds)}
			s.Holds[at] = bad
			refuseSource(t, s)
		}
	}
}

func TestSendFromByHand(t *testing.T) {
	for _, c := range []struct {
		s    impl.Source
		line string
		want impl.Source
	}{
		// The first item, and one more.
		{source(7, 3, "", 0, 0), "data 7 of 7-8 x", source(7, 3, "x", 0, 0)}, {source(65535, 1, "", 0, 0), "data 65535 of 65535-0 x", source(65535, 1, "x", 0, 0)}, {source(7, 3, "ab", 5, 2), "data 9 of 7-10 x", source(7, 3, "abx", 5, 0)}, {source(65534, 6, "ab", 5, 2), "data 0 of 65534-1 x", source(65534, 6, "abx", 5, 0)},
		// Quiet begins anew, whatever it was, and the Clock stays, also at the last tick.
		{source(7, 3, "a", 3, 3), "data 8 of 7-9 x", source(7, 3, "ax", 3, 0)}, {source(7, 3, "a", 9999, 1), "data 8 of 7-9 x", source(7, 3, "ax", 9999, 0)}, {source(7, 3, "a", 9999, 3, 7, 10002), "data 8 of 7-9 x", source(7, 3, "ax", 9999, 0, 7, 10002)},
		// Into a window that is not full, all Holds stay.
		{source(7, 3, "ab", 5, 2, 7, 6), "data 9 of 7-10 x", source(7, 3, "abx", 5, 0, 7, 6)}, {source(7, 3, "ab", 5, 2, 7, 8, 8, 6), "data 9 of 7-10 x", source(7, 3, "abx", 5, 0, 7, 8, 8, 6)}, {source(65535, 6, "abcde", 5, 1, 65535, 6, 0, 7, 3, 8), "data 4 of 65535-5 x", source(65535, 6, "abcdex", 5, 0, 65535, 6, 0, 7, 3, 8)},
		// Into a full one with a Hold for the item that is dropped.
		{source(7, 2, "ab", 5, 2, 7, 6), "data 9 of 8-10 x", source(8, 2, "bx", 5, 0)}, {source(7, 2, "ab", 5, 2, 7, 8, 8, 7), "data 9 of 8-10 x", source(8, 2, "bx", 5, 0, 8, 7)}, {source(7, 1, "a", 5, 2, 7, 8), "data 8 of 8-9 x", source(8, 1, "x", 5, 0)}, {source(65535, 1, "a", 5, 2, 65535, 8), "data 0 of 0-1 x", source(0, 1, "x", 5, 0)}, {source(65535, 3, "abc", 5, 2, 65535, 6, 0, 7, 1, 8), "data 2 of 0-3 x", source(0, 3, "bcx", 5, 0, 0, 7, 1, 8)}, {source(65533, 3, "abc", 9999, 2, 65533, 10000, 65535, 10002), "data 0 of 65534-1 x", source(65534, 3, "bcx", 9999, 0, 65535, 10002)}, {source(0, 6, "abcdef", 5, 0, 0, 6, 1, 6, 2, 6, 3, 6, 4, 6, 5, 6), "data 6 of 1-7 x", source(1, 6, "bcdefx", 5, 0, 1, 6, 2, 6, 3, 6, 4, 6, 5, 6)},
		// Into a full one without a Hold for that item.
		{source(7, 2, "ab", 5, 2), "data 9 of 8-10 x", source(8, 2, "bx", 5, 0)}, {source(7, 2, "ab", 5, 2, 8, 6), "data 9 of 8-10 x", source(8, 2, "bx", 5, 0, 8, 6)}, {source(65535, 3, "abc", 5, 2, 0, 7, 1, 8), "data 2 of 0-3 x", source(0, 3, "bcx", 5, 0, 0, 7, 1, 8)}, {source(65534, 2, "ab", 9999, 3, 65535, 10000), "data 0 of 65535-1 x", source(65535, 2, "bx", 9999, 0, 65535, 10000)},
	} {
		s, p, ok := impl.SendFrom(c.s, "x")
		if lineOfPacket(p) != c.line {
			t.Error("packet", c.s, p)
		}
		expectSource(t, s, ok, c.want)
	}
}

func TestItemsOfSources(t *testing.T) {
	for _, item := range someData {
		s, p, ok := impl.SendFrom(source(65535, 2, "ab", 5, 3, 65535, 6, 0, 7), item)
		want := source(0, 2, "bx", 5, 0, 0, 7)
		want.Window.Items[1] = item
		if p != (impl.Packet{Kind: impl.KindData, Number: 1, Trail: 0, Lead: 2, Data: item}) {
			t.Error("packet", item, p)
		}
		expectSource(t, s, ok, want)
		s, list, ok := impl.RequestTo(s, request(1))
		if !ok || len(list) != 2 || list[0] != (impl.Packet{Kind: impl.KindConfirm, Number: 1, Trail: 0, Lead: 2}) || list[1] != (impl.Packet{Kind: impl.KindRepair, Number: 1, Trail: 0, Lead: 2, Data: item}) || len(s.Holds) != 2 {
			t.Error("repaired", item, list)
		}
	}
	for _, item := range noData {
		for _, s := range []impl.Source{source(7, 3, "", 0, 0), source(7, 3, "ab", 5, 1), source(7, 2, "ab", 5, 1, 7, 6), source(65535, 6, "abcdef", 9999, 3)} {
			refuseSend(t, s, item)
		}
	}
}

func TestRequestToByHand(t *testing.T) {
	for _, c := range []struct {
		s      impl.Source
		number int
		lines  string
		want   impl.Source
	}{
		// Held, and without a Hold: the oldest item, one between, the last one, and the only one.
		{source(7, 3, "abc", 5, 2), 7, "confirm 7 of 7-10, repair 7 of 7-10 a", source(7, 3, "abc", 5, 2, 7, 8)}, {source(7, 3, "abc", 5, 2), 8, "confirm 8 of 7-10, repair 8 of 7-10 b", source(7, 3, "abc", 5, 2, 8, 8)}, {source(7, 3, "abc", 5, 2), 9, "confirm 9 of 7-10, repair 9 of 7-10 c", source(7, 3, "abc", 5, 2, 9, 8)}, {source(0, 1, "a", 0, 0), 0, "confirm 0 of 0-1, repair 0 of 0-1 a", source(0, 1, "a", 0, 0, 0, 3)}, {source(65535, 1, "a", 1, 1), 65535, "confirm 65535 of 65535-0, repair 65535 of 65535-0 a", source(65535, 1, "a", 1, 1, 65535, 4)},
		// The Hold is put in its place, in front, between and at the end, also across the end of the numbers.
		{source(65534, 6, "abcdef", 5, 3, 65535, 6, 1, 8), 65534, "confirm 65534 of 65534-4, repair 65534 of 65534-4 a", source(65534, 6, "abcdef", 5, 3, 65534, 8, 65535, 6, 1, 8)}, {source(65534, 6, "abcdef", 5, 3, 65535, 6, 1, 8), 0, "confirm 0 of 65534-4, repair 0 of 65534-4 c", source(65534, 6, "abcdef", 5, 3, 65535, 6, 0, 8, 1, 8)}, {source(65534, 6, "abcdef", 5, 3, 65535, 6, 1, 8), 2, "confirm 2 of 65534-4, repair 2 of 65534-4 e", source(65534, 6, "abcdef", 5, 3, 65535, 6, 1, 8, 2, 8)}, {source(65534, 6, "abcdef", 5, 3, 65535, 6, 1, 8), 3, "confirm 3 of 65534-4, repair 3 of 65534-4 f", source(65534, 6, "abcdef", 5, 3, 65535, 6, 1, 8, 3, 8)}, {source(65535, 2, "ab", 5, 0, 0, 6), 65535, "confirm 65535 of 65535-1, repair 65535 of 65535-1 a", source(65535, 2, "ab", 5, 0, 65535, 8, 0, 6)}, {source(7, 6, "abcdef", 5, 0, 7, 6, 8, 6, 10, 6, 11, 6, 12, 6), 9, "confirm 9 of 7-13, repair 9 of 7-13 c", source(7, 6, "abcdef", 5, 0, 7, 6, 8, 6, 9, 8, 10, 6, 11, 6, 12, 6)},
		// Held, and with a Hold, which does not last longer then.
		{source(65534, 6, "abcdef", 5, 3, 65535, 6, 1, 8), 65535, "confirm 65535 of 65534-4", source(65534, 6, "abcdef", 5, 3, 65535, 6, 1, 8)}, {source(65534, 6, "abcdef", 5, 3, 65535, 6, 1, 8), 1, "confirm 1 of 65534-4", source(65534, 6, "abcdef", 5, 3, 65535, 6, 1, 8)}, {source(7, 1, "a", 5, 0, 7, 7), 7, "confirm 7 of 7-8", source(7, 1, "a", 5, 0, 7, 7)},
		// Not held: the lead, behind it, before the Trail, far away, and in an empty window.
		{source(7, 3, "abc", 5, 2), 10, "status 7 of 7-10", source(7, 3, "abc", 5, 2)}, {source(7, 3, "abc", 5, 3, 9, 7), 11, "status 7 of 7-10", source(7, 3, "abc", 5, 3, 9, 7)}, {source(7, 3, "abc", 5, 2, 7, 6), 6, "status 7 of 7-10", source(7, 3, "abc", 5, 2, 7, 6)}, {source(7, 3, "abc", 5, 2), 0, "status 7 of 7-10", source(7, 3, "abc", 5, 2)}, {source(7, 3, "abc", 5, 2), 32775, "status 7 of 7-10", source(7, 3, "abc", 5, 2)}, {source(65534, 3, "abc", 5, 2, 0, 7), 1, "status 65534 of 65534-1", source(65534, 3, "abc", 5, 2, 0, 7)}, {source(65534, 3, "abc", 5, 2), 65533, "status 65534 of 65534-1", source(65534, 3, "abc", 5, 2)}, {source(7, 3, "", 0, 0), 7, "status 7 of 7-7", source(7, 3, "", 0, 0)}, {source(65535, 6, "", 9999, 1), 0, "status 65535 of 65535-65535", source(65535, 6, "", 9999, 1)},
		// At the last ticks, a Hold ends past the last one.
		{source(7, 3, "ab", 9996, 1), 8, "confirm 8 of 7-9, repair 8 of 7-9 b", source(7, 3, "ab", 9996, 1, 8, 9999)}, {source(7, 3, "ab", 9997, 1), 8, "confirm 8 of 7-9, repair 8 of 7-9 b", source(7, 3, "ab", 9997, 1, 8, 10000)}, {source(7, 3, "ab", 9998, 1), 8, "confirm 8 of 7-9, repair 8 of 7-9 b", source(7, 3, "ab", 9998, 1, 8, 10001)}, {source(7, 3, "ab", 9999, 1), 8, "confirm 8 of 7-9, repair 8 of 7-9 b", source(7, 3, "ab", 9999, 1, 8, 10002)}, {source(7, 3, "ab", 9999, 1, 8, 10000), 7, "confirm 7 of 7-9, repair 7 of 7-9 a", source(7, 3, "ab", 9999, 1, 7, 10002, 8, 10000)}, {source(7, 3, "ab", 9999, 1, 8, 10000), 8, "confirm 8 of 7-9", source(7, 3, "ab", 9999, 1, 8, 10000)}, {source(7, 3, "ab", 9999, 1, 8, 10002), 8, "confirm 8 of 7-9", source(7, 3, "ab", 9999, 1, 8, 10002)}, {source(7, 3, "ab", 9999, 3, 8, 10002), 9, "status 7 of 7-9", source(7, 3, "ab", 9999, 3, 8, 10002)},
	} {
		// The answer does not depend on what the request tells of a window.
		for _, ends := range [][2]int{{0, 0}, {c.s.Window.Trail, c.s.Window.Trail}, {7, 10}, {65530, 5}, {5, 32772}, {65535, 32766}} {
			s, list, ok := impl.RequestTo(c.s, impl.Packet{Kind: impl.KindRequest, Number: c.number, Trail: ends[0], Lead: ends[1]})
			if linesOf(list) != c.lines {
				t.Error("packets", c.s, c.number, list)
			}
			expectSource(t, s, ok, c.want)
		}
	}
}

// Every number is answered, and only an item that is held and not on hold is repaired.
func TestEveryNumberRequested(t *testing.T) {
	for _, trail := range []int{0, 7, 32766, 65533, 65535} {
		s := source(trail, 6, "abcd", 9998, 2, (trail+1)%65536, 9999, (trail+3)%65536, 10001)
		number := trail
		for steps := range 65536 {
			next, list, ok := impl.RequestTo(s, request(number))
			hold, fine := impl.IsOnHold(s, number)
			want, kinds := s, []int{impl.KindStatus}
			switch steps {
			case 0:
				want, kinds = source(trail, 6, "abcd", 9998, 2, trail, 10001, (trail+1)%65536, 9999, (trail+3)%65536, 10001), []int{impl.KindConfirm, impl.KindRepair}
			case 1, 3:
				kinds = []int{impl.KindConfirm}
			case 2:
				want, kinds = source(trail, 6, "abcd", 9998, 2, (trail+1)%65536, 9999, (trail+2)%65536, 10001, (trail+3)%65536, 10001), []int{impl.KindConfirm, impl.KindRepair}
			}
			if !ok || !sameSource(next, want) || !slices.Equal(kindsOf(list), kinds) || !fine || hold != (steps == 1 || steps == 3) {
				t.Fatal("requested", s, number, next, list, hold)
			}
			number = nextNumber(number)
		}
	}
}

// Only a valid request is answered, whether the item with its Number is held, on hold, or neither.
func TestPacketsThatSourcesRefuse(t *testing.T) {
	for _, s := range []impl.Source{source(5, 6, "abcdef", 5, 3), source(5, 6, "abcdef", 9999, 0, 6, 10000), source(5, 1, "a", 0, 0), source(7, 6, "", 0, 0)} {
		for _, kind := range []int{1, 2, 4, 5, 0, -1, -3, 6, 7, 259, 1<<32 + 3, mostInt, leastInt} {
			for _, data := range []string{"", "b", "abcdefgh"} {
				refuseRequest(t, s, impl.Packet{Kind: kind, Number: 6, Trail: 5, Lead: 11, Data: data})
				refuseRequest(t, s, impl.Packet{Kind: kind, Number: 20, Data: data})
			}
		}
		refuseRequest(t, s, noPacket)
		for _, data := range append(slices.Clone(noData), someData[1:]...) {
			refuseRequest(t, s, impl.Packet{Kind: impl.KindRequest, Number: 6, Trail: 5, Lead: 11, Data: data})
			refuseRequest(t, s, impl.Packet{Kind: impl.KindRequest, Number: 20, Trail: 5, Lead: 11, Data: data})
		}
		for _, bad := range noSerials {
			refuseRequest(t, s, impl.Packet{Kind: impl.KindRequest, Number: bad, Trail: 5, Lead: 11})
			for _, number := range []int{5, 6, 20} {
				refuseRequest(t, s, impl.Packet{Kind: impl.KindRequest, Number: number, Trail: bad, Lead: 11})
				refuseRequest(t, s, impl.Packet{Kind: impl.KindRequest, Number: number, Trail: 5, Lead: bad})
			}
		}
		for _, ends := range [][2]int{{0, 32768}, {5, 4}, {11, 5}, {1, 0}, {65535, 65534}, {32768, 0}, {5, 32773}, {5, 40000}} {
			for _, number := range []int{5, 6, 20} {
				refuseRequest(t, s, impl.Packet{Kind: impl.KindRequest, Number: number, Trail: ends[0], Lead: ends[1]})
			}
		}
	}
}

func TestTickSourceByHand(t *testing.T) {
	for _, c := range []struct {
		s     impl.Source
		lines string
		want  impl.Source
	}{
		// Nothing else happens.
		{source(7, 3, "ab", 0, 0), "", source(7, 3, "ab", 1, 1)}, {source(7, 3, "ab", 1, 1), "", source(7, 3, "ab", 2, 2)}, {source(7, 3, "", 2, 2), "", source(7, 3, "", 3, 3)}, {source(65535, 6, "abcdef", 9998, 0), "", source(65535, 6, "abcdef", 9999, 1)},
		// A Hold ends, one does not, and some do.
		{source(7, 3, "ab", 0, 0, 7, 1), "", source(7, 3, "ab", 1, 1)}, {source(7, 3, "ab", 0, 0, 7, 2), "", source(7, 3, "ab", 1, 1, 7, 2)}, {source(7, 3, "ab", 0, 0, 7, 3), "", source(7, 3, "ab", 1, 1, 7, 3)}, {source(7, 3, "abc", 5, 2, 7, 6, 8, 7, 9, 6), "", source(7, 3, "abc", 6, 3, 8, 7)}, {source(65535, 3, "abc", 5, 2, 65535, 8, 0, 6, 1, 7), "", source(65535, 3, "abc", 6, 3, 65535, 8, 1, 7)}, {source(65535, 3, "abc", 5, 2, 65535, 6, 0, 6, 1, 6), "", source(65535, 3, "abc", 6, 3)}, {source(0, 6, "abcdef", 5, 0, 0, 7, 1, 7, 2, 7, 3, 7, 4, 7, 5, 7), "", source(0, 6, "abcdef", 6, 1, 0, 7, 1, 7, 2, 7, 3, 7, 4, 7, 5, 7)},
		// A status packet falls due.
		{source(7, 3, "ab", 3, 3), "status 7 of 7-9", source(7, 3, "ab", 4, 0)}, {source(7, 3, "", 3, 3), "status 7 of 7-7", source(7, 3, "", 4, 0)}, {source(65534, 6, "abcdef", 100, 3), "status 65534 of 65534-4", source(65534, 6, "abcdef", 101, 0)}, {source(7, 3, "ab", 3, 3, 8, 5), "status 7 of 7-9", source(7, 3, "ab", 4, 0, 8, 5)}, {source(7, 3, "ab", 9998, 3), "status 7 of 7-9", source(7, 3, "ab", 9999, 0)},
		// Both.
		{source(7, 3, "ab", 3, 3, 8, 4), "status 7 of 7-9", source(7, 3, "ab", 4, 0)}, {source(65535, 3, "abc", 3, 3, 65535, 4, 0, 6, 1, 4), "status 65535 of 65535-2", source(65535, 3, "abc", 4, 0, 0, 6)},
		// Holds at the last ticks.
		{source(7, 3, "ab", 9997, 0, 7, 9998, 8, 10000), "", source(7, 3, "ab", 9998, 1, 8, 10000)}, {source(7, 3, "abc", 9998, 0, 7, 9999, 8, 10000, 9, 10001), "", source(7, 3, "abc", 9999, 1, 8, 10000, 9, 10001)}, {source(7, 3, "ab", 9998, 3, 7, 9999, 8, 10001), "status 7 of 7-9", source(7, 3, "ab", 9999, 0, 8, 10001)},
	} {
		s, list, ok := impl.TickSource(c.s)
		if linesOf(list) != c.lines {
			t.Error("packets", c.s, list)
		}
		expectSource(t, s, ok, c.want)
	}
	for quiet := range 4 {
		refuseSourceTick(t, source(7, 3, "ab", 9999, quiet))
		refuseSourceTick(t, source(7, 3, "", 9999, quiet))
		for until := 10000; until <= 10002; until++ {
			refuseSourceTick(t, source(7, 3, "ab", 9999, quiet, 8, until))
		}
	}
}

func TestTrimSourceByHand(t *testing.T) {
	held := source(65534, 6, "abcd", 5, 2, 65534, 6, 65535, 7, 1, 8)
	for _, c := range []struct {
		s     impl.Source
		trail int
		n     int
		want  impl.Source
	}{
		// At the Trail, between, and at the lead.
		{held, 65534, 0, held}, {held, 65535, 1, source(65535, 6, "bcd", 5, 2, 65535, 7, 1, 8)}, {held, 0, 2, source(0, 6, "cd", 5, 2, 1, 8)}, {held, 1, 3, source(1, 6, "d", 5, 2, 1, 8)}, {held, 2, 4, source(2, 6, "", 5, 2)},
		// Without Holds, and for items without them.
		{source(7, 3, "ab", 5, 3), 7, 0, source(7, 3, "ab", 5, 3)}, {source(7, 3, "ab", 5, 3), 8, 1, source(8, 3, "b", 5, 3)}, {source(7, 3, "ab", 5, 3), 9, 2, source(9, 3, "", 5, 3)}, {source(7, 3, "abc", 5, 3, 9, 6), 9, 2, source(9, 3, "c", 5, 3, 9, 6)}, {source(7, 3, "abc", 5, 3, 8, 6), 9, 2, source(9, 3, "c", 5, 3)}, {source(7, 3, "", 5, 3), 7, 0, source(7, 3, "", 5, 3)}, {source(0, 1, "a", 0, 0, 0, 3), 1, 1, source(1, 1, "", 0, 0)},
		// At the last tick.
		{source(65535, 6, "abcdef", 9999, 1, 65535, 10000, 0, 10001, 4, 10002), 0, 1, source(0, 6, "bcdef", 9999, 1, 0, 10001, 4, 10002)}, {source(65535, 6, "abcdef", 9999, 1, 65535, 10000, 0, 10001, 4, 10002), 4, 5, source(4, 6, "f", 9999, 1, 4, 10002)}, {source(65535, 6, "abcdef", 9999, 1, 65535, 10000, 0, 10001, 4, 10002), 5, 6, source(5, 6, "", 9999, 1)},
	} {
		s, n, ok := impl.TrimSource(c.s, c.trail)
		if n != c.n {
			t.Error("dropped", c.s, c.trail, n)
		}
		expectSource(t, s, ok, c.want)
	}
	// Past the lead, before the Trail, far away, and no serial.
	for _, trail := range append([]int{3, 4, 65533, 65532, 32766, 32767, 30000}, noSerials...) {
		refuseTrim(t, held, trail)
	}
	for _, trail := range append([]int{6, 8, 9, 0, 65535}, noSerials...) {
		refuseTrim(t, source(7, 3, "", 5, 0), trail)
	}
	for _, trail := range append([]int{1, 2, 65534}, noSerials...) {
		refuseTrim(t, source(65535, 1, "a", 9999, 0, 65535, 10002), trail)
	}
}

// Each number can be trimmed up to only if it is in the window or its lead, and the Holds before it alone are removed.
func TestEveryNumberTrimmed(t *testing.T) {
	for _, first := range []int{0, 7, 32768, 65533, 65535} {
		s := source(first, 6, "abcde", 50, 1)
		for steps := range 5 {
			s.Holds = append(s.Holds, impl.Hold{Number: (first + steps) % 65536, Until: 51 + steps%3})
		}
		number := first
		for steps := range 65536 {
			if steps > 5 {
				refuseTrim(t, s, number)
			} else {
				trimmed, n, ok := impl.TrimSource(s, number)
				want := source(number, 6, "abcde"[steps:], 50, 1)
				want.Holds = s.Holds[steps:]
				expectSource(t, trimmed, ok, want)
				if n != steps {
					t.Error("dropped", s, number, n)
				}
			}
			number = nextNumber(number)
		}
	}
}

func TestIsOnHoldByHand(t *testing.T) {
	for _, s := range []impl.Source{source(65534, 6, "abcd", 5, 2, 65535, 6, 1, 8), source(65534, 4, "abcd", 9999, 0, 65535, 10000, 1, 10002)} {
		for number, want := range map[int]bool{65535: true, 1: true, 65534: false, 0: false, 2: false, 3: false, 65533: false, 7: false, 32766: false, 32767: false} {
			if hold, ok := impl.IsOnHold(s, number); !ok || hold != want {
				t.Error("on hold", s, number, hold, ok)
			}
		}
		for _, bad := range append([]int{-65535, 131071, 65537}, noSerials...) {
			if hold, ok := impl.IsOnHold(s, bad); ok || hold {
				t.Error("no serial", s, bad, hold, ok)
			}
		}
	}
}

// As many ticks pass as were told, and none of those before sends a status packet.
func TestTicksToStatusAreTrue(t *testing.T) {
	for _, clock := range []int{0, 1, 5000, 9993, 9994, 9995} {
		for quiet := range 4 {
			s := source(7, 3, "ab", clock, quiet, 8, clock+3)
			n, ok := impl.TicksToStatus(s)
			if !ok || n != 4-quiet {
				t.Fatal("ticks", s, n)
			}
			for left := n; left > 0; left-- {
				if now, ok := impl.TicksToStatus(s); !ok || now != left {
					t.Fatal("ticks left", s, now)
				}
				next, list, ok := impl.TickSource(s)
				if !ok || len(list) > 0 != (left == 1) {
					t.Fatal("ticked", s, list)
				}
				s = next
			}
			if again, ok := impl.TicksToStatus(s); !ok || again != 4 || s.Clock != clock+n {
				t.Fatal("ticks", s, again)
			}
		}
	}
	// They are told also where the clock ends before.
	for quiet := range 4 {
		if n, ok := impl.TicksToStatus(source(7, 3, "ab", 9999, quiet)); !ok || n != 4-quiet {
			t.Error("ticks", quiet, n)
		}
	}
}

// However often all items are requested in every tick of the clock, each request is confirmed, and each item is repaired in every third tick alone.
func TestRepairedOnceWithinTheHoldTime(t *testing.T) {
	for _, first := range []int{0, 65533} {
		s := source(first, 4, "abcd", 0, 0)
		for clock := range 10000 {
			for round := range 3 {
				// The items are requested for the first time in the ticks 0, 1, 2 and 3.
				for steps := range min(clock+1, 4) {
					s = expectAnswer(t, s, first, steps, round == 0 && (clock-steps)%3 == 0)
				}
			}
			if clock == 9999 {
				refuseSourceTick(t, s)
				break
			}
			next, list, ok := impl.TickSource(s)
			if !ok || next.Clock != clock+1 || len(list) > 0 != (clock%4 == 3) {
				t.Fatal("ticked", s, next, list)
			}
			s = next
		}
	}
}

// expectAnswer requests an item of four, tells if it is not repaired as wanted, and gives the source after that.
func expectAnswer(t *testing.T, s impl.Source, first, steps int, repaired bool) impl.Source {
	t.Helper()
	number := (first + steps) % 65536
	want := []impl.Packet{{Kind: impl.KindConfirm, Number: number, Trail: first, Lead: (first + 4) % 65536}}
	if repaired {
		want = append(want, impl.Packet{Kind: impl.KindRepair, Number: number, Trail: first, Lead: (first + 4) % 65536, Data: "abcd"[steps : steps+1]})
	}
	next, list, ok := impl.RequestTo(s, request(number))
	if hold, fine := impl.IsOnHold(next, number); !ok || !slices.Equal(list, want) || !fine || !hold || next.Quiet != s.Quiet {
		t.Fatal("requested", s, number, next, list)
	}
	return next
}

// Around all numbers, an item is repaired once, as long as it is held, wherever its serial is.
func TestRepairsAroundAllNumbers(t *testing.T) {
	for _, size := range []int{1, 2, 6} {
		s, number := source(65000, size, "", 77, 0), 65000
		for n := range 66000 {
			item := string([]byte{byte('a' + n%26), byte('a' + n/26%26), byte('a' + n/676%26)})
			sent, p, ok := impl.SendFrom(s, item)
			repaired, list, fine := impl.RequestTo(sent, request(number))
			again, more, fair := impl.RequestTo(repaired, request(number))
			if !ok || p.Number != number || !fine || !slices.Equal(kindsOf(list), []int{impl.KindConfirm, impl.KindRepair}) || list[1].Data != item || !fair || !slices.Equal(kindsOf(more), []int{impl.KindConfirm}) || !sameSource(again, repaired) {
				t.Fatal("repaired", s, item, list, more)
			}
			if len(again.Holds) != min(n+1, size) || again.Holds[0].Number != again.Window.Trail || again.Holds[len(again.Holds)-1].Number != number || !impl.IsValidSource(again) {
				t.Fatal("holds", again)
			}
			s, number = again, nextNumber(number)
			if lost, list, ok := impl.RequestTo(s, request((number+65535-size)%65536)); !ok || !slices.Equal(kindsOf(list), []int{impl.KindStatus}) || !sameSource(lost, s) {
				t.Fatal("dropped", s, list)
			}
		}
	}
}

// Whatever a source is told, in every order of some steps, it is the one that follows from when each of its items was repaired.
func TestSourcesOfManySteps(t *testing.T) {
	for _, first := range []int{0, 65534} {
		for _, clock := range []int{0, 9996} {
			three := told{first: first, size: 3, sent: "ab", clock: clock, since: clock}
			walkSources(t, three.source(), three, "st012-dD", 5)
			walkSources(t, three.source(), three, "st01", 8)
			// One that was quiet for two ticks already.
			one := told{first: first, size: 1, sent: "a", clock: clock, since: clock - 2}
			walkSources(t, one.source(), one, "st0d", 7)
		}
	}
}

// What sources send can be sent.
func TestPacketsOfSourcesAreValid(t *testing.T) {
	for _, trail := range endTrails {
		for _, item := range someData {
			for size := 1; size <= 6; size++ {
				s := source(trail, size, "", 0, 3)
				for range size + 2 {
					next, p, ok := impl.SendFrom(s, item)
					repaired, answers, fine := impl.RequestTo(next, request(p.Number))
					_, lost, fair := impl.RequestTo(next, request(numberBefore(next.Window.Trail)))
					next.Quiet = 3
					_, status, good := impl.TickSource(next)
					all := slices.Concat([]impl.Packet{p}, answers, lost, status)
					if !ok || !fine || !fair || !good || len(all) != 5 || !slices.Equal(lost, status) || slices.IndexFunc(all, func(p impl.Packet) bool { return !impl.IsValidPacket(p) }) >= 0 {
						t.Fatal("packets", s, all)
					}
					s = repaired
				}
			}
		}
	}
}

// What is beyond the length of the Items and the Holds is no part of them, and stays as it is.
func TestSourcesKeepTheirArguments(t *testing.T) {
	items := []string{"a", "b", "c", "NO", "abcdefghi", "x", "y"}
	list := holds(65534, 51, 65535, 52, 0, 53, 0, 53, -1, 0)
	keptItems, keptHolds := slices.Clone(items), slices.Clone(list)
	for held := range 5 {
		for count := range 5 {
			s := impl.Source{Window: impl.SendWindow{Trail: 65534, Size: 3, Items: items[:held]}, Clock: 50, Quiet: 3, Holds: list[:count]}
			if impl.IsValidSource(s) != (count <= held && held <= 3) {
				t.Error("validity", held, count)
			}
			for _, item := range []string{"x", "", "NO"} {
				impl.SendFrom(s, item)
			}
			for _, number := range []int{-1, 65533, 65534, 65535, 0, 1, 2, 65536} {
				impl.RequestTo(s, request(number))
				impl.TrimSource(s, number)
				impl.IsOnHold(s, number)
			}
			impl.TickSource(s)
			impl.TicksToStatus(s)
			if !slices.Equal(items, keptItems) || !slices.Equal(list, keptHolds) {
				t.Fatal("changed", held, count, items, list)
			}
		}
	}
}

// A change of a result is not seen in the source that was given or in another result, nor the other way round.
func TestSourcesGiveNewMemory(t *testing.T) {
	send := func(s impl.Source) (impl.Source, []impl.Packet, bool) {
		s, p, ok := impl.SendFrom(s, "x")
		return s, []impl.Packet{p}, ok
	}
	ask := func(number int) func(impl.Source) (impl.Source, []impl.Packet, bool) {
		return func(s impl.Source) (impl.Source, []impl.Packet, bool) { return impl.RequestTo(s, request(number)) }
	}
	trim := func(trail int) func(impl.Source) (impl.Source, []impl.Packet, bool) {
		return func(s impl.Source) (impl.Source, []impl.Packet, bool) {
			s, _, ok := impl.TrimSource(s, trail)
			return s, nil, ok
		}
	}
	for name, f := range map[string]func(impl.Source) (impl.Source, []impl.Packet, bool){
		"sent": send, "repaired in front": ask(65534), "repaired at the end": ask(1), "on hold": ask(0), "not held": ask(2), "ticked": impl.TickSource, "none trimmed": trim(65534), "one trimmed": trim(65535), "two trimmed": trim(0), "all trimmed": trim(2),
	} {
		// A full window and one that is not, with Holds that end and that do not, and with a status packet that is due and not; each with room for more in its memory.
		for size := 4; size <= 5; size++ {
			for quiet := 2; quiet <= 3; quiet++ {
				for clock := 49; clock <= 50; clock++ {
					keepApart(t, name, f, impl.Source{
						Window: impl.SendWindow{Trail: 65534, Size: size, Items: append(make([]string, 0, 20), "a", "b", "c", "d")},
						Clock:  clock, Quiet: quiet, Holds: append(make([]impl.Hold, 0, 20), holds(65535, 51, 0, 52)...),
					})
				}
			}
		}
	}
}

// keepApart tells if what f makes of a source changes with that source, or with another result.
func keepApart(t *testing.T, name string, f func(impl.Source) (impl.Source, []impl.Packet, bool), start impl.Source) {
	t.Helper()
	items, list := slices.Clone(start.Window.Items[:8]), slices.Clone(start.Holds[:8])
	first, toldFirst, ok := f(start)
	other, told, fine := f(start)
	want, lines := frozen(other), linesOf(told)
	spoil(first, len(first.Window.Items), len(first.Holds))
	_, _, _ = append(first.Window.Items, "y"), append(first.Holds, impl.Hold{Number: 88}), append(toldFirst, noPacket)
	for i := range toldFirst {
		toldFirst[i] = noPacket
	}
	again, toldAgain, fair := f(start)
	if !ok || !fine || !fair || !sameSource(other, want) || !sameSource(again, want) || linesOf(told) != lines || linesOf(toldAgain) != lines {
		t.Error(name, first, other, again, told, toldAgain)
	}
	if !slices.Equal(start.Window.Items[:8], items) || !slices.Equal(start.Holds[:8], list) {
		t.Error("changed the argument", name, start)
	}
	spoil(start, 8, 8)
	if !sameSource(other, want) {
		t.Error("changed by the argument", name, other)
	}
}

// spoil overwrites the memory of a source.
func spoil(s impl.Source, items, count int) {
	for i := range items {
		s.Window.Items[:items][i] = "y"
	}
	for i := range count {
		s.Holds[:count][i] = impl.Hold{Number: 77, Until: 77}
	}
}

// told is what a source was told: from this, its fields follow.
type told struct {
	first, size int
	// All items that were ever sent, a letter each, and how many of them are gone.
	sent string
	gone int
	// The tick in which a packet was last sent that is not an answer.
	clock, since int
	// The first tick in which an item may be repaired again.
	free [24]int
}

func (x told) serial(i int) int { return (x.first + 65536 + i) % 65536 }

func (x told) source() impl.Source {
	s := source(x.serial(x.gone), x.size, x.sent[x.gone:], x.clock, x.clock-x.since)
	for i := x.gone; i < len(x.sent); i++ {
		if x.free[i] > x.clock {
			s.Holds = append(s.Holds, impl.Hold{Number: x.serial(i), Until: x.free[i]})
		}
	}
	return s
}

// packet gives a packet about an item, with the ends of the window.
func (x told) packet(kind int, i int, data string) impl.Packet {
	return impl.Packet{Kind: kind, Number: x.serial(i), Trail: x.serial(x.gone), Lead: x.serial(len(x.sent)), Data: data}
}

// walkSources lets a source take every list of up to so many steps.
func walkSources(t *testing.T, s impl.Source, x told, steps string, left int) {
	expectSource(t, s, true, x.source())
	if left == 0 {
		return
	}
	for i := range len(steps) {
		if next, y, ok := takeStep(t, s, x, steps[i]); ok {
			walkSources(t, next, y, steps, left-1)
		}
	}
}

// takeStep lets a source take a step, and tells if it sends something else than what follows from what it was told.
func takeStep(t *testing.T, s impl.Source, x told, step byte) (impl.Source, told, bool) {
	switch step {
	case 's':
		return takeSend(t, s, x)
	case 't':
		return takeTick(t, s, x)
	case 'd':
		return takeTrim(t, s, x, x.gone+1)
	case 'D':
		return takeTrim(t, s, x, len(x.sent))
	case '-':
		return takeRequest(t, s, x, x.gone-1)
	}
	return takeRequest(t, s, x, x.gone+int(step-'0'))
}

func takeSend(t *testing.T, s impl.Source, x told) (impl.Source, told, bool) {
	item := string([]byte{byte('a' + len(x.sent))})
	next, p, ok := impl.SendFrom(s, item)
	x.sent += item
	x.gone = max(x.gone, len(x.sent)-x.size)
	x.since = x.clock
	if !ok || p != x.packet(impl.KindData, len(x.sent)-1, item) {
		t.Fatal("sent", s, p)
	}
	return next, x, true
}

func takeTick(t *testing.T, s impl.Source, x told) (impl.Source, told, bool) {
	if x.clock == 9999 {
		refuseSourceTick(t, s)
		return s, x, false
	}
	next, list, ok := impl.TickSource(s)
	want := []impl.Packet{}
	x.clock++
	if x.clock == x.since+4 {
		x.since = x.clock
		want = append(want, x.packet(impl.KindStatus, x.gone, ""))
	}
	if !ok || !slices.Equal(list, want) {
		t.Fatal("ticked", s, list, want)
	}
	return next, x, true
}

func takeTrim(t *testing.T, s impl.Source, x told, to int) (impl.Source, told, bool) {
	if to > len(x.sent) {
		refuseTrim(t, s, x.serial(to))
		return s, x, false
	}
	next, n, ok := impl.TrimSource(s, x.serial(to))
	if !ok || n != to-x.gone {
		t.Fatal("trimmed", s, n)
	}
	x.gone = to
	return next, x, true
}

func takeRequest(t *testing.T, s impl.Source, x told, i int) (impl.Source, told, bool) {
	next, list, ok := impl.RequestTo(s, request(x.serial(i)))
	want := []impl.Packet{x.packet(impl.KindConfirm, i, "")}
	switch {
	case i < x.gone || i >= len(x.sent):
		want = []impl.Packet{x.packet(impl.KindStatus, x.gone, "")}
	case x.free[i] <= x.clock:
		want = append(want, x.packet(impl.KindRepair, i, x.sent[i:i+1]))
		x.free[i] = x.clock + 3
	}
	if !ok || !slices.Equal(list, want) {
		t.Fatal("requested", s, list, want)
	}
	return next, x, true
}

// expectSource tells if a source is another one than this, which is valid, or answers otherwise.
func expectSource(t *testing.T, s impl.Source, ok bool, want impl.Source) {
	t.Helper()
	if !ok || !sameSource(s, want) || !impl.IsValidSource(s) {
		t.Fatal("source", s, ok, "not", want)
	}
	onHold := map[int]bool{}
	for _, h := range want.Holds {
		onHold[h.Number] = true
	}
	number := numberBefore(want.Window.Trail)
	for range len(want.Window.Items) + 2 {
		if hold, ok := impl.IsOnHold(s, number); !ok || hold != onHold[number] {
			t.Fatal("on hold", s, number, hold)
		}
		number = nextNumber(number)
	}
	if n, ok := impl.TicksToStatus(s); !ok || n != 4-want.Quiet {
		t.Fatal("ticks", s, n)
	}
}

// refuseSource tells if a source that is not valid is taken for one.
func refuseSource(t *testing.T, s impl.Source) {
	t.Helper()
	if impl.IsValidSource(s) {
		t.Fatal("valid", s.Window.Trail, s.Window.Size, s.Clock, s.Quiet, len(s.Holds))
	}
	for _, item := range []string{"", "x", "abcdefgh", "X"} {
		refuseSend(t, s, item)
	}
	refuseSourceTick(t, s)
	for _, number := range []int{s.Window.Trail, s.Window.Trail + 1, s.Window.Trail + len(s.Window.Items), 0, 1, 7, 20, 65535, -1, 65536} {
		refuseRequest(t, s, request(number))
		refuseTrim(t, s, number)
		if hold, ok := impl.IsOnHold(s, number); ok || hold {
			t.Fatal("on hold", s.Clock, s.Quiet, number, hold)
		}
	}
	if n, ok := impl.TicksToStatus(s); ok || n != 0 {
		t.Fatal("ticks", s.Clock, s.Quiet, n)
	}
}

func refuseNew(t *testing.T, first, size int) {
	t.Helper()
	if s, ok := impl.NewSource(first, size); ok || !isNoSource(s) {
		t.Fatal("new", first, size, s)
	}
}

func refuseSend(t *testing.T, s impl.Source, item string) {
	t.Helper()
	if sent, p, ok := impl.SendFrom(s, item); ok || p != noPacket || !isNoSource(sent) {
		t.Fatalf("sent %.20q: %v %v %v %v", item, s.Clock, s.Quiet, sent, p)
	}
}

func refuseRequest(t *testing.T, s impl.Source, p impl.Packet) {
	t.Helper()
	if asked, list, ok := impl.RequestTo(s, p); ok || len(list) != 0 || !isNoSource(asked) {
		t.Fatal("requested", s.Clock, s.Quiet, p.Kind, p.Number, p.Trail, p.Lead, asked, list)
	}
}

func refuseSourceTick(t *testing.T, s impl.Source) {
	t.Helper()
	if ticked, list, ok := impl.TickSource(s); ok || len(list) != 0 || !isNoSource(ticked) {
		t.Fatal("ticked", s.Clock, s.Quiet, ticked, list)
	}
}

func refuseTrim(t *testing.T, s impl.Source, trail int) {
	t.Helper()
	if trimmed, n, ok := impl.TrimSource(s, trail); ok || n != 0 || !isNoSource(trimmed) {
		t.Fatal("trimmed", s.Clock, s.Quiet, trail, trimmed, n)
	}
}

// source writes a source with an item for each letter, and with Holds as pairs of a Number and an Until.
func source(trail, size int, letters string, clock, quiet int, numbers ...int) impl.Source {
	return impl.Source{Window: impl.SendWindow{Trail: trail, Size: size, Items: texts(letters)}, Clock: clock, Quiet: quiet, Holds: holds(numbers...)}
}

func holds(numbers ...int) []impl.Hold {
	list := []impl.Hold{}
	for i := 0; i < len(numbers); i += 2 {
		list = append(list, impl.Hold{Number: numbers[i], Until: numbers[i+1]})
	}
	return list
}

func request(number int) impl.Packet { return impl.Packet{Kind: impl.KindRequest, Number: number} }

func sameSource(a, b impl.Source) bool {
	return a.Window.Trail == b.Window.Trail && a.Window.Size == b.Window.Size && slices.Equal(a.Window.Items, b.Window.Items) && a.Clock == b.Clock && a.Quiet == b.Quiet && slices.Equal(a.Holds, b.Holds)
}

func isNoSource(s impl.Source) bool { return sameSource(s, impl.Source{}) }

// frozen gives a source in memory of its own.
func frozen(s impl.Source) impl.Source {
	s.Window.Items, s.Holds = slices.Clone(s.Window.Items), slices.Clone(s.Holds)
	return s
}

func kindsOf(list []impl.Packet) []int {
	kinds := []int{}
	for _, p := range list {
		kinds = append(kinds, p.Kind)
	}
	return kinds
}

// linesOf writes packets in one text.
func linesOf(list []impl.Packet) string {
	lines := []string{}
	for _, p := range list {
		lines = append(lines, lineOfPacket(p))
	}
	return strings.Join(lines, ", ")
}
