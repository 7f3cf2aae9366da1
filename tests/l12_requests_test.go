package tests

import (
	"slices"
	"testing"

	"loop.example/g00840/impl"
)

// noDelays has numbers that are no delays.
var noDelays = []int{0, -1, -2, -8, 9, 10, 16, 9999, 1 << 32, -1 << 32, 1<<32 + 3, mostInt, leastInt}

// noStates has numbers that are no State of a Request.
var noStates = []int{0, 4, -1, -2, -3, 5, 6, 257, 1 << 32, -1 << 32, 1<<32 + 1, mostInt, leastInt}

// noUntils has numbers that are no Until of a Request.
var noUntils = []int{-1, -2, -9999, -10007, -10008, 10008, 10009, 20000, 1 << 32, -1 << 32, 1<<32 + 5, mostInt, mostInt - 3, leastInt, leastInt + 3}

// noTries has numbers that are no Tries of a Request.
var noTries = []int{-1, -2, -3, -4, 4, 5, 8, 259, 1 << 32, -1 << 32, 1<<32 + 2, mostInt, leastInt}

// someBases has bases whose numbers go on to the end of all numbers, and across it, and half way round.
var someBases = []int{0, 1, 10, 32761, 32767, 32768, 65528, 65529, 65532, 65535}

// whenDue tells what becomes of a due Request, for its State by its Tries: it is sent, put off or given up.
var whenDue = [...]string{1: "sssg", 2: "pppg", 3: "pppg"}

func TestLimitsOfRequests(t *testing.T) {
	if impl.StateBackoff != 1 || impl.StateConfirm != 2 || impl.StateRepair != 3 {
		t.Error("states", impl.StateBackoff, impl.StateConfirm, impl.StateRepair)
	}
	if impl.MaxDelay != 8 || impl.ConfirmWait != 3 || impl.RepairWait != 4 || impl.MaxTries != 3 {
		t.Error("limits", impl.MaxDelay, impl.ConfirmWait, impl.RepairWait, impl.MaxTries)
	}
}

func TestListsOfRequests(t *testing.T) {
	for _, base := range edgeSerials {
		// None, one at either end, some, and as many as there can be.
		for _, marks := range []int{0, 1, 128, 129, 24, 170, 85, 127, 254, 255} {
			expectRequests(t, asks(base, marks), true, base, asks(base, marks))
		}
		expectRequests(t, nil, true, base, nil)
		for state := 1; state <= 3; state++ {
			for tries := range 4 {
				for _, until := range []int{0, 1, 2, 5000, 9998, 9999, 10000, 10006, 10007} {
					list := []impl.Request{{Number: base, State: state, Until: until, Tries: tries}}
					expectRequests(t, list, true, base, list)
				}
			}
		}
	}
	for _, list := range [][]impl.Request{
		waits(65535, 1, 0, 0, 0, 3, 10007, 3, 1, 2, 5, 1), waits(65534, 3, 9, 3, 5, 1, 8, 0), waits(65530, 1, 5, 0, 0, 1, 5, 0, 1, 1, 5, 0),
	} {
		expectRequests(t, list, true, list[0].Number, list)
	}
	// Elements beyond the length of a slice are not read.
	long := slices.Repeat(waits(9, 1, 5, 0), 20)
	expectRequests(t, long[:1], true, 9, waits(9, 1, 5, 0))
	expectRequests(t, long[:0], true, 9, nil)
}

// Every list of up to four numbers of a base, and of those next to them, is taken only in strictly ascending order of the gaps.
func TestListsOfNumbersRequested(t *testing.T) {
	valid := 0
	for _, base := range []int{0, 10, 65529, 65532, 65535} {
		eachList(-1, 10, 4, func(steps []int) {
			list := []impl.Request{}
			fine := true
			for i, x := range steps {
				list = append(list, impl.Request{Number: behind(base, x), State: 1 + i%3, Until: 50 + i, Tries: i})
				fine = fine && x >= 0 && x < 8 && (i == 0 || x > steps[i-1])
			}
			if impl.AreRequests(list, base) != fine {
				t.Fatal("validity", list, base, fine)
			}
			if fine {
				expectRequests(t, list, true, base, list)
				valid++
			}
		})
	}
	// For each base, the parts of its eight numbers that have at most four of them.
	if valid != 5*(1+8+28+56+70) {
		t.Error("valid lists", valid)
	}
}

func TestListsThatAreNoRequests(t *testing.T) {
	full := asks(65532, 255)
	expectRequests(t, full, true, 65532, full)
	for _, c := range []struct {
		base int
		list []impl.Request
	}{
		// As many steps behind the base as there are numbers, and more, half way round, and before it.
		{10, waits(18, 1, 5, 0)}, {10, waits(19, 1, 5, 0)}, {10, waits(9, 1, 5, 0)}, {10, waits(32778, 1, 5, 0)}, {10, waits(32777, 1, 5, 0)}, {0, waits(65535, 1, 5, 0)}, {0, waits(8, 1, 5, 0)}, {65532, waits(4, 1, 5, 0)}, {65532, waits(65531, 1, 5, 0)}, {65535, waits(7, 1, 5, 0)}, {10, waits(17, 1, 5, 0, 18, 1, 5, 0)}, {10, waits(9, 1, 5, 0, 10, 1, 5, 0)},
		// Two for one number, alike or not.
		{10, waits(12, 1, 5, 0, 12, 1, 5, 0)}, {10, waits(12, 1, 5, 0, 12, 2, 6, 1)}, {10, waits(10, 1, 5, 0, 12, 1, 5, 0, 12, 1, 5, 0)}, {10, waits(10, 1, 5, 0, 12, 1, 5, 0, 10, 1, 5, 0)}, {65535, waits(0, 1, 5, 0, 0, 1, 5, 0)},
		// In another order, also in that of the numbers alone.
		{10, waits(13, 1, 5, 0, 12, 1, 5, 0)}, {10, waits(10, 1, 5, 0, 17, 1, 5, 0, 12, 1, 5, 0)}, {65532, waits(0, 1, 5, 0, 65534, 1, 5, 0)}, {65532, waits(0, 1, 5, 0, 1, 1, 5, 0, 65532, 1, 5, 0, 65533, 1, 5, 0)}, {65532, waits(65533, 1, 5, 0, 65532, 1, 5, 0)},
		// In the order in which they are due alone.
		{10, waits(14, 1, 1, 0, 13, 1, 2, 0, 12, 1, 3, 0)},
		// More than there are numbers.
		{65532, append(slices.Clone(full), full[7])}, {65532, append(slices.Clone(full), waits(4, 1, 5, 0)...)}, {65532, append(waits(65531, 1, 5, 0), full...)}, {65532, append(slices.Clone(full[:1]), full...)}, {65532, slices.Repeat(full, 10000)}, {0, make([]impl.Request, 9)}, {0, make([]impl.Request, 100000)},
		// The zero Request, where 0 is a number of the base.
		{0, make([]impl.Request, 1)}, {65532, make([]impl.Request, 1)},
		// For another base.
		{65531, full}, {65533, full}, {32764, full}, {10, full}, {13, waits(12, 1, 5, 0)},
	} {
		refuseRequests(t, c.list, c.base)
	}
	for _, bad := range noSerials {
		refuseRequests(t, nil, bad)
		refuseRequests(t, waits(bad, 1, 5, 0), bad)
		refuseRequests(t, waits(0, 1, 5, 0), bad)
		refuseRequests(t, full, bad)
		refuseRequests(t, waits(bad, 1, 5, 0), 0)
		refuseRequests(t, waits(65535, 1, 5, 0, bad, 1, 5, 0), 65535)
		refuseRequests(t, waits(bad, 1, 5, 0, 0, 1, 5, 0), 65535)
	}
}

// What breaks a rule is found wherever it is in a list.
func TestPartsOfRequests(t *testing.T) {
	for _, marks := range []int{1, 128, 129, 36, 255} {
		full := asks(65532, marks)
		for at, good := range full {
			list := slices.Clone(full)
			check := func(part *int, values []int) {
				kept := *part
				for _, *part = range values {
					refuseRequests(t, list, 65532)
				}
				*part = kept
			}
			check(&list[at].State, noStates)
			check(&list[at].Until, noUntils)
			check(&list[at].Tries, noTries)
			check(&list[at].Number, noSerials)
			check(&list[at].Number, []int{65531, 4, 5, 10, 32764, 32763})
			if list[at] != good {
				t.Fatal("kept", list, at)
			}
			expectRequests(t, list, true, 65532, full)
		}
	}
}

func TestAddRequestByHand(t *testing.T) {
	three := waits(65534, 2, 6, 1, 0, 3, 7, 3, 3, 1, 9, 0)
	for _, c := range []struct {
		list                       []impl.Request
		base, number, clock, delay int
		want                       []impl.Request
	}{
		{nil, 10, 12, 5, 3, waits(12, 1, 8, 0)}, {[]impl.Request{}, 10, 10, 0, 1, waits(10, 1, 1, 0)}, {nil, 65535, 6, 9999, 8, waits(6, 1, 10007, 0)}, {nil, 65535, 65535, 9999, 1, waits(65535, 1, 10000, 0)}, {nil, 0, 7, 0, 8, waits(7, 1, 8, 0)},
		// At the front, between, and at the end, also across the end of the numbers.
		{three, 65533, 65533, 5, 2, append(waits(65533, 1, 7, 0), three...)}, {three, 65532, 65532, 5, 2, append(waits(65532, 1, 7, 0), three...)}, {three, 65532, 65533, 9999, 8, append(waits(65533, 1, 10007, 0), three...)},
		{three, 65533, 65535, 5, 8, waits(65534, 2, 6, 1, 65535, 1, 13, 0, 0, 3, 7, 3, 3, 1, 9, 0)}, {three, 65534, 1, 0, 1, waits(65534, 2, 6, 1, 0, 3, 7, 3, 1, 1, 1, 0, 3, 1, 9, 0)}, {three, 65534, 2, 0, 1, waits(65534, 2, 6, 1, 0, 3, 7, 3, 2, 1, 1, 0, 3, 1, 9, 0)},
		{three, 65534, 4, 5, 1, append(slices.Clone(three), waits(4, 1, 6, 0)...)}, {three, 65534, 5, 5, 1, append(slices.Clone(three), waits(5, 1, 6, 0)...)},
	} {
		list, ok := impl.AddRequest(c.list, c.base, c.number, c.clock, c.delay)
		expectRequests(t, list, ok, c.base, c.want)
	}
	for _, c := range []struct {
		list         []impl.Request
		base, number int
	}{
		// There already, in any state.
		{three, 65534, 65534}, {three, 65534, 0}, {three, 65534, 3}, {waits(12, 1, 8, 0), 10, 12}, {waits(10, 1, 8, 0), 10, 10},
		// Too far, before the base, and half way round.
		{nil, 10, 18}, {nil, 10, 19}, {nil, 10, 9}, {nil, 10, 32778}, {nil, 0, 65535}, {nil, 65535, 7}, {nil, 65535, 65534}, {three, 65534, 6}, {three, 65534, 65533}, {three, 65532, 4}, {waits(12, 1, 8, 0), 10, 18},
		// Into a full list.
		{asks(65532, 255), 65532, 65532}, {asks(65532, 255), 65532, 3}, {asks(65532, 255), 65532, 4}, {asks(65532, 255), 65532, 65531},
	} {
		for _, clock := range []int{0, 5, 9999} {
			refuseAdded(t, c.list, c.base, c.number, clock, 1)
			refuseAdded(t, c.list, c.base, c.number, clock, 8)
		}
	}
}

// From each of the lists for a base, every number in it is dropped, and every one that is not is added.
func TestEveryPlaceInRequests(t *testing.T) {
	for _, base := range someBases {
		for marks := range 256 {
			list := asks(base, marks)
			for steps := -2; steps <= 9; steps++ {
				number, mark := behind(base, steps), 0
				if steps >= 0 && steps < 8 {
					mark = 1 << steps
				}
				dropped, ok := impl.DropRequest(list, base, number)
				expectRequests(t, dropped, ok, base, asks(base, marks&^mark))
				if mark == 0 || marks&mark != 0 {
					refuseAdded(t, list, base, number, 50, 3)
					continue
				}
				want := asks(base, marks|mark)
				want[countMarks(marks&(mark-1))] = impl.Request{Number: number, State: 1, Until: 53}
				added, ok := impl.AddRequest(list, base, number, 50, 3)
				expectRequests(t, added, ok, base, want)
			}
		}
	}
}

// A number of all numbers is added only if it is one of the eight, and dropped and confirmed only if it is there.
func TestEveryNumberRequestedOrNot(t *testing.T) {
	for _, base := range []int{0, 32765, 65531} {
		for _, marks := range []int{0, 44, 255} {
			list := asks(base, marks)
			number := base
			for steps := range 65536 {
				there := steps < 8 && marks>>steps&1 == 1
				added, ok := impl.AddRequest(list, base, number, 9, 2)
				if ok != (steps < 8 && !there) || ok && len(added) != len(list)+1 || !ok && len(added) != 0 {
					t.Fatal("added", list, base, number, added)
				}
				dropped, ok := impl.DropRequest(list, base, number)
				if !ok || !there && !slices.Equal(dropped, list) || there && len(dropped) != len(list)-1 {
					t.Fatal("dropped", list, base, number, dropped)
				}
				confirmed, ok := impl.ConfirmRequest(list, base, number, 9998)
				if !ok || len(confirmed) != len(list) || slices.Equal(confirmed, list) == there {
					t.Fatal("confirmed", list, base, number, confirmed)
				}
				number = nextNumber(number)
			}
		}
	}
}

func TestClocksAndDelaysOfAddedRequests(t *testing.T) {
	for _, clock := range lastClocks {
		for delay := 1; delay <= 8; delay++ {
			list, ok := impl.AddRequest(waits(65535, 2, 3, 2), 65534, 0, clock, delay)
			expectRequests(t, list, ok, 65534, waits(65535, 2, 3, 2, 0, 1, clock+delay, 0))
		}
		for _, delay := range noDelays {
			refuseAdded(t, nil, 65534, 0, clock, delay)
			refuseAdded(t, waits(65535, 2, 3, 2), 65534, 0, clock, delay)
		}
	}
	for _, clock := range noClocks {
		for _, delay := range append([]int{1, 2, 7, 8}, noDelays...) {
			refuseAdded(t, nil, 65534, 0, clock, delay)
			refuseAdded(t, waits(65535, 2, 3, 2), 65534, 0, clock, delay)
		}
	}
}

// What is no serial is refused, also where there is nothing to do for it.
func TestRequestsForWhatIsNoSerial(t *testing.T) {
	for _, list := range [][]impl.Request{nil, waits(0, 1, 5, 0), waits(65535, 1, 5, 0, 0, 2, 6, 1), asks(65535, 255)} {
		for _, bad := range append([]int{-65535, 131071, 65538}, noSerials...) {
			for _, base := range []int{0, 65535, bad} {
				refuseAdded(t, list, base, bad, 5, 3)
				refuseConfirmed(t, list, base, bad, 5)
				refuseDropped(t, list, base, bad)
			}
		}
	}
}

func TestConfirmRequestByHand(t *testing.T) {
	three := waits(65534, 1, 6, 0, 0, 2, 7, 3, 3, 3, 9, 1)
	for _, c := range []struct {
		list                []impl.Request
		base, number, clock int
		want                []impl.Request
	}{
		// In each state: the first, one between and the last one.
		{three, 65534, 65534, 5, waits(65534, 3, 9, 0, 0, 2, 7, 3, 3, 3, 9, 1)}, {three, 65534, 0, 5, waits(65534, 1, 6, 0, 0, 3, 9, 3, 3, 3, 9, 1)}, {three, 65534, 3, 8, waits(65534, 1, 6, 0, 0, 2, 7, 3, 3, 3, 12, 1)}, {waits(12, 2, 8, 1), 10, 12, 6, waits(12, 3, 10, 1)},
		// For one that is due already, and for one that would wait longer without the confirmation.
		{waits(12, 2, 8, 1), 10, 12, 9, waits(12, 3, 13, 1)}, {waits(12, 1, 20, 0), 10, 12, 5, waits(12, 3, 9, 0)}, {waits(12, 3, 10007, 2), 10, 12, 0, waits(12, 3, 4, 2)},
		// At the last tick.
		{waits(12, 2, 10002, 3), 10, 12, 9999, waits(12, 3, 10003, 3)},
		// For one that is not there: in the span of the base, and elsewhere.
		{three, 65534, 65535, 5, three}, {three, 65534, 1, 5, three}, {three, 65534, 5, 5, three}, {three, 65534, 6, 5, three}, {three, 65534, 65533, 5, three}, {three, 65534, 32766, 5, three}, {nil, 10, 12, 5, nil}, {nil, 10, 9, 9999, nil}, {waits(12, 1, 5, 0), 10, 11, 5, waits(12, 1, 5, 0)}, {waits(12, 1, 5, 0), 10, 13, 5, waits(12, 1, 5, 0)},
	} {
		list, ok := impl.ConfirmRequest(c.list, c.base, c.number, c.clock)
		expectRequests(t, list, ok, c.base, c.want)
	}
}

func TestConfirmedInEveryState(t *testing.T) {
	for _, clock := range lastClocks {
		for state := 1; state <= 3; state++ {
			for tries := range 4 {
				for _, until := range []int{0, clock, clock + 1, clock + 3, clock + 4, clock + 5, 10007} {
					start := impl.Request{Number: 0, State: state, Until: min(until, 10007), Tries: tries}
					others := waits(65535, 1, clock, 0, 1, 2, clock+2, 1)
					list := []impl.Request{others[0], start, others[1]}
					want := []impl.Request{others[0], {Number: 0, State: 3, Until: clock + 4, Tries: tries}, others[1]}
					confirmed, ok := impl.ConfirmRequest(list, 65535, 0, clock)
					expectRequests(t, confirmed, ok, 65535, want)
				}
			}
		}
	}
	for _, clock := range noClocks {
		for _, number := range []int{65534, 65535, 0, 1, 5, 32767} {
			refuseConfirmed(t, nil, 65535, number, clock)
			refuseConfirmed(t, waits(0, 2, 5, 1), 65535, number, clock)
			refuseConfirmed(t, asks(65535, 255), 65535, number, clock)
		}
	}
}

func TestDropRequestByHand(t *testing.T) {
	three := waits(65534, 1, 6, 0, 0, 2, 7, 3, 3, 3, 9, 1)
	for _, c := range []struct {
		list         []impl.Request
		base, number int
		want         []impl.Request
	}{
		// The first, one between, the last one, and the only one in each state.
		{three, 65534, 65534, three[1:]}, {three, 65534, 0, waits(65534, 1, 6, 0, 3, 3, 9, 1)}, {three, 65534, 3, three[:2]}, {waits(12, 1, 8, 0), 10, 12, nil}, {waits(12, 2, 8, 1), 10, 12, nil}, {waits(12, 3, 8, 3), 10, 12, nil}, {waits(0, 1, 0, 0), 0, 0, nil},
		// One that is not there: in the span of the base, and elsewhere.
		{three, 65534, 65535, three}, {three, 65534, 1, three}, {three, 65534, 4, three}, {three, 65534, 6, three}, {three, 65534, 65533, three}, {three, 65534, 32766, three}, {three, 65534, 32767, three}, {nil, 10, 12, nil}, {nil, 65535, 0, nil}, {waits(12, 1, 8, 0), 10, 10, waits(12, 1, 8, 0)}, {waits(12, 1, 8, 0), 10, 8, waits(12, 1, 8, 0)},
	} {
		list, ok := impl.DropRequest(c.list, c.base, c.number)
		expectRequests(t, list, ok, c.base, c.want)
	}
}

func TestDueNumbersByHand(t *testing.T) {
	mixed := waits(65534, 1, 6, 0, 65535, 2, 4, 3, 0, 3, 5, 1, 1, 1, 0, 3, 3, 2, 5, 0, 4, 3, 10007, 0, 5, 1, 9999, 2)
	for _, c := range []struct {
		list  []impl.Request
		base  int
		clock int
		want  []int
	}{
		{nil, 10, 0, nil}, {[]impl.Request{}, 10, 9999, nil},
		// An Until that is later than the clock, equal, and earlier.
		{waits(12, 1, 6, 0), 10, 5, nil}, {waits(12, 1, 5, 0), 10, 5, []int{12}}, {waits(12, 1, 4, 0), 10, 5, []int{12}}, {waits(12, 2, 6, 3), 10, 5, nil}, {waits(12, 2, 5, 3), 10, 5, []int{12}}, {waits(12, 3, 6, 0), 10, 5, nil}, {waits(12, 3, 5, 0), 10, 5, []int{12}}, {waits(12, 3, 0, 0), 10, 9999, []int{12}},
		{waits(12, 1, 0, 0), 10, 0, []int{12}}, {waits(12, 1, 1, 0), 10, 0, nil}, {waits(12, 1, 9999, 0), 10, 9999, []int{12}}, {waits(12, 1, 10000, 0), 10, 9999, nil}, {waits(12, 1, 10007, 0), 10, 9999, nil},
		// In the order of the list, and not of Until or of the numbers.
		{mixed, 65534, 0, []int{1}}, {mixed, 65534, 3, []int{1}}, {mixed, 65534, 4, []int{65535, 1}}, {mixed, 65534, 5, []int{65535, 0, 1, 3}}, {mixed, 65534, 6, []int{65534, 65535, 0, 1, 3}}, {mixed, 65534, 9998, []int{65534, 65535, 0, 1, 3}}, {mixed, 65534, 9999, []int{65534, 65535, 0, 1, 3, 5}},
	} {
		if due, ok := impl.DueNumbers(c.list, c.base, c.clock); !ok || !slices.Equal(due, c.want) {
			t.Error("due", c, due, ok)
		}
	}
	for _, clock := range noClocks {
		for _, list := range [][]impl.Request{nil, mixed, mixed[:1]} {
			refuseDueAt(t, list, 65534, clock)
		}
	}
}

func TestTickRequestsByHand(t *testing.T) {
	for _, c := range []struct {
		list         []impl.Request
		clock, delay int
		left         []impl.Request
		sent, given  []int
	}{
		{nil, 5, 2, nil, nil, nil},
		// In StateBackoff: not due, due, and due for long; for the first time, and for the last.
		{waits(12, 1, 6, 0), 5, 2, waits(12, 1, 6, 0), nil, nil}, {waits(12, 1, 5, 0), 5, 2, waits(12, 2, 8, 1), []int{12}, nil}, {waits(12, 1, 0, 0), 5, 2, waits(12, 2, 8, 1), []int{12}, nil}, {waits(12, 1, 5, 1), 5, 2, waits(12, 2, 8, 2), []int{12}, nil}, {waits(12, 1, 5, 2), 5, 2, waits(12, 2, 8, 3), []int{12}, nil}, {waits(12, 1, 6, 2), 5, 2, waits(12, 1, 6, 2), nil, nil},
		// In StateBackoff, without a try left.
		{waits(12, 1, 5, 3), 5, 2, nil, nil, []int{12}}, {waits(12, 1, 4, 3), 5, 2, nil, nil, []int{12}}, {waits(12, 1, 6, 3), 5, 2, waits(12, 1, 6, 3), nil, nil},
		// In StateConfirm: not confirmed.
		{waits(12, 2, 6, 1), 5, 2, waits(12, 2, 6, 1), nil, nil}, {waits(12, 2, 5, 0), 5, 2, waits(12, 1, 7, 0), nil, nil}, {waits(12, 2, 5, 1), 5, 2, waits(12, 1, 7, 1), nil, nil}, {waits(12, 2, 5, 2), 5, 8, waits(12, 1, 13, 2), nil, nil}, {waits(12, 2, 5, 3), 5, 2, nil, nil, []int{12}}, {waits(12, 2, 6, 3), 5, 2, waits(12, 2, 6, 3), nil, nil},
		// In StateRepair: not repaired.
		{waits(12, 3, 6, 1), 5, 2, waits(12, 3, 6, 1), nil, nil}, {waits(12, 3, 5, 0), 5, 1, waits(12, 1, 6, 0), nil, nil}, {waits(12, 3, 5, 2), 5, 2, waits(12, 1, 7, 2), nil, nil}, {waits(12, 3, 3, 2), 5, 2, waits(12, 1, 7, 2), nil, nil}, {waits(12, 3, 5, 3), 5, 2, nil, nil, []int{12}}, {waits(12, 3, 6, 3), 5, 2, waits(12, 3, 6, 3), nil, nil},
		// Several in one tick.
		{waits(10, 1, 5, 0, 11, 1, 5, 3, 12, 2, 5, 1, 13, 3, 5, 3, 14, 1, 6, 0, 15, 2, 5, 3, 16, 3, 4, 2, 17, 1, 4, 2), 5, 2, waits(10, 2, 8, 1, 12, 1, 7, 1, 14, 1, 6, 0, 16, 1, 7, 2, 17, 2, 8, 3), []int{10, 17}, []int{11, 13, 15}},
		{waits(10, 1, 5, 2, 11, 1, 5, 1, 12, 1, 5, 0), 5, 2, waits(10, 2, 8, 3, 11, 2, 8, 2, 12, 2, 8, 1), []int{10, 11, 12}, nil}, {waits(10, 1, 5, 3, 11, 2, 5, 3, 12, 3, 5, 3), 5, 2, nil, nil, []int{10, 11, 12}}, {waits(12, 2, 5, 0, 13, 3, 5, 0), 5, 2, waits(12, 1, 7, 0, 13, 1, 7, 0), nil, nil}, {waits(10, 1, 6, 0, 12, 2, 6, 3, 17, 3, 6, 2), 5, 2, waits(10, 1, 6, 0, 12, 2, 6, 3, 17, 3, 6, 2), nil, nil},
		// At the first tick and at the last one.
		{waits(12, 1, 0, 0), 0, 2, waits(12, 2, 3, 1), []int{12}, nil}, {waits(12, 1, 1, 0), 0, 2, waits(12, 1, 1, 0), nil, nil}, {waits(12, 1, 9999, 0), 9999, 1, waits(12, 2, 10002, 1), []int{12}, nil}, {waits(12, 2, 9999, 2), 9999, 8, waits(12, 1, 10007, 2), nil, nil}, {waits(12, 3, 10000, 3), 9999, 8, waits(12, 3, 10000, 3), nil, nil},
	} {
		expectTick(t, c.list, 10, c.clock, c.delay, c.left, c.sent, c.given)
	}
	// In the order of the gaps also across the end of the numbers.
	expectTick(t, waits(65534, 1, 5, 0, 65535, 1, 5, 3, 0, 1, 5, 1, 1, 2, 5, 3, 2, 1, 1, 2, 3, 3, 0, 3), 65532, 5, 2, waits(65534, 2, 8, 1, 0, 2, 8, 2, 2, 2, 8, 3), []int{65534, 0, 2}, []int{65535, 1, 3})
}

func TestClocksAndDelaysOfTicks(t *testing.T) {
	for _, clock := range lastClocks {
		for delay := 1; delay <= 8; delay++ {
			expectTick(t, waits(65535, 1, clock, 2, 0, 2, clock, 2, 1, 3, clock, 3), 65535, clock, delay, waits(65535, 2, clock+3, 3, 0, 1, clock+delay, 2), []int{65535}, []int{1})
			for state := 1; state <= 3; state++ {
				for tries := range 4 {
					for _, until := range []int{0, clock - 9, clock - 2, clock - 1, clock, clock + 1, clock + 2, clock + 8, 10007} {
						expectTicked(t, waits(0, state, min(max(until, 0), 10007), tries), 65535, clock, delay)
					}
				}
			}
		}
		for _, delay := range noDelays {
			refuseTicked(t, nil, 65535, clock, delay)
			refuseTicked(t, waits(0, 1, clock, 0), 65535, clock, delay)
			refuseTicked(t, waits(0, 2, clock, 1), 65535, clock, delay)
			refuseTicked(t, waits(0, 1, clock+1, 0), 65535, clock, delay)
			refuseTicked(t, waits(0, 3, clock, 3), 65535, clock, delay)
		}
	}
	for _, clock := range noClocks {
		for _, delay := range append([]int{1, 8}, noDelays...) {
			refuseTicked(t, nil, 65535, clock, delay)
			refuseTicked(t, waits(0, 1, 5, 0), 65535, clock, delay)
			refuseTicked(t, waits(0, 3, 10007, 3), 65535, clock, delay)
		}
	}
}

// In every list of up to three Requests of all kinds, and in full ones, each due one is sent, given up or put off.
func TestEveryDueRequest(t *testing.T) {
	kind := func(number, x int) impl.Request {
		return impl.Request{Number: number, State: 1 + x/8, Until: 100 + x%2, Tries: x / 2 % 4}
	}
	eachList(0, 24, 3, func(kinds []int) {
		list := []impl.Request{}
		for i, x := range kinds {
			list = append(list, kind(behind(65532, 3*i+1), x))
		}
		expectTicked(t, list, 65532, 100, 1+len(kinds))
	})
	for factor := range 24 {
		for first := range 24 {
			list := []impl.Request{}
			for i := range 8 {
				list = append(list, kind(behind(65532, i), (first+factor*i)%24))
			}
			expectTicked(t, list, 65532, 100, 1+first%8)
		}
	}
}

// A request that nothing answers is sent three times, and given up when it has not been confirmed for the last time.
func TestTriesWithoutAnswers(t *testing.T) {
	for _, first := range []int{0, 1, 5000, 9940} {
		for delay := 1; delay <= 8; delay++ {
			list, ok := impl.AddRequest(waits(2, 3, 10007, 3), 65535, 0, first, delay)
			events := map[int]string{}
			for i := range 3 {
				events[first+delay+i*(3+delay)] = "sent"
			}
			events[first+delay+2*(3+delay)+3] = "given up"
			for clock := first; clock <= first+60 && clock <= 9999; clock++ {
				next, sent, given, fine := impl.TickRequests(list, 65535, clock, delay)
				if !ok || !fine || slices.Equal(sent, []int{0}) != (events[clock] == "sent") || slices.Equal(given, []int{0}) != (events[clock] == "given up") || len(sent)+len(given) > 1 {
					t.Fatal("tick", first, delay, clock, list, next, sent, given)
				}
				list = next
			}
			expectRequests(t, list, true, 65535, waits(2, 3, 10007, 3))
		}
	}
}

// A request that is always confirmed, but never repaired, is sent three times, and given up when it has not been repaired for the last time.
func TestTriesWithConfirmations(t *testing.T) {
	for wait := 1; wait <= 3; wait++ {
		for delay := 1; delay <= 8; delay++ {
			list, _ := impl.AddRequest(nil, 65535, 6, 20, delay)
			clock := 20
			for tries := 1; tries <= 3; tries++ {
				clock += delay
				expectTick(t, list, 65535, clock, delay, waits(6, 2, clock+3, tries), []int{6}, nil)
				// In the last tick in which it can be, it is confirmed before the Requests are ticked.
				clock += wait
				confirmed, ok := impl.ConfirmRequest(waits(6, 2, clock-wait+3, tries), 65535, 6, clock)
				expectRequests(t, confirmed, ok, 65535, waits(6, 3, clock+4, tries))
				expectTick(t, confirmed, 65535, clock+3, delay, confirmed, nil, nil)
				clock += 4
				if tries == 3 {
					expectTick(t, confirmed, 65535, clock, delay, nil, nil, []int{6})
					break
				}
				list = waits(6, 1, clock+delay, tries)
				expectTick(t, confirmed, 65535, clock, delay, list, nil, nil)
			}
		}
	}
}

// A confirmation of what others requested is no try.
func TestTriesOfOthers(t *testing.T) {
	list, ok := impl.AddRequest(nil, 10, 12, 5, 3)
	for clock := 5; clock < 9990; clock += 7 {
		list, ok = impl.ConfirmRequest(list, 10, 12, clock)
		expectRequests(t, list, ok, 10, waits(12, 3, clock+4, 0))
		expectTick(t, list, 10, clock+4, 3, waits(12, 1, clock+7, 0), nil, nil)
		list = waits(12, 1, clock+7, 0)
	}
}

func TestMoveBaseByHand(t *testing.T) {
	three := waits(65534, 1, 6, 0, 0, 2, 7, 3, 3, 3, 9, 1)
	full := asks(65532, 255)
	for _, c := range []struct {
		list       []impl.Request
		base, next int
		want       []impl.Request
	}{
		// To the same base.
		{nil, 10, 10, nil}, {three, 65534, 65534, three}, {three, 65532, 65532, three}, {full, 65532, 65532, full},
		// Forward, up to the first Number, past some, and past all of them.
		{three, 65532, 65533, three}, {three, 65532, 65534, three}, {three, 65532, 65535, three[1:]}, {three, 65534, 0, three[1:]}, {three, 65534, 1, three[2:]}, {three, 65534, 2, three[2:]}, {three, 65534, 3, three[2:]}, {three, 65534, 4, nil}, {three, 65534, 5, nil}, {three, 65534, 100, nil}, {three, 65534, 32765, nil}, {full, 65532, 65533, full[1:]}, {full, 65532, 3, full[7:]}, {full, 65532, 4, nil}, {full, 65532, 32763, nil},
		// Backward, as far as the last Number allows it.
		{three, 65534, 65533, three}, {three, 65534, 65532, three}, {waits(12, 1, 5, 0), 10, 9, waits(12, 1, 5, 0)}, {waits(12, 1, 5, 0), 10, 5, waits(12, 1, 5, 0)}, {waits(10, 1, 5, 0), 10, 3, waits(10, 1, 5, 0)}, {waits(0, 1, 5, 0), 0, 65529, waits(0, 1, 5, 0)},
		// Half way round, Numbers that are not the first ones are before the next base.
		{waits(11, 1, 5, 0), 10, 32778, nil}, {waits(17, 1, 5, 0), 10, 32784, nil}, {waits(10, 1, 5, 0), 10, 32777, nil},
		// Without Requests, anywhere.
		{nil, 10, 9, nil}, {nil, 10, 11, nil}, {nil, 10, 32778, nil}, {nil, 10, 40000, nil}, {nil, 65535, 0, nil}, {nil, 0, 65535, nil},
	} {
		list, ok := impl.MoveBase(c.list, c.base, c.next)
		expectRequests(t, list, ok, c.next, c.want)
	}
	for _, c := range []struct {
		list       []impl.Request
		base, next int
	}{
		// Backward, so far that the last Number is too far from there.
		{three, 65534, 65531}, {three, 65534, 65530}, {three, 65534, 60000}, {full, 65532, 65531}, {waits(12, 1, 5, 0), 10, 4}, {waits(10, 1, 5, 0), 10, 2}, {waits(0, 1, 5, 0), 0, 65528}, {waits(17, 1, 5, 0), 10, 9},
		// Half way round, the first ones are not before the next base.
		{waits(10, 1, 5, 0), 10, 32778}, {waits(10, 1, 5, 0), 10, 32779}, {waits(11, 1, 5, 0), 10, 32779}, {full, 65532, 32764}, {full, 65532, 32765}, {full, 65532, 32770}, {full, 65532, 32771},
	} {
		refuseMoved(t, c.list, c.base, c.next)
	}
	for _, bad := range append([]int{-65535, 131071, 65538}, noSerials...) {
		for _, list := range [][]impl.Request{nil, three, full} {
			refuseMoved(t, list, 65532, bad)
		}
	}
}

// To each number as the next base, Requests are moved only if the ones that stay are Requests for it.
func TestEveryNumberAsBase(t *testing.T) {
	for _, base := range []int{0, 32765, 65531} {
		for _, marks := range []int{0, 1, 2, 128, 129, 36, 255} {
			list := asks(base, marks)
			next := base
			for steps := range 65536 {
				want, fine := movedBy(list, base, steps)
				moved, ok := impl.MoveBase(list, base, next)
				if ok != fine || !slices.Equal(moved, want) {
					t.Fatal("moved", list, base, next, moved, ok, "not", want, fine)
				}
				next = nextNumber(next)
			}
		}
	}
}

func TestStateCountsByHand(t *testing.T) {
	for _, c := range []struct {
		list []impl.Request
		base int
		want [3]int
	}{
		{nil, 10, [3]int{}}, {[]impl.Request{}, 65535, [3]int{}}, {waits(12, 1, 5, 0), 10, [3]int{1, 0, 0}}, {waits(12, 2, 5, 0), 10, [3]int{0, 1, 0}}, {waits(12, 3, 5, 0), 10, [3]int{0, 0, 1}}, {waits(10, 3, 5, 0, 12, 1, 5, 0), 10, [3]int{1, 0, 1}}, {waits(65535, 2, 5, 0, 0, 3, 5, 0, 1, 2, 5, 0), 65535, [3]int{0, 2, 1}}, {waits(65535, 2, 5, 0, 0, 1, 5, 0, 1, 1, 5, 0), 65530, [3]int{2, 1, 0}},
	} {
		if counts, ok := impl.StateCounts(c.list, c.base); !ok || counts != c.want {
			t.Error("counts", c, counts, ok)
		}
	}
}

// Every list of up to eight states is counted.
func TestStateCountsOfManyLists(t *testing.T) {
	eachList(1, 4, 8, func(states []int) {
		list := []impl.Request{}
		for i, state := range states {
			list = append(list, impl.Request{Number: behind(65533, i), State: state, Until: 9 * i, Tries: i % 4})
		}
		expectRequests(t, list, true, 65533, list)
	})
}

// After every list of up to five steps, the Requests are those that follow from the steps.
func TestRequestsInManySteps(t *testing.T) {
	for _, start := range []asked{{first: 65520, base: 8}, {first: 65523, base: 8, clock: 9990}, {first: 0, base: 8, clock: 77}} {
		walkRequests(t, nil, start, "adhCxtT+-", 5)
		start.at[8] = impl.Request{State: 2, Until: start.clock + 2, Tries: 2}
		start.at[10] = impl.Request{State: 1, Until: start.clock + 1, Tries: 2}
		start.at[11] = impl.Request{State: 3, Until: start.clock + 1, Tries: 3}
		walkRequests(t, start.list(), start, "acCDxtT+-", 5)
		walkRequests(t, start.list(), start, "tTC", 8)
	}
}

// The memory of a result is that of no argument and of no other result, also behind its length.
func TestRequestsKeepApart(t *testing.T) {
	for _, marks := range []int{1, 36, 129, 127, 254, 255} {
		for until := 4; until <= 6; until++ {
			start := append(make([]impl.Request, 0, 20), asks(65532, marks)...)
			for i := range start {
				start[i].Until = until - i%2
			}
			for steps := -1; steps <= 8; steps++ {
				number := behind(65532, steps)
				keepListsApart(t, "AddRequest", start, func(list []impl.Request) ([]impl.Request, []int, []int, bool) {
					added, ok := impl.AddRequest(list, 65532, number, 5, 3)
					return added, nil, nil, ok
				})
				keepListsApart(t, "ConfirmRequest", start, func(list []impl.Request) ([]impl.Request, []int, []int, bool) {
					confirmed, ok := impl.ConfirmRequest(list, 65532, number, 5)
					return confirmed, nil, nil, ok
				})
				keepListsApart(t, "DropRequest", start, func(list []impl.Request) ([]impl.Request, []int, []int, bool) {
					dropped, ok := impl.DropRequest(list, 65532, number)
					return dropped, nil, nil, ok
				})
				keepListsApart(t, "MoveBase", start, func(list []impl.Request) ([]impl.Request, []int, []int, bool) {
					moved, ok := impl.MoveBase(list, 65532, number)
					return moved, nil, nil, ok
				})
			}
			keepListsApart(t, "DueNumbers", start, func(list []impl.Request) ([]impl.Request, []int, []int, bool) {
				due, ok := impl.DueNumbers(list, 65532, 5)
				return nil, due, nil, ok
			})
			keepListsApart(t, "TickRequests", start, func(list []impl.Request) ([]impl.Request, []int, []int, bool) {
				return impl.TickRequests(list, 65532, 5, 3)
			})
		}
	}
}

// keepListsApart tells if what f makes of a list changes with that list, or with another result.
func keepListsApart(t *testing.T, name string, start []impl.Request, f func([]impl.Request) ([]impl.Request, []int, []int, bool)) {
	t.Helper()
	start = append(make([]impl.Request, 0, 20), start...)
	whole := slices.Clone(start[:20])
	left, a, b, ok := f(start)
	other, c, d, _ := f(start)
	want, wantC, wantD := slices.Clone(other), slices.Clone(c), slices.Clone(d)
	spoilRequests(left, len(left))
	_, _, _ = append(left, waits(88, 8, 8, 8)...), append(a, 88), append(b, 99)
	for i := range a {
		a[i] = 88
	}
	if !slices.Equal(b, wantD) {
		t.Error("changed by another list", name, b, wantD)
	}
	for i := range b {
		b[i] = 99
	}
	again, e, g, fine := f(start)
	if ok != fine || !slices.Equal(start[:20], whole) {
		t.Error("changed the argument", name, start, whole)
	}
	if !slices.Equal(again, want) || !slices.Equal(e, wantC) || !slices.Equal(g, wantD) {
		t.Error("other result", name, again, e, g)
	}
	spoilRequests(start, 20)
	if !slices.Equal(other, want) || !slices.Equal(c, wantC) || !slices.Equal(d, wantD) {
		t.Error("changed by the argument", name, other, c, d)
	}
}

// spoilRequests overwrites the memory of a list.
func spoilRequests(list []impl.Request, count int) {
	for i := range count {
		list[:count][i] = impl.Request{Number: 77, State: 7, Until: 77, Tries: 7}
	}
}

// asked has what a receiver asks for, by the steps from a first number; where there is no State, there is no Request. The base is so many steps from there.
type asked struct {
	first, base, clock int
	at                 [32]impl.Request
}

func (x asked) number(steps int) int { return behind(x.first, x.base+steps) }

func (x asked) list() []impl.Request {
	list := []impl.Request{}
	for i, r := range x.at {
		if r.State > 0 {
			r.Number = behind(x.first, i)
			list = append(list, r)
		}
	}
	return list
}

// walkRequests lets a list take every list of up to so many steps.
func walkRequests(t *testing.T, list []impl.Request, x asked, steps string, left int) {
	expectRequests(t, list, true, x.number(0), x.list())
	if left == 0 {
		return
	}
	for i := range len(steps) {
		if next, y, ok := takeRequestStep(t, list, x, steps[i]); ok {
			walkRequests(t, next, y, steps, left-1)
		}
	}
}

// takeRequestStep lets a list take a step, and tells if it does not fail exactly where it must.
func takeRequestStep(t *testing.T, list []impl.Request, x asked, step byte) ([]impl.Request, asked, bool) {
	base, ok, fine := x.number(0), false, true
	var next []impl.Request
	switch step {
	case 'a', 'd', 'h':
		// For the numbers 0, 3 and 7 steps behind the base.
		steps := int(step - 'a')
		place := &x.at[x.base+steps]
		next, ok = impl.AddRequest(list, base, x.number(steps), x.clock, 2)
		fine = place.State == 0
		*place = impl.Request{State: 1, Until: x.clock + 2}
	case 'C', 'D':
		steps := 3 * int(step-'C')
		next, ok = impl.ConfirmRequest(list, base, x.number(steps), x.clock)
		if place := &x.at[x.base+steps]; place.State > 0 {
			place.State, place.Until = 3, x.clock+4
		}
	case 'c':
		next, ok = impl.ConfirmRequest(list, base, x.number(2), x.clock)
		if place := &x.at[x.base+2]; place.State > 0 {
			place.State, place.Until = 3, x.clock+4
		}
	case 'x':
		next, ok = impl.DropRequest(list, base, base)
		x.at[x.base] = impl.Request{}
	case '+':
		next, ok = impl.MoveBase(list, base, x.number(1))
		x.at[x.base] = impl.Request{}
		x.base++
	case '-':
		next, ok = impl.MoveBase(list, base, x.number(-1))
		fine = x.at[x.base+7].State == 0
		x.base--
	default:
		return takeTickStep(t, list, x, step)
	}
	if ok != fine || !ok && len(next) > 0 {
		t.Fatal("step", list, base, x.clock, string(step), next, ok)
	}
	return next, x, ok
}

// takeTickStep lets one tick pass, or three at once.
func takeTickStep(t *testing.T, list []impl.Request, x asked, step byte) ([]impl.Request, asked, bool) {
	x.clock++
	if step == 'T' {
		x.clock += 2
	}
	if x.clock > 9999 {
		refuseTicked(t, list, x.number(0), x.clock, 2)
		return nil, x, false
	}
	next, sent, given, ok := impl.TickRequests(list, x.number(0), x.clock, 2)
	wantSent, wantGiven := []int{}, []int{}
	for i := range x.at {
		r := &x.at[i]
		if r.State == 0 || r.Until > x.clock {
			continue
		}
		switch whenDue[r.State][r.Tries] {
		case 's':
			wantSent = append(wantSent, behind(x.first, i))
			r.State, r.Until, r.Tries = 2, x.clock+3, r.Tries+1
		case 'p':
			r.State, r.Until = 1, x.clock+2
		case 'g':
			wantGiven = append(wantGiven, behind(x.first, i))
			*r = impl.Request{}
		}
	}
	if !ok || !slices.Equal(sent, wantSent) || !slices.Equal(given, wantGiven) {
		t.Fatal("tick", list, x.clock, next, sent, given)
	}
	return next, x, true
}

// expectRequests tells if a list is another one than this, which are Requests for a base, or is counted or due otherwise.
func expectRequests(t *testing.T, list []impl.Request, ok bool, base int, want []impl.Request) {
	t.Helper()
	if !ok || !slices.Equal(list, want) || !impl.AreRequests(list, base) {
		t.Fatal("requests", list, ok, "not", want, base)
	}
	counts := [3]int{}
	for _, x := range want {
		counts[x.State-1]++
		for clock := max(x.Until-1, 0); clock <= min(x.Until+1, 9999); clock++ {
			due := []int{}
			for _, y := range want {
				if clock >= y.Until {
					due = append(due, y.Number)
				}
			}
			if numbers, ok := impl.DueNumbers(list, base, clock); !ok || !slices.Equal(numbers, due) {
				t.Fatal("due", list, clock, numbers, ok, "not", due)
			}
		}
	}
	if told, ok := impl.StateCounts(list, base); !ok || told != counts {
		t.Fatal("counts", list, told, ok, "not", counts)
	}
}

// expectTick tells if a tick leaves, sends or gives up anything else than this.
func expectTick(t *testing.T, list []impl.Request, base, clock, delay int, left []impl.Request, sent, given []int) {
	t.Helper()
	ticked, out, up, ok := impl.TickRequests(list, base, clock, delay)
	if !slices.Equal(out, sent) || !slices.Equal(up, given) {
		t.Fatal("tick", list, base, clock, delay, "sent", out, "given up", up)
	}
	expectRequests(t, ticked, ok, base, left)
	// What the table of fates says is the same.
	expectTicked(t, list, base, clock, delay)
}

// expectTicked tells if a tick does other than the table says, or if a due Request is not exactly one of sent, given up and put off.
func expectTicked(t *testing.T, list []impl.Request, base, clock, delay int) {
	t.Helper()
	left, sent, given := []impl.Request{}, []int{}, []int{}
	for _, x := range list {
		fate := byte('-')
		if x.Until <= clock {
			fate = whenDue[x.State][x.Tries]
		}
		switch fate {
		case 's':
			sent = append(sent, x.Number)
			left = append(left, impl.Request{Number: x.Number, State: 2, Until: clock + 3, Tries: x.Tries + 1})
		case 'p':
			left = append(left, impl.Request{Number: x.Number, State: 1, Until: clock + delay, Tries: x.Tries})
		case 'g':
			given = append(given, x.Number)
		default:
			left = append(left, x)
		}
	}
	ticked, out, up, ok := impl.TickRequests(list, base, clock, delay)
	if !ok || !slices.Equal(ticked, left) || !slices.Equal(out, sent) || !slices.Equal(up, given) || !impl.AreRequests(ticked, base) {
		t.Fatal("tick", list, base, clock, delay, ticked, out, up, "not", left, sent, given)
	}
	expectFates(t, list, base, clock, ticked, out, up)
}

// expectFates tells if a due Request is not exactly one of sent, given up and put off, or another one is not left as it is.
func expectFates(t *testing.T, list []impl.Request, base, clock int, ticked []impl.Request, sent, given []int) {
	t.Helper()
	due, ok := impl.DueNumbers(list, base, clock)
	rest, fine := impl.DueNumbers(ticked, base, clock)
	if !ok || !fine || len(rest) > 0 {
		t.Fatal("still due", list, clock, ticked, rest)
	}
	for _, x := range list {
		i := slices.IndexFunc(ticked, func(y impl.Request) bool { return y.Number == x.Number })
		fates := 0
		if slices.Contains(sent, x.Number) && i >= 0 && ticked[i].State == 2 && ticked[i].Tries == x.Tries+1 {
			fates++
		}
		if slices.Contains(given, x.Number) && i < 0 {
			fates++
		}
		if i >= 0 && ticked[i].State == 1 && ticked[i].Until > clock && ticked[i].Tries == x.Tries && ticked[i] != x {
			fates++
		}
		wanted := 0
		if slices.Contains(due, x.Number) {
			wanted = 1
		}
		if fates != wanted || wanted == 0 && (i < 0 || ticked[i] != x) {
			t.Fatal("fates", list, clock, x, ticked, sent, given)
		}
	}
}

// refuseRequests tells if a list that are no Requests for a base is taken for them.
func refuseRequests(t *testing.T, list []impl.Request, base int) {
	t.Helper()
	if impl.AreRequests(list, base) {
		t.Fatal("valid", list[:min(len(list), 12)], base)
	}
	numbers := []int{base, base + 2, base + 7, base + 8, 0, 4, 12, 65531, 65535, -1, 65536}
	for _, x := range list[:min(len(list), 10)] {
		numbers = append(numbers, x.Number)
	}
	for _, number := range numbers {
		refuseAdded(t, list, base, number, 5, 3)
		refuseConfirmed(t, list, base, number, 5)
		refuseDropped(t, list, base, number)
		refuseMoved(t, list, base, number)
	}
	for _, clock := range []int{0, 5, 9999, -1, 10000} {
		refuseDueAt(t, list, base, clock)
		refuseTicked(t, list, base, clock, 1)
		refuseTicked(t, list, base, clock, 8)
	}
	if counts, ok := impl.StateCounts(list, base); ok || counts != [3]int{} {
		t.Fatal("counts", list[:min(len(list), 12)], base, counts, ok)
	}
}

func refuseAdded(t *testing.T, list []impl.Request, base, number, clock, delay int) {
	t.Helper()
	added, ok := impl.AddRequest(list, base, number, clock, delay)
	expectNoRequests(t, "added", added, ok, base, number, clock, delay)
}

func refuseConfirmed(t *testing.T, list []impl.Request, base, number, clock int) {
	t.Helper()
	confirmed, ok := impl.ConfirmRequest(list, base, number, clock)
	expectNoRequests(t, "confirmed", confirmed, ok, base, number, clock)
}

func refuseDropped(t *testing.T, list []impl.Request, base, number int) {
	t.Helper()
	dropped, ok := impl.DropRequest(list, base, number)
	expectNoRequests(t, "dropped", dropped, ok, base, number)
}

func refuseMoved(t *testing.T, list []impl.Request, base, next int) {
	t.Helper()
	moved, ok := impl.MoveBase(list, base, next)
	expectNoRequests(t, "moved", moved, ok, base, next)
}

func refuseDueAt(t *testing.T, list []impl.Request, base, clock int) {
	t.Helper()
	if due, ok := impl.DueNumbers(list, base, clock); ok || len(due) > 0 {
		t.Fatal("due", base, clock, due, ok)
	}
}

func refuseTicked(t *testing.T, list []impl.Request, base, clock, delay int) {
	t.Helper()
	ticked, sent, given, ok := impl.TickRequests(list, base, clock, delay)
	expectNoRequests(t, "ticked", ticked, ok, base, clock, delay)
	if len(sent) > 0 || len(given) > 0 {
		t.Fatal("ticked", base, clock, delay, sent, given)
	}
}

// expectNoRequests tells if the result of a call that fails has a Request.
func expectNoRequests(t *testing.T, name string, list []impl.Request, ok bool, arguments ...int) {
	t.Helper()
	if ok || len(list) > 0 {
		t.Fatal(name, list[:min(len(list), 12)], ok, arguments)
	}
}

// movedBy gives what is left of a list for the number some steps behind its base. A Number is before that number if it takes fewer steps to go there than half of all.
func movedBy(list []impl.Request, base, steps int) ([]impl.Request, bool) {
	left := []impl.Request{}
	for _, x := range list {
		way := (steps - stepsFrom(base, x.Number) + 65536) % 65536
		switch {
		case way == 0 || way > 65528:
			left = append(left, x)
		case way >= 32768:
			return nil, false
		}
	}
	return left, true
}

// waits gives a Request for each Number, State, Until and Tries.
func waits(numbers ...int) []impl.Request {
	list := []impl.Request{}
	for part := range slices.Chunk(numbers, 4) {
		list = append(list, impl.Request{Number: part[0], State: part[1], Until: part[2], Tries: part[3]})
	}
	return list
}

// asks gives a Request for each of the eight numbers of a base that is marked, and no two alike.
func asks(base, marks int) []impl.Request {
	list := []impl.Request{}
	for i := range 8 {
		if marks>>i&1 == 1 {
			list = append(list, impl.Request{Number: behind(base, i), State: 1 + i%3, Until: 100 + i*3%8, Tries: (3 + i) % 4})
		}
	}
	return list
}

func countMarks(marks int) int { return len(asks(0, marks)) }

// behind gives the number some steps behind another one, or before it.
func behind(number, steps int) int {
	for range max(steps, 0) {
		number = nextNumber(number)
	}
	for range max(-steps, 0) {
		number = numberBefore(number)
	}
	return number
}
