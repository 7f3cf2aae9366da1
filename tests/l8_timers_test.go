package tests

import (
	"slices"
	"testing"

	"loop.example/g00840/impl"
)

// noTicks has numbers that are no ticks.
var noTicks = []int{-1, -2, -9999, -10000, -10001, 10001, 10002, 20000, 1 << 32, -1 << 32, 1<<32 + 5, mostInt, leastInt}

// noIds has numbers that are no Ids of timers.
var noIds = []int{0, -1, -2, -99, 100, 101, 1000, 1 << 32, -1 << 32, 1<<32 + 5, mostInt, leastInt}

// noOrders has lists of valid timers that are no lists of timers.
var noOrders = [][]impl.Timer{
	// Equal Ids.
	timers(5, 1, 0, 5, 1, 0), timers(5, 1, 0, 5, 2, 3), timers(5, 2, 0, 5, 1, 0), timers(1, 1, 0, 1, 1, 0, 2, 1, 0), timers(1, 1, 0, 2, 1, 0, 2, 1, 0), timers(5, 1, 0, 5, 1, 0, 5, 1, 0),
	// Ids in descending order, next to each other and apart.
	timers(2, 1, 0, 1, 1, 0), timers(99, 1, 0, 1, 2, 0), timers(3, 1, 0, 2, 2, 0, 1, 3, 0), timers(2, 1, 0, 1, 2, 0, 3, 3, 0), timers(1, 1, 0, 3, 2, 0, 2, 3, 0), timers(5, 1, 0, 9, 1, 0, 5, 1, 0), timers(5, 1, 0, 9, 1, 0, 1, 1, 0, 20, 1, 0),
	// In order of Due alone, which is not the order of a list.
	timers(7, 0, 0, 5, 1, 0), timers(5, 0, 4, 7, 1, 4, 6, 2, 4),
	// Too many.
	manyTimers(11), manyTimers(12), manyTimers(99), make([]impl.Timer, 11), slices.Repeat(timers(5, 1, 0), 100000),
}

func TestLimitsOfTimers(t *testing.T) {
	if impl.MaxTimers != 10 || impl.MaxTicks != 10000 {
		t.Error("limits", impl.MaxTimers, impl.MaxTicks)
	}
}

func TestListsOfTimers(t *testing.T) {
	for _, list := range [][]impl.Timer{
		nil, {}, timers(1, 0, 0), timers(99, 10000, 10000), timers(1, 10000, 0), timers(99, 0, 10000), timers(50, 77, 3),
		timers(1, 0, 0, 2, 0, 0), timers(98, 0, 0, 99, 0, 0), timers(1, 10000, 10000, 99, 0, 0), timers(1, 9, 1, 2, 5, 1, 3, 1, 1), timers(1, 5, 0, 2, 5, 0, 3, 5, 0),
		manyTimers(9), manyTimers(10), slices.Repeat(timers(5, 1, 0), 20)[:1],
	} {
		if !impl.IsValidTimers(list) {
			t.Error("not valid", list)
		}
	}
	for id := -3; id <= 105; id++ {
		expectValidity(t, impl.Timer{Id: id, Due: 3, Period: 4}, id >= 1 && id <= 99)
	}
	for _, x := range []int{0, 1, 2, 50, 99, 100, 4999, 9998, 9999, 10000} {
		expectValidity(t, impl.Timer{Id: 50, Due: x}, true)
		expectValidity(t, impl.Timer{Id: 50, Period: x}, true)
		expectValidity(t, impl.Timer{Id: 50, Due: x, Period: 10000 - x}, true)
		expectValidity(t, impl.Timer{Id: 50, Due: x, Period: x}, true)
	}
	for _, x := range noTimers() {
		expectValidity(t, x, false)
	}
}

// What breaks a rule is found wherever it is in a list.
func TestListsThatAreNoTimers(t *testing.T) {
	refuseTimers(t, make([]impl.Timer, 1))
	for _, list := range noOrders {
		refuseTimers(t, list)
	}
	for _, x := range noTimers() {
		refuseTimers(t, []impl.Timer{x})
		for at := range 10 {
			list := manyTimers(10)
			list[at] = x
			refuseTimers(t, list)
			refuseTimers(t, list[:at+1])
		}
	}
	for at := range 9 {
		equal, turned := manyTimers(10), manyTimers(10)
		equal[at].Id = equal[at+1].Id
		turned[at], turned[at+1] = turned[at+1], turned[at]
		refuseTimers(t, equal)
		refuseTimers(t, turned)
	}
}

func TestSetTimerByHand(t *testing.T) {
	three := timers(10, 5, 1, 20, 6, 2, 30, 7, 3)
	for _, c := range []struct {
		list []impl.Timer
		set  impl.Timer
		want []impl.Timer
	}{
		{nil, impl.Timer{Id: 4, Due: 5, Period: 6}, timers(4, 5, 6)}, {[]impl.Timer{}, impl.Timer{Id: 1}, timers(1, 0, 0)}, {nil, impl.Timer{Id: 99, Due: 10000, Period: 10000}, timers(99, 10000, 10000)},
		// New ones in front, in the middle and at the end.
		{three, impl.Timer{Id: 9, Due: 8}, timers(9, 8, 0, 10, 5, 1, 20, 6, 2, 30, 7, 3)}, {three, impl.Timer{Id: 1, Due: 8}, timers(1, 8, 0, 10, 5, 1, 20, 6, 2, 30, 7, 3)},
		{three, impl.Timer{Id: 11, Due: 8, Period: 4}, timers(10, 5, 1, 11, 8, 4, 20, 6, 2, 30, 7, 3)}, {three, impl.Timer{Id: 19}, timers(10, 5, 1, 19, 0, 0, 20, 6, 2, 30, 7, 3)}, {three, impl.Timer{Id: 25, Due: 10000}, timers(10, 5, 1, 20, 6, 2, 25, 10000, 0, 30, 7, 3)},
		{three, impl.Timer{Id: 31, Due: 1, Period: 1}, timers(10, 5, 1, 20, 6, 2, 30, 7, 3, 31, 1, 1)}, {three, impl.Timer{Id: 99}, timers(10, 5, 1, 20, 6, 2, 30, 7, 3, 99, 0, 0)},
		// In place of the first, the middle and the last one.
		{three, impl.Timer{Id: 10, Due: 8, Period: 9}, timers(10, 8, 9, 20, 6, 2, 30, 7, 3)}, {three, impl.Timer{Id: 20}, timers(10, 5, 1, 20, 0, 0, 30, 7, 3)}, {three, impl.Timer{Id: 30, Due: 7, Period: 4}, timers(10, 5, 1, 20, 6, 2, 30, 7, 4)},
		{three, impl.Timer{Id: 20, Due: 6, Period: 2}, three}, {timers(7, 7, 7), impl.Timer{Id: 7, Due: 1}, timers(7, 1, 0)},
	} {
		list, ok := impl.SetTimer(c.list, c.set)
		expectTimers(t, list, ok, c.want)
	}
}

// A full list takes a timer only in place of one with its Id.
func TestSetTimerOnFullLists(t *testing.T) {
	for held := 8; held <= 10; held++ {
		for id := 1; id <= 99; id++ {
			start := manyTimers(held)
			x := impl.Timer{Id: id, Due: 4000, Period: 2}
			want := withoutId(start, id)
			isNew := len(want) == held
			list, ok := impl.SetTimer(start, x)
			if isNew && held == 10 {
				expectNoTimers(t, list, ok)
				continue
			}
			want = append(want, x)
			slices.SortFunc(want, func(a, b impl.Timer) int { return a.Id - b.Id })
			expectTimers(t, list, ok, want)
			if !isNew && len(list) != held || isNew && len(list) != held+1 {
				t.Fatal("size", held, id, len(list))
			}
		}
	}
}

func TestSetTimerRefusesWhatIsNone(t *testing.T) {
	for _, x := range noTimers() {
		// Also in place of a timer with its Id, if it has one.
		for _, start := range [][]impl.Timer{nil, timers(50, 1, 1), timers(10, 1, 1, 50, 2, 2, 90, 3, 3), manyTimers(9), manyTimers(10)} {
			list, ok := impl.SetTimer(start, x)
			expectNoTimers(t, list, ok)
		}
	}
}

// A list that is not valid is refused even where the timer that is set would make it valid.
func TestSetTimerDoesNotMendLists(t *testing.T) {
	for _, c := range []struct {
		list []impl.Timer
		set  impl.Timer
	}{
		{timers(5, -1, 0), impl.Timer{Id: 5}}, {timers(5, 10001, 0), impl.Timer{Id: 5}}, {timers(5, 0, 10001), impl.Timer{Id: 5}}, {timers(1, 1, 1, 5, 0, -1, 9, 9, 9), impl.Timer{Id: 5}}, {timers(0, 1, 1), impl.Timer{Id: 1, Due: 1, Period: 1}},
	} {
		list, ok := impl.SetTimer(c.list, c.set)
		expectNoTimers(t, list, ok)
	}
}

// StopTimer and FireTimer find every timer of a list of any size, and no other one.
func TestEveryIdOfAList(t *testing.T) {
	for held := 0; held <= 10; held++ {
		list := manyTimers(held)
		for _, id := range append(slices.Clone(noIds), numbersTo(99)...) {
			i := slices.IndexFunc(list, func(x impl.Timer) bool { return x.Id == id })
			if i < 0 {
				refuseId(t, list, id)
				continue
			}
			stopped, ok := impl.StopTimer(list, id)
			expectTimers(t, stopped, ok, withoutId(list, id))
			want := slices.Clone(list)
			want[i].Due += want[i].Period
			if want[i].Period == 0 {
				want = withoutId(list, id)
			}
			fired, ok := impl.FireTimer(list, id)
			expectTimers(t, fired, ok, want)
			if ticks, ok := impl.TicksUntil(list, id, 0); !ok || ticks != list[i].Due {
				t.Fatal("until", list, id, ticks, ok)
			}
		}
	}
}

func TestStopTimerByHand(t *testing.T) {
	three := timers(10, 5, 1, 20, 6, 0, 30, 5, 3)
	for _, c := range []struct {
		list []impl.Timer
		id   int
		want []impl.Timer
	}{{three, 10, timers(20, 6, 0, 30, 5, 3)}, {three, 20, timers(10, 5, 1, 30, 5, 3)}, {three, 30, timers(10, 5, 1, 20, 6, 0)}, {timers(1, 2, 3), 1, nil}, {timers(99, 2, 3), 99, nil}, {timers(1, 9, 9, 99, 8, 8), 99, timers(1, 9, 9)}} {
		list, ok := impl.StopTimer(c.list, c.id)
		expectTimers(t, list, ok, c.want)
	}
	for _, id := range []int{9, 11, 19, 21, 29, 31, 1, 99, 5, 6, 0, -10, 100, 1<<32 + 10} {
		refuseId(t, three, id)
	}
}

func TestFireTimerByHand(t *testing.T) {
	for _, c := range []struct {
		due, period int
		want        []impl.Timer
	}{
		// With the Period 0 it fires once, at whatever tick it is due.
		{0, 0, nil}, {5, 0, nil}, {9999, 0, nil}, {10000, 0, nil},
		{0, 1, timers(7, 1, 1)}, {5, 10, timers(7, 15, 10)}, {20, 4, timers(7, 24, 4)}, {1, 9998, timers(7, 9999, 9998)},
		// A next Due of exactly MaxTicks, and of more.
		{0, 10000, timers(7, 10000, 10000)}, {1, 9999, timers(7, 10000, 9999)}, {9999, 1, timers(7, 10000, 1)}, {5000, 5000, timers(7, 10000, 5000)}, {9990, 10, timers(7, 10000, 10)},
		{1, 10000, nil}, {2, 9999, nil}, {9999, 2, nil}, {10000, 1, nil}, {5000, 5001, nil}, {5001, 5000, nil}, {9990, 11, nil}, {10000, 10000, nil},
	} {
		x := impl.Timer{Id: 7, Due: c.due, Period: c.period}
		list, ok := impl.FireTimer([]impl.Timer{x}, 7)
		expectTimers(t, list, ok, c.want)
		// The timers around it stay, and which one is due first does not matter.
		list, ok = impl.FireTimer([]impl.Timer{{Id: 6, Due: 1, Period: 1}, x, {Id: 8, Due: 10000}}, 7)
		expectTimers(t, list, ok, slices.Concat(timers(6, 1, 1), c.want, timers(8, 10000, 0)))
	}
}

func TestDueTimersByHand(t *testing.T) {
	mixed := timers(1, 9, 0, 2, 5, 3, 3, 9, 1, 4, 0, 0, 5, 5, 0, 6, 10000, 0, 99, 4, 4)
	for _, c := range []struct {
		list []impl.Timer
		now  int
		want []int
	}{
		{nil, 0, nil}, {[]impl.Timer{}, 10000, nil}, {timers(7, 5, 0), 4, nil}, {timers(7, 5, 0), 5, []int{7}}, {timers(7, 5, 0), 6, []int{7}}, {timers(7, 0, 0), 0, []int{7}}, {timers(7, 10000, 0), 9999, nil}, {timers(7, 10000, 0), 10000, []int{7}}, {timers(7, 1, 0), 0, nil},
		{mixed, 0, []int{4}}, {mixed, 3, []int{4}}, {mixed, 4, []int{4, 99}}, {mixed, 5, []int{4, 99, 2, 5}}, {mixed, 8, []int{4, 99, 2, 5}}, {mixed, 9, []int{4, 99, 2, 5, 1, 3}}, {mixed, 9999, []int{4, 99, 2, 5, 1, 3}}, {mixed, 10000, []int{4, 99, 2, 5, 1, 3, 6}},
		{timers(1, 5, 9, 2, 5, 1, 3, 5, 0), 5, []int{1, 2, 3}}, {timers(1, 5, 9, 2, 5, 1, 3, 5, 0), 4, nil}, {timers(1, 3, 0, 2, 2, 0, 3, 1, 0), 3, []int{3, 2, 1}}, {timers(1, 3, 0, 2, 2, 0, 3, 1, 0), 2, []int{3, 2}},
	} {
		if ids, ok := impl.DueTimers(c.list, c.now); !ok || !slices.Equal(ids, c.want) {
			t.Error("due", c, ids, ok)
		}
	}
}

func TestNextDueByHand(t *testing.T) {
	for _, c := range []struct {
		list    []impl.Timer
		due, id int
	}{
		{timers(7, 5, 3), 5, 7}, {timers(1, 0, 0), 0, 1}, {timers(99, 10000, 10000), 10000, 99}, {timers(1, 5, 0, 2, 4, 0, 3, 6, 0), 4, 2}, {timers(1, 5, 0, 2, 6, 0, 3, 4, 0), 4, 3}, {timers(1, 4, 0, 2, 5, 0, 3, 6, 0), 4, 1},
		{timers(1, 5, 0, 2, 5, 0, 3, 5, 0), 5, 1}, {timers(1, 6, 0, 2, 5, 0, 3, 5, 0), 5, 2}, {timers(1, 6, 0, 2, 5, 9, 3, 5, 0), 5, 2}, {timers(1, 10000, 0, 99, 10000, 0), 10000, 1}, {timers(5, 1, 0, 99, 0, 0), 0, 99},
	} {
		if due, id, ok := impl.NextDue(c.list); !ok || due != c.due || id != c.id {
			t.Error("next", c, due, id, ok)
		}
	}
	for _, list := range [][]impl.Timer{nil, {}, timers(1, 2, 3)[:0]} {
		if due, id, ok := impl.NextDue(list); ok || due != 0 || id != 0 {
			t.Error("next of none", due, id, ok)
		}
	}
}

// For every Due of up to five timers, those that are due are found tick by tick.
func TestDueTimersOfManyLists(t *testing.T) {
	for _, base := range []int{0, 9997} {
		eachList(0, 4, 5, func(dues []int) {
			list := []impl.Timer{}
			for i, due := range dues {
				list = append(list, impl.Timer{Id: 3*i + 2, Due: base + due, Period: i % 3})
			}
			due := []int{}
			for now := base; now <= base+3; now++ {
				for _, x := range list {
					if x.Due == now {
						due = append(due, x.Id)
					}
					want := 0
					for now+want < x.Due {
						want++
					}
					if ticks, ok := impl.TicksUntil(list, x.Id, now); !ok || ticks != want {
						t.Fatal("until", list, x.Id, now, ticks, ok)
					}
				}
				if ids, ok := impl.DueTimers(list, now); !ok || !slices.Equal(ids, due) {
					t.Fatal("due", list, now, ids, due, ok)
				}
			}
			tick, id, ok := impl.NextDue(list)
			if ok != (len(list) > 0) || ok && (id != due[0] || tick != list[(id-2)/3].Due) || !ok && (tick != 0 || id != 0) {
				t.Fatal("next", list, tick, id, ok)
			}
		})
	}
}

func TestRunTimersByHand(t *testing.T) {
	for _, c := range []struct {
		list  []impl.Timer
		now   int
		left  []impl.Timer
		fired []int
	}{
		{nil, 0, nil, nil}, {[]impl.Timer{}, 10000, nil, nil}, {timers(7, 5, 0), 4, timers(7, 5, 0), nil}, {timers(7, 5, 3), 4, timers(7, 5, 3), nil}, {timers(7, 5, 0), 5, nil, []int{7}}, {timers(7, 5, 3), 5, timers(7, 8, 3), []int{7}}, {timers(7, 0, 0), 0, nil, []int{7}}, {timers(7, 0, 1), 0, timers(7, 1, 1), []int{7}},
		// One that is due again at exactly now, and one tick later.
		{timers(7, 5, 3), 7, timers(7, 8, 3), []int{7}}, {timers(7, 5, 3), 8, timers(7, 11, 3), []int{7, 7}}, {timers(7, 5, 3), 11, timers(7, 14, 3), []int{7, 7, 7}}, {timers(7, 5, 3), 10, timers(7, 11, 3), []int{7, 7}},
		// Equal ticks, also of timers that come to be due at the same tick on the way.
		{timers(1, 5, 0, 2, 5, 0, 3, 5, 0), 5, nil, []int{1, 2, 3}}, {timers(1, 5, 2, 2, 5, 2, 3, 5, 2), 7, timers(1, 9, 2, 2, 9, 2, 3, 9, 2), []int{1, 2, 3, 1, 2, 3}}, {timers(1, 6, 0, 2, 2, 2), 6, timers(2, 8, 2), []int{2, 2, 1, 2}}, {timers(1, 2, 2, 2, 6, 0), 6, timers(1, 8, 2), []int{1, 1, 1, 2}},
		{timers(1, 4, 6, 2, 4, 3, 3, 1, 3), 10, timers(1, 16, 6, 2, 13, 3, 3, 13, 3), []int{3, 1, 2, 3, 2, 3, 1, 2, 3}}, {timers(8, 3, 0, 9, 1, 0), 3, nil, []int{9, 8}}, {timers(8, 3, 0, 9, 1, 0), 2, timers(8, 3, 0), []int{9}},
		{timers(1, 5, 0, 2, 5, 10, 3, 20, 4), 25, timers(2, 35, 10, 3, 28, 4), []int{1, 2, 2, 3, 3, 2}},
		// The last tick: a next Due of exactly MaxTicks still fires there, and one of more never does.
		{timers(7, 9990, 10), 9999, timers(7, 10000, 10), []int{7}}, {timers(7, 9990, 10), 10000, nil, []int{7, 7}}, {timers(7, 9990, 11), 9990, nil, []int{7}}, {timers(7, 9990, 11), 10000, nil, []int{7}}, {timers(7, 10000, 0), 10000, nil, []int{7}}, {timers(7, 10000, 1), 10000, nil, []int{7}}, {timers(7, 0, 10000), 9999, timers(7, 10000, 10000), []int{7}}, {timers(7, 0, 10000), 10000, nil, []int{7, 7}}, {timers(7, 1, 10000), 1, nil, []int{7}},
		{timers(1, 9998, 1, 2, 9998, 2, 3, 9998, 3), 9998, timers(1, 9999, 1, 2, 10000, 2), []int{1, 2, 3}}, {timers(1, 9998, 1, 2, 9998, 2, 3, 9998, 3), 10000, nil, []int{1, 2, 3, 1, 1, 2}}, {timers(1, 10000, 0, 2, 9999, 5, 3, 10000, 9), 9999, timers(1, 10000, 0, 3, 10000, 9), []int{2}},
	} {
		left, fired, ok := impl.RunTimers(c.list, c.now)
		expectTimers(t, left, ok, c.left)
		if !slices.Equal(fired, c.fired) {
			t.Error("fired", c, fired)
		}
	}
}

// Fifty may fire in one run, whether of one timer or of many, and not one more.
func TestRunsAtTheirLimit(t *testing.T) {
	for _, c := range []struct {
		list []impl.Timer
		last int // the last tick at which not more than fifty have fired
		left []impl.Timer
	}{
		{timers(7, 0, 1), 49, timers(7, 50, 1)}, {timers(7, 1, 1), 50, timers(7, 51, 1)}, {timers(7, 100, 2), 199, timers(7, 200, 2)}, {timers(7, 3, 199), 9952, timers(7, 9953, 199)}, {timers(7, 9900, 1), 9949, timers(7, 9950, 1)},
		{timers(1, 0, 1, 2, 0, 1), 24, timers(1, 25, 1, 2, 25, 1)}, {timers(1, 10, 5, 2, 10, 5, 3, 20, 0, 4, 80, 0), 129, timers(1, 130, 5, 2, 130, 5)}, {timers(1, 0, 0, 2, 0, 1), 48, timers(2, 49, 1)}, {timers(1, 9950, 1, 2, 10000, 0), 9999, timers(1, 10000, 1, 2, 10000, 0)}, {timers(1, 9952, 1, 2, 9999, 0, 3, 10000, 0), 9999, timers(1, 10000, 1, 3, 10000, 0)},
	} {
		left, fired, ok := impl.RunTimers(c.list, c.last)
		expectTimers(t, left, ok, c.left)
		want := 0
		for _, x := range c.list {
			want += firings(x, c.last)
		}
		if len(fired) != want || want > 50 {
			t.Error("fired", c, len(fired), want)
		}
		for _, now := range []int{c.last + 1, 10000} {
			left, fired, ok := impl.RunTimers(c.list, now)
			expectNoTimers(t, left, ok)
			if len(fired) != 0 {
				t.Error("fired", c, now, fired)
			}
		}
	}
	ten := []impl.Timer{}
	for id := range 10 {
		ten = append(ten, impl.Timer{Id: id + 1, Due: 1000, Period: 100})
	}
	left, fired, ok := impl.RunTimers(ten, 1499)
	if !ok || len(left) != 10 || !slices.Equal(fired, slices.Repeat(numbersTo(10), 5)) || left[0].Due != 1500 || left[9].Due != 1500 {
		t.Error("ten", left, fired, ok)
	}
	left, fired, ok = impl.RunTimers(ten, 1500)
	expectNoTimers(t, left, ok)
	if len(fired) != 0 {
		t.Error("ten", fired)
	}
	// One that fires for the last time as the fiftieth is no longer there to fire as the next one.
	for _, list := range [][]impl.Timer{timers(7, 9951, 1), timers(1, 9952, 1, 2, 10000, 1), timers(7, 200, 200), timers(1, 9952, 1, 2, 10000, 10000)} {
		left, fired, ok := impl.RunTimers(list, 10000)
		expectTimers(t, left, ok, nil)
		if len(fired) != 50 {
			t.Error("fifty", list, fired)
		}
	}
}

// Timers that have run are not due, and every due one has fired, in order of the ticks: for all lists of up to three
// timers at both ends of the ticks, what a run gives is what going from tick to tick gives.
func TestRunsOfManyLists(t *testing.T) {
	sizes := map[int]int{}
	for _, ends := range [][2]int{{0, 21}, {9996, 10000}} {
		base, last := ends[0], ends[1]
		eachList(0, 20, 3, func(kinds []int) {
			list := []impl.Timer{}
			for i, kind := range kinds {
				list = append(list, impl.Timer{Id: 4*i + 1, Due: base + kind/4, Period: kind % 4})
			}
			for now := max(base-1, 0); now <= last; now++ {
				left, fired := ranTimers(list, now)
				sizes[len(fired)]++
				expectRun(t, list, now, left, fired)
			}
		})
	}
	if sizes[0] == 0 || sizes[49] == 0 || sizes[50] == 0 || sizes[51] == 0 {
		t.Error("sizes", sizes)
	}
}

// A run to one tick and from there to another one is the run to the later one.
func TestRunsInTwoParts(t *testing.T) {
	for _, list := range [][]impl.Timer{timers(1, 4, 6, 2, 4, 3, 3, 1, 3), timers(1, 0, 1, 2, 3, 0, 3, 7, 0), manyTimers(10), timers(5, 10, 10, 6, 20, 20, 7, 30, 0)} {
		for last := range 30 {
			want, all, ok := impl.RunTimers(list, last)
			for first := range last {
				left, one, fine := impl.RunTimers(list, first)
				left, two, fair := impl.RunTimers(left, last)
				if !ok || !fine || !fair || !slices.Equal(left, want) || !slices.Equal(append(one, two...), all) {
					t.Fatal("two parts", list, first, last, left, one, two)
				}
			}
		}
	}
}

func TestTicksUntilByHand(t *testing.T) {
	list := timers(1, 0, 0, 20, 13, 4, 99, 10000, 0)
	for _, c := range []struct{ id, now, want int }{
		{1, 0, 0}, {1, 1, 0}, {1, 10000, 0}, {20, 0, 13}, {20, 1, 12}, {20, 12, 1}, {20, 13, 0}, {20, 14, 0}, {20, 17, 0}, {20, 10000, 0}, {99, 0, 10000}, {99, 1, 9999}, {99, 9999, 1}, {99, 10000, 0},
	} {
		if ticks, ok := impl.TicksUntil(list, c.id, c.now); !ok || ticks != c.want {
			t.Error("until", c, ticks, ok)
		}
	}
}

func TestNumbersThatAreNoTicks(t *testing.T) {
	for _, list := range [][]impl.Timer{nil, timers(5, 0, 0), timers(5, 5, 5), timers(5, 10000, 1), timers(1, 10000, 0, 5, 0, 3), manyTimers(10)} {
		for _, now := range noTicks {
			refuseTick(t, list, now)
		}
	}
}

func TestBackOffByHand(t *testing.T) {
	for _, c := range []struct{ due, period, most, wantDue, wantPeriod int }{
		// Periods that double to less than most, to exactly most, and to more than it.
		{5, 4, 9, 13, 8}, {5, 4, 8, 13, 8}, {5, 4, 7, 12, 7}, {5, 4, 6, 11, 6}, {5, 4, 5, 10, 5}, {5, 4, 10000, 13, 8}, {0, 1, 1, 1, 1}, {0, 1, 2, 2, 2}, {0, 1, 3, 2, 2}, {0, 2500, 10000, 5000, 5000}, {0, 2500, 5001, 5000, 5000}, {0, 2501, 5001, 5001, 5001},
		// A Period that is most already.
		{5, 4, 4, 9, 4}, {5, 1, 1, 6, 1}, {9999, 1, 1, 10000, 1}, {0, 10000, 10000, 10000, 10000}, {0, 9999, 9999, 9999, 9999},
		// A Due that just does not pass MaxTicks, also where most keeps it from that.
		{9998, 1, 2, 10000, 2}, {9998, 1, 10000, 10000, 2}, {9990, 5, 10, 10000, 10}, {9990, 6, 10, 10000, 10}, {9990, 10, 10, 10000, 10}, {0, 5000, 10000, 10000, 10000}, {0, 5001, 10000, 10000, 10000}, {0, 9999, 10000, 10000, 10000}, {1, 6000, 9999, 10000, 9999}, {8000, 1000, 10000, 10000, 2000},
	} {
		x, ok := impl.BackOff(impl.Timer{Id: 7, Due: c.due, Period: c.period}, c.most)
		if want := (impl.Timer{Id: 7, Due: c.wantDue, Period: c.wantPeriod}); !ok || x != want {
			t.Error("backed off", c, x, ok)
		}
	}
	for _, id := range []int{1, 2, 50, 99} {
		if x, ok := impl.BackOff(impl.Timer{Id: id, Due: 5, Period: 4}, 6); !ok || x != (impl.Timer{Id: id, Due: 11, Period: 6}) {
			t.Error("Id", id, x, ok)
		}
	}
}

func TestBackOffRefuses(t *testing.T) {
	for _, c := range []struct{ due, period, most int }{
		// Without a Period there is nothing to double.
		{5, 0, 1}, {5, 0, 6}, {5, 0, 10000}, {0, 0, 0}, {0, 0, -1}, {10000, 0, 1},
		// Periods greater than most.
		{5, 4, 3}, {5, 4, 1}, {5, 2, 1}, {5, 10000, 9999}, {0, 10000, 1},
		// A Due that would pass MaxTicks.
		{10000, 1, 1}, {9999, 1, 2}, {9999, 2, 2}, {9991, 5, 10}, {9991, 10, 10}, {9991, 5, 10000}, {1, 5000, 10000}, {1, 10000, 10000}, {10000, 10000, 10000}, {1, 9999, 10000}, {8001, 1000, 10000},
		// Numbers that most can't be.
		{5, 4, 0}, {5, 4, -1}, {5, 4, -6}, {5, 4, 10001}, {5, 4, 20000}, {5, 4, mostInt}, {5, 4, leastInt}, {5, 4, 1<<32 + 6}, {5, 4, -1 << 32}, {0, 10000, 10001}, {5, 1, 0}, {5, 1, 10001},
	} {
		refuseBackOff(t, impl.Timer{Id: 7, Due: c.due, Period: c.period}, c.most)
	}
	for _, x := range noTimers() {
		for _, most := range []int{0, 1, 4, 6, 9999, 10000, 10001, mostInt} {
			refuseBackOff(t, x, most)
		}
	}
}

// However often it backs off, the Period of a timer doubles until it is most, and then stays.
func TestBackOffAgainAndAgain(t *testing.T) {
	for _, most := range []int{1, 2, 3, 7, 8, 9, 100, 1000} {
		for period := 1; period <= most; period++ {
			x, due, now := impl.Timer{Id: 3, Period: period}, 0, period
			for {
				now = min(now+now, most)
				due += now
				next, ok := impl.BackOff(x, most)
				if due > 10000 {
					if ok || next != (impl.Timer{}) {
						t.Fatal("too late", most, period, next)
					}
					break
				}
				if !ok || next != (impl.Timer{Id: 3, Due: due, Period: now}) {
					t.Fatal("backed off", most, period, x, next, ok)
				}
				x = next
			}
		}
	}
}

// What is beyond the length of a list is no part of it, and stays as it is.
func TestTimersKeepTheirArguments(t *testing.T) {
	all := append(manyTimers(10), impl.Timer{Id: -5, Due: -5, Period: -5}, impl.Timer{Id: 1, Due: 1, Period: 1})
	kept := slices.Clone(all)
	for held := 0; held <= 11; held++ {
		list := all[:held]
		if impl.IsValidTimers(list) != (held <= 10) {
			t.Error("validity", held)
		}
		for id := 0; id <= 100; id++ {
			impl.SetTimer(list, impl.Timer{Id: id, Due: 77, Period: 7})
			impl.StopTimer(list, id)
			impl.FireTimer(list, id)
			impl.TicksUntil(list, id, 50)
		}
		for _, now := range []int{-1, 0, 5, 20, 10000, 10001} {
			impl.DueTimers(list, now)
			impl.RunTimers(list, now)
		}
		impl.NextDue(list)
		if !slices.Equal(all, kept) {
			t.Fatal("changed", held, all)
		}
	}
	for _, list := range noOrders {
		before := slices.Clone(list)
		refuseTimers(t, list)
		if !slices.Equal(list, before) {
			t.Error("changed", list, before)
		}
	}
}

func TestTimersGiveNewMemory(t *testing.T) {
	start := append(make([]impl.Timer, 0, 20), timers(10, 5, 1, 20, 6, 0, 30, 7, 3)...)
	kept := slices.Clone(start[:6])
	for name, f := range map[string]func() ([]impl.Timer, bool){
		"in front":   func() ([]impl.Timer, bool) { return impl.SetTimer(start, impl.Timer{Id: 1}) },
		"in between": func() ([]impl.Timer, bool) { return impl.SetTimer(start, impl.Timer{Id: 15}) },
		"at the end": func() ([]impl.Timer, bool) { return impl.SetTimer(start, impl.Timer{Id: 40}) },
		"in place":   func() ([]impl.Timer, bool) { return impl.SetTimer(start, impl.Timer{Id: 20}) },
		"as it was":  func() ([]impl.Timer, bool) { return impl.SetTimer(start, start[1]) },
		"no first":   func() ([]impl.Timer, bool) { return impl.StopTimer(start, 10) },
		"no last":    func() ([]impl.Timer, bool) { return impl.StopTimer(start, 30) },
		"fired":      func() ([]impl.Timer, bool) { return impl.FireTimer(start, 10) },
		"fired once": func() ([]impl.Timer, bool) { return impl.FireTimer(start, 20) },
		"none runs":  func() ([]impl.Timer, bool) { left, _, ok := impl.RunTimers(start, 4); return left, ok },
		"some run":   func() ([]impl.Timer, bool) { left, _, ok := impl.RunTimers(start, 8); return left, ok },
	} {
		first, ok := f()
		want, _ := f()
		before := slices.Clone(want)
		_ = append(first, impl.Timer{Id: 88}, impl.Timer{Id: 88}, impl.Timer{Id: 88})
		for i := range first {
			first[i] = impl.Timer{Id: 88, Due: 88, Period: 88}
		}
		again, _ := f()
		if !ok || len(first) == 0 || !slices.Equal(want, before) || !slices.Equal(again, before) || !slices.Equal(start[:6], kept) {
			t.Error(name, first, want, again, start[:6])
		}
	}
	for name, f := range map[string]func() ([]int, bool){
		"due": func() ([]int, bool) { return impl.DueTimers(start, 6) },
		"ran": func() ([]int, bool) { _, fired, ok := impl.RunTimers(start, 6); return fired, ok },
	} {
		first, _ := f()
		want := slices.Clone(first)
		first[0] = 88
		if again, ok := f(); !ok || !slices.Equal(again, want) {
			t.Error(name, again, want)
		}
	}
}

// expectValidity tells if a list with this timer alone is, or may come to be, other than it should.
func expectValidity(t *testing.T, x impl.Timer, valid bool) {
	t.Helper()
	one := []impl.Timer{x}
	if impl.IsValidTimers(one) != valid {
		t.Fatal("validity", x, valid)
	}
	list, ok := impl.SetTimer(nil, x)
	if valid {
		expectTimers(t, list, ok, one)
		return
	}
	expectNoTimers(t, list, ok)
}

func expectTimers(t *testing.T, list []impl.Timer, ok bool, want []impl.Timer) {
	t.Helper()
	if !ok || !slices.Equal(list, want) || !impl.IsValidTimers(list) {
		t.Fatal("timers", list, ok, "not", want)
	}
}

// expectNoTimers tells if the result of a call that fails has a timer.
func expectNoTimers(t *testing.T, list []impl.Timer, ok bool) {
	t.Helper()
	if ok || len(list) != 0 {
		t.Fatal("timers", list[:min(len(list), 12)], ok)
	}
}

// expectRun tells if a run does other than to give what is left and fired, and to leave nothing due.
func expectRun(t *testing.T, list []impl.Timer, now int, left []impl.Timer, fired []int) {
	t.Helper()
	ran, ids, ok := impl.RunTimers(list, now)
	if len(fired) > 50 {
		expectNoTimers(t, ran, ok)
		if len(ids) != 0 {
			t.Fatal("fired", list, now, ids)
		}
		return
	}
	due, fine := impl.DueTimers(list, now)
	rest, fair := impl.DueTimers(ran, now)
	if !ok || !slices.Equal(ran, left) || !slices.Equal(ids, fired) || !fine || !fair || len(rest) != 0 {
		t.Fatal("run", list, now, ran, ids, "not", left, fired, rest)
	}
	for _, x := range list {
		if slices.Contains(due, x.Id) != slices.Contains(ids, x.Id) {
			t.Fatal("due and fired", list, now, due, ids)
		}
	}
}

// refuseTimers tells if a list that is not valid is taken for one.
func refuseTimers(t *testing.T, list []impl.Timer) {
	t.Helper()
	if impl.IsValidTimers(list) {
		t.Fatal("valid", list[:min(len(list), 12)])
	}
	for _, id := range []int{0, 1, 5, 9, 50, 99, 100} {
		set, ok := impl.SetTimer(list, impl.Timer{Id: id, Due: 1, Period: 1})
		expectNoTimers(t, set, ok)
		refuseId(t, list, id)
	}
	for _, x := range list[:min(len(list), 12)] {
		set, ok := impl.SetTimer(list, x)
		expectNoTimers(t, set, ok)
		refuseId(t, list, x.Id)
	}
	for _, now := range []int{-1, 0, 5, 50, 10000, 10001} {
		refuseTick(t, list, now)
	}
	if due, id, ok := impl.NextDue(list); ok || due != 0 || id != 0 {
		t.Fatal("next", list[:min(len(list), 12)], due, id)
	}
}

// refuseId tells if an Id is found that is not in the list, or in a list that is not valid.
func refuseId(t *testing.T, list []impl.Timer, id int) {
	t.Helper()
	stopped, ok := impl.StopTimer(list, id)
	expectNoTimers(t, stopped, ok)
	fired, ok := impl.FireTimer(list, id)
	expectNoTimers(t, fired, ok)
	for _, now := range []int{-1, 0, 50, 10000, 10001} {
		if ticks, ok := impl.TicksUntil(list, id, now); ok || ticks != 0 {
			t.Fatal("until", id, now, ticks)
		}
	}
}

// refuseTick tells if a tick is taken that is none, or for a list that is not valid.
func refuseTick(t *testing.T, list []impl.Timer, now int) {
	t.Helper()
	ids, ok := impl.DueTimers(list, now)
	if ok || len(ids) != 0 {
		t.Fatal("due", now, ids, ok)
	}
	left, fired, ok := impl.RunTimers(list, now)
	expectNoTimers(t, left, ok)
	if len(fired) != 0 {
		t.Fatal("fired", now, fired)
	}
	for _, id := range []int{0, 1, 5, 99} {
		if ticks, ok := impl.TicksUntil(list, id, now); ok || ticks != 0 {
			t.Fatal("until", id, now, ticks)
		}
	}
}

func refuseBackOff(t *testing.T, x impl.Timer, most int) {
	t.Helper()
	if backed, ok := impl.BackOff(x, most); ok || backed != (impl.Timer{}) {
		t.Fatal("backed off", x, most, backed, ok)
	}
}

// ranTimers goes from tick to tick up to now, and at each one lets the timers that are due then fire in order. It stops
// after the tick at which more than fifty have fired.
func ranTimers(list []impl.Timer, now int) ([]impl.Timer, []int) {
	due, fired := map[int]int{}, []int{}
	first := now
	for _, x := range list {
		due[x.Id] = x.Due
		first = min(first, x.Due)
	}
	for tick := first; tick <= now && len(fired) <= 50; tick++ {
		for _, x := range list {
			if due[x.Id] != tick {
				continue
			}
			fired = append(fired, x.Id)
			due[x.Id] = -1
			if next := tick + x.Period; next > tick && next <= 10000 {
				due[x.Id] = next
			}
		}
	}
	left := []impl.Timer{}
	for _, x := range list {
		if due[x.Id] >= 0 {
			left = append(left, impl.Timer{Id: x.Id, Due: due[x.Id], Period: x.Period})
		}
	}
	return left, fired
}

// firings is how often a timer fires up to a tick.
func firings(x impl.Timer, now int) int {
	switch {
	case x.Due > now:
		return 0
	case x.Period == 0:
		return 1
	}
	return (now-x.Due)/x.Period + 1
}

// noTimers has what breaks one rule of timers.
func noTimers() []impl.Timer {
	none := []impl.Timer{{}, {Due: 5, Period: 5}, {Id: 100, Due: -1, Period: -1}}
	for _, id := range noIds {
		none = append(none, impl.Timer{Id: id, Due: 5, Period: 4})
	}
	for _, x := range noTicks {
		none = append(none, impl.Timer{Id: 50, Due: x}, impl.Timer{Id: 50, Period: x}, impl.Timer{Id: 50, Due: x, Period: 4}, impl.Timer{Id: 50, Due: 5, Period: x})
	}
	return none
}

// manyTimers gives n timers with Ids that are apart from each other, and some with equal ticks.
func manyTimers(n int) []impl.Timer {
	list := []impl.Timer{}
	for i := range n {
		id := i + 1
		if n <= 10 {
			id = 9*i + 7
		}
		list = append(list, impl.Timer{Id: id, Due: i * 7 % 20 / 3 * 3, Period: i % 4 * 13})
	}
	return list
}

// withoutId gives a new list.
func withoutId(list []impl.Timer, id int) []impl.Timer {
	return slices.DeleteFunc(slices.Clone(list), func(x impl.Timer) bool { return x.Id == id })
}

// numbersTo gives the numbers 1 to n.
func numbersTo(n int) []int {
	numbers := []int{}
	for x := 1; x <= n; x++ {
		numbers = append(numbers, x)
	}
	return numbers
}

// timers gives a timer for each Id, Due and Period.
func timers(numbers ...int) []impl.Timer {
	list := []impl.Timer{}
	for part := range slices.Chunk(numbers, 3) {
		list = append(list, impl.Timer{Id: part[0], Due: part[1], Period: part[2]})
	}
	return list
}
