package tests

import (
	"fmt"
	"slices"
	"strconv"
	"strings"
	"testing"

	"loop.example/g00840/impl"
)

// fullText and longText have as many bytes as a text may have, and one more.
var (
	fullText = strings.Repeat("t", 60)
	longText = fullText + "t"
)

// noFates has texts that are no Fates of a link.
var noFates = []string{
	strings.Repeat("k", 41), strings.Repeat("l", 41), strings.Repeat("d", 41), strings.Repeat("s", 41), strings.Repeat("klds", 10) + "k", strings.Repeat("k", 40) + "x", strings.Repeat("k", 100000), strings.Repeat("x", 100000),
	"x", "K", "L", "D", "S", " ", "-", "0", "\x00", "\xff", "\n", "kk ", " kk", "k k", "k,l", "klds\n", "klxds", "xklds", "kldsx", "kldS", "none", "\u00e9", "k\u0301", "\u212a", "\u017f",
	"x" + strings.Repeat("k", 39), strings.Repeat("k", 39) + "x", strings.Repeat("k", 20) + "x" + strings.Repeat("k", 19),
}

// noLinks has what breaks a rule of links in its Queue or in Used.
var noLinks = []impl.Link{
	{Queue: make([]string, 9)}, {Queue: make([]string, 9), Fates: "l"}, {Queue: texts("abcdefghi")}, {Queue: texts("abcdefghi"), Fates: "lll"}, {Queue: make([]string, 100000), Fates: "klds"},
	{Queue: []string{longText}}, {Queue: []string{longText, "b", "c"}}, {Queue: []string{"a", longText, "c"}, Fates: "klds", Used: 2}, {Queue: []string{"a", "b", longText}}, {Queue: append(texts("abcdefg"), longText)}, {Queue: append(texts("abcdefgh"), longText)},
	{Queue: []string{strings.Repeat("\u00e9", 31)}}, {Queue: []string{strings.Repeat("t", 100000)}},
	{Used: -1}, {Used: 1}, {Used: 2}, {Used: 40}, {Used: 41}, {Used: mostInt}, {Used: leastInt}, {Used: 1 << 32}, {Used: -1 << 32},
	{Fates: "klds", Used: -1}, {Fates: "klds", Used: 5}, {Fates: "klds", Used: 8}, {Fates: "klds", Used: mostInt}, {Fates: "klds", Used: leastInt}, {Fates: "klds", Used: 1 << 32}, {Fates: "klds", Used: 1<<32 + 1}, {Fates: "k", Used: 2}, {Queue: texts("ab"), Fates: "k", Used: 2},
	{Fates: strings.Repeat("k", 40), Used: 41}, {Fates: strings.Repeat("k", 40), Used: -1}, {Fates: strings.Repeat("k", 41), Used: 41}, {Fates: strings.Repeat("k", 41), Used: 7},
}

func TestLimitsOfLinks(t *testing.T) {
	if impl.MaxHeld != 8 || impl.MaxFates != 40 || impl.MaxText != 60 {
		t.Error("limits", impl.MaxHeld, impl.MaxFates, impl.MaxText)
	}
}

func TestFatesByHand(t *testing.T) {
	for _, c := range []struct {
		queue, fates string
		used         int
		want         string
		wantUsed     int
	}{
		// Each fate on an empty queue, and on one, two and seven texts.
		{"", "k", 0, "x", 1}, {"a", "k", 0, "ax", 1}, {"ab", "k", 0, "abx", 1}, {"abcdefg", "k", 0, "abcdefgx", 1},
		{"", "l", 0, "", 1}, {"a", "l", 0, "a", 1}, {"ab", "l", 0, "ab", 1}, {"abcdefg", "l", 0, "abcdefg", 1},
		{"", "d", 0, "xx", 1}, {"a", "d", 0, "axx", 1}, {"abcdef", "d", 0, "abcdefxx", 1}, {"abcdefg", "d", 0, "abcdefgx", 1},
		{"", "s", 0, "x", 1}, {"a", "s", 0, "xa", 1}, {"ab", "s", 0, "axb", 1}, {"abcdefg", "s", 0, "abcdefxg", 1},
		// On a full one, a text can only be lost.
		{"abcdefgh", "l", 0, "abcdefgh", 1}, {"abcdefgh", "kdsl", 3, "abcdefgh", 4},
		// No letters, and none left.
		{"", "", 0, "x", 0}, {"a", "", 0, "ax", 0}, {"abcdefg", "", 0, "abcdefgx", 0}, {"a", "l", 1, "ax", 1}, {"a", "ldss", 4, "ax", 4}, {"ab", "lllllllllldddddddddddsssssssssslllllllll"[:40], 40, "abx", 40},
		// Letters in the middle and at the end of many.
		{"ab", "kdslk", 2, "axb", 3}, {"ab", "kdslk", 3, "ab", 4}, {"ab", "kdslk", 1, "abxx", 2}, {"ab", "kdslk", 4, "abx", 5}, {"ab", strings.Repeat("k", 39) + "s", 39, "axb", 40}, {"ab", strings.Repeat("s", 39) + "l", 39, "ab", 40},
	} {
		l, ok := impl.SendOn(impl.Link{Queue: texts(c.queue), Fates: c.fates, Used: c.used}, "x")
		expectLink(t, l, ok, c.want, c.fates, c.wantUsed)
	}
}

func TestFullQueueRefuses(t *testing.T) {
	for _, c := range []struct {
		fates string
		used  int
	}{{"k", 0}, {"d", 0}, {"s", 0}, {"", 0}, {"l", 1}, {"klds", 4}, {"lk", 1}, {"ld", 1}, {"ls", 1}, {strings.Repeat("l", 40), 40}, {"kl", 0}, {"dl", 0}, {"sl", 0}} {
		l := impl.Link{Queue: texts("abcdefgh"), Fates: c.fates, Used: c.used}
		for _, s := range []string{"x", "", "a", fullText} {
			sent, ok := impl.SendOn(l, s)
			expectNoLink(t, sent, ok)
			all, left, ok := impl.SendAll(l, []string{s, s, s})
			if left != 3 {
				t.Error("left", c, left)
			}
			expectLink(t, all, ok, "abcdefgh", c.fates, c.used)
		}
	}
}

// A text that is too long is refused even where it would be lost.
func TestLengthsOfTexts(t *testing.T) {
	for _, fates := range []string{"k", "l", "d", "s", ""} {
		for _, queue := range []string{"", "a", "abcdefg", "abcdefgh"} {
			l := impl.Link{Queue: texts(queue), Fates: fates}
			for _, s := range []string{longText, strings.Repeat("\u00e9", 30) + "t", strings.Repeat("\u20ac", 21), strings.Repeat("\x00", 61), strings.Repeat("t", 100000)} {
				sent, ok := impl.SendOn(l, s)
				expectNoLink(t, sent, ok)
				all, left, ok := impl.SendAll(l, []string{s})
				if left != 1 {
					t.Error("left", left)
				}
				expectLink(t, all, ok, queue, fates, 0)
			}
		}
		for _, s := range []string{"", fullText, strings.Repeat("\u00e9", 30), strings.Repeat("\u20ac", 20), strings.Repeat("\xff", 60), strings.Repeat("\x00", 60), "t\nt", " "} {
			want := map[string][]string{"k": {"a", s}, "l": {"a"}, "d": {"a", s, s}, "s": {s, "a"}, "": {"a", s}}[fates]
			l, ok := impl.SendOn(impl.Link{Queue: texts("a"), Fates: fates}, s)
			if !ok || !slices.Equal(l.Queue, want) || l.Used != len(fates) || !impl.IsValidLink(l) {
				t.Error("sent", fates, s, linkText(l), ok)
			}
		}
	}
}

func TestExampleOfEveryFate(t *testing.T) {
	l, ok := impl.NewLink("klds")
	expectLink(t, l, ok, "", "klds", 0)
	for i, want := range []string{"a", "a", "acc", "acdc", "acdce"} {
		l, ok = impl.SendOn(l, "abcde"[i:i+1])
		expectLink(t, l, ok, want, "klds", min(i+1, 4))
	}
	for i, want := range []string{"cdce", "dce", "ce", "e", ""} {
		var s string
		l, s, ok = impl.TakeFrom(l)
		expectLink(t, l, ok, want, "klds", 4)
		if s != "acdce"[i:i+1] {
			t.Error("taken", i, s)
		}
	}
	none, s, ok := impl.TakeFrom(l)
	expectNoLink(t, none, ok)
	if s != "" {
		t.Error("taken from none", s)
	}
}

// What is sent by one call or by many is what the rule says, for all short Fates, for links of all sizes.
func TestEveryShortFates(t *testing.T) {
	const sent = "uvwxyz"
	eachText("klds", 5, func(fates string) {
		for used := 0; used <= len(fates); used++ {
			for held := 0; held <= 8; held++ {
				start := impl.Link{Queue: texts("abcdefgh"[:held]), Fates: fates, Used: used}
				l, queue, now, refused := start, "abcdefgh"[:held], used, 0
				for _, s := range texts(sent) {
					nextQueue, next, ok := ruleOfFates(queue, fates, now, s)
					one, fine := impl.SendOn(l, s)
					if !ok {
						refused++
						expectNoLink(t, one, fine)
						continue
					}
					expectLink(t, one, fine, nextQueue, fates, next)
					l, queue, now = one, nextQueue, next
				}
				all, left, ok := impl.SendAll(start, texts(sent))
				expectLink(t, all, ok, queue, fates, now)
				if left != refused {
					t.Fatal("left", start, left, refused)
				}
			}
		}
	})
}

// What is sent comes out in order but for its fates: without an `s` the texts are in order, and each `s` puts just one
// text before one that was sent earlier, if there is one to be put before.
func TestOrderOfWhatComesOut(t *testing.T) {
	eachText("klds", 6, func(fates string) {
		l, _ := impl.NewLink(fates)
		want, held, swaps := map[string]int{}, 0, 0
		for i := range fates {
			name := "abcdef"[i : i+1]
			times := map[byte]int{'k': 1, 'l': 0, 'd': 2, 's': 1}[fates[i]]
			if fates[i] == 's' && held > 0 {
				swaps++
			}
			if held == 8 && times > 0 {
				return
			}
			want[name] = min(times, 8-held)
			held += want[name]
		}
		l, left, ok := impl.SendAll(l, texts("abcdef"[:len(fates)]))
		l, out, fine := impl.Drain(l)
		if !ok || !fine || left != 0 || len(out) != held || len(l.Queue) != 0 {
			t.Fatal("drained", fates, l, out, left)
		}
		turned := 0
		for i, later := range out {
			want[later]--
			for _, earlier := range out[:i] {
				if earlier > later {
					turned++
				}
			}
		}
		if turned != swaps {
			t.Fatal("order", fates, out, turned, swaps)
		}
		for name, n := range want {
			if n != 0 {
				t.Fatal("times", fates, out, name)
			}
		}
	})
}

// Without letters, a link is a queue.
func TestLinksWithoutLetters(t *testing.T) {
	l, ok := impl.NewLink("")
	expectLink(t, l, ok, "", "", 0)
	sent, taken := 0, 0
	for round := range 200 {
		for range round%9 + 1 {
			next, ok := impl.SendOn(l, strconv.Itoa(sent))
			if full := sent-taken == 8; ok == full {
				t.Fatal("sent", sent, taken, next, ok)
			}
			if ok {
				l, sent = next, sent+1
			}
		}
		for range (round*5)%9 + 1 {
			next, s, ok := impl.TakeFrom(l)
			if empty := sent == taken; ok == empty || ok && s != strconv.Itoa(taken) {
				t.Fatal("taken", sent, taken, next, s, ok)
			}
			if ok {
				l, taken = next, taken+1
			}
		}
		if !impl.IsValidLink(l) || l.Used != 0 || len(l.Queue) != sent-taken {
			t.Fatal("link", l)
		}
	}
	if taken < 200 {
		t.Error("too few", sent, taken)
	}
}

func TestTakeDropAndDrain(t *testing.T) {
	for held := 0; held <= 8; held++ {
		queue := "abcdefgh"[:held]
		for _, c := range []struct {
			fates string
			used  int
		}{{"", 0}, {"l", 0}, {"klds", 2}, {"klds", 4}, {strings.Repeat("s", 40), 40}} {
			l := impl.Link{Queue: texts(queue), Fates: c.fates, Used: c.used}
			drained, all, ok := impl.Drain(l)
			expectLink(t, drained, ok, "", c.fates, c.used)
			if !slices.Equal(all, texts(queue)) {
				t.Error("drained", l, all)
			}
			for i := range held {
				dropped, ok := impl.DropFrom(l, i)
				expectLink(t, dropped, ok, queue[:i]+queue[i+1:], c.fates, c.used)
			}
			for _, i := range []int{-1, -2, -held, held, held + 1, 8, 9, 1 << 32, -1 << 32, 1<<32 + 1, mostInt, leastInt} {
				if i == 0 && held > 0 {
					continue
				}
				dropped, ok := impl.DropFrom(l, i)
				expectNoLink(t, dropped, ok)
			}
			taken, s, ok := impl.TakeFrom(l)
			if held == 0 {
				expectNoLink(t, taken, ok)
				if s != "" {
					t.Error("taken", s)
				}
				continue
			}
			expectLink(t, taken, ok, queue[1:], c.fates, c.used)
			if s != "a" {
				t.Error("taken", l, s)
			}
		}
	}
}

// Empty texts and equal ones are texts as others are.
func TestEmptyTextsOnLinks(t *testing.T) {
	l := impl.Link{Queue: make([]string, 8)}
	for held := 8; held > 0; held-- {
		next, s, ok := impl.TakeFrom(l)
		if dropped, fine := impl.DropFrom(l, held-1); !ok || !fine || s != "" || len(next.Queue) != held-1 || len(dropped.Queue) != held-1 {
			t.Fatal("taken", held, next, dropped)
		}
		if _, all, ok := impl.Drain(l); !ok || len(all) != held {
			t.Fatal("drained", held, all)
		}
		l = next
	}
	l, left, ok := impl.SendAll(impl.Link{Fates: "ldsk"}, []string{"", "", "x", ""})
	if !ok || left != 0 || !slices.Equal(l.Queue, []string{"", "x", "", ""}) || l.Used != 4 {
		t.Error("sent", l, left)
	}
	if l, ok := impl.DropFrom(l, 1); !ok || !slices.Equal(l.Queue, []string{"", "", ""}) {
		t.Error("dropped", l)
	}
}

func TestNextFateAndCounts(t *testing.T) {
	long := strings.Repeat("kldsslkdds", 4)
	for _, fates := range []string{"", "k", "l", "d", "s", "klds", "sdlk", "ssssdddllk", long, strings.Repeat("k", 40), strings.Repeat("l", 40), strings.Repeat("d", 40), strings.Repeat("s", 40)} {
		l, ok := impl.NewLink(fates)
		expectLink(t, l, ok, "", fates, 0)
		for used := 0; used <= len(fates); used++ {
			for _, queue := range []string{"", "a", "abcdefgh"} {
				l := impl.Link{Queue: texts(queue), Fates: fates, Used: used}
				rest := fates[used:]
				want := []int{strings.Count(rest, "k"), strings.Count(rest, "l"), strings.Count(rest, "d"), strings.Count(rest, "s")}
				if c, ok := impl.CountFates(l); !ok || !slices.Equal(c, want) {
					t.Fatal("counts", linkText(l), c, ok)
				}
				if b, ok := impl.NextFate(l); !ok || b != (rest + "k")[0] {
					t.Fatal("fate", linkText(l), b, ok)
				}
			}
		}
	}
	if c, ok := impl.CountFates(impl.Link{Fates: "kldsslkddsdddd", Used: 1}); !ok || !slices.Equal(c, []int{1, 2, 7, 3}) {
		t.Error("counts by hand", c, ok)
	}
}

func TestSendAllByHand(t *testing.T) {
	for _, c := range []struct {
		queue, fates string
		used         int
		list         []string
		want         string
		wantUsed     int
		left         int
	}{
		{"", "klds", 0, nil, "", 0, 0}, {"ab", "klds", 1, []string{}, "ab", 1, 0}, {"abcdefgh", "", 0, nil, "abcdefgh", 0, 0},
		{"", "klds", 0, texts("abcd"), "acdc", 4, 0}, {"", "", 0, texts("abcd"), "abcd", 0, 0}, {"a", "ss", 0, texts("bcd"), "bcad", 2, 0}, {"", "ddd", 0, texts("abc"), "aabbcc", 3, 0},
		// Texts left out in the middle, which use no letter.
		{"", "klds", 0, []string{"a", longText, "b", longText, longText, "c", "d", longText}, "acdc", 4, 4}, {"", "ls", 0, []string{longText, "a", "b"}, "b", 2, 1}, {"a", "s", 0, []string{longText, longText, "b", "c"}, "bac", 1, 2},
		// A queue that gets full on the way. What is lost needs no room, and what needs room and is refused keeps its letter for the next one.
		{"abcdefg", "kl", 0, texts("xyz"), "abcdefgx", 2, 1}, {"abcdefg", "kll", 0, texts("xyz"), "abcdefgx", 3, 0}, {"abcdefg", "lkl", 0, texts("wxyz"), "abcdefgx", 3, 1}, {"abcdefg", "dkl", 0, texts("xyz"), "abcdefgx", 1, 2}, {"abcdefg", "skl", 0, texts("xyz"), "abcdefxg", 1, 2},
		{"abcdefg", "sl", 0, []string{longText, "x", longText, "y", "z"}, "abcdefxg", 2, 3}, {"abcdefgh", "lll", 0, texts("xyz"), "abcdefgh", 3, 0}, {"abcdefgh", "lls", 0, texts("vwxyz"), "abcdefgh", 2, 3}, {"abcdef", "ds", 0, texts("xyz"), "abcdefxx", 1, 2}, {"abcdefg", "dd", 0, texts("xx"), "abcdefgx", 1, 1},
		// As many texts as may be sent.
		{"", "", 0, texts("abcdefghijklmnopqrst"), "abcdefgh", 0, 12}, {"", strings.Repeat("l", 40), 0, texts("abcdefghijklmnopqrst"), "", 20, 0}, {"a", strings.Repeat("l", 40), 30, texts("bcdefghijklmnopqrstu"), "abcdefgh"[:1] + "lmnopqr", 40, 3},
		{"", "llllllllllllkkkkkkkk", 0, texts("abcdefghijklmnopqrst"), "mnopqrst", 20, 0}, {"", "klklklklklklklklklkl", 0, texts("abcdefghijklmnopqrst"), "acegikmo", 16, 4}, {"ab", "s", 0, slices.Repeat([]string{longText}, 20), "ab", 0, 20},
	} {
		l, left, ok := impl.SendAll(impl.Link{Queue: texts(c.queue), Fates: c.fates, Used: c.used}, c.list)
		expectLink(t, l, ok, c.want, c.fates, c.wantUsed)
		if left != c.left {
			t.Error("left", c, left)
		}
	}
}

func TestSendAllRefusesManyTexts(t *testing.T) {
	for _, l := range []impl.Link{{}, {Fates: strings.Repeat("l", 40)}, {Queue: texts("abcdefgh")}, {Queue: texts("ab"), Fates: "klds", Used: 3}} {
		for _, list := range [][]string{texts("abcdefghijklmnopqrstu"), make([]string, 21), make([]string, 22), slices.Repeat([]string{longText}, 21), append(make([]string, 20), longText), make([]string, 100000)} {
			sent, left, ok := impl.SendAll(l, list)
			expectNoLink(t, sent, ok)
			if left != 0 {
				t.Error("left", left)
			}
			if _, _, ok := impl.SendAll(l, list[:20]); !ok {
				t.Error("refused", linkText(l), len(list))
			}
		}
	}
}

func TestFatesOfLinks(t *testing.T) {
	for _, fates := range []string{"", "k", "l", "d", "s", "klds", "kkkk", strings.Repeat("k", 39), strings.Repeat("k", 40), strings.Repeat("l", 40), strings.Repeat("d", 40), strings.Repeat("s", 40), strings.Repeat("klds", 10)} {
		l, ok := impl.NewLink(fates)
		expectLink(t, l, ok, "", fates, 0)
	}
	for _, fates := range noFates {
		refuseFates(t, fates)
	}
	for _, size := range []int{1, 2, 40} {
		for at := range size {
			for b := range 256 {
				fates := []byte(strings.Repeat("klds", 10)[:size])
				fates[at] = byte(b)
				if strings.IndexByte("klds", byte(b)) < 0 {
					refuseFates(t, string(fates))
					continue
				}
				l, ok := impl.NewLink(string(fates))
				expectLink(t, l, ok, "", string(fates), 0)
			}
		}
	}
}

func TestLinksThatAreNone(t *testing.T) {
	for _, l := range noLinks {
		refuseLink(t, l)
	}
}

func TestLinksAtTheirLimits(t *testing.T) {
	for _, queue := range [][]string{nil, {}, {""}, {fullText}, slices.Repeat([]string{fullText}, 8), make([]string, 8), {"\xff", "\x00", "\n", " ", "a", "a", strings.Repeat("\u20ac", 20), strings.Repeat("\xff", 60)}} {
		for _, fates := range []string{"", "k", "klds", strings.Repeat("klds", 10)} {
			for used := -2; used <= len(fates)+2; used++ {
				l := impl.Link{Queue: queue, Fates: fates, Used: used}
				if want := used >= 0 && used <= len(fates); impl.IsValidLink(l) != want {
					t.Fatal("validity", linkText(l), want)
				}
			}
		}
	}
}

// What is beyond the length of a list is no part of the link, and stays as it is.
func TestLinksKeepTheirArguments(t *testing.T) {
	all := append(texts("abcdefgh"), longText, "j")
	list := append(texts("uvwxy"), longText, "z", longText, "end")
	kept, keptList := slices.Clone(all), slices.Clone(list)
	for held := 0; held <= 9; held++ {
		for _, fates := range []string{"", "k", "l", "d", "s", "klds", "ssss", "dddd", "x"} {
			l := impl.Link{Queue: all[:held], Fates: fates}
			impl.IsValidLink(l)
			impl.NewLink(fates)
			impl.SendOn(l, "x")
			impl.TakeFrom(l)
			for i := -1; i <= held; i++ {
				impl.DropFrom(l, i)
			}
			impl.NextFate(l)
			impl.SendAll(l, list[:7])
			impl.Drain(l)
			impl.CountFates(l)
			if !slices.Equal(all, kept) || !slices.Equal(list, keptList) || len(l.Queue) != held || l.Fates != fates || l.Used != 0 {
				t.Fatal("changed", held, fates, all, list, l)
			}
		}
	}
}

func TestLinksGiveNewMemory(t *testing.T) {
	for _, fates := range []string{"", "k", "l", "d", "s"} {
		l := impl.Link{Queue: append(make([]string, 0, 20), "a", "b", "c"), Fates: fates}
		list := append(make([]string, 0, 20), "x", "y")
		for name, f := range map[string]func() ([]string, bool){
			"sent":     func() ([]string, bool) { m, ok := impl.SendOn(l, "x"); return m.Queue, ok },
			"taken":    func() ([]string, bool) { m, _, ok := impl.TakeFrom(l); return m.Queue, ok },
			"first":    func() ([]string, bool) { m, ok := impl.DropFrom(l, 0); return m.Queue, ok },
			"last":     func() ([]string, bool) { m, ok := impl.DropFrom(l, 2); return m.Queue, ok },
			"all":      func() ([]string, bool) { m, _, ok := impl.SendAll(l, list); return m.Queue, ok },
			"none":     func() ([]string, bool) { m, _, ok := impl.SendAll(l, nil); return m.Queue, ok },
			"left out": func() ([]string, bool) { m, _, ok := impl.SendAll(l, []string{longText}); return m.Queue, ok },
			"drained":  func() ([]string, bool) { _, all, ok := impl.Drain(l); return all, ok },
		} {
			first, ok := f()
			second, _ := f()
			want := slices.Clone(second)
			_ = append(first, "over", "over", "over")
			for i := range first {
				first[i] = "over"
			}
			third, _ := f()
			if !ok || len(first) == 0 || !slices.Equal(second, want) || !slices.Equal(third, want) || !slices.Equal(l.Queue[:6], []string{"a", "b", "c", "", "", ""}) || !slices.Equal(list[:4], []string{"x", "y", "", ""}) {
				t.Error(fates, name, first, second, third, l.Queue[:6], list[:4])
			}
		}
		m, all, _ := impl.Drain(l)
		_ = append(m.Queue, "over", "over")
		if !slices.Equal(all, texts("abc")) || !slices.Equal(l.Queue, texts("abc")) {
			t.Error("drained", m, all, l)
		}
	}
	counts, _ := impl.CountFates(impl.Link{Fates: "klds"})
	counts[0] = 77
	if again, ok := impl.CountFates(impl.Link{Fates: "klds"}); !ok || !slices.Equal(again, []int{1, 1, 1, 1}) {
		t.Error("counts", again)
	}
}

// expectLink tells if a link is not valid, or not one with the letters of queue as its texts.
func expectLink(t *testing.T, l impl.Link, ok bool, queue, fates string, used int) {
	t.Helper()
	if !ok || !impl.IsValidLink(l) || !slices.Equal(l.Queue, texts(queue)) || l.Fates != fates || l.Used != used {
		t.Fatal("link", linkText(l), ok, "not", queue, fates, used)
	}
}

// expectNoLink tells if the result of a call that fails is not the zero Link.
func expectNoLink(t *testing.T, l impl.Link, ok bool) {
	t.Helper()
	if ok || len(l.Queue) != 0 || l.Fates != "" || l.Used != 0 {
		t.Fatal("a link", linkText(l), ok)
	}
}

func refuseFates(t *testing.T, fates string) {
	t.Helper()
	l, ok := impl.NewLink(fates)
	expectNoLink(t, l, ok)
	refuseLink(t, impl.Link{Fates: fates})
	refuseLink(t, impl.Link{Queue: texts("ab"), Fates: fates, Used: min(len(fates), 40)})
}

func refuseLink(t *testing.T, l impl.Link) {
	t.Helper()
	if impl.IsValidLink(l) {
		t.Fatal("valid", linkText(l))
	}
	for _, s := range []string{"", "x", longText} {
		sent, ok := impl.SendOn(l, s)
		expectNoLink(t, sent, ok)
		all, left, ok := impl.SendAll(l, []string{s, s})
		expectNoLink(t, all, ok)
		if left != 0 {
			t.Fatal("left", linkText(l), left)
		}
	}
	for _, i := range []int{0, 1, -1} {
		dropped, ok := impl.DropFrom(l, i)
		expectNoLink(t, dropped, ok)
	}
	none, left, ok := impl.SendAll(l, nil)
	expectNoLink(t, none, ok)
	taken, s, ok := impl.TakeFrom(l)
	expectNoLink(t, taken, ok)
	drained, all, ok := impl.Drain(l)
	expectNoLink(t, drained, ok)
	b, one := impl.NextFate(l)
	counts, two := impl.CountFates(l)
	if one || two || left != 0 || s != "" || len(all) != 0 || b != 0 || len(counts) != 0 {
		t.Fatal("taken", linkText(l), left, len(s), len(all), b, counts)
	}
}

// ruleOfFates sends a text of one letter on a queue of such texts, and returns the queue and what is used, or false if
// the text is refused.
func ruleOfFates(queue, fates string, used int, s string) (string, int, bool) {
	fate, now := "k", used
	if used < len(fates) {
		fate, now = fates[used:used+1], used+1
	}
	last := queue[max(len(queue)-1, 0):]
	switch {
	case fate == "l":
		return queue, now, true
	case len(queue) == 8:
		return queue, used, false
	case fate == "s":
		return strings.TrimSuffix(queue, last) + s + last, now, true
	case fate == "d" && len(queue) < 7:
		return queue + s + s, now, true
	}
	return queue + s, now, true
}

// linkText is short also for links that are too large.
func linkText(l impl.Link) string {
	return fmt.Sprintf("%.70q %.50q %d", l.Queue[:min(len(l.Queue), 10)], l.Fates, l.Used)
}

// texts gives a text for each letter.
func texts(letters string) []string { return strings.Split(letters, "") }
