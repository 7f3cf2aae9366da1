package tests

import (
	"fmt"
	"slices"
	"strings"
	"testing"

	"loop.example/g00840/impl"
)

var noPacket = impl.Packet{}

// kindNames has the word of each kind at its number.
var kindNames = []string{"", "data", "repair", "request", "confirm", "status"}

// someData has texts that a packet with Data can have, from none to the longest ones.
var someData = []string{"", "a", "z", "az", "abc", "mmmm", "qwertz", "zyxwvut", "abcdefgh", "aaaaaaaa", "zzzzzzzz"}

// noData has texts that no packet can have as its Data: too long ones and other bytes, also those next to the letters.
var noData = []string{
	"abcdefghi", "aaaaaaaaa", strings.Repeat("a", 16), strings.Repeat("a", 255), strings.Repeat("a", 256), strings.Repeat("a", 264), strings.Repeat("a", 100000),
	"A", "Z", "`", "{", "@", "0", " ", "-", "\x00", "\n", "\x7f", "\x80", "\xe1", "\xff", "\u00e4", "abC", "Abc", "aBc", "a c", " a", "a ", "abcdefg\x00", "abcdefg{", "`bcdefgh", "\u0430", "a\u0301",
}

func TestConstantsOfPackets(t *testing.T) {
	kinds := []int{impl.KindData, impl.KindRepair, impl.KindRequest, impl.KindConfirm, impl.KindStatus}
	if !slices.Equal(kinds, []int{1, 2, 3, 4, 5}) || impl.MaxData != 8 {
		t.Error("constants", kinds, impl.MaxData)
	}
}

func TestPacketsByHand(t *testing.T) {
	for _, c := range []struct {
		p          impl.Packet
		text, line string
	}{
		{impl.Packet{Kind: impl.KindData}, "01000000000000000001", "data 0 of 0-0"},
		{impl.Packet{Kind: impl.KindRepair, Number: 7, Trail: 5, Lead: 12, Data: "abc"}, "0200070005000C036162630C1A", "repair 7 of 5-12 abc"},
		{impl.Packet{Kind: impl.KindRepair, Number: 7, Trail: 5, Lead: 12}, "0200070005000C000084", "repair 7 of 5-12"},
		{impl.Packet{Kind: impl.KindRequest, Number: 65535, Trail: 65534, Lead: 1}, "03FFFFFFFE0001000DF7", "request 65535 of 65534-1"},
		{impl.Packet{Kind: impl.KindConfirm, Number: 4660, Trail: 0, Lead: 32767}, "04123400007FFF000AB7", "confirm 4660 of 0-32767"},
		{impl.Packet{Kind: impl.KindStatus, Number: 258, Trail: 32769, Lead: 0}, "05010280010000000212", "status 258 of 32769-0"},
		{impl.Packet{Kind: impl.KindData, Number: 10, Trail: 10, Lead: 11, Data: "z"}, "01000A000A000B017A04F0", "data 10 of 10-11 z"},
		{impl.Packet{Kind: impl.KindData, Number: 65535, Trail: 32768, Lead: 65535, Data: "zzzzzzzz"}, "01FFFF8000FFFF087A7A7A7A7A7A7A7A43D7", "data 65535 of 32768-65535 zzzzzzzz"},
	} {
		if want := textOfPacket(c.p); want != c.text {
			t.Errorf("the case %q is wrong: %s, not %s", c.line, want, c.text)
		}
		recoverPacket(t, c.p)
		if s, ok := impl.EncodePacket(c.p); !ok || s != c.text {
			t.Errorf("EncodePacket(%v) = %q, %v", c.p, s, ok)
		}
		if s, ok := impl.PacketLine(c.p); !ok || s != c.line {
			t.Errorf("PacketLine(%v) = %q, %v", c.p, s, ok)
		}
	}
}

// Packets are recovered from their texts.
func TestPacketsAreRecovered(t *testing.T) {
	seen := map[string]bool{}
	count := 0
	eachPacket(func(p impl.Packet) {
		recoverPacket(t, p)
		if count++; count%37 == 0 {
			text, _ := impl.EncodePacket(p)
			line, _ := impl.PacketLine(p)
			if seen[text] || seen[line] {
				t.Fatal("a text of two packets", text, line)
			}
			seen[text], seen[line] = true, true
		}
	})
	for x := range 65536 {
		recoverPacket(t, impl.Packet{Kind: impl.KindConfirm, Number: x, Trail: (x + 60000) % 65536, Lead: (x + 60000 + x/2) % 65536})
	}
}

func TestGapOfPackets(t *testing.T) {
	for _, trail := range edgeSerials {
		for gap := range 65536 {
			p := impl.Packet{Kind: impl.KindStatus, Number: trail, Trail: trail, Lead: (trail + gap) % 65536}
			if ok := impl.IsValidPacket(p); ok != (gap <= 32767) {
				t.Fatal("gap", trail, gap, ok)
			}
		}
		recoverPacket(t, impl.Packet{Kind: impl.KindStatus, Trail: trail, Lead: (trail + 32767) % 65536})
		for _, gap := range []int{32768, 32769, 65535} {
			refusePacket(t, impl.Packet{Kind: impl.KindStatus, Trail: trail, Lead: (trail + gap) % 65536})
		}
	}
}

// Number may be anywhere, also outside of what Trail and Lead enclose.
func TestNumberOfPackets(t *testing.T) {
	for number := range 65536 {
		if !impl.IsValidPacket(impl.Packet{Kind: impl.KindRequest, Number: number, Trail: 65530, Lead: 4}) {
			t.Fatal("number", number)
		}
	}
}

func TestDataOfPackets(t *testing.T) {
	for kind := 1; kind <= 5; kind++ {
		recoverPacket(t, impl.Packet{Kind: kind, Number: 1, Trail: 65535, Lead: 2})
		for _, data := range someData {
			p := impl.Packet{Kind: kind, Number: 1, Trail: 65535, Lead: 2, Data: data}
			if kind <= 2 || data == "" {
				recoverPacket(t, p)
			} else {
				refusePacket(t, p)
			}
		}
		for _, data := range noData {
			refusePacket(t, impl.Packet{Kind: kind, Number: 1, Trail: 65535, Lead: 2, Data: data})
		}
		for x := range 256 {
			for _, data := range []string{string([]byte{byte(x)}), "abc" + string([]byte{byte(x)}) + "defg", "abcdefg" + string([]byte{byte(x)})} {
				letters := x >= 'a' && x <= 'z'
				if ok := impl.IsValidPacket(impl.Packet{Kind: kind, Data: data}); ok != (kind <= 2 && letters) {
					t.Error("data", kind, data, ok)
				}
			}
		}
	}
}

func TestInvalidPackets(t *testing.T) {
	refusePacket(t, noPacket)
	for _, kind := range []int{0, -1, 6, 7, 255, 256, 257, 258, 1 << 32, 1<<32 + 1, mostInt, leastInt} {
		for _, data := range []string{"", "a", "abcdefgh"} {
			refusePacket(t, impl.Packet{Kind: kind, Number: 7, Trail: 5, Lead: 12, Data: data})
		}
	}
	for _, bad := range noSerials {
		for kind := 1; kind <= 5; kind++ {
			for _, p := range []impl.Packet{
				{Kind: kind, Number: bad}, {Kind: kind, Trail: bad}, {Kind: kind, Lead: bad}, {Kind: kind, Trail: bad, Lead: bad}, {Kind: kind, Number: bad, Trail: bad, Lead: bad},
				{Kind: kind, Number: 7, Trail: bad, Lead: 12}, {Kind: kind, Number: 7, Trail: 5, Lead: bad}, {Kind: kind, Number: bad, Trail: 5, Lead: 12},
			} {
				refusePacket(t, p)
			}
		}
	}
}

func TestCheckOf(t *testing.T) {
	for _, c := range []struct {
		octets []int
		want   int
	}{
		{nil, 0}, {[]int{}, 0}, {[]int{0}, 0}, {[]int{0, 0, 0}, 0}, {[]int{1}, 1}, {[]int{255}, 255}, {[]int{0, 1}, 2}, {[]int{1, 0}, 1}, {[]int{1, 2, 3}, 14}, {[]int{3, 2, 1}, 10}, {[]int{255, 255}, 765}, {[]int{0, 0, 0, 255}, 1020},
		{[]int{2, 0, 7, 0, 5, 0, 12, 3, 97, 98, 99}, 3098},
	} {
		if n, ok := impl.CheckOf(c.octets); !ok || n != c.want {
			t.Errorf("CheckOf(%v) = %d, %v", c.octets, n, ok)
		}
	}
}

func TestCheckOfWrapsAround(t *testing.T) {
	// The sum stays below 65521 up to 22 octets.
	list := []int{}
	for n := 1; n <= 40; n++ {
		list = append(list, 255)
		want := 255 * n * (n + 1) / 2 % 65521
		if sum, ok := impl.CheckOf(list); !ok || sum != want {
			t.Error("check", n, sum, ok)
		}
	}
	// It depends on the octet in the first place whether the sum of these is below 65521.
	around := make([]int, 40)
	around[39], around[38], around[37], around[36], around[35], around[34], around[33], around[32] = 255, 255, 255, 255, 255, 255, 104, 136
	total := 0
	for i, x := range around {
		total += x * (i + 1)
	}
	if total >= 65521 || total+255 < 65521 {
		t.Error("the case is wrong", total)
	}
	for x := range 256 {
		around[0] = x
		want := total + x
		for want >= 65521 {
			want -= 65521
		}
		if sum, ok := impl.CheckOf(around); !ok || sum != want {
			t.Error("check around", x, sum, want, ok)
		}
	}
}

// A check of exactly 65521 is 0, one less is the greatest one.
func TestCheckOfTheModulus(t *testing.T) {
	list := make([]int, 40)
	for i := range 40 {
		list[i] = 79
	}
	list[0] += 255 - 79
	rest := 65521
	for i, x := range list {
		rest -= x * (i + 1)
	}
	list[39] += rest / 40
	list[rest%40-1]++
	if sum, ok := impl.CheckOf(list); !ok || sum != 0 {
		t.Error("the modulus", list, sum, ok)
	}
	list[0]--
	if sum, ok := impl.CheckOf(list); !ok || sum != 65520 {
		t.Error("below the modulus", list, sum, ok)
	}
	list[1]++
	if sum, ok := impl.CheckOf(list); !ok || sum != 1 {
		t.Error("above the modulus", list, sum, ok)
	}
}

func TestCheckOfAtItsLimit(t *testing.T) {
	for _, x := range []int{0, 1, 255} {
		list := []int{}
		for n := range 45 {
			sum, ok := impl.CheckOf(list)
			if n <= 40 && (!ok || sum != x*n*(n+1)/2%65521) {
				t.Error("octets", x, n, sum, ok)
			}
			if n > 40 && (ok || sum != 0) {
				t.Error("too many", x, n, sum, ok)
			}
			list = append(list, x)
		}
	}
	if sum, ok := impl.CheckOf(make([]int, 100000)); ok || sum != 0 {
		t.Error("far too many", sum, ok)
	}
}

func TestCheckOfNoOctets(t *testing.T) {
	for _, bad := range []int{-1, -2, -255, -256, 256, 257, 511, 65521, 65536, 1 << 32, -1 << 32, mostInt, leastInt} {
		long := make([]int, 40)
		long[39] = bad
		for _, list := range [][]int{{bad}, {bad, 1, 2}, {1, bad, 2}, {1, 2, bad}, {bad, bad}, {bad, -bad}, long} {
			if sum, ok := impl.CheckOf(list); ok || sum != 0 {
				t.Errorf("CheckOf(%v) = %d, %v", list, sum, ok)
			}
		}
	}
}

// No text with one digit changed is the text of a packet; nor is it with any other byte there.
func TestOneChangedDigit(t *testing.T) {
	for _, p := range textPackets() {
		text, _ := impl.EncodePacket(p)
		for at := range len(text) {
			for x := range 256 {
				changed := text[:at] + string([]byte{byte(x)}) + text[at+1:]
				if q, ok := impl.DecodePacket(changed); ok != (changed == text) || !ok && q != noPacket {
					t.Fatal("changed", text, changed, q, ok)
				}
			}
		}
	}
}

func TestTextsThatAreCutOrLengthened(t *testing.T) {
	for _, p := range textPackets() {
		text, _ := impl.EncodePacket(p)
		for at := range len(text) + 1 {
			if at < len(text) {
				refuseText(t, text[:at])
				refuseText(t, text[:at]+text[at+1:])
			}
			if at+2 <= len(text) {
				refuseText(t, text[:at]+text[at+2:])
			}
			if at > 0 {
				refuseText(t, text[at:])
			}
			for _, more := range []string{"0", "00", "F", "61", "0000", " ", "\n", "0x", "\x00"} {
				if changed := text[:at] + more + text[at:]; changed != text {
					refuseText(t, changed)
				}
			}
		}
		if lower := strings.ToLower(text); lower != text {
			refuseText(t, lower)
		}
		refuseText(t, text+text)
	}
}

func TestTextsOfNoPacket(t *testing.T) {
	for _, s := range []string{
		"", "0", "00", "01", " ", "packet", "data 0 of 0-0", "00000000000000000000", "0100000000000000000", "010000000000000000001", "01000000000000000002", "01000000000000000000",
		"0200070005000c036162630c1a", "0200070005000C036162630C1a", "0200070005000C036162630c1A", "0x0200070005000C036162630C1A", "+200070005000C036162630C1A", "-200070005000C036162630C1A", " 200070005000C036162630C1A", "0_00070005000C036162630C1A",
		"02 0007 0005 000C 03 616263 0C1A", "0200070005000C036162630C1A\n", "0200070005000C03616263\u0660C1A", "0200070005000C03616263\x00C1A", "GG00070005000C036162630C1A", strings.Repeat("0", 100000), strings.Repeat("0", 100001), strings.Repeat("g", 100000),
		// The check is below 65521, so FFF2 is no way to write 1.
		"0100000000000000FFF2",
	} {
		refuseText(t, s)
	}
}

// These have the right check, but are no packets.
func TestTextsWithTheCheckOfNoPacket(t *testing.T) {
	if s := sealedOctets(2, 0, 7, 0, 5, 0, 12, 3, 'a', 'b', 'c'); s != "0200070005000C036162630C1A" {
		t.Error("the sealed octets are wrong", s)
	}
	for _, octets := range [][]int{
		{}, {1}, {1, 0, 0, 0, 0, 0, 0}, {0, 0, 0, 0, 0, 0, 0, 0}, {6, 0, 0, 0, 0, 0, 0, 0}, {255, 0, 0, 0, 0, 0, 0, 0}, {0, 0, 7, 0, 5, 0, 12, 1, 'a'}, {6, 0, 7, 0, 5, 0, 12, 1, 'a'},
		// The number of bytes is another one.
		{1, 0, 0, 0, 0, 0, 0, 1}, {1, 0, 0, 0, 0, 0, 0, 255}, {1, 0, 0, 0, 0, 0, 0, 0, 'a'}, {1, 0, 0, 0, 0, 0, 0, 2, 'a'}, {2, 0, 7, 0, 5, 0, 12, 2, 'a', 'b', 'c'}, {2, 0, 7, 0, 5, 0, 12, 4, 'a', 'b', 'c'}, {2, 0, 7, 0, 5, 0, 12, 0, 'a', 'b', 'c'},
		{1, 0, 0, 0, 0, 0, 0, 8, 'a', 'a', 'a', 'a', 'a', 'a', 'a', 'a', 'a'}, {1, 0, 0, 0, 0, 0, 0, 9, 'a', 'a', 'a', 'a', 'a', 'a', 'a', 'a', 'a'}, {1, 0, 0, 0, 0, 0, 0, 9, 'a', 'a', 'a', 'a', 'a', 'a', 'a', 'a'},
		// The Data is none, or none for the kind.
		{1, 0, 0, 0, 0, 0, 0, 1, 'A'}, {1, 0, 0, 0, 0, 0, 0, 1, 0}, {1, 0, 0, 0, 0, 0, 0, 1, '`'}, {1, 0, 0, 0, 0, 0, 0, 1, '{'}, {2, 0, 0, 0, 0, 0, 0, 1, 255}, {2, 0, 0, 0, 0, 0, 0, 2, 0xc3, 0xa4}, {2, 0, 0, 0, 0, 0, 0, 2, 'a', ' '},
		{3, 0, 0, 0, 0, 0, 0, 1, 'a'}, {4, 0, 0, 0, 0, 0, 0, 1, 'a'}, {5, 0, 0, 0, 0, 0, 0, 1, 'a'}, {5, 0, 0, 0, 0, 0, 0, 8, 'a', 'b', 'c', 'd', 'e', 'f', 'g', 'h'},
		// The gap is too wide.
		{1, 0, 0, 0, 0, 128, 0, 0}, {1, 0, 0, 0, 1, 0, 0, 0}, {5, 0, 0, 0, 0, 255, 255, 0}, {2, 0, 7, 0, 12, 0, 5, 1, 'a'}, {4, 0, 0, 128, 0, 0, 0, 0},
	} {
		refuseText(t, sealedOctets(octets...))
	}
}

func TestParsePacketLine(t *testing.T) {
	for _, c := range []struct {
		line string
		want impl.Packet
	}{
		{"data 0 of 0-0", impl.Packet{Kind: impl.KindData}},
		{"data 0 of 0-1 a", impl.Packet{Kind: impl.KindData, Lead: 1, Data: "a"}},
		{"data 65535 of 65530-65535 of", impl.Packet{Kind: impl.KindData, Number: 65535, Trail: 65530, Lead: 65535, Data: "of"}},
		{"repair 7 of 5-12 abc", impl.Packet{Kind: impl.KindRepair, Number: 7, Trail: 5, Lead: 12, Data: "abc"}},
		{"repair 7 of 5-12", impl.Packet{Kind: impl.KindRepair, Number: 7, Trail: 5, Lead: 12}},
		{"repair 7 of 5-12 repair", impl.Packet{Kind: impl.KindRepair, Number: 7, Trail: 5, Lead: 12, Data: "repair"}},
		{"request 65535 of 65534-1", impl.Packet{Kind: impl.KindRequest, Number: 65535, Trail: 65534, Lead: 1}},
		{"confirm 100 of 40000-7231", impl.Packet{Kind: impl.KindConfirm, Number: 100, Trail: 40000, Lead: 7231}},
		{"status 5 of 5-12", impl.Packet{Kind: impl.KindStatus, Number: 5, Trail: 5, Lead: 12}},
	} {
		if p, ok := impl.ParsePacketLine(c.line); !ok || p != c.want {
			t.Errorf("ParsePacketLine(%q) = %v, %v", c.line, p, ok)
		}
	}
}

func TestLinesOfNoPacket(t *testing.T) {
	for _, s := range []string{
		"", " ", "  ", "   ", "    ", "repair", "repair 7", "repair 7 of", "repair 7 of ", "repair 7 of 5", "repair 7 of 5-", "repair 7 of -12", "repair 7 of -", "repair 7 of 5 12", "repair 7 of 5 - 12", "repair 7 of 5-12-13", "repair 7 of 5--12", "repair 7 of 5\u201312",
		"send 7 of 5-12", " 7 of 5-12", "7 of 5-12", "Repair 7 of 5-12", "REPAIR 7 of 5-12", "repairs 7 of 5-12", "repai 7 of 5-12", "2 7 of 5-12", "datarepair 7 of 5-12",
		"repair  of 5-12", "repair x of 5-12", "repair - of 5-12", "repair 07 of 5-12", "repair 7 of 05-12", "repair 7 of 5-012", "repair +7 of 5-12", "repair 7 of +5-12", "repair 7 of 5-+12", "repair -0 of 5-12", "repair 0x7 of 5-12", "repair 00 of 0-0", "repair 7.0 of 5-12", "repair 1e1 of 5-12",
		"repair 7 OF 5-12", "repair 7 in 5-12", "repair 7 from 5-12", "repair 7 5-12", "repair 7 5-12 abc", "repair of 7 5-12", "repair 7 of of 5-12",
		"repair 7  of 5-12", "repair  7 of 5-12", "repair 7 of  5-12", "repair 7 of 5-12 ", "repair 7 of 5-12  ", "repair 7 of 5-12  abc", "repair 7 of 5-12 abc ", " repair 7 of 5-12", "repair 7 of 5-12\n", "repair 7 of 5-12 abc\n", "repair\t7 of 5-12", "repair 7 of 5-12\tabc", "repair 7 of 5-12\x00", "repair 7 of 5-12abc", "repair 7 of 5-12,abc",
		"repair 7 of 5-12 ABC", "repair 7 of 5-12 abC", "repair 7 of 5-12 ab1", "repair 7 of 5-12 a b", "repair 7 of 5-12 abc def", "repair 7 of 5-12 abcdefghi", "repair 7 of 5-12 \u00e4", "repair 7 of 5-12 -", "repair 7 of 5-12 \xff",
		"request 7 of 5-12 a", "confirm 7 of 5-12 a", "status 5 of 5-12 abc",
		"repair 65536 of 5-12", "repair -1 of 5-12", "repair 7 of 65536-12", "repair 7 of 5-65536", "repair 7 of 65536-65536", "repair 7 of -1-12", "repair 7 of 5--1", "repair 1000000 of 5-12", "repair 18446744073709551616 of 5-12", "repair 7 of 18446744073709551621-12",
		"repair 7 of 12-5", "repair 7 of 0-32768", "repair 7 of 32768-0", "repair 7 of 1-0", "repair 7 of 40000-7232", "status 5 of 5-32773",
		"0200070005000C036162630C1A", strings.Repeat(" ", 100000), strings.Repeat("a", 100000), "repair 7 of 5-12 " + strings.Repeat("a", 100000), "repair 7 of 5-" + strings.Repeat("1", 100000), strings.Repeat("data 0 of 0-0 ", 5000),
	} {
		if p, ok := impl.ParsePacketLine(s); ok || p != noPacket {
			t.Errorf("ParsePacketLine(%.60q) = %v, %v", s, p, ok)
		}
	}
}

// Whatever one changed byte makes of a line, it is the line of the packet that is read from it.
func TestChangedLines(t *testing.T) {
	for _, p := range textPackets() {
		line, _ := impl.PacketLine(p)
		for at := range len(line) {
			for x := range 256 {
				changed := line[:at] + string([]byte{byte(x)}) + line[at+1:]
				q, ok := impl.ParsePacketLine(changed)
				if ok && (!impl.IsValidPacket(q) || lineOfPacket(q) != changed) || !ok && q != noPacket || changed == line && q != p {
					t.Fatal("changed", line, changed, q, ok)
				}
			}
			for _, shorter := range []string{line[:at], line[at+1:], line[:at] + line[at+1:]} {
				q, ok := impl.ParsePacketLine(shorter)
				if ok && (!impl.IsValidPacket(q) || lineOfPacket(q) != shorter) || !ok && q != noPacket {
					t.Fatal("shorter", line, shorter, q, ok)
				}
			}
		}
	}
}

func TestRepairOf(t *testing.T) {
	for _, data := range someData {
		for _, number := range edgeSerials {
			p := impl.Packet{Kind: impl.KindData, Number: number, Trail: 65530, Lead: 6, Data: data}
			for _, trail := range edgeSerials {
				for _, gap := range []int{0, 1, 2, 7, 32766, 32767, 32768, 32769, 65535} {
					lead := (trail + gap) % 65536
					want, fine := noPacket, gap <= 32767
					if fine {
						want = impl.Packet{Kind: impl.KindRepair, Number: number, Trail: trail, Lead: lead, Data: data}
					}
					if r, ok := impl.RepairOf(p, trail, lead); ok != fine || r != want {
						t.Fatal("repair", p, trail, lead, r, ok)
					}
				}
			}
		}
	}
	// The Trail and the Lead may also be those that the packet has.
	p := impl.Packet{Kind: impl.KindData, Number: 7, Trail: 5, Lead: 12, Data: "abc"}
	if r, ok := impl.RepairOf(p, 5, 12); !ok || r != (impl.Packet{Kind: impl.KindRepair, Number: 7, Trail: 5, Lead: 12, Data: "abc"}) {
		t.Error("same", r, ok)
	}
	if p != (impl.Packet{Kind: impl.KindData, Number: 7, Trail: 5, Lead: 12, Data: "abc"}) {
		t.Error("changed", p)
	}
}

func TestRepairOfRefuses(t *testing.T) {
	refuse := func(p impl.Packet, trail, lead int) {
		t.Helper()
		if r, ok := impl.RepairOf(p, trail, lead); ok || r != noPacket {
			t.Errorf("RepairOf(%.60v, %d, %d) = %v, %v", p, trail, lead, r, ok)
		}
	}
	for _, kind := range []int{-1, 0, 2, 3, 4, 5, 6, 257, mostInt, leastInt} {
		refuse(impl.Packet{Kind: kind, Number: 7, Trail: 5, Lead: 12}, 6, 13)
		refuse(impl.Packet{Kind: kind, Number: 7, Trail: 5, Lead: 12, Data: "abc"}, 6, 13)
	}
	for _, bad := range noSerials {
		good := impl.Packet{Kind: impl.KindData, Number: 7, Trail: 5, Lead: 12, Data: "abc"}
		refuse(good, bad, 13)
		refuse(good, 6, bad)
		refuse(good, bad, bad)
		// The packet is refused, although the repair would be valid.
		refuse(impl.Packet{Kind: impl.KindData, Number: 7, Trail: bad, Lead: 12}, 6, 13)
		refuse(impl.Packet{Kind: impl.KindData, Number: 7, Trail: 5, Lead: bad}, 6, 13)
		refuse(impl.Packet{Kind: impl.KindData, Number: bad, Trail: 5, Lead: 12}, 6, 13)
	}
	refuse(impl.Packet{Kind: impl.KindData, Number: 7, Trail: 12, Lead: 5}, 6, 13)
	refuse(impl.Packet{Kind: impl.KindData, Number: 7, Trail: 0, Lead: 32768}, 6, 13)
	for _, data := range noData {
		refuse(impl.Packet{Kind: impl.KindData, Number: 7, Trail: 5, Lead: 12, Data: data}, 6, 13)
	}
}

func TestCheckOfKeepsItsList(t *testing.T) {
	all := []int{1, 2, 3, -1, 256}
	kept := slices.Clone(all)
	// What lies beyond the length is no part of the list.
	if sum, ok := impl.CheckOf(all[:3]); !ok || sum != 14 {
		t.Error("check", sum, ok)
	}
	if _, ok := impl.CheckOf(all); ok {
		t.Error("taken", all)
	}
	if !slices.Equal(all, kept) {
		t.Error("changed", all)
	}
}

func TestOctetsAreNewMemory(t *testing.T) {
	p := impl.Packet{Kind: impl.KindRepair, Number: 7, Trail: 5, Lead: 12, Data: "abc"}
	first, _ := impl.OctetsOf(p)
	second, _ := impl.OctetsOf(p)
	for i := range first {
		first[i] = 9
	}
	_ = append(first[:1], 8, 8)
	if third, _ := impl.OctetsOf(p); !slices.Equal(second, third) || !slices.Equal(second, octetsOfPacket(p)) {
		t.Error("shared", second, third)
	}
}

// recoverPacket checks the texts and the octets of a valid packet, and that it is read from both of its texts.
func recoverPacket(t *testing.T, p impl.Packet) {
	t.Helper()
	if !impl.IsValidPacket(p) {
		t.Fatal("not valid", p)
	}
	want := octetsOfPacket(p)
	octets, ok := impl.OctetsOf(p)
	if !ok || !slices.Equal(octets, want) {
		t.Fatal("octets", p, octets, ok)
	}
	check, ok := impl.CheckOf(octets[:len(octets)-2])
	if !ok || check != 256*octets[len(octets)-2]+octets[len(octets)-1] {
		t.Fatal("check", p, octets, check, ok)
	}
	text, ok := impl.EncodePacket(p)
	if !ok || text != textOfPacket(p) {
		t.Fatal("text", p, text, ok)
	}
	if q, ok := impl.DecodePacket(text); !ok || q != p {
		t.Fatal("decoded", p, text, q, ok)
	}
	line, ok := impl.PacketLine(p)
	if !ok || line != lineOfPacket(p) {
		t.Fatal("line", p, line, ok)
	}
	if q, ok := impl.ParsePacketLine(line); !ok || q != p {
		t.Fatal("parsed", p, line, q, ok)
	}
}

// refusePacket tells if one of the functions takes a packet that is not valid.
func refusePacket(t *testing.T, p impl.Packet) {
	t.Helper()
	valid := impl.IsValidPacket(p)
	octets, listed := impl.OctetsOf(p)
	text, encoded := impl.EncodePacket(p)
	line, written := impl.PacketLine(p)
	repair, made := impl.RepairOf(p, 6, 13)
	if valid || listed || encoded || written || made || len(octets) != 0 || text != "" || line != "" || repair != noPacket {
		t.Errorf("taken %.60v: %v %v %q %q %v", p, valid, octets, text, line, repair)
	}
	if len(p.Data) > 300 {
		return
	}
	if q, ok := impl.ParsePacketLine(lineOfPacket(p)); ok || q != noPacket {
		t.Error("parsed", p, q, ok)
	}
}

func refuseText(t *testing.T, s string) {
	t.Helper()
	if p, ok := impl.DecodePacket(s); ok || p != noPacket {
		t.Errorf("DecodePacket(%.60q) = %v, %v", s, p, ok)
	}
}

// octetsOfPacket takes the octets from the text that is printed.
func octetsOfPacket(p impl.Packet) []int {
	octets := []int{}
	for text := textOfPacket(p); text != ""; text = text[2:] {
		x := 0
		fmt.Sscanf(text[:2], "%X", &x)
		octets = append(octets, x)
	}
	return octets
}

func textOfPacket(p impl.Packet) string {
	octets := []int{p.Kind, p.Number >> 8, p.Number & 255, p.Trail >> 8, p.Trail & 255, p.Lead >> 8, p.Lead & 255, len(p.Data)}
	for _, c := range []byte(p.Data) {
		octets = append(octets, int(c))
	}
	return sealedOctets(octets...)
}

// sealedOctets prints the octets and their check, counted from behind: every octet is added as often as there are octets from it to the front.
func sealedOctets(octets ...int) string {
	text, check := "", 0
	for n := range octets {
		for _, x := range octets[n:] {
			check += x
		}
		text += fmt.Sprintf("%02X", octets[n])
	}
	return text + fmt.Sprintf("%04X", check%65521)
}

func lineOfPacket(p impl.Packet) string {
	word := "packet"
	if p.Kind >= 0 && p.Kind < len(kindNames) {
		word = kindNames[p.Kind]
	}
	line := fmt.Sprintf("%s %d of %d-%d", word, p.Number, p.Trail, p.Lead)
	if p.Data != "" {
		line += " " + p.Data
	}
	return line
}

// textPackets has packets of all kinds, with long and short texts.
func textPackets() []impl.Packet {
	return []impl.Packet{
		{Kind: impl.KindData}, {Kind: impl.KindData, Number: 10, Trail: 10, Lead: 11, Data: "z"}, {Kind: impl.KindData, Number: 65535, Trail: 32768, Lead: 65535, Data: "zzzzzzzz"}, {Kind: impl.KindRepair, Number: 7, Trail: 5, Lead: 12, Data: "abc"}, {Kind: impl.KindRepair, Number: 7, Trail: 5, Lead: 12},
		{Kind: impl.KindRepair, Number: 43981, Trail: 52719, Lead: 10, Data: "abcdefgh"}, {Kind: impl.KindRequest, Number: 65535, Trail: 65534, Lead: 1}, {Kind: impl.KindConfirm, Number: 4660, Lead: 32767}, {Kind: impl.KindStatus, Number: 258, Trail: 32769}, {Kind: impl.KindStatus, Number: 5, Trail: 5, Lead: 12},
	}
}

// eachPacket calls f with packets of every kind, with numbers at the edges and, where it may be, with and without Data.
func eachPacket(f func(p impl.Packet)) {
	for kind := 1; kind <= 5; kind++ {
		for _, number := range edgeSerials {
			for _, trail := range edgeSerials {
				for _, gap := range []int{0, 1, 7, 255, 256, 32766, 32767} {
					for _, data := range someData {
						if data == "" || kind <= 2 {
							f(impl.Packet{Kind: kind, Number: number, Trail: trail, Lead: (trail + gap) % 65536, Data: data})
						}
					}
				}
			}
		}
	}
}
