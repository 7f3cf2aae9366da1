package tests

import (
	"fmt"
	"math/bits"
	"regexp"
	"slices"
	"strconv"
	"strings"
	"testing"

	"loop.example/g00840/impl"
)

// noTrees has lists of parents that are those of no tree.
var noTrees = [][]int{
	// Too few and too many nodes.
	nil, {}, {-1}, {0}, {1}, {mostInt}, {-1, 0, 0, 0, 0, 0, 0, 0, 0}, {-1, 0, 1, 2, 3, 4, 5, 6, 7}, {-1, 0, 0, 0, 0, 0, 0, 0, 8}, make([]int, 8), make([]int, 9), append([]int{-1}, make([]int, 100000)...),
	// The source below a node, or below another number than -1.
	{0, 0}, {1, 0}, {-2, 0}, {2, 0}, {mostInt, 0}, {leastInt, 0}, {0, 0, 0}, {1, 0, 0}, {0, 0, 0, 0, 0, 0, 0, 0}, {7, 0, 1, 2, 3, 4, 5, 6}, {-2, 0, 1, 2, 3, 4, 5, 6},
	// A second node without one above it.
	{-1, -1}, {-1, -1, 0}, {-1, 0, -1}, {-1, 0, 0, -1}, {-1, 0, -1, 2}, {-1, -1, -1}, {-1, 0, 0, 0, 0, 0, 0, -1}, {-1, -1, 0, 0, 0, 0, 0, 0}, {-1, 0, 0, -1, 0, 0, 0, 0},
	// Nodes above themselves.
	{-1, 1}, {-1, 0, 2}, {-1, 1, 0}, {-1, 0, 0, 3}, {-1, 0, 2, 0}, {-1, 1, 1}, {-1, 1, 2}, {-1, 0, 1, 2, 3, 4, 5, 7}, {-1, 1, 0, 0, 0, 0, 0, 0}, {-1, 0, 0, 0, 4, 0, 0, 0},
	// Nodes above nodes with a lower number, also around in a circle.
	{-1, 2, 0}, {-1, 2, 1}, {-1, 2, 3, 0}, {-1, 0, 3, 0}, {-1, 0, 3, 2}, {-1, 3, 1, 2}, {-1, 7, 0, 0, 0, 0, 0, 0}, {-1, 2, 3, 4, 5, 6, 7, 0}, {-1, 2, 3, 4, 5, 6, 7, 1}, {-1, 0, 0, 0, 0, 0, 7, 0},
	// Numbers that are no nodes.
	{-1, 2}, {-1, -2}, {-1, 8}, {-1, 0, 3}, {-1, 0, -2}, {-1, 0, 8}, {-1, mostInt}, {-1, leastInt}, {-1, 0, mostInt}, {-1, 0, leastInt}, {-1, mostInt, 0}, {-1, leastInt, 1}, {-1, 0, 0, 0, 0, 0, 0, 8}, {-1, 0, 0, 0, 0, 0, 0, mostInt},
}

var noTree = impl.Tree{}

func TestLimitsOfTrees(t *testing.T) {
	if impl.MaxTreeNodes != 8 {
		t.Error("limit", impl.MaxTreeNodes)
	}
}

func TestTreesByHand(t *testing.T) {
	for _, c := range []struct {
		text                                string
		parents, leaves                     []int
		node                                int
		children, path, below               []int
		to, face, other, meeting, otherFace int
	}{
		{"0", []int{-1, 0}, []int{1}, 1, nil, []int{0, 1}, []int{1}, 1, 0, 0, 0, 0},
		{"0", []int{-1, 0}, []int{1}, 0, []int{1}, []int{0}, []int{0, 1}, 1, 1, 1, 0, 1},
		{"0 0", []int{-1, 0, 0}, []int{1, 2}, 0, []int{1, 2}, []int{0}, []int{0, 1, 2}, 2, 2, 1, 0, 1},
		{"0 1", []int{-1, 0, 1}, []int{2}, 1, []int{2}, []int{0, 1}, []int{1, 2}, 2, 2, 0, 0, 0},
		{"0 0 1 1 2", []int{-1, 0, 0, 1, 1, 2}, []int{3, 4, 5}, 1, []int{3, 4}, []int{0, 1}, []int{1, 3, 4}, 4, 4, 5, 0, 0},
		{"0 0 1 1 2", []int{-1, 0, 0, 1, 1, 2}, []int{3, 4, 5}, 0, []int{1, 2}, []int{0}, []int{0, 1, 2, 3, 4, 5}, 4, 1, 5, 0, 2},
		{"0 1 2 3 4 5 6", []int{-1, 0, 1, 2, 3, 4, 5, 6}, []int{7}, 2, []int{3}, []int{0, 1, 2}, []int{2, 3, 4, 5, 6, 7}, 7, 3, 6, 2, 3},
		{"0 0 0 0 0 0 0", []int{-1, 0, 0, 0, 0, 0, 0, 0}, []int{1, 2, 3, 4, 5, 6, 7}, 7, nil, []int{0, 7}, []int{7}, 7, 0, 1, 0, 0},
		// Nodes below a node that are not all behind one another.
		{"0 0 1 2 3 2 5", []int{-1, 0, 0, 1, 2, 3, 2, 5}, []int{4, 6, 7}, 1, []int{3}, []int{0, 1}, []int{1, 3, 5, 7}, 7, 3, 6, 0, 0},
		{"0 0 1 2 3 2 5", []int{-1, 0, 0, 1, 2, 3, 2, 5}, []int{4, 6, 7}, 2, []int{4, 6}, []int{0, 2}, []int{2, 4, 6}, 6, 6, 4, 2, 4},
	} {
		x := impl.Tree{Parent: c.parents}
		recoverTree(t, x)
		if s, ok := impl.TreeText(x); !ok || s != c.text {
			t.Errorf("TreeText(%v) = %q, %v", x, s, ok)
		}
		leaves, one := impl.LeavesOf(x)
		children, two := impl.ChildrenOf(x, c.node)
		path, three := impl.PathTo(x, c.node)
		below, four := impl.NodesBelow(x, c.node)
		if !one || !two || !three || !four || !slices.Equal(leaves, c.leaves) || !slices.Equal(children, c.children) || !slices.Equal(path, c.path) || !slices.Equal(below, c.below) {
			t.Error("lists", c.text, c.node, leaves, children, path, below)
		}
		expectFace(t, x, c.node, c.to, c.face)
		expectFace(t, x, c.node, c.other, c.otherFace)
		if m, ok := impl.MeetingNode(x, c.node, c.other); !ok || m != c.meeting {
			t.Error("meeting", c.text, c.node, c.other, m, ok)
		}
	}
}

// Trees are recovered from their texts.
func TestEveryTree(t *testing.T) {
	sizes := map[int]int{}
	texts := map[string]bool{}
	for _, x := range allTrees() {
		recoverTree(t, x)
		expectLists(t, x)
		for a := range x.Parent {
			for b := range x.Parent {
				expectPair(t, x, a, b)
			}
		}
		text, _ := impl.TreeText(x)
		sizes[len(x.Parent)]++
		texts[text] = true
	}
	want := map[int]int{2: 1, 3: 2, 4: 6, 5: 24, 6: 120, 7: 720, 8: 5040}
	if fmt.Sprint(sizes) != fmt.Sprint(want) || len(texts) != 5913 {
		t.Error("trees", sizes, len(texts))
	}
}

func TestAddLeafToEveryTree(t *testing.T) {
	full := 0
	for _, x := range allTrees() {
		for parent := range x.Parent {
			y, node, ok := impl.AddLeaf(x, parent)
			if len(x.Parent) == 8 {
				full++
				if ok || node != 0 || len(y.Parent) != 0 {
					t.Fatal("added to a full tree", x, parent, y, node, ok)
				}
				continue
			}
			if !ok || node != len(x.Parent) || !slices.Equal(y.Parent, slices.Concat(x.Parent, []int{parent})) {
				t.Fatal("added", x, parent, y, node, ok)
			}
			recoverTree(t, y)
			if leaves, ok := impl.LeavesOf(y); !ok || !slices.Contains(leaves, node) || slices.Contains(leaves, parent) {
				t.Fatal("leaves", x, parent, leaves, ok)
			}
			expectFace(t, y, parent, node, node)
		}
	}
	if full != 8*5040 {
		t.Error("full trees", full)
	}
}

func TestNodesThatDoNotOccur(t *testing.T) {
	for _, x := range allTrees() {
		n := len(x.Parent)
		// Of the many full trees, a part is enough.
		if n == 8 && x.Parent[7] != 3 {
			continue
		}
		for _, bad := range []int{-1, -2, n, n + 1, 8, 9, 1 << 32, -1 << 32, 1<<32 + 1, mostInt, leastInt} {
			refuseNode(t, x, bad)
			for good := range n {
				refusePair(t, x, good, bad)
				refusePair(t, x, bad, good)
			}
			refusePair(t, x, bad, bad)
			refusePair(t, x, bad, n)
		}
	}
}

// Every list of up to five small numbers is a tree exactly if it is one of those that are made by adding nodes.
func TestEveryShortListOfParents(t *testing.T) {
	made := map[string]bool{}
	for _, x := range allTrees() {
		made[fmt.Sprint(x.Parent)] = true
	}
	trees := 0
	eachList(-2, 6, 5, func(list []int) {
		x := impl.Tree{Parent: list}
		if impl.IsValidTree(x) != made[fmt.Sprint(list)] {
			t.Fatal("validity", list)
		}
		if made[fmt.Sprint(list)] {
			trees++
			recoverTree(t, x)
			return
		}
		refuseTree(t, x)
	})
	if trees != 1+2+6+24 {
		t.Error("trees", trees)
	}
}

func TestListsThatAreNoTrees(t *testing.T) {
	for _, parents := range noTrees {
		refuseTree(t, impl.Tree{Parent: parents})
	}
	// One parent of a full tree is changed.
	for _, x := range allTrees()[5913-5040:] {
		if x.Parent[7] != 4 {
			continue
		}
		for at := range 8 {
			kept := x.Parent[at]
			for _, bad := range []int{at, at + 1, 7, 8, -1, -2, mostInt, leastInt} {
				if at == 0 && bad == -1 || at == 7 && bad < 7 && bad >= 0 || at > 0 && bad < at && bad >= 0 {
					continue
				}
				x.Parent[at] = bad
				if impl.IsValidTree(x) {
					t.Fatal("a tree", x)
				}
				if s, ok := impl.TreeText(x); ok || s != "" {
					t.Fatal("a text", x, s)
				}
			}
			x.Parent[at] = kept
		}
	}
}

func TestTextsThatAreNoTrees(t *testing.T) {
	for _, s := range []string{
		// Nothing, spaces at an end, two spaces, other separators.
		"", " ", "  ", " 0", "0 ", " 0 0", "0 0 ", "0  0", "0   0", "  0", "0  ", "0\t0", "0\n0", "0\n", "\n0", "0,0", "0, 0", "0-0", "0\x000", "0\x00", "0\u00a00", "0;0", "0.0",
		// Numbers that are not written so.
		"00", "-0", "+0", "0 00", "0 01", "0 +1", "0 -0", "01", "0 0 02", "0x0", "0 0x1", "0 1.", "0 .1", "0 1.0", "0 1e0", "0 1_", "0_0", "a", "0 a", "0 1a", "0 a1", "none", "0 none", "\u0660", "0 \u0661", "o", "O", "-", "+", "0 -", "--1",
		// The source, too many nodes, and lists that are no trees.
		"-1", "-1 0", "-1 0 0", "0 -1", "0 0 -1", "1", "2", "7", "8", "0 2", "0 3", "0 0 3", "0 0 9", "1 0", "0 2 1", "0 2 0", "1 1", "0 1 3", "0 1 2 3 4 5 7", "0 0 0 0 0 0 8", "0 10", "0 0 10", "0 65535", "0 999999", "0 1000000", "0 9223372036854775807", "0 -9223372036854775808", "0 9223372036854775808", "0 18446744073709551616", "0 18446744073709551617",
		"0 0 0 0 0 0 0 0", "0 1 2 3 4 5 6 7", "0 0 0 0 0 0 0 ", " 0 0 0 0 0 0 0", "0 0 0 0 0 0 0 0 0",
		strings.Repeat("0", 4000), strings.Repeat("0", 100000), strings.Repeat(" ", 3999), strings.Repeat(" ", 4001), strings.Repeat("0 ", 2000), strings.Repeat("0 ", 50000), "0 " + strings.Repeat("0", 4000), "0" + strings.Repeat(" ", 5000),
	} {
		if x, ok := impl.ParseTree(s); ok || len(x.Parent) != 0 {
			t.Errorf("ParseTree(%.60q) = %v, %v", s, x, ok)
		}
	}
}

func TestEveryShortTextOfATree(t *testing.T) {
	trees := map[string]bool{}
	check := func(s string) {
		if parseTreeAsWritten(t, s) {
			trees[s] = true
		}
	}
	eachText("0123 ", 7, check)
	eachText("01 -+9", 6, check)
	if len(trees) != 1+2+6+24 {
		t.Error("trees", trees)
	}
}

func TestEveryChangedByteOfATextOfATree(t *testing.T) {
	for _, s := range []string{"0", "0 0", "0 1", "0 0 1 1 2", "0 1 2 3 4 5", "0 1 2 3 4 5 6", "0 0 0 0 0 0 0", "0 0 1 2 3 2 5"} {
		for at := range len(s) {
			parseTreeAsWritten(t, s[:at])
			parseTreeAsWritten(t, s[at+1:])
			parseTreeAsWritten(t, s[:at]+s[at+1:])
			for b := range 256 {
				parseTreeAsWritten(t, s[:at]+string([]byte{byte(b)})+s[at+1:])
				parseTreeAsWritten(t, s[:at]+string([]byte{byte(b)})+s[at:])
			}
		}
		for b := range 256 {
			parseTreeAsWritten(t, s+string([]byte{byte(b)}))
		}
	}
}

// What is beyond the length of a list is no part of the tree, and stays as it is.
func TestTreesKeepTheirArguments(t *testing.T) {
	all := []int{-1, 0, 0, 1, 1, 2, 77, -5, 0, 9}
	kept := slices.Clone(all)
	for n := range 7 {
		x := impl.Tree{Parent: all[:n]}
		for a := -1; a <= n; a++ {
			impl.ChildrenOf(x, a)
			impl.PathTo(x, a)
			impl.NodesBelow(x, a)
			impl.AddLeaf(x, a)
			for b := -1; b <= n; b++ {
				impl.MeetingNode(x, a, b)
				impl.FaceTo(x, a, b)
			}
		}
		impl.IsValidTree(x)
		impl.LeavesOf(x)
		impl.TreeText(x)
		if !slices.Equal(all, kept) {
			t.Fatal("changed", n, all)
		}
		if n >= 2 {
			recoverTree(t, x)
			expectLists(t, x)
		}
	}
}

func TestTreesGiveNewMemory(t *testing.T) {
	x := impl.Tree{Parent: append(make([]int, 0, 20), -1, 0, 0, 1, 1, 2)}
	for name, f := range map[string]func() ([]int, bool){
		"children": func() ([]int, bool) { return impl.ChildrenOf(x, 1) },
		"leaves":   func() ([]int, bool) { return impl.LeavesOf(x) },
		"path":     func() ([]int, bool) { return impl.PathTo(x, 4) },
		"below":    func() ([]int, bool) { return impl.NodesBelow(x, 0) },
		"added":    func() ([]int, bool) { y, _, ok := impl.AddLeaf(x, 5); return y.Parent, ok },
		"parsed":   func() ([]int, bool) { y, ok := impl.ParseTree("0 0 1"); return y.Parent, ok },
	} {
		first, ok := f()
		second, _ := f()
		want := slices.Clone(second)
		_ = append(first, 78)
		for i := range first {
			first[i] = 77
		}
		third, _ := f()
		if !ok || len(first) == 0 || !slices.Equal(second, want) || !slices.Equal(third, want) || !slices.Equal(x.Parent, []int{-1, 0, 0, 1, 1, 2}) {
			t.Error(name, first, second, third, x)
		}
	}
	one, _, _ := impl.AddLeaf(x, 3)
	other, _, _ := impl.AddLeaf(x, 4)
	if one.Parent[6] != 3 || other.Parent[6] != 4 || x.Parent[:7][6] != 0 {
		t.Error("two leaves", one, other, x.Parent[:7])
	}
}

// recoverTree tells if a tree is none, or is not recovered from its text.
func recoverTree(t *testing.T, x impl.Tree) {
	t.Helper()
	text, ok := impl.TreeText(x)
	if want := strings.TrimPrefix(strings.Trim(fmt.Sprint(x.Parent), "[]"), "-1 "); !impl.IsValidTree(x) || !ok || text != want {
		t.Fatal("no text", x, text, ok)
	}
	if back, ok := impl.ParseTree(text); !ok || !slices.Equal(back.Parent, x.Parent) {
		t.Fatal("not recovered", x, text, back, ok)
	}
}

// expectLists tells if what is below and above the nodes is not what the marks of their paths say.
func expectLists(t *testing.T, x impl.Tree) {
	t.Helper()
	paths, inner := pathMarks(x), uint(0)
	for node := range x.Parent {
		children, below := uint(0), uint(0)
		for other, path := range paths {
			if path>>node&1 == 1 {
				below |= 1 << other
			}
			if other != node && path == paths[node]|1<<other {
				children |= 1 << other
				inner |= 1 << node
			}
		}
		c, one := impl.ChildrenOf(x, node)
		b, two := impl.NodesBelow(x, node)
		p, three := impl.PathTo(x, node)
		if !one || !two || !three || !slices.Equal(c, nodesMarked(children)) || !slices.Equal(b, nodesMarked(below)) || !slices.Equal(p, nodesMarked(paths[node])) {
			t.Fatal("lists", x, node, c, b, p)
		}
	}
	leaves, ok := impl.LeavesOf(x)
	if want := nodesMarked((1<<len(x.Parent) - 1) &^ inner); !ok || !slices.Equal(leaves, want) {
		t.Fatal("leaves", x, leaves, ok)
	}
}

// expectPair tells if two nodes meet elsewhere than at the last node that both paths have, or if the face of the first
// one to the second one is not the next node on the path of the second one.
func expectPair(t *testing.T, x impl.Tree, a, b int) {
	t.Helper()
	paths := pathMarks(x)
	if m, ok := impl.MeetingNode(x, a, b); !ok || m != bits.Len(paths[a]&paths[b])-1 {
		t.Fatal("meeting", x, a, b, m, ok)
	}
	face := 0
	if rest := paths[b] >> (a + 1); paths[b]>>a&1 == 1 && rest != 0 {
		face = a + 1 + bits.TrailingZeros(rest)
	}
	expectFace(t, x, a, b, face)
}

// expectFace tells if the face is another one. No face is 0, as the source is below no node.
func expectFace(t *testing.T, x impl.Tree, node, to, face int) {
	t.Helper()
	if f, ok := impl.FaceTo(x, node, to); ok != (face != 0) || f != face {
		t.Fatal("face", x, node, to, f, ok, "not", face)
	}
}

func refuseTree(t *testing.T, x impl.Tree) {
	t.Helper()
	if impl.IsValidTree(x) {
		t.Fatal("a tree", x)
	}
	leaves, one := impl.LeavesOf(x)
	text, two := impl.TreeText(x)
	if one || two || len(leaves) != 0 || text != "" {
		t.Fatal("taken", x, leaves, text)
	}
	for _, a := range []int{0, 1, 2, 7, -1, 8} {
		refuseNode(t, x, a)
		for _, b := range []int{0, 1, 2, 7, -1} {
			refusePair(t, x, a, b)
		}
	}
}

func refuseNode(t *testing.T, x impl.Tree, node int) {
	t.Helper()
	children, one := impl.ChildrenOf(x, node)
	path, two := impl.PathTo(x, node)
	below, three := impl.NodesBelow(x, node)
	y, added, four := impl.AddLeaf(x, node)
	if one || two || three || four || len(children) != 0 || len(path) != 0 || len(below) != 0 || len(y.Parent) != 0 || added != 0 {
		t.Fatal("taken", x, node, children, path, below, y, added)
	}
}

func refusePair(t *testing.T, x impl.Tree, a, b int) {
	t.Helper()
	m, one := impl.MeetingNode(x, a, b)
	f, two := impl.FaceTo(x, a, b)
	if one || two || m != 0 || f != 0 {
		t.Fatal("taken", x, a, b, m, f)
	}
}

var treePattern = regexp.MustCompile(`^[0-6]( [0-6]){0,6}$`)

// parseTreeAsWritten reports whether a text is that of a tree, and tells if ParseTree says something else.
func parseTreeAsWritten(t *testing.T, s string) bool {
	t.Helper()
	want, isTree := treeOfText(s)
	x, ok := impl.ParseTree(s)
	if ok != isTree || !slices.Equal(x.Parent, want.Parent) {
		t.Fatalf("ParseTree(%q) = %v, %v, not %v, %v", s, x, ok, want, isTree)
	}
	return isTree
}

// treeOfText needs no more than one digit for each node, since a node of a tree is above others only if it is at most 6.
func treeOfText(s string) (impl.Tree, bool) {
	if !treePattern.MatchString(s) {
		return noTree, false
	}
	x := impl.Tree{Parent: []int{-1}}
	for i, word := range strings.Split(s, " ") {
		parent, _ := strconv.Atoi(word)
		if parent > i {
			return noTree, false
		}
		x.Parent = append(x.Parent, parent)
	}
	return x, true
}

// pathMarks gives, for each node, the nodes on its path as bits.
func pathMarks(x impl.Tree) []uint {
	paths := []uint{1}
	for i, parent := range x.Parent[1:] {
		paths = append(paths, paths[parent]|1<<(i+1))
	}
	return paths
}

func nodesMarked(marks uint) []int {
	nodes := []int{}
	for ; marks != 0; marks &= marks - 1 {
		nodes = append(nodes, bits.TrailingZeros(marks))
	}
	return nodes
}

// allTrees makes every tree, smaller ones first, by adding a node below every node of every tree of one node less.
func allTrees() []impl.Tree {
	trees := []impl.Tree{}
	last := [][]int{{-1}}
	for len(last[0]) < 8 {
		next := [][]int{}
		for _, parents := range last {
			for node := range parents {
				next = append(next, slices.Concat(parents, []int{node}))
			}
		}
		for _, parents := range next {
			trees = append(trees, impl.Tree{Parent: slices.Clone(parents)})
		}
		last = next
	}
	return trees
}

// eachList calls f with every list of at most size numbers from..below to, and with the empty one.
func eachList(from, to, size int, f func(list []int)) {
	var more func(list []int)
	more = func(list []int) {
		f(slices.Clone(list))
		if len(list) == size {
			return
		}
		for x := from; x < to; x++ {
			more(append(list, x))
		}
	}
	more(nil)
}
