package tests

import (
	"math"
	"slices"
	"strconv"
	"strings"
	"testing"

	"loop.example/g00240/impl"
)

// tree is a disk with a tree, and what the tree tells.
type tree struct {
	disk  impl.Disk
	root  int
	pairs []impl.Pair
	pages []int
}

func pair(key, val string) impl.Pair {
	return impl.Pair{Key: key, Val: val}
}

// pairsOf are so many pairs, ascending; a key with a "!" behind it stands between it and the next one.
func pairsOf(n int) []impl.Pair {
	list := []impl.Pair{}
	for at := range n {
		list = append(list, pair("k"+strconv.Itoa(100+at), "v"+strconv.Itoa(at)))
	}
	return list
}

// grow builds a tree of these pairs from its leaves up, so many to a node, on pages in the order of give.
func grow(t *testing.T, list []impl.Pair, fan int, give []int) tree {
	t.Helper()
	d := newDisk(t, impl.MaxPages)
	used := 0
	put := func(n impl.Node) int {
		d = write(t, d, give[used], nodeText(t, n))
		used++
		return give[used-1]
	}
	keys, kids := []string{}, []int{}
	for part := range slices.Chunk(list, fan) {
		n := impl.Node{Leaf: true}
		for _, p := range part {
			n.Keys, n.Vals = append(n.Keys, p.Key), append(n.Vals, p.Val)
		}
		keys, kids = append(keys, n.Keys[0]), append(kids, put(n))
	}
	for len(kids) > 1 {
		above, roots := []string{}, []int{}
		for at := 0; at < len(kids); at += fan {
			end := min(at+fan, len(kids))
			above, roots = append(above, keys[at]), append(roots, put(branch(keys[at:end], kids[at:end]...)))
		}
		keys, kids = above, roots
	}
	pages := slices.Clone(give[:used])
	slices.Sort(pages)
	return tree{disk: d, root: kids[0], pairs: list, pages: pages}
}

// grownTrees are right trees of one level to five, on pages in several orders.
func grownTrees(t *testing.T) []tree {
	t.Helper()
	up := span(2, impl.MaxPages-1)
	down := slices.Clone(up)
	slices.Reverse(down)
	mixed := []int{}
	for at := range up {
		mixed = append(mixed, up[at*7%len(up)])
	}
	list := []tree{}
	for _, give := range [][]int{up, down, mixed} {
		for _, n := range []int{1, 2, 3, 4, 5, 7, 8, 9, 16, 17, 33, 64} {
			list = append(list, grow(t, pairsOf(n), impl.Fan, give))
		}
		for _, n := range []int{9, 10, 27} {
			list = append(list, grow(t, pairsOf(n), 3, give))
		}
		for _, n := range []int{4, 5, 8, 11, 16, 30} {
			list = append(list, grow(t, pairsOf(n), 2, give))
		}
	}
	return list
}

// pagesWith is a disk of 14 pages, nothing Late, with these nodes on their pages.
func pagesWith(t *testing.T, nodes map[int]impl.Node) impl.Disk {
	t.Helper()
	d := named(14)
	for page, n := range nodes {
		d.Pages[page] = nodeText(t, n)
	}
	return d
}

// oneOf is a leaf of one key, whose Val is the key again.
func oneOf(key string) impl.Node {
	return leaf([]string{key}, []string{key})
}

// chain is a tree of so many levels: a leaf with the key "k" at page 2, and each node a page further on.
func chain(t *testing.T, levels int) (impl.Disk, int) {
	t.Helper()
	nodes := map[int]impl.Node{2: oneOf("k")}
	for page := 3; page <= levels+1; page++ {
		nodes[page] = branch([]string{"a"}, page-1)
	}
	return pagesWith(t, nodes), levels + 1
}

func within(list []impl.Pair, from, to string) []impl.Pair {
	out := []impl.Pair{}
	for _, p := range list {
		if p.Key >= from && p.Key < to {
			out = append(out, p)
		}
	}
	return out
}

func found(t *testing.T, d impl.Disk, root int, key, want string) {
	t.Helper()
	if val, ok := impl.GetKey(d, root, key); !ok || val != want {
		t.Errorf("root %d: GetKey(%q) = %q, %v", root, key, val, ok)
	}
}

func notFound(t *testing.T, d impl.Disk, root int, keys ...string) {
	t.Helper()
	for _, key := range keys {
		if val, ok := impl.GetKey(d, root, key); ok || val != "" {
			t.Errorf("root %d: GetKey(%q) = %q, %v", root, key, val, ok)
		}
	}
}

// told holds all that is gone through against these pairs and pages.
func told(t *testing.T, name string, d impl.Disk, root int, pairs []impl.Pair, pages []int, right bool) {
	t.Helper()
	if got, ok := impl.AllPairs(d, root); !ok || !slices.Equal(got, pairs) {
		t.Errorf("%s: AllPairs = %q, %v", name, got, ok)
	}
	if got, ok := impl.PagesOf(d, root); !ok || !slices.Equal(got, pages) {
		t.Errorf("%s: PagesOf = %v, %v", name, got, ok)
	}
	if got := impl.PairsFrom(d, root, "", "\xff"); !slices.Equal(got, within(pairs, "", "\xff")) {
		t.Errorf("%s: PairsFrom = %q", name, got)
	}
	if got := impl.TreeOk(d, root); got != right {
		t.Errorf("%s: TreeOk = %v", name, got)
	}
}

// noTree holds what is gone through where there is no tree: nothing, and false.
func noTree(t *testing.T, name string, d impl.Disk, root int) {
	t.Helper()
	if got, ok := impl.AllPairs(d, root); ok || len(got) != 0 {
		t.Errorf("%s: AllPairs = %q, %v", name, got, ok)
	}
	if got, ok := impl.PagesOf(d, root); ok || len(got) != 0 {
		t.Errorf("%s: PagesOf = %v, %v", name, got, ok)
	}
	if got := impl.PairsFrom(d, root, "", "\xff"); len(got) != 0 {
		t.Errorf("%s: PairsFrom = %q", name, got)
	}
	if impl.TreeOk(d, root) {
		t.Errorf("%s: TreeOk", name)
	}
}

func TestLookConstants(t *testing.T) {
	if impl.MaxDeep != 8 {
		t.Errorf("MaxDeep = %d", impl.MaxDeep)
	}
}

// What is in a tree is found, and in order; what stands between is not.
func TestTreesAreFound(t *testing.T) {
	for _, g := range grownTrees(t) {
		told(t, "a grown tree", g.disk, g.root, g.pairs, g.pages, true)
		for _, p := range g.pairs {
			found(t, g.disk, g.root, p.Key, p.Val)
			notFound(t, g.disk, g.root, p.Key+"!", p.Key+"\x00", p.Key[:3]+"!", p.Key[:3])
		}
		notFound(t, g.disk, g.root, "", "a", "k", "k0", "k099", "k1", "z", "\xff", strings.Repeat("k", 1000))
	}
}

// From and to at each key, between two, below all and above all.
func TestPairsFrom(t *testing.T) {
	for _, g := range grownTrees(t) {
		if len(g.pairs) > 17 {
			continue
		}
		edges := []string{"", "a", "k", "z"}
		for _, p := range g.pairs {
			edges = append(edges, p.Key, p.Key+"\x00", p.Key+"!")
		}
		for _, from := range edges {
			for _, to := range edges {
				if got := impl.PairsFrom(g.disk, g.root, from, to); !slices.Equal(got, within(g.pairs, from, to)) {
					t.Fatalf("of %d: PairsFrom(%q, %q) = %q", len(g.pairs), from, to, got)
				}
			}
		}
	}
}

func TestPairsFromNamed(t *testing.T) {
	d := pagesWith(t, map[int]impl.Node{
		2: leaf([]string{"a", "b"}, []string{"1", "2"}), 3: leaf([]string{"c", "e"}, []string{"3", ""}), 4: branch([]string{"a", "c"}, 2, 3),
	})
	for _, c := range []struct{ from, to, want string }{
		{"a", "e", "abc"}, {"a", "e\x00", "abce"}, {"", "z", "abce"}, {"b", "c", "b"}, {"b", "d", "bc"}, {"aa", "d", "bc"}, {"d", "z", "e"},
		{"c", "c", ""}, {"c", "b", ""}, {"z", "", ""}, {"e", "a", ""}, {"d", "d", ""}, {"d", "e", ""}, {"f", "z", ""}, {"", "a", ""}, {"", "", ""}, {"a", "", ""}, {"\xff", "\xff\xff", ""},
	} {
		got := ""
		for _, p := range impl.PairsFrom(d, 4, c.from, c.to) {
			got += p.Key
		}
		if got != c.want {
			t.Errorf("PairsFrom(%q, %q) tells %q", c.from, c.to, got)
		}
	}
}

// Keys and Vals of any bytes and lengths that a node takes.
func TestLookAtAnyTexts(t *testing.T) {
	long, most := strings.Repeat("m", impl.MaxKey), strings.Repeat("\xff", impl.MaxKey)
	d := pagesWith(t, map[int]impl.Node{
		2: leaf([]string{"", "\x00", "\x00\x00", "\n"}, []string{"", "\x00", strings.Repeat("v", impl.MaxVal), "l"}),
		3: leaf([]string{long[1:], long, most}, []string{"\xff", "", "b"}),
		4: branch([]string{"", "a"}, 2, 3),
	})
	want := []impl.Pair{pair("", ""), pair("\x00", "\x00"), pair("\x00\x00", strings.Repeat("v", impl.MaxVal)), pair("\n", "l"), pair(long[1:], "\xff"), pair(long, ""), pair(most, "b")}
	told(t, "any texts", d, 4, want, []int{2, 3, 4}, true)
	for _, p := range want {
		found(t, d, 4, p.Key, p.Val)
	}
	notFound(t, d, 4, "a", "\x01", "\x00\x00\x00", long+"m", most+"\xff", long[2:])
}

// Root 0 is a tree without anything, whatever page 0 tells.
func TestLookAtRoot0(t *testing.T) {
	full := grow(t, pairsOf(9), 4, span(2, 10)).disk
	node := pagesWith(t, map[int]impl.Node{0: oneOf("a"), 2: oneOf("a")})
	formatted := named(4)
	formatted.Pages[0] = metaText(t, meta(0, 0, 2))
	for _, d := range []impl.Disk{{}, newDisk(t, 4), full, node, formatted} {
		told(t, "root 0", d, 0, nil, nil, true)
		notFound(t, d, 0, "", "a", "k100", "\xff")
	}
	for name, d := range wrongDisks() {
		told(t, name, d, 0, nil, nil, true)
	}
}

// The rule of nodes has no leaf without Keys, so that there is no tree of one.
func TestLeafWithoutKeys(t *testing.T) {
	for _, none := range []string{seal(t, "l\x00"), seal(t, "b\x00"), seal(t, "")} {
		d := pagesWith(t, map[int]impl.Node{2: oneOf("a"), 4: branch([]string{"a", "b"}, 2, 3), 6: branch([]string{"a", "b"}, 3, 2)})
		d.Pages[3] = none
		for _, root := range []int{3, 4, 6} {
			noTree(t, "a leaf without Keys", d, root)
			notFound(t, d, root, "b", "")
		}
		found(t, d, 4, "a", "a")
		notFound(t, d, 6, "a")
	}
}

func TestMaxDeep(t *testing.T) {
	for levels := 1; levels <= impl.MaxDeep; levels++ {
		d, root := chain(t, levels)
		told(t, strconv.Itoa(levels)+" levels", d, root, []impl.Pair{pair("k", "k")}, span(2, root), true)
		found(t, d, root, "k", "k")
		notFound(t, d, root, "a", "", "z")
	}
	for levels := impl.MaxDeep + 1; levels < 12; levels++ {
		d, root := chain(t, levels)
		noTree(t, strconv.Itoa(levels)+" levels", d, root)
		notFound(t, d, root, "k", "a", "", "z")
	}
}

// Where one way alone is too deep, there are no pairs; but what is on the other ways is found.
func TestMaxDeepOnOneWay(t *testing.T) {
	d, top := chain(t, impl.MaxDeep)
	d.Pages[12] = nodeText(t, oneOf("x"))
	for _, c := range []struct {
		name string
		root impl.Node
		key  string
	}{
		{"at the left", branch([]string{"a", "x"}, top, 12), "x"},
		{"at the right", branch([]string{"x", "y"}, 12, top), "x"},
	} {
		d.Pages[13] = nodeText(t, c.root)
		noTree(t, c.name, d, 13)
		found(t, d, 13, c.key, "x")
		notFound(t, d, 13, "k", "zz")
	}
	// A leaf that is one too deep beside one that is not.
	d, top = chain(t, impl.MaxDeep)
	d.Pages[12], d.Pages[13] = nodeText(t, oneOf("m")), nodeText(t, branch([]string{"m"}, 12))
	d.Pages[3] = nodeText(t, branch([]string{"a", "m"}, 2, 13))
	noTree(t, "one leaf too deep", d, top)
	found(t, d, top, "k", "k")
	notFound(t, d, top, "m")
	d.Pages[3] = nodeText(t, branch([]string{"a", "m"}, 2, 12))
	told(t, "two leaves", d, top, []impl.Pair{pair("k", "k"), pair("m", "m")}, append(span(2, top), 12), true)
	found(t, d, top, "m", "m")
}

// A key of a node that is no leaf is in the tree only when a leaf has it.
func TestKeysOfNodesAboveAreNone(t *testing.T) {
	d := pagesWith(t, map[int]impl.Node{
		2: oneOf("c"), 3: oneOf("f"), 4: oneOf("j"), 5: branch([]string{"b", "e"}, 2, 3), 6: branch([]string{"j"}, 4), 7: branch([]string{"a", "h"}, 5, 6),
	})
	told(t, "Keys that are less", d, 7, []impl.Pair{pair("c", "c"), pair("f", "f"), pair("j", "j")}, span(2, 7), true)
	notFound(t, d, 7, "a", "b", "e", "h")
	for _, key := range []string{"c", "f", "j"} {
		found(t, d, 7, key, key)
	}
}

// spoilt are texts that tell no node.
func spoilt(t *testing.T, was string) map[string]string {
	t.Helper()
	return map[string]string{
		"nothing":           "",
		"a byte turned":     turned(was, len(was)/2, 1),
		"the first half":    was[:len(was)/2],
		"a byte more":       was + "\x00",
		"a meta":            metaText(t, meta(3, 2, 5, free(3, 3, 4))),
		"a wrong kid":       seal(t, "b\x01\x01a\x01"),
		"keys that descend": seal(t, "l\x02\x01b\x00\x01a\x00"),
	}
}

// wayTo are the pages from the root to the leaf where a key is looked for.
func wayTo(d impl.Disk, root int, key string) []int {
	pages := []int{root}
	for n, _ := impl.ReadNode(impl.ReadPage(d, root)); len(n.Kids) > 0; n, _ = impl.ReadNode(impl.ReadPage(d, pages[len(pages)-1])) {
		pages = append(pages, n.Kids[impl.PlaceOf(n, key)])
	}
	return pages
}

// A page that is no node, wherever it stands: nothing is told, and of the keys just those are found whose way does not go over it.
func TestPageThatIsNoNode(t *testing.T) {
	for _, g := range []tree{grow(t, pairsOf(3), 4, span(2, 39)), grow(t, pairsOf(13), 4, span(2, 39)), grow(t, pairsOf(27), 3, span(2, 39)), grow(t, pairsOf(16), 2, span(2, 39))} {
		for _, page := range g.pages {
			for name, text := range spoilt(t, impl.ReadPage(g.disk, page)) {
				d := write(t, g.disk, page, text)
				noTree(t, name, d, g.root)
				for _, p := range g.pairs {
					if slices.Contains(wayTo(g.disk, g.root, p.Key), page) {
						notFound(t, d, g.root, p.Key)
					} else {
						found(t, d, g.root, p.Key, p.Val)
					}
				}
			}
		}
	}
}

// Two Kids of one node that are one page: that is no right node, and so no node at all.
func TestPageTwiceInOneNode(t *testing.T) {
	d := pagesWith(t, map[int]impl.Node{2: oneOf("a"), 3: oneOf("b"), 5: branch([]string{"a"}, 4)})
	for _, text := range []string{"b\x02\x01a\x02\x01b\x02", "b\x03\x01a\x02\x01b\x03\x01c\x02", "b\x03\x01a\x02\x01b\x03\x01c\x03", "b\x02\x01a\x04\x01b\x04"} {
		d.Pages[4] = seal(t, text)
		for _, root := range []int{4, 5} {
			noTree(t, "two Kids of one node", d, root)
			notFound(t, d, root, "a", "b", "c")
		}
	}
}

// A page that two nodes have below them is come to twice: nothing is told, but each way to it is a way.
func TestPageTwiceInTwoNodes(t *testing.T) {
	leaves := func(more map[int]impl.Node) impl.Disk {
		more[2], more[3], more[4] = oneOf("b"), oneOf("d"), oneOf("f")
		return pagesWith(t, more)
	}
	for name, d := range map[string]impl.Disk{
		"two beside each other":      leaves(map[int]impl.Node{5: branch([]string{"b", "d"}, 2, 3), 6: branch([]string{"e", "f"}, 3, 4), 7: branch([]string{"b", "e"}, 5, 6)}),
		"the first and the last":     leaves(map[int]impl.Node{5: branch([]string{"b", "d"}, 2, 3), 6: branch([]string{"e", "f"}, 4, 2), 7: branch([]string{"b", "e"}, 5, 6)}),
		"a leaf at two depths":       leaves(map[int]impl.Node{5: branch([]string{"b", "d"}, 2, 3), 7: branch([]string{"b", "e"}, 5, 2)}),
		"a leaf ahead of the node":   leaves(map[int]impl.Node{5: branch([]string{"c", "d"}, 2, 3), 7: branch([]string{"b", "c"}, 2, 5)}),
		"a node of two nodes":        leaves(map[int]impl.Node{5: branch([]string{"b"}, 2), 6: branch([]string{"b"}, 5), 8: branch([]string{"d"}, 5), 7: branch([]string{"b", "d"}, 6, 8)}),
		"with nothing else below":    leaves(map[int]impl.Node{5: branch([]string{"b"}, 2), 6: branch([]string{"c"}, 2), 7: branch([]string{"b", "c"}, 5, 6)}),
		"far apart":                  leaves(map[int]impl.Node{5: branch([]string{"b"}, 2), 6: branch([]string{"c"}, 3), 8: branch([]string{"d"}, 4), 9: branch([]string{"f"}, 2), 7: branch([]string{"b", "c", "d", "f"}, 5, 6, 8, 9)}),
		"the last of three the next": leaves(map[int]impl.Node{5: branch([]string{"b", "c", "d"}, 2, 3, 4), 6: branch([]string{"f"}, 4), 7: branch([]string{"b", "f"}, 5, 6)}),
	} {
		noTree(t, name, d, 7)
		found(t, d, 7, "b", "b")
	}
	d := leaves(map[int]impl.Node{5: branch([]string{"b", "d"}, 2, 3), 6: branch([]string{"d", "f"}, 3, 4), 7: branch([]string{"b", "d"}, 5, 6)})
	noTree(t, "by both ways", d, 7)
	found(t, d, 7, "d", "d")
	found(t, d, 7, "f", "f")
}

// A page above itself: looking ends, and what is not on the round is found.
func TestPageAboveItself(t *testing.T) {
	for name, nodes := range map[string]map[int]impl.Node{
		"its own kid":          {2: oneOf("a"), 4: branch([]string{"a", "c"}, 2, 4)},
		"a round of two":       {2: oneOf("a"), 3: branch([]string{"c"}, 4), 4: branch([]string{"a", "c"}, 2, 3)},
		"a round of three":     {2: oneOf("a"), 3: branch([]string{"c"}, 5), 5: branch([]string{"a"}, 4), 4: branch([]string{"a", "c"}, 2, 3)},
		"below the root":       {2: oneOf("a"), 3: branch([]string{"c"}, 5), 5: branch([]string{"a"}, 3), 4: branch([]string{"a", "c"}, 2, 3)},
		"a kid its own":        {2: oneOf("a"), 3: branch([]string{"c"}, 3), 4: branch([]string{"a", "c"}, 2, 3)},
		"behind a leaf":        {2: oneOf("a"), 3: oneOf("b"), 5: branch([]string{"b", "c"}, 3, 5), 4: branch([]string{"a", "b"}, 2, 5)},
		"with leaves behind":   {2: oneOf("a"), 3: branch([]string{"c"}, 4), 5: oneOf("z"), 4: branch([]string{"a", "c", "z"}, 2, 3, 5)},
		"a round of many more": {2: oneOf("a"), 3: branch([]string{"c", "d", "e"}, 4, 5, 6), 5: branch([]string{"c", "d", "e"}, 3, 4, 6), 6: branch([]string{"c", "d", "e"}, 3, 5, 4), 4: branch([]string{"a", "c", "d", "e"}, 2, 3, 5, 6)},
	} {
		d := pagesWith(t, nodes)
		noTree(t, name, d, 4)
		found(t, d, 4, "a", "a")
		notFound(t, d, 4, "c", "cc", "")
	}
	d := pagesWith(t, map[int]impl.Node{2: branch([]string{"a"}, 2)})
	noTree(t, "nothing but itself", d, 2)
	notFound(t, d, 2, "a", "b", "")
}

// Roots that the disk does not have, and those whose page tells no node.
func TestRootsThatAreNone(t *testing.T) {
	g := grow(t, pairsOf(9), 4, span(2, 10))
	for _, root := range []int{-1, -2, math.MinInt, impl.MaxPages, impl.MaxPages + 1, math.MaxInt, 1, 38, 39} {
		noTree(t, strconv.Itoa(root), g.disk, root)
		notFound(t, g.disk, root, "", "k100", "z")
	}
	for name, d := range wrongDisks() {
		for _, root := range []int{-1, 1, 2, 4, 5, 39, 40, 999, 1000, math.MaxInt, math.MinInt} {
			noTree(t, name, d, root)
			notFound(t, d, root, "", "a")
		}
	}
	// A Kid that this disk does not have.
	d := impl.Disk{Pages: make([]string, 4)}
	d.Pages[2], d.Pages[3] = nodeText(t, oneOf("a")), nodeText(t, branch([]string{"a", "b"}, 2, 4))
	noTree(t, "a Kid past the disk", d, 3)
	found(t, d, 3, "a", "a")
	notFound(t, d, 3, "b")
}

// Each page of a tree is the root of a tree of its own; so is page 1, which no meta names.
func TestEachPageIsARoot(t *testing.T) {
	d := pagesWith(t, map[int]impl.Node{
		1: branch([]string{"a", "m"}, 5, 6), 2: oneOf("b"), 3: oneOf("d"), 4: oneOf("n"), 5: branch([]string{"b", "c"}, 2, 3), 6: branch([]string{"n"}, 4), 7: branch([]string{"a", "m"}, 5, 6),
	})
	b, dd, n := pair("b", "b"), pair("d", "d"), pair("n", "n")
	told(t, "page 1", d, 1, []impl.Pair{b, dd, n}, []int{1, 2, 3, 4, 5, 6}, true)
	told(t, "page 2", d, 2, []impl.Pair{b}, []int{2}, true)
	told(t, "page 5", d, 5, []impl.Pair{b, dd}, []int{2, 3, 5}, true)
	told(t, "page 6", d, 6, []impl.Pair{n}, []int{4, 6}, true)
	told(t, "page 7", d, 7, []impl.Pair{b, dd, n}, []int{2, 3, 4, 5, 6, 7}, true)
	found(t, d, 1, "n", "n")
	found(t, d, 6, "n", "n")
	notFound(t, d, 5, "n")
	notFound(t, d, 2, "d", "a")
}

// Leaves at two depths: all is told and found, but it is not right.
func TestLeavesAtTwoDepths(t *testing.T) {
	want := []impl.Pair{pair("b", "b"), pair("d", "d"), pair("f", "f")}
	for name, nodes := range map[string]map[int]impl.Node{
		"deeper at the right":    {5: branch([]string{"d", "f"}, 3, 4), 6: branch([]string{"b", "d"}, 2, 5)},
		"deeper at the left":     {5: branch([]string{"b", "d"}, 2, 3), 6: branch([]string{"b", "f"}, 5, 4)},
		"deeper in the midst":    {5: branch([]string{"d"}, 3), 6: branch([]string{"b", "d", "f"}, 2, 5, 4)},
		"the midst less deep":    {5: branch([]string{"b"}, 2), 7: branch([]string{"f"}, 4), 6: branch([]string{"b", "d", "f"}, 5, 3, 7)},
		"three depths":           {5: branch([]string{"f"}, 4), 7: branch([]string{"d", "f"}, 3, 5), 6: branch([]string{"b", "d"}, 2, 7)},
		"a level more, one leaf": {5: branch([]string{"f"}, 4), 7: branch([]string{"d", "f"}, 3, 5), 8: branch([]string{"b"}, 2), 6: branch([]string{"b", "d"}, 8, 7)},
	} {
		pages := []int{2, 3, 4}
		for page := range nodes {
			pages = append(pages, page)
		}
		slices.Sort(pages)
		nodes[2], nodes[3], nodes[4] = oneOf("b"), oneOf("d"), oneOf("f")
		d := pagesWith(t, nodes)
		told(t, name, d, 6, want, pages, false)
		for _, p := range want {
			found(t, d, 6, p.Key, p.Val)
		}
	}
}

// Keys of leaves that are not in order, with the Keys above them right for one of the two or for none: all is told from the left on, but it is not right.
func TestKeysOutOfOrder(t *testing.T) {
	for name, c := range map[string]struct {
		first, second impl.Node
		keys          []string
		right         bool
	}{
		"in order":              {oneOf("b"), oneOf("d"), []string{"a", "c"}, true},
		"turned round":          {oneOf("d"), oneOf("b"), []string{"a", "b"}, false},
		"turned round, Key d":   {oneOf("d"), oneOf("b"), []string{"a", "d"}, false},
		"turned round, Key e":   {oneOf("d"), oneOf("b"), []string{"a", "e"}, false},
		"one key in both":       {oneOf("b"), oneOf("b"), []string{"a", "b"}, false},
		"one key in both, c":    {oneOf("b"), oneOf("b"), []string{"a", "c"}, false},
		"the last is the first": {leaf([]string{"a", "c"}, []string{"", ""}), oneOf("c"), []string{"a", "c"}, false},
		"within each other":     {leaf([]string{"a", "d"}, []string{"", ""}), leaf([]string{"b", "e"}, []string{"", ""}), []string{"a", "b"}, false},
		"the first is the last": {leaf([]string{"b", "c"}, []string{"", ""}), leaf([]string{"a", "d"}, []string{"", ""}), []string{"a", "d"}, false},
	} {
		d := pagesWith(t, map[int]impl.Node{2: c.first, 3: c.second, 4: branch(c.keys, 2, 3)})
		pairs := []impl.Pair{}
		for _, n := range []impl.Node{c.first, c.second} {
			for at, key := range n.Keys {
				pairs = append(pairs, pair(key, n.Vals[at]))
			}
		}
		told(t, name, d, 4, pairs, []int{2, 3, 4}, c.right)
		if got := impl.PairsFrom(d, 4, "b", "d"); !slices.Equal(got, within(pairs, "b", "d")) {
			t.Errorf("%s: PairsFrom = %q", name, got)
		}
	}
}

// Keys above: not above those below their Kid, and above all those below the Kids ahead of it.
func TestKeysAbove(t *testing.T) {
	for _, c := range []struct {
		name  string
		low   []string
		high  []string
		top   []string
		right bool
	}{
		{"each the first one", []string{"b", "d"}, []string{"f", "h"}, []string{"b", "f"}, true},
		{"each less", []string{"", "c"}, []string{"e", "g"}, []string{"", "e"}, true},
		{"the root's above the node's", []string{"", "c"}, []string{"e", "g"}, []string{"b", "f"}, true},
		{"just above what is ahead", []string{"b", "b\x00"}, []string{"d\x00", "f\x00"}, []string{"b", "d\x00"}, true},
		{"the first Key above its leaf", []string{"b\x00", "d"}, []string{"f", "h"}, []string{"b", "f"}, false},
		{"the second Key above its leaf", []string{"b", "d\x00"}, []string{"f", "h"}, []string{"b", "f"}, false},
		{"the third Key above its leaf", []string{"b", "d"}, []string{"f\x00", "h"}, []string{"b", "f"}, false},
		{"the last Key above its leaf", []string{"b", "d"}, []string{"f", "h\x00"}, []string{"b", "f"}, false},
		{"the root's first above the leaf", []string{"b", "d"}, []string{"f", "h"}, []string{"c", "f"}, false},
		{"the root's second above the leaf", []string{"b", "d"}, []string{"f", "h"}, []string{"b", "g"}, false},
		{"the second Key what is ahead", []string{"a", "b"}, []string{"f", "h"}, []string{"b", "f"}, false},
		{"the second Key below what is ahead", []string{"", "a"}, []string{"f", "h"}, []string{"b", "f"}, false},
		{"the fourth Key what is ahead", []string{"b", "d"}, []string{"e", "f"}, []string{"b", "f"}, false},
		{"the root's second what is ahead", []string{"b", "d"}, []string{"f", "h"}, []string{"b", "d"}, false},
		{"the root's second below what is ahead", []string{"b", "d"}, []string{"f", "h"}, []string{"b", "c"}, false},
		{"the root's second among those ahead", []string{"b", "d"}, []string{"f", "h"}, []string{"a", "b"}, false},
	} {
		d := pagesWith(t, map[int]impl.Node{
			2: oneOf("b"), 3: oneOf("d"), 4: oneOf("f"), 5: oneOf("h"), 6: branch(c.low, 2, 3), 7: branch(c.high, 4, 5), 8: branch(c.top, 6, 7),
		})
		told(t, c.name, d, 8, []impl.Pair{pair("b", "b"), pair("d", "d"), pair("f", "f"), pair("h", "h")}, span(2, 8), c.right)
	}
}

// A Key is held against each Key of its leaves, not the first or last one alone, and one of four Kids as well.
func TestKeysAboveWideNodes(t *testing.T) {
	d := pagesWith(t, map[int]impl.Node{
		2: leaf([]string{"b", "c"}, []string{"", ""}), 3: leaf([]string{"e", "f"}, []string{"", ""}), 4: leaf([]string{"h", "i"}, []string{"", ""}), 5: leaf([]string{"k", "l"}, []string{"", ""}),
	})
	for _, c := range []struct {
		keys  string
		right bool
	}{
		{"behk", true}, {"adgj", true}, {"cehk", false}, {"bfhk", false}, {"beik", false}, {"behl", false},
		{"bcek", false}, {"bchk", false}, {"befk", false}, {"behi", false}, {"bdgj", true}, {"befh", false}, {"adeh", false},
	} {
		d.Pages[6] = nodeText(t, branch(strings.Split(c.keys, ""), 2, 3, 4, 5))
		if got := impl.TreeOk(d, 6); got != c.right {
			t.Errorf("Keys %q: TreeOk = %v", c.keys, got)
		}
	}
}

// Late or kept, what was written last counts.
func TestLookAtLateAndKept(t *testing.T) {
	g := grow(t, pairsOf(13), 4, span(2, 10))
	half := g.disk
	half.Late = slices.Clone(half.Late[:3])
	half = impl.SyncDisk(half)
	half.Late = g.disk.Late[3:]
	for name, d := range map[string]impl.Disk{"Late": g.disk, "kept": impl.SyncDisk(g.disk), "some Late, some kept": half, "all left of a fall": impl.FallDisk(g.disk, all(9), -1)} {
		told(t, name, d, g.root, g.pairs, g.pages, true)
		for _, p := range g.pairs {
			found(t, d, g.root, p.Key, p.Val)
		}
	}
	for at, put := range g.disk.Late {
		left := all(len(g.disk.Late))
		noTree(t, "a page torn", impl.FallDisk(g.disk, left, at), g.root)
		left[at] = false
		noTree(t, "page "+strconv.Itoa(put.Page)+" lost", impl.FallDisk(g.disk, left, -1), g.root)
	}
	d := write(t, impl.SyncDisk(g.disk), g.root, nodeText(t, oneOf("x")))
	told(t, "a Late root", d, g.root, []impl.Pair{pair("x", "x")}, []int{g.root}, true)
	notFound(t, d, g.root, "k100")
	d = write(t, d, g.root, "no node")
	noTree(t, "a Late page that is no node", d, g.root)
	d = write(t, d, g.root, impl.ReadPage(g.disk, g.root))
	told(t, "as it was", d, g.root, g.pairs, g.pages, true)
}

// The document names no disk that is refused here: what ReadPage reads counts.
func TestLookAtWrongDisks(t *testing.T) {
	d := named(3)
	d.Pages[2] = nodeText(t, oneOf("a"))
	d.Late = []impl.Put{{Page: 3, Text: nodeText(t, oneOf("b"))}}
	told(t, "three pages", d, 2, []impl.Pair{pair("a", "a")}, []int{2}, true)
	noTree(t, "Late past the end", d, 3)
	d = named(100)
	d.Pages[39], d.Pages[99] = nodeText(t, oneOf("a")), nodeText(t, branch([]string{""}, 39))
	told(t, "a root past MaxPages", d, 99, []impl.Pair{pair("a", "a")}, []int{39, 99}, true)
	found(t, d, 99, "a", "a")
}

// stop is a page on the way through a tree, with how many are above it.
type stop struct {
	page, above int
	node        impl.Node
}

// plainStops goes through a tree by the document's words; a round is left where it is too deep.
func plainStops(d impl.Disk, page, above int) ([]stop, bool) {
	n, ok := impl.ReadNode(impl.ReadPage(d, page))
	if !ok || above+1 > 8 {
		return nil, false
	}
	list := []stop{{page, above, n}}
	for _, kid := range n.Kids {
		more, ok := plainStops(d, kid, above+1)
		if !ok {
			return nil, false
		}
		list = append(list, more...)
	}
	return list, true
}

func plainPairs(stops []stop) []impl.Pair {
	list := []impl.Pair{}
	for _, s := range stops {
		for at := range s.node.Vals {
			list = append(list, pair(s.node.Keys[at], s.node.Vals[at]))
		}
	}
	return list
}

// plainTreeOk is the document's rule, word by word, of a tree that can be gone through.
func plainTreeOk(d impl.Disk, stops []stop) bool {
	pairs, depths := plainPairs(stops), map[int]bool{}
	for at := 1; at < len(pairs); at++ {
		if pairs[at-1].Key >= pairs[at].Key {
			return false
		}
	}
	for _, s := range stops {
		if s.node.Leaf {
			depths[s.above] = true
		}
		for at, kid := range s.node.Kids {
			below, _ := plainStops(d, kid, 0)
			for _, p := range plainPairs(below) {
				if s.node.Keys[at] > p.Key {
					return false
				}
				for _, behind := range s.node.Keys[at+1:] {
					if behind <= p.Key {
						return false
					}
				}
			}
		}
	}
	return len(depths) == 1
}

func plainGet(d impl.Disk, page, above int, key string) (string, bool) {
	n, ok := impl.ReadNode(impl.ReadPage(d, page))
	at := impl.PlaceOf(n, key)
	if !ok || above+1 > 8 || at < 0 {
		return "", false
	}
	if !n.Leaf {
		return plainGet(d, n.Kids[at], above+1, key)
	}
	if n.Keys[at] != key {
		return "", false
	}
	return n.Vals[at], true
}

// checkLook holds all that is answered of a tree against the document's words.
func checkLook(t *testing.T, d impl.Disk, root int, keys []string) {
	t.Helper()
	stops, ok := plainStops(d, root, 0)
	pages := []int{}
	for _, s := range stops {
		pages = append(pages, s.page)
	}
	slices.Sort(pages)
	if !ok || len(slices.Compact(slices.Clone(pages))) != len(pages) {
		noTree(t, "some pages", d, root)
	} else {
		told(t, "some pages", d, root, plainPairs(stops), pages, plainTreeOk(d, stops))
	}
	for _, key := range keys {
		want, right := plainGet(d, root, 0, key)
		if val, ok := impl.GetKey(d, root, key); val != want || ok != right {
			t.Errorf("GetKey(%q) = %q, %v", key, val, ok)
		}
	}
	if t.Failed() {
		t.Fatalf("root %d of %q", root, d.Pages)
	}
}

// Every way to lay some nodes on four pages.
func TestLookAtEachDisk(t *testing.T) {
	texts := []string{"no node"}
	for _, n := range []impl.Node{
		oneOf("a"), oneOf("c"), leaf([]string{"b", "d"}, []string{"1", "2"}),
		branch([]string{"a"}, 3), branch([]string{"a", "c"}, 2, 3), branch([]string{"b", "c"}, 3, 4), branch([]string{"a", "c"}, 4, 3), branch([]string{"c", "d"}, 5, 2), branch([]string{"a", "b", "d"}, 2, 4, 3),
	} {
		texts = append(texts, nodeText(t, n))
	}
	size := len(texts)
	for row := range size * size * size * size {
		d := impl.Disk{Pages: []string{"", "", texts[row%size], texts[row/size%size], texts[row/size/size%size], texts[row/size/size/size]}}
		checkLook(t, d, 5, []string{"", "a", "b", "c", "d", "e"})
	}
}

// The trees that are named above, by the document's words.
func TestLookAtGrownTrees(t *testing.T) {
	for _, g := range grownTrees(t) {
		keys := []string{"", "z"}
		for _, p := range g.pairs {
			keys = append(keys, p.Key, p.Key+"!")
		}
		for _, page := range g.pages {
			checkLook(t, g.disk, page, keys)
		}
	}
}

// lookCalls are calls of all functions that look at a tree.
func lookCalls() map[string]func(d impl.Disk, root int) {
	return map[string]func(d impl.Disk, root int){
		"GetKey":    func(d impl.Disk, root int) { impl.GetKey(d, root, "k103") },
		"AllPairs":  func(d impl.Disk, root int) { impl.AllPairs(d, root) },
		"PairsFrom": func(d impl.Disk, root int) { impl.PairsFrom(d, root, "k101", "k105") },
		"PagesOf":   func(d impl.Disk, root int) { impl.PagesOf(d, root) },
		"TreeOk":    func(d impl.Disk, root int) { impl.TreeOk(d, root) },
	}
}

func TestLookArgumentsStay(t *testing.T) {
	disks := wrongDisks()
	for name, d := range rightDisks() {
		disks[name] = d
	}
	disks["a tree that is Late"] = grow(t, pairsOf(9), 4, span(2, 10)).disk
	disks["a tree that is kept"] = impl.SyncDisk(disks["a tree that is Late"])
	disks["a tree with a page that is none"] = write(t, disks["a tree that is kept"], 3, "no node")
	for name, plain := range disks {
		for call, look := range lookCalls() {
			d := roomy(plain)
			want := ownDisk(impl.Disk{Pages: d.Pages[:cap(d.Pages)], Late: d.Late[:cap(d.Late)]})
			for _, root := range []int{0, 2, 3, 5, 99} {
				look(d, root)
			}
			if !sameDisk(impl.Disk{Pages: d.Pages[:cap(d.Pages)], Late: d.Late[:cap(d.Late)]}, want) {
				t.Errorf("%s of %s writes into its argument", call, name)
			}
		}
	}
}

func TestLooksAreNewMemory(t *testing.T) {
	for _, g := range grownTrees(t) {
		d := ownDisk(g.disk)
		pairs, _ := impl.AllPairs(d, g.root)
		pages, _ := impl.PagesOf(d, g.root)
		some := impl.PairsFrom(d, g.root, "", "z")
		for at := range pairs[:cap(pairs)] {
			pairs[:cap(pairs)][at] = pair("changed", "changed")
		}
		for at := range pages[:cap(pages)] {
			pages[:cap(pages)][at] = -7
		}
		if !slices.Equal(some, g.pairs) {
			t.Fatal("PairsFrom shares memory with AllPairs")
		}
		for at := range some[:cap(some)] {
			some[:cap(some)][at] = pair("changed", "changed")
		}
		told(t, "looked at again", d, g.root, g.pairs, g.pages, true)
		pairs, _ = impl.AllPairs(d, g.root)
		pages, _ = impl.PagesOf(d, g.root)
		scribble(d)
		if !slices.Equal(pairs, g.pairs) || !slices.Equal(pages, g.pages) {
			t.Error("an argument that is changed changes an answer")
		}
	}
}

func TestLookTextsAreNewMemory(t *testing.T) {
	for _, g := range []tree{grow(t, pairsOf(9), 4, span(2, 10)), grow(t, pairsOf(3), 4, span(2, 10))} {
		for _, d := range []impl.Disk{ownDisk(g.disk), impl.SyncDisk(g.disk)} {
			texts := slices.Clone(d.Pages)
			for _, put := range d.Late {
				texts = append(texts, put.Text)
			}
			fresh := func(name, text string) {
				for _, held := range texts {
					if sharesMemory(text, held) {
						t.Errorf("%s hands out a text of the disk: %q", name, text)
					}
				}
			}
			pairs, _ := impl.AllPairs(d, g.root)
			for _, p := range append(pairs, impl.PairsFrom(d, g.root, "", "z")...) {
				fresh("Key", p.Key)
				fresh("Val", p.Val)
			}
			key := strings.Clone("k101")
			texts = append(texts, key)
			val, _ := impl.GetKey(d, g.root, key)
			fresh("GetKey", val)
		}
	}
}

// An empty list and nil are the same value.
func TestLookEmptyLists(t *testing.T) {
	pages := pagesWith(t, map[int]impl.Node{2: oneOf("a")}).Pages
	for _, d := range []impl.Disk{{Pages: pages}, {Pages: pages, Late: []impl.Put{}}} {
		told(t, "a kept leaf", d, 2, []impl.Pair{pair("a", "a")}, []int{2}, true)
		found(t, d, 2, "a", "a")
	}
	for _, d := range []impl.Disk{{}, {Pages: []string{}, Late: []impl.Put{}}} {
		told(t, "no disk", d, 0, nil, nil, true)
		noTree(t, "no disk", d, 2)
		notFound(t, d, 2, "")
	}
}
