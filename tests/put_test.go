package tests

import (
	"math"
	"slices"
	"strconv"
	"strings"
	"testing"

	"loop.example/g00240/impl"
)

// entry is what a node has at one place.
type entry struct {
	key, val string
	kid      int
}

func entriesOf(n impl.Node) []entry {
	list := []entry{}
	for at, key := range n.Keys {
		e := entry{key: key}
		if n.Leaf {
			e.val = n.Vals[at]
		} else {
			e.kid = n.Kids[at]
		}
		list = append(list, e)
	}
	return list
}

func nodeOf(isLeaf bool, list []entry) impl.Node {
	n := impl.Node{Leaf: isLeaf}
	for _, e := range list {
		n.Keys = append(n.Keys, e.key)
		if isLeaf {
			n.Vals = append(n.Vals, e.val)
		} else {
			n.Kids = append(n.Kids, e.kid)
		}
	}
	return n
}

// plainSplit puts what a node has now, in one or in two, and drops its old page behind that; what the node above tells of it.
func plainSplit(w impl.Work, page int, isLeaf bool, list []entry) (impl.Work, []entry, bool) {
	parts := [][]entry{list}
	if len(list) == 5 {
		parts = [][]entry{list[:3], list[3:]}
	}
	told := []entry{}
	for _, part := range parts {
		out, given := plainPut(w, nodeOf(isLeaf, part))
		if given == 0 {
			return w, nil, false
		}
		w, told = out, append(told, entry{key: part[0].key, kid: given})
	}
	return plainDrop(w, page), told, true
}

// plainBelow is what is done to the tree of a page that has so many above it.
func plainBelow(w impl.Work, page, above int, key, val string) (impl.Work, []entry, bool) {
	n, ok := impl.ReadNode(impl.ReadPage(w.Disk, page))
	if !ok || above+1 > 8 {
		return w, nil, false
	}
	list := entriesOf(n)
	place := 0
	for place < len(list) && list[place].key <= key {
		place++
	}
	if n.Leaf {
		if place > 0 && list[place-1].key == key {
			list[place-1].val = val
		} else {
			list = slices.Insert(list, place, entry{key: key, val: val})
		}
		return plainSplit(w, page, true, list)
	}
	if place > 0 {
		place--
	}
	out, below, ok := plainBelow(w, list[place].kid, above+1, key, val)
	if !ok {
		return w, nil, false
	}
	if list[place].key < below[0].key {
		below[0].key = list[place].key
	}
	return plainSplit(out, page, false, slices.Replace(list, place, place+1, below...))
}

// plainDeep tells whether any way from a page that has so many above it goes deeper than 8.
func plainDeep(d impl.Disk, page, above int) bool {
	if above+1 > 8 {
		return true
	}
	n, _ := impl.ReadNode(impl.ReadPage(d, page))
	return slices.ContainsFunc(n.Kids, func(kid int) bool { return plainDeep(d, kid, above+1) })
}

// plainPutKey is what the document tells of PutKey, from the root down and back.
func plainPutKey(w impl.Work, root int, key, val string) (impl.Work, int, bool) {
	if len(key) > 24 || len(val) > 24 {
		return w, root, false
	}
	if root == 0 {
		out, page := plainPut(w, leaf([]string{key}, []string{val}))
		return out, page, page != 0
	}
	out, told, ok := plainBelow(w, root, 0, key, val)
	if !ok {
		return w, root, false
	}
	top := told[0].kid
	if len(told) == 2 {
		out, top = plainPut(out, nodeOf(false, told))
	}
	if top == 0 || plainDeep(out.Disk, top, 0) {
		return w, root, false
	}
	return out, top, true
}

// putKey holds PutKey against the document's words, each field and each page.
func putKey(t *testing.T, name string, w impl.Work, root int, key, val string) (impl.Work, int, bool) {
	t.Helper()
	want, top, right := plainPutKey(w, root, key, val)
	got, page, ok := impl.PutKey(w, root, key, val)
	if page != top || ok != right {
		t.Errorf("%s: PutKey(%d, %q, %q) = %d, %v, not %d, %v", name, root, key, val, page, ok, top, right)
	}
	if !sameWork(got, want) {
		t.Errorf("%s: PutKey(%d, %q, %q) leaves", name, root, key, val)
		isWork(t, name, got, want)
	}
	if !ok && !sameWork(got, w) {
		t.Errorf("%s: beside a false the work is another one", name)
	}
	if t.Failed() {
		t.FailNow()
	}
	return got, page, ok
}

// withKey are the pairs with this one among them.
func withKey(list []impl.Pair, key, val string) []impl.Pair {
	out := []impl.Pair{}
	for _, p := range list {
		if p.Key != key {
			out = append(out, p)
		}
	}
	out = append(out, pair(key, val))
	slices.SortFunc(out, func(a, b impl.Pair) int { return strings.Compare(a.Key, b.Key) })
	return out
}

// roomOf are all pages of a tree, and all that may be given or were dropped, each of which must stand in one place alone.
func roomOf(t *testing.T, w impl.Work, root int) []int {
	t.Helper()
	pages, ok := impl.PagesOf(w.Disk, root)
	if !ok {
		t.Fatalf("root %d is no tree", root)
	}
	whole := slices.Concat(pages, w.Usable, w.Gone, span(w.Next, len(w.Disk.Pages)-1))
	slices.Sort(whole)
	return whole
}

// putRight puts a pair into a tree of these pairs, and holds the promise: it is there, all else stays, and the old tree stays as it was. A tree that is right stays right; one that is not, as its leaves are at several depths, has them so still.
func putRight(t *testing.T, name string, w impl.Work, root int, pairs []impl.Pair, key, val string) (impl.Work, int, []impl.Pair) {
	t.Helper()
	old, _ := impl.PagesOf(w.Disk, root)
	out, top, ok := putKey(t, name, w, root, key, val)
	if !ok {
		t.Fatalf("%s: %q is not put", name, key)
	}
	want := withKey(pairs, key, val)
	pages, _ := impl.PagesOf(out.Disk, top)
	told(t, name, out.Disk, top, want, pages, impl.TreeOk(w.Disk, root))
	for _, p := range want {
		found(t, out.Disk, top, p.Key, p.Val)
		notFound(t, out.Disk, top, p.Key+"~")
	}
	for page := range w.Disk.Pages {
		given := slices.Contains(w.Usable, page) || page >= w.Next
		again := slices.Contains(w.Fresh, page) && slices.Contains(old, page)
		if !given && !again && impl.ReadPage(out.Disk, page) != impl.ReadPage(w.Disk, page) {
			t.Errorf("%s: page %d is written over", name, page)
		}
	}
	if !slices.Equal(out.Disk.Pages, w.Disk.Pages) || !slices.Equal(out.Disk.Late[:len(w.Disk.Late)], w.Disk.Late) {
		t.Errorf("%s: what was written is another one", name)
	}
	if !slices.Equal(roomOf(t, out, top), roomOf(t, w, root)) || !slices.IsSorted(out.Usable) {
		t.Errorf("%s: pages are lost, or in two places: %v, not %v", name, roomOf(t, out, top), roomOf(t, w, root))
	}
	for _, page := range pages {
		if !slices.Contains(old, page) && !slices.Contains(out.Fresh, page) {
			t.Errorf("%s: page %d is new and not Fresh", name, page)
		}
	}
	if t.Failed() {
		t.FailNow()
	}
	return out, top, want
}

// oldStays holds that the tree is still there as it was, in the work behind a put.
func oldStays(t *testing.T, name string, g tree, out impl.Work) {
	t.Helper()
	told(t, name+": the old tree", out.Disk, g.root, g.pairs, g.pages, true)
	for _, page := range g.pages {
		if impl.ReadPage(out.Disk, page) != impl.ReadPage(g.disk, page) {
			t.Errorf("%s: page %d of the old tree is another one", name, page)
		}
	}
}

// free40 are the pages behind 2 that a tree does not have.
func free40(g tree) []int {
	list := []int{}
	for page := 2; page < impl.MaxPages; page++ {
		if !slices.Contains(g.pages, page) {
			list = append(list, page)
		}
	}
	return list
}

// inWork is a tree of which no page is Fresh, and a work in which all other pages may be given.
func inWork(g tree) impl.Work {
	return work(g.disk, impl.MaxPages, free40(g), nil, nil)
}

// gapsOf are keys less than all, between each two, the same ones, and above them all.
func gapsOf(g tree) []string {
	keys := []string{"", "k", "z"}
	for _, p := range g.pairs {
		keys = append(keys, p.Key, p.Key+"!")
	}
	return keys
}

func TestPutIntoRoot0(t *testing.T) {
	w := impl.WorkNew(withLate(), meta(5, 0, 4, free(5, 3)), 5)
	one := leaf([]string{"k"}, []string{"v"})
	got, root, ok := impl.PutKey(w, 0, "k", "v")
	if root != 3 || !ok {
		t.Fatalf("root %d, %v", root, ok)
	}
	isWork(t, "to a usable page", got, work(write(t, withLate(), 3, nodeText(t, one)), 4, nil, nil, []int{3}))
	told(t, "a leaf", got.Disk, root, []impl.Pair{pair("k", "v")}, []int{3}, true)
	w.Usable = nil
	got, root, ok = impl.PutKey(w, 0, "k", "v")
	if root != 4 || !ok {
		t.Fatalf("root %d, %v", root, ok)
	}
	isWork(t, "to a new page", got, work(write(t, withLate(), 4, nodeText(t, one)), 5, nil, nil, []int{4}))
	// Root 0 is nothing, whatever page 0 tells.
	d := pagesWith(t, map[int]impl.Node{0: oneOf("a")})
	got, root, ok = impl.PutKey(work(d, 3, nil, nil, nil), 0, "k", "v")
	if root != 3 || !ok {
		t.Fatalf("root %d, %v", root, ok)
	}
	told(t, "page 0 is no tree", got.Disk, root, []impl.Pair{pair("k", "v")}, []int{3}, true)
}

func TestPutTextsOfAnyLength(t *testing.T) {
	w := impl.WorkNew(newDisk(t, 30), meta(0, 0, 2), 0)
	_, base, _ := impl.PutKey(w, 0, "m", "old")
	texts := []string{"", "\x00", "\x00\x00", "m", "\xff", strings.Repeat("a", 23), strings.Repeat("a", 24), strings.Repeat("\xff", 24)}
	long := []string{strings.Repeat("a", 25), strings.Repeat("\x00", 25), strings.Repeat("\xff", 25), strings.Repeat("a", 1000), strings.Repeat("a", impl.MaxText+1)}
	for _, root := range []int{0, base} {
		start, pairs := w, []impl.Pair{}
		if root != 0 {
			start, _, _ = impl.PutKey(w, 0, "m", "old")
			pairs = append(pairs, pair("m", "old"))
		}
		for _, key := range texts {
			for _, val := range texts {
				putRight(t, "texts", start, root, pairs, key, val)
			}
		}
		for _, wrong := range long {
			for _, right := range append(texts, long...) {
				for _, p := range []impl.Pair{pair(wrong, right), pair(right, wrong)} {
					if got, top, ok := impl.PutKey(start, root, p.Key, p.Val); ok || top != root || !sameWork(got, start) {
						t.Errorf("root %d: a key of %d bytes, a val of %d: %d, %v", root, len(p.Key), len(p.Val), top, ok)
					}
				}
			}
		}
	}
}

// Four of the longest pairs, and four of the longest Keys above, fill a page.
func TestPutLongTexts(t *testing.T) {
	w, root, pairs := impl.WorkNew(newDisk(t, impl.MaxPages), meta(0, 0, 2), 0), 0, []impl.Pair{}
	for at := range 30 {
		key := strings.Repeat("k", 22) + strconv.Itoa(10+at*7%30)
		w, root, pairs = putRight(t, "long texts", w, root, pairs, key, strings.Repeat("v", 24))
	}
}

// ordersOf are rows of the same n keys: up, down, from both ends, from the midst, and mixed.
func ordersOf(n int) map[string][]int {
	up := span(0, n-1)
	down := slices.Clone(up)
	slices.Reverse(down)
	ends, midst := []int{}, []int{}
	for at := range n {
		if at%2 == 0 {
			ends = append(ends, at/2)
		} else {
			ends = append(ends, n-1-at/2)
		}
	}
	for at := n - 1; at >= 0; at-- {
		midst = append(midst, ends[at])
	}
	orders := map[string][]int{"up": up, "down": down, "from the ends": ends, "from the midst": midst}
	for _, by := range []int{7, 11, 17, 23} {
		mixed := []int{}
		for at := range n {
			mixed = append(mixed, (at*by+by/2)%n)
		}
		orders["by "+strconv.Itoa(by)] = mixed
	}
	return orders
}

// Pairs one by one, till there is no page: each is there then, and all of them in order.
func TestPutOneByOne(t *testing.T) {
	for name, order := range ordersOf(100) {
		w, root, pairs := impl.WorkNew(newDisk(t, impl.MaxPages), meta(0, 0, 2), 0), 0, []impl.Pair{}
		for at, n := range order {
			w.Disk = impl.SyncDisk(w.Disk)
			key, val := "k"+strconv.Itoa(100+n), "v"+strconv.Itoa(at)
			if _, _, ok := putKey(t, name, w, root, key, val); !ok {
				break
			}
			w, root, pairs = putRight(t, name, w, root, pairs, key, val)
			pages, _ := impl.PagesOf(w.Disk, root)
			slices.Sort(w.Fresh)
			if !slices.Equal(w.Fresh, pages) || len(w.Gone) != 0 {
				t.Fatalf("%s: Fresh %v, Gone %v of the pages %v", name, w.Fresh, w.Gone, pages)
			}
			for _, later := range order[at+1:] {
				notFound(t, w.Disk, root, "k"+strconv.Itoa(100+later))
			}
		}
		if len(pairs) < 40 {
			t.Errorf("%s: there is room for %d pairs alone", name, len(pairs))
		}
		// What is there is still put, with another Val, as long as a page is left.
		for _, p := range pairs {
			w.Disk = impl.SyncDisk(w.Disk)
			if out, top, ok := putKey(t, name, w, root, p.Key, p.Val+"!"); ok {
				putRight(t, name, w, root, pairs, p.Key, p.Val+"!")
				w, root, pairs = out, top, withKey(pairs, p.Key, p.Val+"!")
			}
		}
	}
}

// Every order of seven keys.
func TestPutInEveryOrder(t *testing.T) {
	var step func(w impl.Work, root int, pairs []impl.Pair, left string)
	step = func(w impl.Work, root int, pairs []impl.Pair, left string) {
		for at := range len(left) {
			out, top, all := putRight(t, "an order", w, root, pairs, left[at:at+1], left)
			step(out, top, all, left[:at]+left[at+1:])
		}
	}
	step(impl.WorkNew(newDisk(t, 12), meta(0, 0, 2), 0), 0, nil, "abcdefg")
}

// Each key that there is, and each between two, ahead of all and above all, into trees of one level to five.
func TestPutIntoGrownTrees(t *testing.T) {
	for _, g := range grownTrees(t) {
		for _, kept := range []bool{false, true} {
			if kept {
				g.disk = impl.SyncDisk(g.disk)
			}
			w := inWork(g)
			for _, key := range gapsOf(g) {
				name := strconv.Itoa(len(g.pairs)) + " pairs, " + key
				out, _, _ := putRight(t, name, w, g.root, g.pairs, key, "new")
				oldStays(t, name, g, out)
				way := wayTo(g.disk, g.root, max(key, g.pairs[0].Key))
				slices.Reverse(way)
				if !slices.Equal(out.Gone, way) {
					t.Errorf("%s: Gone are %v, not %v", name, out.Gone, way)
				}
			}
		}
	}
}

// Three puts behind one another into a tree whose nodes are all full: what is Fresh by the first one is given again.
func TestPutRowsIntoFullTrees(t *testing.T) {
	g := grow(t, pairsOf(16), impl.Fan, span(2, 39))
	g.disk = impl.SyncDisk(g.disk)
	keys := []string{"", "a"}
	for _, p := range g.pairs {
		keys = append(keys, p.Key+"!")
	}
	for _, first := range keys {
		one, top, pairs := putRight(t, "first", inWork(g), g.root, g.pairs, first, "1")
		for _, second := range append(keys, "k105", "k106") {
			two, above, both := putRight(t, "second", one, top, pairs, second, "2")
			for _, third := range []string{"", "k107", "k107!", "k111!!", "z"} {
				out, _, _ := putRight(t, "third", two, above, both, third, "3")
				oldStays(t, "three puts", g, out)
			}
		}
	}
}

// A leaf of three becomes one of four, with the key in each place; the page behind it is not touched.
func TestPutPlaces(t *testing.T) {
	d := pagesWith(t, map[int]impl.Node{2: leaf([]string{"b", "d", "f"}, []string{"1", "2", "3"})})
	for key, want := range map[string]impl.Node{
		"":       leaf([]string{"", "b", "d", "f"}, []string{"x", "1", "2", "3"}),
		"a":      leaf([]string{"a", "b", "d", "f"}, []string{"x", "1", "2", "3"}),
		"b":      leaf([]string{"b", "d", "f"}, []string{"x", "2", "3"}),
		"b\x00":  leaf([]string{"b", "b\x00", "d", "f"}, []string{"1", "x", "2", "3"}),
		"c":      leaf([]string{"b", "c", "d", "f"}, []string{"1", "x", "2", "3"}),
		"d":      leaf([]string{"b", "d", "f"}, []string{"1", "x", "3"}),
		"e":      leaf([]string{"b", "d", "e", "f"}, []string{"1", "2", "x", "3"}),
		"f":      leaf([]string{"b", "d", "f"}, []string{"1", "2", "x"}),
		"g":      leaf([]string{"b", "d", "f", "g"}, []string{"1", "2", "3", "x"}),
		"\xff":   leaf([]string{"b", "d", "f", "\xff"}, []string{"1", "2", "3", "x"}),
		"dd\xff": leaf([]string{"b", "d", "dd\xff", "f"}, []string{"1", "2", "x", "3"}),
	} {
		for _, fresh := range [][]int{nil, {2}} {
			w := work(d, 3, nil, []int{9}, fresh)
			want := work(write(t, d, 3, nodeText(t, want)), 4, nil, []int{9, 2}, []int{3})
			if fresh != nil {
				want.Usable, want.Gone = []int{2}, []int{9}
			}
			got, root, ok := impl.PutKey(w, 2, key, "x")
			if root != 3 || !ok {
				t.Errorf("%q: root %d, %v", key, root, ok)
			}
			isWork(t, key, got, want)
		}
	}
}

// A leaf of Fan becomes two, of 3 and of 2, with a new root above; the old page is gone, or given to the new root.
func TestPutSplitsALeaf(t *testing.T) {
	d := pagesWith(t, map[int]impl.Node{2: leaf([]string{"b", "d", "f", "h"}, []string{"1", "2", "3", "4"})})
	for key, c := range map[string]struct{ first, second impl.Node }{
		"a": {leaf([]string{"a", "b", "d"}, []string{"x", "1", "2"}), leaf([]string{"f", "h"}, []string{"3", "4"})},
		"c": {leaf([]string{"b", "c", "d"}, []string{"1", "x", "2"}), leaf([]string{"f", "h"}, []string{"3", "4"})},
		"e": {leaf([]string{"b", "d", "e"}, []string{"1", "2", "x"}), leaf([]string{"f", "h"}, []string{"3", "4"})},
		"g": {leaf([]string{"b", "d", "f"}, []string{"1", "2", "3"}), leaf([]string{"g", "h"}, []string{"x", "4"})},
		"i": {leaf([]string{"b", "d", "f"}, []string{"1", "2", "3"}), leaf([]string{"h", "i"}, []string{"4", "x"})},
	} {
		top := branch([]string{c.first.Keys[0], c.second.Keys[0]}, 3, 4)
		halves := write(t, write(t, d, 3, nodeText(t, c.first)), 4, nodeText(t, c.second))
		got, root, ok := impl.PutKey(work(d, 3, nil, nil, nil), 2, key, "x")
		if root != 5 || !ok {
			t.Errorf("%q: root %d, %v", key, root, ok)
		}
		isWork(t, key, got, work(write(t, halves, 5, nodeText(t, top)), 6, nil, []int{2}, []int{3, 4, 5}))
		got, root, ok = impl.PutKey(work(d, 3, nil, nil, []int{2}), 2, key, "x")
		if root != 2 || !ok {
			t.Errorf("%q, Fresh: root %d, %v", key, root, ok)
		}
		isWork(t, key+", Fresh", got, work(write(t, halves, 2, nodeText(t, top)), 5, nil, nil, []int{3, 4, 2}))
	}
	// A Val in the place of another one makes no more of them.
	for _, key := range []string{"b", "d", "f", "h"} {
		got, root, ok := impl.PutKey(work(d, 3, nil, nil, nil), 2, key, "x")
		if n, _ := impl.ReadNode(impl.ReadPage(got.Disk, root)); root != 3 || !ok || len(n.Vals) != 4 || n.Vals[impl.PlaceOf(n, key)] != "x" {
			t.Errorf("%q: root %d, %v, %+v", key, root, ok, n)
		}
	}
}

// nodeAt is what a page tells now.
func nodeAt(t *testing.T, w impl.Work, page int) impl.Node {
	t.Helper()
	n, ok := impl.ReadNode(impl.ReadPage(w.Disk, page))
	if !ok {
		t.Fatalf("page %d is no node", page)
	}
	return n
}

// A node above of Fan Kids becomes two, of 3 and of 2, wherever the two halves of its Kid come to stand.
func TestPutSplitsANodeAbove(t *testing.T) {
	d := pagesWith(t, map[int]impl.Node{
		2: leaf([]string{"b1", "b2", "b3", "b4"}, make([]string, 4)), 3: leaf([]string{"c1", "c2", "c3", "c4"}, make([]string, 4)),
		4: leaf([]string{"d1", "d2", "d3", "d4"}, make([]string, 4)), 5: leaf([]string{"e1", "e2", "e3", "e4"}, make([]string, 4)),
		6: branch([]string{"b", "c", "d", "e"}, 2, 3, 4, 5),
	})
	for key, c := range map[string]struct{ first, second impl.Node }{
		"a":  {branch([]string{"a", "b3", "c"}, 7, 8, 3), branch([]string{"d", "e"}, 4, 5)},
		"b":  {branch([]string{"b", "b3", "c"}, 7, 8, 3), branch([]string{"d", "e"}, 4, 5)},
		"b5": {branch([]string{"b", "b4", "c"}, 7, 8, 3), branch([]string{"d", "e"}, 4, 5)},
		"c0": {branch([]string{"b", "c", "c3"}, 2, 7, 8), branch([]string{"d", "e"}, 4, 5)},
		"d5": {branch([]string{"b", "c", "d"}, 2, 3, 7), branch([]string{"d4", "e"}, 8, 5)},
		"z":  {branch([]string{"b", "c", "d"}, 2, 3, 4), branch([]string{"e", "e4"}, 7, 8)},
	} {
		got, root, ok := impl.PutKey(work(d, 7, nil, nil, nil), 6, key, "x")
		if root != 11 || !ok {
			t.Fatalf("%q: root %d, %v", key, root, ok)
		}
		if !sameNode(nodeAt(t, got, 9), c.first) || !sameNode(nodeAt(t, got, 10), c.second) {
			t.Errorf("%q: %+v and %+v", key, nodeAt(t, got, 9), nodeAt(t, got, 10))
		}
		if want := branch([]string{c.first.Keys[0], c.second.Keys[0]}, 9, 10); !sameNode(nodeAt(t, got, 11), want) {
			t.Errorf("%q: the root is %+v, not %+v", key, nodeAt(t, got, 11), want)
		}
		kid := slices.IndexFunc([]string{"b", "c", "d", "e"}, func(k string) bool { return k[0] == max(key[0], 'b') }) + 2
		if kid < 2 {
			kid = 5
		}
		if !slices.Equal(got.Fresh, span(7, 11)) || !slices.Equal(got.Gone, []int{kid, 6}) || got.Next != 12 || len(got.Usable) != 0 {
			t.Errorf("%q: %v Fresh, %v Gone", key, got.Fresh, got.Gone)
		}
	}
}

// A Kid's Key is the lesser of what it was and the first Key below, at each level of the way.
func TestPutKeysOfKids(t *testing.T) {
	d := pagesWith(t, map[int]impl.Node{
		2: oneOf("c"), 3: oneOf("f"), 4: oneOf("m"), 5: oneOf("p"),
		6: branch([]string{"b", "e"}, 2, 3), 7: branch([]string{"l", "o"}, 4, 5), 8: branch([]string{"a", "j"}, 6, 7),
	})
	for key, want := range map[string][]string{
		"":  {"", "j", "", "e"},
		"A": {"A", "j", "A", "e"},
		"a": {"a", "j", "a", "e"}, // less than the Keys of the node below, not than those of the root
		"b": {"a", "j", "b", "e"},
		"c": {"a", "j", "b", "e"},
		"d": {"a", "j", "b", "e"},
		"e": {"a", "j", "b", "e"}, // less than the leaf's, not than that of the Kid
		"i": {"a", "j", "b", "e"},
		"j": {"a", "j", "j", "o"},
		"k": {"a", "j", "k", "o"},
		"l": {"a", "j", "l", "o"},
		"n": {"a", "j", "l", "o"},
		"o": {"a", "j", "l", "o"},
		"z": {"a", "j", "l", "o"},
	} {
		w := work(d, 9, nil, nil, nil)
		pairs, _ := impl.AllPairs(d, 8)
		got, root, _ := putRight(t, key, w, 8, pairs, key, "x")
		top := nodeAt(t, got, root)
		at := max(impl.PlaceOf(top, key), 0)
		if !slices.Equal(slices.Concat(top.Keys, nodeAt(t, got, top.Kids[at]).Keys), want) {
			t.Errorf("%q: the Keys are %q, and %q below", key, top.Keys, nodeAt(t, got, top.Kids[at]).Keys)
		}
		if other := nodeAt(t, got, top.Kids[1-at]); !sameNode(other, nodeAt(t, w, 7-at)) {
			t.Errorf("%q: the other Kid is %+v", key, other)
		}
	}
}

// A key that is less than all that is there, again and again.
func TestPutAheadOfAll(t *testing.T) {
	for _, g := range grownTrees(t) {
		// Eleven more must find room.
		if len(g.pairs) > 17 {
			continue
		}
		w, root, pairs := inWork(g), g.root, g.pairs
		for _, key := range []string{"k1", "k09", "k0", "k", "j", "b", "a\x00", "a", "\x00\x00", "\x00", ""} {
			w, root, pairs = putRight(t, "ahead of all", w, root, pairs, key, "v"+key)
			if n := nodeAt(t, w, root); n.Keys[0] != key {
				t.Errorf("the first Key of the root is %q, not %q", n.Keys[0], key)
			}
		}
		oldStays(t, "ahead of all", g, w)
	}
}

// A second put takes what the first one made: the Fresh pages on its way are usable again, those that are not Fresh are gone.
func TestPutTwice(t *testing.T) {
	d := pagesWith(t, map[int]impl.Node{2: oneOf("b"), 3: oneOf("m"), 4: branch([]string{"b", "m"}, 2, 3)})
	w, root, ok := impl.PutKey(work(d, 5, nil, nil, nil), 4, "c", "1")
	if root != 6 || !ok || !slices.Equal(w.Fresh, []int{5, 6}) || !slices.Equal(w.Gone, []int{2, 4}) || len(w.Usable) != 0 {
		t.Fatalf("first: root %d, %v, %+v", root, ok, w)
	}
	same, top, ok := impl.PutKey(w, root, "d", "2")
	if top != 5 || !ok || !slices.Equal(same.Fresh, []int{7, 5}) || !slices.Equal(same.Gone, []int{2, 4}) || !slices.Equal(same.Usable, []int{6}) {
		t.Fatalf("the same way: root %d, %v, %+v", top, ok, same)
	}
	other, top, ok := impl.PutKey(w, root, "n", "2")
	if top != 8 || !ok || !slices.Equal(other.Fresh, []int{5, 7, 8}) || !slices.Equal(other.Gone, []int{2, 4, 3}) || !slices.Equal(other.Usable, []int{6}) {
		t.Fatalf("another way: root %d, %v, %+v", top, ok, other)
	}
	found(t, same.Disk, 5, "d", "2")
	found(t, other.Disk, 8, "n", "2")
	found(t, other.Disk, 4, "b", "b")
	notFound(t, other.Disk, 4, "c", "d", "n")
}

// With all of its way Fresh, a pair needs but one more page; with none, as many as are put.
func TestPutWithOnePage(t *testing.T) {
	g := grow(t, pairsOf(30), 2, span(2, 39))
	g.disk = impl.SyncDisk(g.disk)
	g.pairs[7].Val = "new"
	for _, spare := range []int{0, 1, 2, 3, 4, 5} {
		for fresh, enough := range map[bool]int{true: 1, false: 5} {
			w := work(g.disk, impl.MaxPages, span(40, 39), nil, nil)
			w.Usable = free40(g)[:spare]
			if fresh {
				w.Fresh = slices.Clone(g.pages)
			}
			got, _, ok := putKey(t, "one page", w, g.root, "k107", "new")
			if ok != (spare >= enough) {
				t.Errorf("%d pages, Fresh %v: %v", spare, fresh, ok)
			}
			if ok && fresh && len(got.Usable) != spare {
				t.Errorf("%d pages, Fresh: %v are usable", spare, got.Usable)
			}
		}
	}
}

// lateUp is the disk with so many more Late ahead of what is Late, to page 1.
func lateUp(d impl.Disk, more int) impl.Disk {
	out := ownDisk(d)
	out.Late = append(slices.Repeat([]impl.Put{{Page: 1, Text: "x"}}, more), out.Late...)
	return out
}

// Just as many pages as are needed, and each number below that: usable ones, new ones, and those that may still be Late.
func TestPutWithTooFewPages(t *testing.T) {
	for _, g := range []tree{grow(t, pairsOf(3), 4, span(2, 39)), grow(t, pairsOf(4), 4, span(2, 39)), grow(t, pairsOf(16), 4, span(2, 39)), grow(t, pairsOf(64), 4, span(2, 39)), grow(t, pairsOf(27), 3, span(2, 39)), grow(t, pairsOf(16), 2, span(2, 39))} {
		g.disk = impl.SyncDisk(g.disk)
		for _, key := range []string{"", "k102", "k102!", "z"} {
			all, _, _ := plainPutKey(inWork(g), g.root, key, "v")
			need := len(all.Fresh)
			for some := range need + 2 {
				checkFew := func(name string, w impl.Work) {
					t.Helper()
					if _, _, ok := putKey(t, name, w, g.root, key, "v"); ok != (some >= need) {
						t.Errorf("%s: %d of %d: %v", name, some, need, ok)
					}
				}
				checkFew("usable", work(g.disk, impl.MaxPages, free40(g)[:some], []int{1}, nil))
				small := ownDisk(g.disk)
				small.Pages = small.Pages[:len(g.pages)+2+some]
				if len(small.Pages) >= 4 {
					checkFew("new ones", work(small, len(g.pages)+2, nil, []int{1}, nil))
				}
				if some > 0 && len(small.Pages) >= 5 {
					checkFew("both", work(small, len(g.pages)+3, []int{len(g.pages) + 2}, []int{1}, nil))
				}
				checkFew("Late", work(lateUp(g.disk, maxLate-some), impl.MaxPages, free40(g), []int{1}, nil))
			}
		}
	}
	for _, key := range []string{"", "k", strings.Repeat("k", 24)} {
		w := work(named(9), 9, nil, []int{2, 3}, []int{8, 4})
		if got, root, ok := impl.PutKey(w, 0, key, "v"); root != 0 || ok || !sameWork(got, w) {
			t.Errorf("no page for root 0: %d, %v", root, ok)
		}
	}
}

// Each choice of pages of the way that are Fresh, with each number of pages that are left.
func TestPutWithSomeFresh(t *testing.T) {
	for _, g := range []tree{grow(t, pairsOf(16), 4, span(2, 39)), grow(t, pairsOf(64), 4, span(2, 39)), grow(t, pairsOf(16), 2, span(2, 39)), grow(t, pairsOf(14), 3, span(2, 39))} {
		g.disk = impl.SyncDisk(g.disk)
		for _, key := range []string{"", "k103", "k103!", "k109!", "z"} {
			way := wayTo(g.disk, g.root, max(key, g.pairs[0].Key))
			for mask := range 1 << len(way) {
				for some := range 8 {
					w := work(g.disk, impl.MaxPages, free40(g)[:some], []int{1}, []int{0})
					for at, is := range bits(mask, len(way)) {
						if is {
							w.Fresh = append(w.Fresh, way[at])
						}
					}
					if _, _, ok := putKey(t, "some Fresh", w, g.root, key, "v"); ok {
						putRight(t, "some Fresh", w, g.root, g.pairs, key, "v")
					}
				}
			}
		}
	}
}

// deepWay is a way of so many levels, by the first Kids or by the last ones, of which the lowest are full; its leaf is page 2, its root the last page that is written. The Kids beside the way are no nodes: nobody looks at them.
func deepWay(t *testing.T, levels, full int, first bool) (impl.Disk, int) {
	t.Helper()
	d := newDisk(t, impl.MaxPages)
	for up := range levels {
		n := leaf([]string{"m1", "m2", "m3", "m4"}, []string{"1", "2", "3", "4"})
		if up > 0 && first {
			beside := string(rune('n' + up))
			n = branch([]string{"m", beside + "1", beside + "2", beside + "3"}, up+1, 37, 38, 39)
		} else if up > 0 {
			beside := string(rune('a' + levels - up))
			n = branch([]string{beside + "1", beside + "2", beside + "3", beside + "4"}, 37, 38, 39, up+1)
		}
		if up >= full && first {
			n = nodeOf(n.Leaf, entriesOf(n)[:3])
		} else if up >= full {
			n = nodeOf(n.Leaf, entriesOf(n)[1:])
		}
		d = write(t, d, up+2, nodeText(t, n))
	}
	return impl.SyncDisk(d), levels + 1
}

// A tree of MaxDeep levels is put into as long as its root is not two.
func TestPutMaxDeep(t *testing.T) {
	for levels := 1; levels <= impl.MaxDeep+2; levels++ {
		for full := range levels + 1 {
			for _, first := range []bool{true, false} {
				d, root := deepWay(t, levels, full, first)
				name := strconv.Itoa(full) + " full of " + strconv.Itoa(levels)
				w := work(d, levels+2, nil, nil, nil)
				out, top, ok := putKey(t, name, w, root, "m21", "x")
				if ok != (levels < impl.MaxDeep || levels == impl.MaxDeep && full < levels) {
					t.Errorf("%s: %v", name, ok)
				}
				if ok {
					found(t, out.Disk, top, "m21", "x")
					found(t, out.Disk, top, "m3", "3")
					found(t, d, root, "m3", "3")
					notFound(t, d, root, "m21")
				}
				out, top, ok = putKey(t, name, w, root, "m2", "x")
				if ok != (levels <= impl.MaxDeep) {
					t.Errorf("%s, another Val: %v", name, ok)
				}
				if ok {
					found(t, out.Disk, top, "m2", "x")
					notFound(t, out.Disk, top, "m21")
				}
				putKey(t, name, w, root, "", "x")
				putKey(t, name, w, root, "z", "x")
			}
		}
	}
	for levels := 1; levels <= impl.MaxDeep+2; levels++ {
		d, root := chain(t, levels)
		w := work(d, 12, nil, nil, nil)
		w.Disk.Pages = append(w.Disk.Pages, make([]string, 20)...)
		for _, key := range []string{"", "a", "k", "z"} {
			if _, _, ok := putKey(t, "a chain", w, root, key, "x"); ok != (levels <= impl.MaxDeep) {
				t.Errorf("%d levels, %q: %v", levels, key, ok)
			}
			if levels <= impl.MaxDeep {
				putRight(t, "a chain", w, root, []impl.Pair{pair("k", "k")}, key, "x")
			}
		}
	}
}

// unevenTree is a root of so many Kids, which are leaves of two pairs; but the one at the place full has Fan of them, and that at the place deep hangs so far down that the tree has so many levels.
func unevenTree(t *testing.T, kids, full, deep, levels int) (impl.Work, int, []impl.Pair) {
	t.Helper()
	w, pairs, root := work(newDisk(t, impl.MaxPages), 2, nil, nil, nil), []impl.Pair{}, impl.Node{}
	for at := range kids {
		n := impl.Node{Leaf: true}
		for more := range 4 {
			if more < 2 || at == full {
				n.Keys, n.Vals = append(n.Keys, string(rune('b'+2*at))+strconv.Itoa(2*more)), append(n.Vals, strconv.Itoa(at))
				pairs = append(pairs, pair(n.Keys[more], n.Vals[more]))
			}
		}
		key, page := n.Keys[0], 0
		w, page = impl.PutNode(w, n)
		for range levels - 2 {
			if at == deep {
				w, page = impl.PutNode(w, branch([]string{key}, page))
			}
		}
		root.Keys, root.Kids = append(root.Keys, key), append(root.Kids, page)
	}
	w, page := impl.PutNode(w, root)
	return work(impl.SyncDisk(w.Disk), w.Next, nil, nil, nil), page, pairs
}

// Where leaves are not at one depth, a new root puts down those beside the way, too: the deepest one counts, whichever Kid it is below. Without a new root nothing comes to be deeper.
func TestPutDeepBesideTheWay(t *testing.T) {
	for levels := 2; levels <= impl.MaxDeep+2; levels++ {
		for row := range 3 * 4 * 4 {
			kids, full, deep := 2+row%3, row/3%4, row/12
			if full >= kids || deep >= kids || full == deep {
				continue
			}
			w, root, pairs := unevenTree(t, kids, full, deep, levels)
			for at := range kids {
				for key, more := range map[string]bool{"0": false, "1": true, "2": at != full, "9": true} {
					key = string(rune('b'+2*at)) + key
					name := strconv.Itoa(levels) + " levels, " + strconv.Itoa(full) + " full, " + strconv.Itoa(deep) + " deep, " + key
					now := levels
					if kids == impl.Fan && at == full && more {
						now++
					}
					out, _, ok := putKey(t, name, w, root, key, "new")
					if ok != (now <= impl.MaxDeep) {
						t.Fatalf("%s: PutKey = %v", name, ok)
					}
					if ok {
						putRight(t, name, w, root, pairs, key, "new")
						told(t, name+": the old tree", out.Disk, root, pairs, span(2, w.Next-1), levels == 2)
					}
				}
			}
		}
	}
}

// drawn answers numbers below n that a rule draws.
func drawn(seed int) func(n int) int {
	draw := uint32(seed + 1)
	return func(n int) int {
		draw = draw*1664525 + 1013904223
		return int(draw>>16) % n
	}
}

// drawTree is a tree of at most so many pages, whose leaves are at any depth down to most, with Keys above that are the least below, or less.
func drawTree(t *testing.T, next func(n int) int, most, pages int) (impl.Work, int, []impl.Pair) {
	t.Helper()
	w, pairs := work(newDisk(t, impl.MaxPages), 2, nil, nil, nil), []impl.Pair{}
	put := func(n impl.Node) int {
		out, page := impl.PutNode(w, n)
		if page == 0 {
			t.Fatalf("no page for %+v", n)
		}
		w = out
		return page
	}
	// Full ones are drawn often, and the root is so, that it becomes two now and then.
	size := func() int { return min(1+next(6), 4) }
	var below func(level, room int) (string, int)
	below = func(level, room int) (string, int) {
		if level == most || room == 1 {
			n := impl.Node{Leaf: true}
			for range size() {
				n.Keys, n.Vals = append(n.Keys, "k"+strconv.Itoa(100+len(pairs))), append(n.Vals, "v")
				pairs = append(pairs, pair(n.Keys[len(n.Keys)-1], "v"))
			}
			return n.Keys[0], put(n)
		}
		n := impl.Node{}
		kids := min(1+next(2), room-1)
		if level == 1 {
			kids = min(impl.Fan, room-1)
		}
		more := room - 1 - kids
		for range kids {
			less := string(rune('!' + level))
			if len(pairs) > 0 {
				less = pairs[len(pairs)-1].Key + less
			}
			part := more
			if next(3) > 0 {
				part = next(more/2 + 1)
			}
			more -= part
			key, page := below(level+1, 1+part)
			if next(3) == 0 {
				key = less
			}
			n.Keys, n.Kids = append(n.Keys, key), append(n.Kids, page)
		}
		return n.Keys[0], put(n)
	}
	_, root := below(1, pages)
	return work(impl.SyncDisk(w.Disk), w.Next, nil, nil, nil), root, pairs
}

// Drawn trees of any shape down to nine levels: where AllPairs was true, it is so behind a put, with all that was there.
func TestPutIntoDrawnTrees(t *testing.T) {
	refused, told := 0, 0
	for seed := range 150 {
		w, root, pairs := drawTree(t, drawn(seed), 7+seed%3, 21)
		whole, right := impl.AllPairs(w.Disk, root)
		if right && !slices.Equal(whole, pairs) {
			t.Fatalf("seed %d: %q, not %q", seed, whole, pairs)
		}
		for at, p := range append(pairs, pair("", ""), pair("z", "")) {
			for _, key := range []string{p.Key + "}", p.Key}[:1+at%2] {
				_, _, ok := putKey(t, "a drawn tree", w, root, key, "new")
				if ok && !right {
					t.Fatalf("seed %d: %q is put into a tree that is too deep", seed, key)
				}
				if right && !ok {
					refused++
				}
				if ok {
					putRight(t, "a drawn tree", w, root, pairs, key, "new")
					told++
				}
			}
		}
	}
	if refused < 20 || told < 500 {
		t.Errorf("%d are refused that would be too deep, %d are put", refused, told)
	}
}

// refusesPut holds that nothing is put, and all is as it was.
func refusesPut(t *testing.T, name string, w impl.Work, root int, keys ...string) {
	t.Helper()
	for _, key := range keys {
		got, top, ok := impl.PutKey(w, root, key, "v")
		if ok || top != root {
			t.Errorf("%s: PutKey(%d, %q) = %d, %v", name, root, key, top, ok)
		}
		isWork(t, name, got, w)
	}
}

// Roots that the disk does not have, and those whose page tells no node.
func TestPutIntoRootsThatAreNone(t *testing.T) {
	g := grow(t, pairsOf(9), 4, span(2, 10))
	for _, w := range []impl.Work{inWork(g), work(g.disk, 12, nil, []int{3}, []int{4}), work(g.disk, 40, nil, nil, nil)} {
		for _, root := range []int{-1, -2, math.MinInt, impl.MaxPages, impl.MaxPages + 1, math.MaxInt, 1, 38, 39} {
			refusesPut(t, "no root", w, root, "", "k100", "z")
		}
	}
}

// A page that is no node, wherever it stands: just those keys are refused whose way goes over it.
func TestPutOverAPageThatIsNoNode(t *testing.T) {
	for _, g := range []tree{grow(t, pairsOf(3), 4, span(2, 39)), grow(t, pairsOf(13), 4, span(2, 39)), grow(t, pairsOf(27), 3, span(2, 39)), grow(t, pairsOf(16), 2, span(2, 39))} {
		g.disk = impl.SyncDisk(g.disk)
		for _, page := range g.pages {
			for name, text := range spoilt(t, impl.ReadPage(g.disk, page)) {
				w := inWork(g)
				w.Disk = write(t, g.disk, page, text)
				for _, p := range g.pairs {
					for _, key := range []string{p.Key, p.Key + "!"} {
						_, _, ok := putKey(t, name, w, g.root, key, "v")
						if over := slices.Contains(wayTo(g.disk, g.root, key), page); ok == over {
							t.Errorf("%s at page %d: PutKey(%q) = %v", name, page, key, ok)
						}
					}
				}
				if slices.Contains(wayTo(g.disk, g.root, g.pairs[0].Key), page) {
					refusesPut(t, name, w, g.root, "", "k")
				}
			}
		}
	}
	d := impl.Disk{Pages: make([]string, 4)}
	d.Pages[2], d.Pages[3] = nodeText(t, oneOf("a")), nodeText(t, branch([]string{"a", "b"}, 2, 4))
	refusesPut(t, "a Kid past the disk", work(d, 4, []int{0, 1}, nil, nil), 3, "b", "z")
}

// A tree that comes back to a page of its own, on the way or beside it, is deeper than any tree may be: nothing is put, and putting ends.
func TestPutIntoARound(t *testing.T) {
	for name, nodes := range map[string]map[int]impl.Node{
		"its own kid":      {2: oneOf("a"), 4: branch([]string{"a", "c"}, 2, 4)},
		"a round of two":   {2: oneOf("a"), 3: branch([]string{"c"}, 4), 4: branch([]string{"a", "c"}, 2, 3)},
		"a round of three": {2: oneOf("a"), 3: branch([]string{"c"}, 5), 5: branch([]string{"a"}, 4), 4: branch([]string{"a", "c"}, 2, 3)},
		"below the root":   {2: oneOf("a"), 3: branch([]string{"c"}, 5), 5: branch([]string{"a"}, 3), 4: branch([]string{"a", "c"}, 2, 3)},
		"a kid its own":    {2: oneOf("a"), 3: branch([]string{"c"}, 3), 4: branch([]string{"a", "c"}, 2, 3)},
	} {
		w := work(pagesWith(t, nodes), 6, nil, []int{1}, []int{3})
		for _, key := range []string{"", "a", "b", "c", "cc", "z"} {
			putKey(t, name, w, 4, key, "v")
			refusesPut(t, name, w, 4, key)
		}
	}
	// A page that is come to twice without a round is looked at on the way alone.
	twice := work(pagesWith(t, map[int]impl.Node{2: oneOf("a"), 3: branch([]string{"c"}, 2), 4: branch([]string{"a", "c"}, 2, 3)}), 6, nil, nil, nil)
	out, root, ok := putKey(t, "twice", twice, 4, "b", "x")
	if !ok {
		t.Fatalf("%q is not put, whose way is a right one", "b")
	}
	found(t, out.Disk, root, "b", "x")
	found(t, out.Disk, root, "a", "a")
	first := map[int]impl.Node{3: oneOf("x"), 4: branch([]string{"c", "x"}, 4, 3)}
	refusesPut(t, "at the first Kid", work(pagesWith(t, first), 5, nil, nil, nil), 4, "", "a", "c", "d")
	refusesPut(t, "nothing but itself", work(pagesWith(t, map[int]impl.Node{2: branch([]string{"a"}, 2)}), 5, nil, nil, nil), 2, "", "a", "b")
}

// A work whose disk is not right can't be written, whatever tree it has.
func TestPutIntoWrongDisks(t *testing.T) {
	for name, d := range wrongDisks() {
		for _, root := range []int{0, -1, 1, 2, 4, 5, 39, 40, math.MaxInt, math.MinInt} {
			refusesPut(t, name, work(d, 2, nil, nil, nil), root, "", "a", "z")
			refusesPut(t, name, work(d, 9, []int{2, 3}, []int{4}, []int{3}), root, "", "a", "z")
		}
		if len(d.Pages) > 2 {
			d.Pages[2] = nodeText(t, oneOf("k"))
			refusesPut(t, name+", with a leaf", work(d, 3, []int{3}, nil, nil), 2, "", "k", "z")
		}
	}
	d := pagesWith(t, map[int]impl.Node{2: oneOf("k")})
	for _, page := range []int{-1, math.MinInt, 14, 40, math.MaxInt} {
		refusesPut(t, "a usable page that is not on the disk", work(d, 3, []int{page}, []int{4}, []int{1}), 2, "", "k", "z")
		refusesPut(t, "a usable page that is not on the disk", work(d, 3, []int{page}, []int{4}, []int{1}), 0, "", "k", "z")
	}
	refusesPut(t, "Next below 0", work(d, -1, nil, []int{4}, []int{1}), 2, "", "k", "z")
}

// Works that are not right: a usable page that is in the tree, one that no Kid may be, one that is given twice.
func TestPutIntoWrongWorks(t *testing.T) {
	d := pagesWith(t, map[int]impl.Node{2: oneOf("b"), 3: oneOf("m"), 4: branch([]string{"b", "m"}, 2, 3)})
	for name, usable := range map[string][]int{"the other Kid": {3, 5, 6}, "its own leaf": {2, 5, 6}, "its root": {4, 5, 6}, "page 1": {1, 5, 6}, "page 0": {0, 5, 6}, "page 0 above": {5, 0, 6}, "page 1 above": {5, 1, 6}, "all": {2, 3, 4}} {
		for _, pages := range [][]int{nil, {2, 3, 4}, {4}} {
			fresh := slices.DeleteFunc(slices.Clone(pages), func(page int) bool { return slices.Contains(usable, page) })
			for _, key := range []string{"", "b", "c", "m", "z"} {
				for _, root := range []int{0, 2, 4} {
					putKey(t, name, work(d, 7, usable, []int{9}, fresh), root, key, "v")
				}
			}
		}
	}
}

// Every way to lay some nodes on four pages, with room and with little.
func TestPutIntoEachDisk(t *testing.T) {
	texts := []string{"no node"}
	for _, n := range []impl.Node{
		oneOf("a"), leaf([]string{"b", "d"}, []string{"1", "2"}), leaf([]string{"b", "bb", "d", "e"}, []string{"1", "2", "3", "4"}),
		branch([]string{"a"}, 3), branch([]string{"a", "c"}, 2, 3), branch([]string{"b", "c"}, 3, 4), branch([]string{"c", "d"}, 5, 2), branch([]string{"a", "b", "c", "d"}, 2, 3, 4, 12),
	} {
		texts = append(texts, nodeText(t, n))
	}
	size := len(texts)
	for row := range size * size * size * size {
		d := impl.Disk{Pages: []string{"", "", texts[row%size], texts[row/size%size], texts[row/size/size%size], texts[row/size/size/size], "", "", "", "", "", "", "", ""}}
		for _, key := range []string{"", "b", "c", "z"} {
			putKey(t, "some pages", work(d, 6, nil, nil, nil), 5, key, "v")
			putKey(t, "some pages, Fresh", work(d, 12, []int{7, 9}, nil, []int{5, 2, 3, 4}), 5, key, "v")
		}
	}
}

// A long row of puts, drawn by a rule: now and then all that was put is kept, so that Fresh pages are old ones, and what is gone may be given.
func TestPutLongRow(t *testing.T) {
	for seed := range 6 {
		w, root, pairs := impl.WorkNew(newDisk(t, impl.MaxPages), meta(0, 0, 2), 0), 0, []impl.Pair{}
		next, full := drawn(seed), 0
		for at := 0; at < 400 && full < 3; at++ {
			key, val := strings.Repeat("ab", next(3))+strconv.Itoa(next(30)), strconv.Itoa(at)
			if _, _, ok := putKey(t, "a row", w, root, key, val); ok {
				w, root, pairs = putRight(t, "a row", w, root, pairs, key, val)
			} else {
				told, _ := impl.AllPairs(w.Disk, root)
				if !slices.Equal(told, pairs) {
					t.Fatalf("a put that is refused changes the tree")
				}
				full++
			}
			if next(7) == 0 || len(w.Disk.Late) > 150 {
				back := append(slices.Clone(w.Usable), w.Gone...)
				slices.Sort(back)
				w = work(impl.SyncDisk(w.Disk), w.Next, back, nil, nil)
			}
		}
	}
}

// putCalls are puts into nothing, into trees of one level and of three, and such as are refused.
func putCalls() map[string]func(w impl.Work, root int) (impl.Work, int, bool) {
	put := func(key, val string) func(w impl.Work, root int) (impl.Work, int, bool) {
		return func(w impl.Work, root int) (impl.Work, int, bool) { return impl.PutKey(w, root, key, val) }
	}
	return map[string]func(w impl.Work, root int) (impl.Work, int, bool){
		"ahead of all": put("", "v"),
		"another Val":  put("k103", "v"),
		"between two":  put("k103!", "v"),
		"above all":    put("z", ""),
		"too long":     put(strings.Repeat("k", 25), "v"),
		"Val too long": put("k", strings.Repeat("v", 25)),
		"into nothing": func(w impl.Work, root int) (impl.Work, int, bool) { return impl.PutKey(w, 0, "k", "v") },
		"into no root": func(w impl.Work, root int) (impl.Work, int, bool) { return impl.PutKey(w, -1, "k", "v") },
		"into no node": func(w impl.Work, root int) (impl.Work, int, bool) { return impl.PutKey(w, 1, "k", "v") },
		"one behind it": func(w impl.Work, root int) (impl.Work, int, bool) {
			w, root, _ = impl.PutKey(w, root, "a", "1")
			return impl.PutKey(w, root, "b", "2")
		},
	}
}

// treeWorks are works with trees that are Late and kept, with pages that are usable, gone, Fresh, and too few of them.
func treeWorks(t *testing.T) map[string]struct {
	w    impl.Work
	root int
} {
	list := map[string]struct {
		w    impl.Work
		root int
	}{}
	for name, g := range map[string]tree{"a leaf": grow(t, pairsOf(3), 4, span(2, 39)), "a full leaf": grow(t, pairsOf(4), 4, span(2, 39)), "two levels": grow(t, pairsOf(11), 4, span(2, 39)), "full": grow(t, pairsOf(16), 4, span(2, 39)), "three levels": grow(t, pairsOf(20), 3, span(2, 39))} {
		for late, d := range map[string]impl.Disk{", Late": g.disk, ", kept": impl.SyncDisk(g.disk)} {
			add := func(more string, w impl.Work) {
				list[name+late+more] = struct {
					w    impl.Work
					root int
				}{w, g.root}
			}
			add("", work(d, impl.MaxPages, free40(g), nil, nil))
			add(", new pages", work(d, len(g.pages)+2, nil, []int{1}, []int{0}))
			add(", Fresh", work(d, impl.MaxPages, free40(g), []int{1, 0}, g.pages))
			add(", one page", work(d, impl.MaxPages, free40(g)[:1], nil, nil))
			add(", two pages, Fresh", work(d, impl.MaxPages, free40(g)[:2], []int{1}, g.pages))
			add(", no page", work(d, impl.MaxPages, nil, []int{1}, g.pages))
		}
	}
	return list
}

func TestPutArgumentsStay(t *testing.T) {
	for name, c := range treeWorks(t) {
		for call, do := range putCalls() {
			w := roomyWork(c.w)
			want := wholeWork(w)
			do(w, c.root)
			if !sameWork(wholeWork(w), want) || !sameWork(w, c.w) {
				t.Errorf("%s, %s: it writes into its argument", call, name)
			}
		}
	}
}

func TestPutsAreNewMemory(t *testing.T) {
	for name, c := range treeWorks(t) {
		for call, do := range putCalls() {
			w := roomyWork(c.w)
			got, _, _ := do(w, c.root)
			other, _, _ := do(w, c.root)
			later, _, _ := impl.PutKey(got, c.root, "k102", "later")
			want, last := ownWork(got), ownWork(later)
			scribbleWork(w)
			if !sameWork(got, want) {
				t.Errorf("%s, %s: an argument that is changed changes the answer", call, name)
			}
			scribbleWork(got)
			if !sameWork(other, want) || !sameWork(later, last) {
				t.Errorf("%s, %s: two answers share memory", call, name)
			}
			w = roomyWork(c.w)
			whole := wholeWork(w)
			got, _, _ = do(w, c.root)
			later, _, _ = impl.PutKey(got, c.root, "k102", "later")
			scribbleWork(later)
			if !sameWork(got, want) {
				t.Errorf("%s, %s: an answer that is changed changes an earlier one", call, name)
			}
			scribbleWork(got)
			if !sameWork(wholeWork(w), whole) {
				t.Errorf("%s, %s: an answer that is changed changes the argument", call, name)
			}
		}
	}
}

// The lists of one answer are apart, in their spare room, too.
func TestListsOfAPutAreApart(t *testing.T) {
	for name, c := range treeWorks(t) {
		for call, do := range putCalls() {
			got, _, _ := do(roomyWork(c.w), c.root)
			want := ownWork(got)
			for _, list := range [][]int{got.Usable, got.Gone, got.Fresh} {
				fillSpare(list)
				if !sameWork(got, want) {
					t.Errorf("%s, %s: two lists share memory", call, name)
				}
			}
		}
	}
}

func TestPutTextsAreNewMemory(t *testing.T) {
	texts := func(d impl.Disk) []string {
		list := slices.Clone(d.Pages)
		for _, put := range d.Late {
			list = append(list, put.Text)
		}
		return list
	}
	for name, c := range treeWorks(t) {
		key, val := strings.Clone("k103!"), strings.Clone("value")
		w := ownWork(c.w)
		got, _, _ := impl.PutKey(w, c.root, key, val)
		none, _, _ := impl.PutKey(w, 0, key, val)
		for _, text := range append(texts(got.Disk), texts(none.Disk)...) {
			for _, held := range append(texts(w.Disk), key, val) {
				if sharesMemory(text, held) {
					t.Errorf("%s: PutKey hands out a text of its argument: %q", name, text)
				}
			}
		}
	}
}

// An empty list and nil are the same value.
func TestPutEmptyAndNil(t *testing.T) {
	d := pagesWith(t, map[int]impl.Node{2: leaf([]string{"b", "d", "f", "h"}, make([]string, 4)), 3: oneOf("m"), 4: branch([]string{"b", "m"}, 2, 3)})
	for _, next := range []int{5, 12, 14} {
		for _, root := range []int{-1, 0, 2, 3, 4} {
			for _, key := range []string{"", "b", "e", "z"} {
				empty := work(impl.Disk{Pages: d.Pages, Late: []impl.Put{}}, next, []int{}, []int{}, []int{})
				none := work(impl.Disk{Pages: d.Pages}, next, nil, nil, nil)
				one, top, ok := impl.PutKey(empty, root, key, "v")
				other, above, right := impl.PutKey(none, root, key, "v")
				if !sameWork(one, other) || top != above || ok != right {
					t.Errorf("root %d, %q: an empty list is not nil", root, key)
				}
			}
		}
	}
	for _, w := range []impl.Work{{}, work(impl.Disk{Pages: []string{}, Late: []impl.Put{}}, 0, []int{}, []int{}, []int{})} {
		for _, root := range []int{0, 1, 2, -1} {
			refusesPut(t, "no work", w, root, "", "k")
		}
	}
}
