package tests

import (
	"math"
	"slices"
	"strconv"
	"strings"
	"testing"

	"loop.example/g00240/impl"
)

// taking is a take as it goes on.
type taking struct {
	w impl.Work
}

// below takes the key from the tree of a page that has so many above it, and answers what that is now; 0 when it is gone.
func (k *taking) below(page, above int, key string) (int, bool) {
	n, ok := impl.ReadNode(impl.ReadPage(k.w.Disk, page))
	if !ok || above+1 > 8 {
		return 0, false
	}
	list := entriesOf(n)
	place := len(list) - 1
	for place >= 0 && list[place].key > key {
		place--
	}
	if place < 0 || n.Leaf && list[place].key != key {
		return 0, false
	}
	kid := 0
	if !n.Leaf {
		if kid, ok = k.below(list[place].kid, above+1, key); !ok {
			return 0, false
		}
	}
	if kid != 0 {
		list[place].kid = kid
	} else {
		list = slices.Delete(list, place, place+1)
	}
	given := 0
	if len(list) > 0 {
		if k.w, given = plainPut(k.w, nodeOf(n.Leaf, list)); given == 0 {
			return 0, false
		}
	}
	k.w = plainDrop(k.w, page)
	return given, true
}

// only goes down from a root as long as it has one Kid alone; it is false where that comes to no node, or to a page for the second time, so that there is no end.
func (k *taking) only(page int) (int, bool) {
	for seen := []int{}; !slices.Contains(seen, page); {
		n, ok := impl.ReadNode(impl.ReadPage(k.w.Disk, page))
		if !ok {
			return 0, false
		}
		if n.Leaf || len(n.Kids) > 1 {
			return page, true
		}
		k.w = plainDrop(k.w, page)
		seen = append(seen, page)
		page = n.Kids[0]
	}
	return 0, false
}

// plainDropKey is what the document tells of DropKey, from the root down and back.
func plainDropKey(w impl.Work, root int, key string) (impl.Work, int, bool) {
	if root == 0 {
		return w, root, false
	}
	k := &taking{w: w}
	page, ok := k.below(root, 0, key)
	if ok && page != 0 {
		page, ok = k.only(page)
	}
	if !ok {
		return w, root, false
	}
	return k.w, page, true
}

// dropKey holds DropKey against the document's words, each field and each page.
func dropKey(t *testing.T, name string, w impl.Work, root int, key string) (impl.Work, int, bool) {
	t.Helper()
	want, top, right := plainDropKey(w, root, key)
	got, page, ok := impl.DropKey(w, root, key)
	if page != top || ok != right {
		t.Errorf("%s: DropKey(%d, %q) = %d, %v, not %d, %v", name, root, key, page, ok, top, right)
	}
	if !sameWork(got, want) {
		t.Errorf("%s: DropKey(%d, %q) leaves", name, root, key)
		isWork(t, name, got, want)
	}
	if !ok && (page != root || !sameWork(got, w)) {
		t.Errorf("%s: beside a false the root is %d, or the work is another one", name, page)
	}
	if t.Failed() {
		t.FailNow()
	}
	return got, page, ok
}

// withoutKey are the pairs but for this one.
func withoutKey(list []impl.Pair, key string) []impl.Pair {
	out := []impl.Pair{}
	for _, p := range list {
		if p.Key != key {
			out = append(out, p)
		}
	}
	return out
}

// takeRight takes a pair from a tree of these pairs, and holds the promise: it is not there, all else stays, and the old tree stays as it was.
func takeRight(t *testing.T, name string, w impl.Work, root int, pairs []impl.Pair, key string) (impl.Work, int, []impl.Pair) {
	t.Helper()
	old, _ := impl.PagesOf(w.Disk, root)
	out, top, ok := dropKey(t, name, w, root, key)
	if !ok {
		t.Fatalf("%s: %q is not taken", name, key)
	}
	want := withoutKey(pairs, key)
	pages, _ := impl.PagesOf(out.Disk, top)
	got, right := impl.AllPairs(out.Disk, top)
	if !right || !slices.Equal(got, want) || impl.TreeOk(w.Disk, root) && !impl.TreeOk(out.Disk, top) {
		t.Errorf("%s: %q is taken, and there are %q, %v", name, key, got, right)
	}
	if (top == 0) != (len(want) == 0) {
		t.Errorf("%s: root %d of %d pairs", name, top, len(want))
	}
	notFound(t, out.Disk, top, key)
	for _, p := range want {
		found(t, out.Disk, top, p.Key, p.Val)
	}
	for page := range w.Disk.Pages {
		given := slices.Contains(w.Usable, page) || page >= w.Next
		again := slices.Contains(w.Fresh, page) && slices.Contains(old, page)
		if !given && !again && impl.ReadPage(out.Disk, page) != impl.ReadPage(w.Disk, page) {
			t.Errorf("%s: page %d is written over", name, page)
		}
	}
	if !slices.Equal(out.Disk.Pages, w.Disk.Pages) || !slices.Equal(out.Disk.Late[:len(w.Disk.Late)], w.Disk.Late) {
		t.Errorf("%s: what was written is another one", name)
	}
	if !slices.Equal(roomOf(t, out, top), roomOf(t, w, root)) || !slices.IsSorted(out.Usable) {
		t.Errorf("%s: pages are lost, or in two places: %v, not %v", name, roomOf(t, out, top), roomOf(t, w, root))
	}
	for _, page := range pages {
		if !slices.Contains(old, page) && !slices.Contains(out.Fresh, page) {
			t.Errorf("%s: page %d is new and not Fresh", name, page)
		}
	}
	for _, page := range old {
		if slices.Contains(pages, page) || slices.Contains(out.Fresh, page) {
			continue
		}
		if slices.Contains(w.Fresh, page) != slices.Contains(out.Usable, page) || slices.Contains(w.Fresh, page) == slices.Contains(out.Gone, page) {
			t.Errorf("%s: page %d, Fresh %v, is now in Usable %v, Gone %v", name, page, w.Fresh, out.Usable, out.Gone)
		}
	}
	if n, _ := impl.ReadNode(impl.ReadPage(out.Disk, top)); top != 0 && len(n.Kids) == 1 {
		t.Errorf("%s: the root has one Kid alone", name)
	}
	if t.Failed() {
		t.FailNow()
	}
	return out, top, want
}

// putAll is a work with a tree of so many pairs, in this order, on pages that are all Fresh.
func putAll(t *testing.T, order []int) (impl.Work, int, []impl.Pair) {
	t.Helper()
	w, root, pairs := impl.WorkNew(newDisk(t, impl.MaxPages), meta(0, 0, 2), 0), 0, []impl.Pair{}
	for _, n := range order {
		out, top, ok := impl.PutKey(w, root, "k"+strconv.Itoa(100+n), "v"+strconv.Itoa(n))
		if !ok {
			t.Fatalf("pair %d is not put", n)
		}
		w, root, pairs = out, top, withKey(pairs, "k"+strconv.Itoa(100+n), "v"+strconv.Itoa(n))
		w.Disk = impl.SyncDisk(w.Disk)
	}
	return w, root, pairs
}

// Pairs put and then taken one by one, in every one of some orders: each is gone then, all others are there in order, and the last one leaves nothing.
func TestTakeOneByOne(t *testing.T) {
	for first, order := range ordersOf(19) {
		full, top, all := putAll(t, order)
		for second, back := range ordersOf(19) {
			name := first + ", then " + second
			for _, kept := range []bool{false, true} {
				w, root, pairs := full, top, all
				if kept {
					pages, _ := impl.PagesOf(w.Disk, root)
					usable := slices.DeleteFunc(span(2, 39), func(page int) bool { return slices.Contains(pages, page) })
					w = work(w.Disk, impl.MaxPages, usable, nil, nil)
				}
				was, start := w, root
				for _, n := range back {
					w.Disk = impl.SyncDisk(w.Disk)
					out, now, left := takeRight(t, name, w, root, pairs, "k"+strconv.Itoa(100+n))
					w, root, pairs = out, now, left
				}
				if root != 0 || len(w.Fresh) != 0 || !kept && len(w.Gone) != 0 {
					t.Fatalf("%s: root %d is left, Fresh %v, Gone %v", name, root, w.Fresh, w.Gone)
				}
				pages, _ := impl.PagesOf(was.Disk, start)
				if gone := slices.Sorted(slices.Values(w.Gone)); kept && !slices.Equal(gone, pages) {
					t.Fatalf("%s: gone are %v, not %v", name, gone, pages)
				}
				if kept {
					told(t, name+": the old tree", w.Disk, start, all, pages, true)
				}
			}
		}
	}
}

// Every order in which seven pairs are taken, from trees that were put up and down.
func TestTakeInEveryOrder(t *testing.T) {
	var step func(w impl.Work, root int, pairs []impl.Pair)
	step = func(w impl.Work, root int, pairs []impl.Pair) {
		for _, p := range pairs {
			out, top, left := takeRight(t, "an order", w, root, pairs, p.Key)
			step(out, top, left)
		}
	}
	step(putAll(t, span(0, 6)))
	g := grow(t, pairsOf(6), 2, span(2, 39))
	g.disk = impl.SyncDisk(g.disk)
	step(inWork(g), g.root, g.pairs)
}

// Each key of trees of one level to five; a page of the way is gone when its new one is put, the leaf's first.
func TestTakeFromGrownTrees(t *testing.T) {
	for _, g := range grownTrees(t) {
		for _, kept := range []bool{false, true} {
			if kept {
				g.disk = impl.SyncDisk(g.disk)
			}
			w := inWork(g)
			for _, p := range g.pairs {
				name := strconv.Itoa(len(g.pairs)) + " pairs, " + p.Key
				out, _, _ := takeRight(t, name, w, g.root, g.pairs, p.Key)
				oldStays(t, name, g, out)
				way := wayTo(g.disk, g.root, p.Key)
				slices.Reverse(way)
				if len(out.Gone) < len(way) || !slices.Equal(out.Gone[:len(way)], way) {
					t.Errorf("%s: Gone are %v, not %v", name, out.Gone, way)
				}
			}
			for _, key := range gapsOf(g) {
				if !slices.ContainsFunc(g.pairs, func(p impl.Pair) bool { return p.Key == key }) {
					refusesTake(t, "not there", w, g.root, key)
				}
			}
		}
	}
}

// All pairs of a tree, from the left, from the right, and each second one first; the old tree stays as it was all the time.
func TestTakeAllOfGrownTrees(t *testing.T) {
	for at, g := range grownTrees(t) {
		g.disk = impl.SyncDisk(g.disk)
		for name, order := range ordersOf(len(g.pairs)) {
			if len(g.pairs) > 11 && at%3 > 0 || strings.HasPrefix(name, "by") {
				continue
			}
			w, root, pairs := inWork(g), g.root, g.pairs
			for _, n := range order {
				w, root, pairs = takeRight(t, name, w, root, pairs, g.pairs[n].Key)
				oldStays(t, name, g, w)
				if len(w.Disk.Late) > 150 {
					w.Disk = impl.SyncDisk(w.Disk)
				}
			}
			if root != 0 {
				t.Fatalf("%s of %d: root %d is left", name, len(g.pairs), root)
			}
		}
	}
}

// takes holds the whole answer of a take.
func takes(t *testing.T, name string, w impl.Work, root int, key string, top int, want impl.Work) {
	t.Helper()
	got, page, ok := impl.DropKey(w, root, key)
	if page != top || !ok {
		t.Errorf("%s: DropKey(%d, %q) = %d, %v, not %d", name, root, key, page, ok, top)
	}
	isWork(t, name, got, want)
	dropKey(t, name, w, root, key)
}

// refusesTake holds that nothing is taken, and all is as it was.
func refusesTake(t *testing.T, name string, w impl.Work, root int, keys ...string) {
	t.Helper()
	for _, key := range keys {
		got, top, ok := impl.DropKey(w, root, key)
		if ok || top != root {
			t.Errorf("%s: DropKey(%d, %q) = %d, %v", name, root, key, top, ok)
		}
		isWork(t, name, got, w)
	}
}

// The first, the middle and the last pair of a leaf.
func TestTakePlaces(t *testing.T) {
	d := pagesWith(t, map[int]impl.Node{2: leaf([]string{"", "d", "f\xff"}, []string{"1", "2", "3"})})
	for key, want := range map[string]impl.Node{
		"":      leaf([]string{"d", "f\xff"}, []string{"2", "3"}),
		"d":     leaf([]string{"", "f\xff"}, []string{"1", "3"}),
		"f\xff": leaf([]string{"", "d"}, []string{"1", "2"}),
	} {
		put := write(t, d, 3, nodeText(t, want))
		takes(t, "gone", work(d, 3, nil, []int{9}, []int{8}), 2, key, 3, work(put, 4, nil, []int{9, 2}, []int{8, 3}))
		takes(t, "usable again", work(d, 3, nil, []int{9}, []int{2}), 2, key, 3, work(put, 4, []int{2}, []int{9}, []int{3}))
		takes(t, "to a usable page", work(d, 12, []int{3, 7}, nil, []int{2}), 2, key, 3, work(put, 12, []int{2, 7}, nil, []int{3}))
	}
	refusesTake(t, "not there", work(d, 3, nil, []int{9}, []int{2}), 2, "\x00", "a", "c", "d\x00", "e", "f", "f\xff\x00", "z", strings.Repeat("d", 30))
}

// The last pair leaves root 0, and needs no page.
func TestTakeTheLast(t *testing.T) {
	for _, key := range []string{"", "k", strings.Repeat("\xff", impl.MaxKey)} {
		d := pagesWith(t, map[int]impl.Node{2: oneOf(key)})
		takes(t, "gone", work(d, 14, nil, []int{9}, []int{8}), 2, key, 0, work(d, 14, nil, []int{9, 2}, []int{8}))
		takes(t, "usable again", work(d, 14, nil, []int{9}, []int{8, 2}), 2, key, 0, work(d, 14, []int{2}, []int{9}, []int{8}))
		takes(t, "with room", work(d, 3, []int{4}, nil, nil), 2, key, 0, work(d, 3, []int{4}, []int{2}, nil))
		full := lateUp(d, maxLate)
		takes(t, "200 Late", work(full, 3, nil, nil, nil), 2, key, 0, work(full, 3, nil, []int{2}, nil))
	}
	// Nodes with none left, again and again up to the root.
	for levels := 1; levels <= impl.MaxDeep; levels++ {
		d, root := chain(t, levels)
		takes(t, "a chain", work(d, 14, nil, nil, nil), root, "k", 0, work(d, 14, nil, span(2, root), nil))
		takes(t, "a chain, Fresh", work(d, 14, []int{12}, []int{11}, span(2, root)), root, "k", 0, work(d, 14, append(span(2, root), 12), []int{11}, nil))
	}
}

// A leaf with none left is gone from the node above: at the first, a middle and the last place.
func TestTakeALeafWithNoneLeft(t *testing.T) {
	d := pagesWith(t, map[int]impl.Node{2: oneOf("b"), 3: oneOf("d"), 4: oneOf("f"), 5: branch([]string{"a", "c", "e"}, 2, 3, 4)})
	for key, c := range map[string]struct {
		gone int
		root impl.Node
	}{
		"b": {2, branch([]string{"c", "e"}, 3, 4)},
		"d": {3, branch([]string{"a", "e"}, 2, 4)},
		"f": {4, branch([]string{"a", "c"}, 2, 3)},
	} {
		takes(t, "gone", work(d, 6, nil, nil, nil), 5, key, 6, work(write(t, d, 6, nodeText(t, c.root)), 7, nil, []int{c.gone, 5}, []int{6}))
		// The page of the leaf is given to the root.
		takes(t, "Fresh", work(d, 14, nil, nil, span(2, 5)), 5, key, c.gone, work(write(t, d, c.gone, nodeText(t, c.root)), 14, []int{5}, nil,
			append(slices.DeleteFunc(span(2, 4), func(page int) bool { return page == c.gone }), c.gone)))
	}
	refusesTake(t, "Keys above are no keys", work(d, 6, nil, nil, nil), 5, "", "a", "c", "e", "bb", "z")
}

// Nodes above with none left are gone, too, as far up as there is nothing else below them; their row stands at the first, the middle or the last place of the root.
func TestTakeNodesWithNoneLeft(t *testing.T) {
	for levels := 1; levels <= 6; levels++ {
		for at, beside := range [][]string{{"m", "n"}, {"0", "n"}, {"0", "2"}} {
			d, top := chain(t, levels)
			d.Pages[10], d.Pages[11] = nodeText(t, oneOf(beside[0]+"1")), nodeText(t, oneOf(beside[1]+"1"))
			d.Pages[12] = nodeText(t, branch(slices.Insert(slices.Clone(beside), at, "a"), slices.Insert([]int{10, 11}, at, top)...))
			put := write(t, d, 13, nodeText(t, branch(beside, 10, 11)))
			takes(t, "gone", work(d, 13, nil, nil, nil), 12, "k", 13, work(put, 14, nil, append(span(2, top), 12), []int{13}))
		}
	}
}

// The Keys of nodes above stay as they were, though there is nothing any more that is so little.
func TestTakeKeysOfKids(t *testing.T) {
	d := pagesWith(t, map[int]impl.Node{
		2: leaf([]string{"b", "c"}, []string{"1", "2"}), 3: oneOf("f"), 4: leaf([]string{"l", "m"}, []string{"1", "2"}), 5: oneOf("p"),
		6: branch([]string{"b", "e"}, 2, 3), 7: branch([]string{"l", "o"}, 4, 5), 8: branch([]string{"a", "j"}, 6, 7),
	})
	for key, want := range map[string][]string{
		"b": {"a", "j", "b", "e"},
		"c": {"a", "j", "b", "e"},
		"f": {"a", "j", "b"},
		"l": {"a", "j", "l", "o"},
		"m": {"a", "j", "l", "o"},
		"p": {"a", "j", "l"},
	} {
		w := work(d, 9, nil, nil, nil)
		pairs, _ := impl.AllPairs(d, 8)
		got, root, _ := takeRight(t, key, w, 8, pairs, key)
		top := nodeAt(t, got, root)
		at := impl.PlaceOf(top, key)
		if !slices.Equal(slices.Concat(top.Keys, nodeAt(t, got, top.Kids[at]).Keys), want) {
			t.Errorf("%q: the Keys are %q, and %q below", key, top.Keys, nodeAt(t, got, top.Kids[at]).Keys)
		}
		if other := nodeAt(t, got, top.Kids[1-at]); !sameNode(other, nodeAt(t, w, 7-at)) {
			t.Errorf("%q: the other Kid is %+v", key, other)
		}
	}
	// With the first Kid gone, the Key of the node in the one above it stays.
	pairs, _ := impl.AllPairs(d, 8)
	w, root, pairs := takeRight(t, "b", work(d, 9, nil, nil, nil), 8, pairs, "b")
	w, root, _ = takeRight(t, "c", w, root, pairs, "c")
	if top := nodeAt(t, w, root); !slices.Equal(top.Keys, []string{"a", "j"}) || !slices.Equal(nodeAt(t, w, top.Kids[0]).Keys, []string{"e"}) {
		t.Errorf("the Keys are %q, and %q below", top.Keys, nodeAt(t, w, top.Kids[0]).Keys)
	}
	// A node may have a Key that is less than that of it above: both stay.
	odd := pagesWith(t, map[int]impl.Node{2: oneOf("b"), 3: leaf([]string{"n", "o"}, []string{"1", "2"}), 4: branch([]string{"a"}, 3), 5: branch([]string{"a", "m"}, 2, 4)})
	w, root, _ = takeRight(t, "odd", work(odd, 6, nil, nil, nil), 5, []impl.Pair{pair("b", "b"), pair("n", "1"), pair("o", "2")}, "n")
	if top := nodeAt(t, w, root); !slices.Equal(top.Keys, []string{"a", "m"}) || !slices.Equal(nodeAt(t, w, top.Kids[1]).Keys, []string{"a"}) {
		t.Errorf("odd: the Keys are %q, and %q below", top.Keys, nodeAt(t, w, top.Kids[1]).Keys)
	}
}

// A root that is left with one Kid is put as any node of the way, and is that Kid then: its new page is usable again.
func TestTakeARootWithOneKid(t *testing.T) {
	d := pagesWith(t, map[int]impl.Node{2: oneOf("b"), 3: leaf([]string{"d", "e"}, []string{"4", "5"}), 4: branch([]string{"b", "c"}, 2, 3)})
	put := write(t, d, 5, nodeText(t, branch([]string{"c"}, 3)))
	takes(t, "gone", work(d, 5, nil, nil, nil), 4, "b", 3, work(put, 6, []int{5}, []int{2, 4}, nil))
	over := write(t, d, 2, nodeText(t, branch([]string{"c"}, 3)))
	takes(t, "Fresh", work(d, 5, nil, nil, []int{2, 3, 4}), 4, "b", 3, work(over, 5, []int{2, 4}, nil, []int{3}))
	takes(t, "the root not Fresh", work(d, 5, nil, nil, []int{2, 3}), 4, "b", 3, work(over, 5, []int{2}, []int{4}, []int{3}))
	refusesTake(t, "no page", work(d, 14, nil, nil, nil), 4, "b")
	refusesTake(t, "no page, the root Fresh", work(d, 14, nil, nil, []int{4}), 4, "b")
	// A root that had one Kid alone.
	one := pagesWith(t, map[int]impl.Node{3: leaf([]string{"d", "e"}, []string{"4", "5"}), 4: branch([]string{"c"}, 3)})
	put = write(t, write(t, one, 5, nodeText(t, leaf([]string{"e"}, []string{"5"}))), 6, nodeText(t, branch([]string{"c"}, 5)))
	takes(t, "one before", work(one, 5, nil, nil, nil), 4, "d", 5, work(put, 7, []int{6}, []int{3, 4}, []int{5}))
}

// A root with one Kid is that Kid, again and again: where each below it has one Kid, too, on the way and beside it, as far as there are two, or a leaf.
func TestTakeRootsWithOneKid(t *testing.T) {
	for levels := 1; levels <= impl.MaxDeep+2; levels++ {
		for _, wide := range []bool{false, true} {
			d, low := chain(t, levels)
			d.Pages = append(d.Pages, make([]string, 26)...)
			d.Pages[20], d.Pages[21] = nodeText(t, oneOf("x")), nodeText(t, branch([]string{"a", "x"}, low, 20))
			root, rest, gone := 21, branch([]string{"a"}, low), append([]int{20, 21}, span(3, low)...)
			slices.Reverse(gone[2:])
			top, pairs := 2, []impl.Pair{pair("k", "k")}
			if wide && levels > 1 {
				// The lowest node above has two leaves.
				d.Pages[3], d.Pages[22] = nodeText(t, branch([]string{"a", "l"}, 2, 22)), nodeText(t, oneOf("l"))
				top, gone, pairs = 3, gone[:len(gone)-1], append(pairs, pair("l", "l"))
			}
			put := write(t, d, 23, nodeText(t, rest))
			takes(t, "beside the way", work(d, 23, nil, nil, nil), root, "x", top, work(put, 24, []int{23}, gone, nil))
			out, now, ok := dropKey(t, "beside the way, Fresh", work(d, 23, nil, nil, span(2, 22)), root, "x")
			if !ok || now != top || len(out.Gone) != 0 {
				t.Errorf("Fresh: root %d, %v, Gone %v", now, ok, out.Gone)
			}
			told(t, "what is left", out.Disk, now, pairs, []int{2, 3, 22}[:len(pairs)*2-1], true)
		}
	}
	for levels := 2; levels <= impl.MaxDeep; levels++ {
		d, root := chain(t, levels)
		d.Pages = append(d.Pages, make([]string, 20)...)
		d.Pages[2] = nodeText(t, leaf([]string{"k", "l"}, []string{"1", "2"}))
		w := work(d, 14, nil, nil, nil)
		got, top, _ := takeRight(t, "on the way", w, root, []impl.Pair{pair("k", "1"), pair("l", "2")}, "k")
		if top != 14 || !slices.Equal(got.Usable, span(15, 13+levels)) || !slices.Equal(got.Gone, span(2, root)) || !slices.Equal(got.Fresh, []int{14}) {
			t.Errorf("%d levels: root %d, %+v", levels, top, got)
		}
	}
}

// Just as many pages as are needed, and each number below that: usable ones, new ones, and those that may still be Late.
func TestTakeWithTooFewPages(t *testing.T) {
	for _, g := range []tree{grow(t, pairsOf(1), 4, span(2, 39)), grow(t, pairsOf(3), 4, span(2, 39)), grow(t, pairsOf(5), 4, span(2, 39)), grow(t, pairsOf(17), 4, span(2, 39)), grow(t, pairsOf(64), 4, span(2, 39)), grow(t, pairsOf(27), 3, span(2, 39)), grow(t, pairsOf(9), 2, span(2, 39)), grow(t, pairsOf(16), 2, span(2, 39))} {
		g.disk = impl.SyncDisk(g.disk)
		for _, p := range g.pairs {
			roomy := inWork(g)
			all, _, _ := plainDropKey(roomy, g.root, p.Key)
			need := len(all.Disk.Late)
			if way := wayTo(g.disk, g.root, p.Key); need > len(way) || need == 0 && len(g.pairs) > 1 {
				t.Fatalf("%d pages are put of %v", need, way)
			}
			for some := range need + 2 {
				checkFew := func(name string, w impl.Work) {
					t.Helper()
					if _, _, ok := dropKey(t, name, w, g.root, p.Key); ok != (some >= need) {
						t.Errorf("%s: %d of %d: %v", name, some, need, ok)
					}
				}
				checkFew("usable", work(g.disk, impl.MaxPages, free40(g)[:some], []int{1}, nil))
				small := ownDisk(g.disk)
				small.Pages = small.Pages[:len(g.pages)+2+some]
				if len(small.Pages) >= 4 {
					checkFew("new ones", work(small, len(g.pages)+2, nil, []int{1}, nil))
				}
				if some > 0 && len(small.Pages) >= 5 {
					checkFew("both", work(small, len(g.pages)+3, []int{len(g.pages) + 2}, []int{1}, nil))
				}
				checkFew("Late", work(lateUp(g.disk, maxLate-some), impl.MaxPages, free40(g), []int{1}, nil))
			}
		}
	}
}

// Each choice of pages of the way that are Fresh, with each number of pages that are left.
func TestTakeWithSomeFresh(t *testing.T) {
	for _, g := range []tree{grow(t, pairsOf(16), 4, span(2, 39)), grow(t, pairsOf(5), 4, span(2, 39)), grow(t, pairsOf(16), 2, span(2, 39)), grow(t, pairsOf(9), 2, span(2, 39)), grow(t, pairsOf(10), 3, span(2, 39))} {
		g.disk = impl.SyncDisk(g.disk)
		for at, p := range g.pairs {
			if at%3 > 0 && at < len(g.pairs)-1 {
				continue
			}
			way := wayTo(g.disk, g.root, p.Key)
			for mask := range 1 << len(way) {
				for some := range 6 {
					w := work(g.disk, impl.MaxPages, free40(g)[:some], []int{1}, []int{0})
					for at, is := range bits(mask, len(way)) {
						if is {
							w.Fresh = append(w.Fresh, way[at])
						}
					}
					if _, _, ok := dropKey(t, "some Fresh", w, g.root, p.Key); ok {
						takeRight(t, "some Fresh", w, g.root, g.pairs, p.Key)
					} else if some >= len(way) {
						t.Errorf("%q is not taken with %d pages", p.Key, some)
					}
				}
			}
		}
	}
}

func TestTakeFromRoot0(t *testing.T) {
	for _, w := range []impl.Work{{}, work(withLate(), 3, []int{2}, []int{1}, []int{4}), work(pagesWith(t, map[int]impl.Node{0: oneOf("k"), 2: oneOf("k")}), 3, nil, nil, nil)} {
		refusesTake(t, "root 0", w, 0, "", "k", "z", strings.Repeat("k", 30))
	}
}

// Roots that the disk does not have, and those whose page tells no node.
func TestTakeFromRootsThatAreNone(t *testing.T) {
	g := grow(t, pairsOf(9), 4, span(2, 10))
	for _, w := range []impl.Work{inWork(g), work(g.disk, 12, nil, []int{3}, []int{4}), work(g.disk, 40, nil, nil, nil)} {
		for _, root := range []int{-1, -2, math.MinInt, impl.MaxPages, impl.MaxPages + 1, math.MaxInt, 1, 38, 39} {
			refusesTake(t, "no root", w, root, "", "k100", "z")
		}
	}
}

// A page that is no node: just those keys are refused whose way goes over it, and those behind which it alone would be left.
func TestTakeOverAPageThatIsNoNode(t *testing.T) {
	for _, g := range []tree{grow(t, pairsOf(3), 4, span(2, 39)), grow(t, pairsOf(5), 4, span(2, 39)), grow(t, pairsOf(13), 4, span(2, 39)), grow(t, pairsOf(10), 3, span(2, 39)), grow(t, pairsOf(9), 2, span(2, 39))} {
		g.disk = impl.SyncDisk(g.disk)
		for _, page := range g.pages {
			for name, text := range spoilt(t, impl.ReadPage(g.disk, page)) {
				w := inWork(g)
				w.Disk = write(t, g.disk, page, text)
				for _, p := range g.pairs {
					_, _, ok := dropKey(t, name, w, g.root, p.Key)
					whole, _, _ := impl.DropKey(inWork(g), g.root, p.Key)
					_, now, _ := impl.DropKey(inWork(g), g.root, p.Key)
					over := slices.Contains(wayTo(g.disk, g.root, p.Key), page) || now == page || slices.Contains(whole.Gone, page)
					if ok == over {
						t.Errorf("%s at page %d: DropKey(%q) = %v", name, page, p.Key, ok)
					}
				}
			}
		}
	}
	d := impl.Disk{Pages: make([]string, 4)}
	d.Pages[2], d.Pages[3] = nodeText(t, oneOf("a")), nodeText(t, branch([]string{"a", "b"}, 2, 4))
	refusesTake(t, "a Kid past the disk", work(d, 4, []int{0, 1}, nil, nil), 3, "a", "b", "z")
}

// What is more than MaxDeep deep is not found, and so not taken; what is beside it is.
func TestTakeMaxDeep(t *testing.T) {
	for levels := impl.MaxDeep + 1; levels <= impl.MaxDeep+3; levels++ {
		d, root := chain(t, levels)
		d.Pages = append(d.Pages, make([]string, 20)...)
		refusesTake(t, "too deep", work(d, 14, nil, nil, nil), root, "k", "a", "")
		refusesTake(t, "too deep, Fresh", work(d, 14, nil, nil, span(2, root)), root, "k", "a", "")
		for at := range levels {
			// One that is there hangs beside the chain, at each level.
			page := 3 + at
			if page > root {
				continue
			}
			e := ownDisk(d)
			e.Pages[20], e.Pages[page] = nodeText(t, leaf([]string{"x", "y"}, []string{"1", "2"})), nodeText(t, branch([]string{"a", "x"}, page-1, 20))
			out, top, ok := dropKey(t, "beside", work(e, 21, nil, nil, nil), root, "x")
			if want := root-page+2 <= impl.MaxDeep; ok != want {
				t.Errorf("beside, at page %d of %d: %v", page, root, ok)
			} else if ok {
				found(t, out.Disk, top, "y", "2")
				notFound(t, out.Disk, top, "x")
				found(t, e, root, "x", "1")
			}
		}
	}
	for levels := 1; levels <= impl.MaxDeep; levels++ {
		for full := range levels + 1 {
			for _, first := range []bool{true, false} {
				d, root := deepWay(t, levels, full, first)
				for _, key := range []string{"m2", "m3"} {
					out, top, ok := dropKey(t, "deep", work(d, levels+2, nil, nil, nil), root, key)
					if !ok {
						t.Fatalf("%d levels: %q is not taken", levels, key)
					}
					notFound(t, out.Disk, top, key)
					found(t, d, root, key, key[1:])
				}
			}
		}
	}
}

// A tree that comes back to a page of its own: nothing is taken on the round, and taking ends.
func TestTakeFromARound(t *testing.T) {
	for name, nodes := range map[string]map[int]impl.Node{
		"its own kid":      {2: leaf([]string{"a", "b"}, []string{"1", "2"}), 4: branch([]string{"a", "c"}, 2, 4)},
		"a round of two":   {2: leaf([]string{"a", "b"}, []string{"1", "2"}), 3: branch([]string{"c"}, 4), 4: branch([]string{"a", "c"}, 2, 3)},
		"a round of three": {2: leaf([]string{"a", "b"}, []string{"1", "2"}), 3: branch([]string{"c"}, 5), 5: branch([]string{"a"}, 4), 4: branch([]string{"a", "c"}, 2, 3)},
		"below the root":   {2: leaf([]string{"a", "b"}, []string{"1", "2"}), 3: branch([]string{"c"}, 5), 5: branch([]string{"a"}, 3), 4: branch([]string{"a", "c"}, 2, 3)},
	} {
		w := work(pagesWith(t, nodes), 6, nil, []int{1}, []int{3})
		refusesTake(t, name, w, 4, "c", "cc", "z", "")
		// The way of what is beside it is a right one.
		out, top, ok := dropKey(t, name, w, 4, "a")
		if !ok {
			t.Fatalf("%s: %q is not taken", name, "a")
		}
		notFound(t, out.Disk, top, "a")
		found(t, out.Disk, top, "b", "2")
	}
	refusesTake(t, "nothing but itself", work(pagesWith(t, map[int]impl.Node{2: branch([]string{"a"}, 2)}), 5, nil, nil, nil), 2, "", "a", "b")
}

// eachFresh calls on with each choice of the pages 2 to 9 that are Fresh, but for those that are usable.
func eachFresh(usable []int, on func(fresh []int)) {
	for mask := range 1 << 8 {
		fresh := []int{}
		for at, is := range bits(mask, 8) {
			if is && !slices.Contains(usable, 2+at) {
				fresh = append(fresh, 2+at)
			}
		}
		on(fresh)
	}
}

// What is left below a root with one Kid comes back to a page of its own, again and again: there is no end, and so no root.
func TestTakeWhatIsLeftHasNoEnd(t *testing.T) {
	x := oneOf("x")
	for name, nodes := range map[string]map[int]impl.Node{
		"to the Kid":           {4: branch([]string{"a", "x"}, 5, 9), 5: branch([]string{"a"}, 5), 9: x},
		"a round of two":       {4: branch([]string{"a", "x"}, 5, 9), 5: branch([]string{"a"}, 6), 6: branch([]string{"a"}, 5), 9: x},
		"a round of three":     {4: branch([]string{"a", "x"}, 5, 9), 5: branch([]string{"a"}, 6), 6: branch([]string{"a"}, 7), 7: branch([]string{"a"}, 5), 9: x},
		"a round further down": {4: branch([]string{"a", "x"}, 5, 9), 5: branch([]string{"a"}, 6), 6: branch([]string{"a"}, 7), 7: branch([]string{"a"}, 6), 9: x},
	} {
		d := pagesWith(t, nodes)
		for _, usable := range [][]int{nil, {10}, {2, 3}} {
			eachFresh(usable, func(fresh []int) {
				w := work(d, 11, usable, []int{1}, fresh)
				dropKey(t, name, w, 4, "x")
				refusesTake(t, name, w, 4, "x")
			})
		}
	}
}

// Or it comes to a page that was on the way, and ends there: the document names that as no reason for a false. Pages of one tree that are come to twice are in no tree that AllPairs tells.
func TestTakeWhatIsLeftComesBack(t *testing.T) {
	x := oneOf("x")
	for name, c := range map[string]struct {
		nodes map[int]impl.Node
		root  int
		gone  []int
	}{
		"to the leaf":              {map[int]impl.Node{4: branch([]string{"a", "x"}, 5, 9), 5: branch([]string{"a"}, 9), 9: x}, 9, []int{9, 4, 5}},
		"to the leaf, later":       {map[int]impl.Node{4: branch([]string{"a", "x"}, 5, 9), 5: branch([]string{"a"}, 6), 6: branch([]string{"a"}, 9), 9: x}, 9, []int{9, 4, 5, 6}},
		"to a node of the way":     {map[int]impl.Node{4: branch([]string{"a", "x"}, 5, 8), 5: branch([]string{"a"}, 8), 8: branch([]string{"x"}, 9), 9: x}, 9, []int{9, 8, 4, 5, 8}},
		"to the old root":          {map[int]impl.Node{4: branch([]string{"a", "x"}, 5, 9), 5: branch([]string{"a"}, 4), 9: x}, 4, []int{9, 4, 5}},
		"to the old root, later":   {map[int]impl.Node{4: branch([]string{"a", "x"}, 5, 8), 5: branch([]string{"a"}, 6), 6: branch([]string{"a"}, 4), 8: branch([]string{"x"}, 9), 9: x}, 4, []int{9, 8, 4, 5, 6}},
		"the first Kid is gone":    {map[int]impl.Node{4: branch([]string{"a", "y"}, 9, 5), 5: branch([]string{"a"}, 4), 9: x}, 4, []int{9, 4, 5}},
		"to a node with more Kids": {map[int]impl.Node{4: branch([]string{"a", "x"}, 5, 8), 5: branch([]string{"a"}, 8), 7: oneOf("y"), 8: branch([]string{"x", "y"}, 9, 7), 9: leaf([]string{"x", "xx"}, []string{"1", "2"})}, 0, nil},
	} {
		d := pagesWith(t, c.nodes)
		noTree(t, name, d, 4)
		if c.root != 0 {
			out, root, ok := impl.DropKey(work(d, 11, nil, nil, nil), 4, "x")
			if !ok || root != c.root || !slices.Equal(out.Gone, c.gone) || !slices.Equal(out.Usable, []int{11}) || len(out.Fresh) != 0 {
				t.Errorf("%s: root %d, %v, %+v", name, root, ok, out)
			}
		}
		for _, usable := range [][]int{nil, {10}, {2, 3}} {
			eachFresh(usable, func(fresh []int) {
				// Which pages are Fresh decides where the nodes are put, and so where what is left ends.
				dropKey(t, name, work(d, 11, usable, []int{1}, fresh), 4, "x")
			})
		}
	}
}

// The page that is given is the one of the leaf that is a root: it was given, so that it is Fresh, and its drop makes it usable again.
func TestTakeIntoTheRootsOwnPage(t *testing.T) {
	d := pagesWith(t, map[int]impl.Node{2: leaf([]string{"a", "b"}, []string{"1", "2"})})
	for key, want := range map[string]impl.Node{"a": leaf([]string{"b"}, []string{"2"}), "b": leaf([]string{"a"}, []string{"1"})} {
		put := write(t, d, 2, nodeText(t, want))
		takes(t, "Next", work(d, 2, nil, nil, nil), 2, key, 2, work(put, 3, []int{2}, nil, nil))
		takes(t, "usable", work(d, 14, []int{2}, nil, nil), 2, key, 2, work(put, 14, []int{2}, nil, nil))
		takes(t, "usable, with others", work(d, 9, []int{2, 5}, []int{7}, []int{6}), 2, key, 2, work(put, 9, []int{2, 5}, []int{7}, []int{6}))
		found(t, put, 2, want.Keys[0], want.Vals[0])
		notFound(t, put, 2, key)
	}
	takes(t, "the last", work(pagesWith(t, map[int]impl.Node{2: oneOf("k")}), 2, nil, nil, nil), 2, "k", 0, work(pagesWith(t, map[int]impl.Node{2: oneOf("k")}), 2, nil, []int{2}, nil))
}

// The page that is given first is that of the leaf, of the node above it, or of the root: none of these is a reason for a false.
func TestTakeIntoAPageOfTheWay(t *testing.T) {
	d := pagesWith(t, map[int]impl.Node{
		2: leaf([]string{"a", "b"}, []string{"1", "2"}), 3: oneOf("m"), 4: branch([]string{"a", "m"}, 2, 3), 7: oneOf("t"), 5: branch([]string{"t"}, 7), 6: branch([]string{"a", "t"}, 4, 5),
	})
	kept := leaf([]string{"b"}, []string{"2"})
	puts := func(list ...any) impl.Disk {
		out := d
		for at := 0; at < len(list); at += 2 {
			out = write(t, out, list[at].(int), nodeText(t, list[at+1].(impl.Node)))
		}
		return out
	}
	takes(t, "that of the leaf", work(d, 14, []int{2, 8, 9}, nil, nil), 6, "a", 8,
		work(puts(2, kept, 2, branch([]string{"a", "m"}, 2, 3), 8, branch([]string{"a", "t"}, 2, 5)), 14, []int{9}, []int{4, 6}, []int{2, 8}))
	takes(t, "that of the node above", work(d, 14, []int{4, 8, 9}, nil, nil), 6, "a", 4,
		work(puts(4, kept, 8, branch([]string{"a", "m"}, 4, 3), 4, branch([]string{"a", "t"}, 8, 5)), 14, []int{9}, []int{2, 6}, []int{8, 4}))
	whole := puts(6, kept, 8, branch([]string{"a", "m"}, 6, 3), 9, branch([]string{"a", "t"}, 8, 5))
	takes(t, "that of the root", work(d, 14, []int{6, 8, 9}, nil, nil), 6, "a", 9, work(whole, 14, []int{6}, []int{2, 4}, []int{8, 9}))
	told(t, "that of the root", whole, 9, []impl.Pair{pair("b", "2"), pair("m", "m"), pair("t", "t")}, []int{3, 5, 6, 7, 8, 9}, true)
	// Where the leaf is gone, its page is not Fresh, and may still be given; where the root is left with one Kid, its page is dropped behind both.
	gone := write(t, write(t, d, 3, nodeText(t, branch([]string{"a"}, 2))), 8, nodeText(t, branch([]string{"a", "t"}, 3, 5)))
	takes(t, "a leaf that is gone", work(d, 14, []int{3, 8, 9}, nil, nil), 6, "m", 8, work(gone, 14, []int{9}, []int{3, 4, 6}, []int{3, 8}))
	one := write(t, d, 6, nodeText(t, branch([]string{"a"}, 4)))
	takes(t, "a root with one Kid", work(d, 14, []int{6, 8}, nil, nil), 6, "t", 4, work(one, 14, []int{6, 8}, []int{7, 5, 6}, nil))
	takes(t, "a root with one Kid, Next", work(d, 6, nil, nil, nil), 6, "t", 4, work(one, 7, []int{6}, []int{7, 5, 6}, nil))
	// The root is put to the page of its only Kid: there is no end.
	narrow := pagesWith(t, map[int]impl.Node{2: leaf([]string{"a", "b"}, []string{"1", "2"}), 3: branch([]string{"a"}, 2)})
	refusesTake(t, "a root that is its own Kid", work(narrow, 14, []int{2, 8}, nil, nil), 3, "a", "b")
}

// Trees of one level to five, each key, each page of its way given next (as the first usable one, the only one, or Next), with none, some and all of the others Fresh.
func TestTakeIntoEachPageOfTheWay(t *testing.T) {
	took := map[int]int{}
	for _, g := range []tree{grow(t, pairsOf(2), 4, span(2, 39)), grow(t, pairsOf(7), 4, span(2, 39)), grow(t, pairsOf(10), 3, span(3, 39)), grow(t, pairsOf(9), 2, span(2, 39)), grow(t, pairsOf(18), 2, span(2, 39))} {
		g.disk = impl.SyncDisk(g.disk)
		for _, p := range g.pairs {
			way := wayTo(g.disk, g.root, p.Key)
			for level, page := range way {
				for mask := range 1 << len(way) {
					fresh := []int{}
					for at, is := range bits(mask, len(way)) {
						if is && at != level {
							fresh = append(fresh, way[at])
						}
					}
					usable := append([]int{page}, slices.DeleteFunc(free40(g), func(other int) bool { return other < page })...)
					name := strconv.Itoa(len(way)) + " levels, that of level " + strconv.Itoa(level)
					_, _, ok := dropKey(t, name, work(g.disk, impl.MaxPages, usable, nil, fresh), g.root, p.Key)
					if n, _ := impl.ReadNode(impl.ReadPage(g.disk, g.root)); !ok && (n.Leaf || len(n.Kids) > 2) {
						t.Fatalf("%s: %q is not taken, and the root has Kids enough", name, p.Key)
					}
					if ok {
						took[level]++
					}
					dropKey(t, name+", alone", work(g.disk, impl.MaxPages, []int{page}, nil, fresh), g.root, p.Key)
					dropKey(t, name+", Next", work(g.disk, page, nil, nil, slices.DeleteFunc(fresh, func(other int) bool { return other > page })), g.root, p.Key)
				}
			}
		}
	}
	for level := range 5 {
		if took[level] == 0 {
			t.Errorf("nothing is taken with the page of level %d", level)
		}
	}
}

// What is left below a root with one Kid, where a page is come to twice beside it, and so many of them as a disk can have.
func TestTakeLongRowsOfOneKid(t *testing.T) {
	x := oneOf("x")
	// A page that is come to twice, but not from a root with one Kid, is looked at on the way alone.
	d := pagesWith(t, map[int]impl.Node{4: branch([]string{"a", "m", "x"}, 5, 6, 9), 5: branch([]string{"a"}, 9), 6: oneOf("m"), 9: x})
	out, root, ok := dropKey(t, "twice", work(d, 10, nil, nil, nil), 4, "x")
	if !ok {
		t.Fatal("x is not taken")
	}
	notFound(t, out.Disk, root, "x")
	found(t, out.Disk, root, "m", "m")
	// So many pages below one another, each with one Kid, as a disk can have.
	long := newDisk(t, impl.MaxPages)
	for page := 4; page < impl.MaxPages-1; page++ {
		long.Pages[page] = nodeText(t, branch([]string{"a"}, page+1))
	}
	long.Pages[2], long.Pages[3], long.Pages[39] = nodeText(t, x), nodeText(t, branch([]string{"a", "x"}, 4, 2)), nodeText(t, leaf([]string{"a", "k"}, []string{"1", "2"}))
	out, root, ok = dropKey(t, "a long row", work(long, 40, nil, nil, []int{2}), 3, "x")
	if !ok || root != 39 || !slices.Equal(out.Gone, span(3, 38)) {
		t.Errorf("a long row: root %d, %v, Gone %v", root, ok, out.Gone)
	}
	long.Pages[39] = nodeText(t, branch([]string{"a"}, 38))
	refusesTake(t, "a long row that comes back", work(long, 40, nil, nil, []int{2}), 3, "x")
}

// A work whose disk is not right can't be written: nothing is taken but what needs no page.
func TestTakeFromWrongDisks(t *testing.T) {
	for name, d := range wrongDisks() {
		for _, root := range []int{0, -1, 1, 2, 4, 5, 39, 40, math.MaxInt, math.MinInt} {
			refusesTake(t, name, work(d, 2, nil, nil, nil), root, "", "a", "z")
			refusesTake(t, name, work(d, 9, []int{2, 3}, []int{4}, []int{3}), root, "", "a", "z")
		}
		if len(d.Pages) > 3 {
			d.Pages[2], d.Pages[3] = nodeText(t, leaf([]string{"k", "l"}, []string{"1", "2"})), nodeText(t, oneOf("a"))
			w := work(d, 3, []int{1}, nil, nil)
			if _, there := impl.GetKey(d, 2, "k"); there {
				refusesTake(t, name+", with a leaf", w, 2, "k", "l", "z")
			}
			if _, there := impl.GetKey(d, 3, "a"); there {
				takes(t, name+", the last", w, 3, "a", 0, work(d, 3, []int{1}, []int{3}, nil))
			}
		}
	}
	d := pagesWith(t, map[int]impl.Node{2: leaf([]string{"k", "l"}, []string{"1", "2"})})
	for _, page := range []int{-1, math.MinInt, 14, 40, math.MaxInt} {
		refusesTake(t, "a usable page that is not on the disk", work(d, 3, []int{page}, []int{4}, []int{1}), 2, "k", "l", "z")
	}
	refusesTake(t, "Next below 0", work(d, -1, nil, []int{4}, []int{1}), 2, "k", "l", "z")
}

// Works that are not right: a usable page that is in the tree, one that no Kid may be, one that is given twice.
func TestTakeFromWrongWorks(t *testing.T) {
	d := pagesWith(t, map[int]impl.Node{2: oneOf("b"), 3: leaf([]string{"m", "n"}, []string{"1", "2"}), 4: branch([]string{"b", "m"}, 2, 3), 5: branch([]string{"b"}, 4)})
	for name, usable := range map[string][]int{"the first Kid": {2, 6, 7}, "the other Kid": {3, 6, 7}, "its root": {4, 6, 7}, "above": {5, 6, 7}, "page 1": {1, 6, 7}, "page 0": {0, 6, 7}, "page 0 above": {6, 0, 7}, "page 1 above": {6, 1, 7}, "all": {2, 3, 4, 5}, "twice": {6, 6, 6}, "descending": {8, 7, 6}} {
		for mask := range 1 << 4 {
			fresh := []int{}
			for at, is := range bits(mask, 4) {
				if is {
					fresh = append(fresh, 2+at)
				}
			}
			for _, key := range []string{"", "b", "c", "m", "n", "z"} {
				for _, root := range []int{0, 2, 3, 4, 5} {
					w := work(d, 8, usable, []int{3, 9, 4}, fresh)
					out, top, ok := impl.DropKey(w, root, key)
					if !ok && (top != root || !sameWork(out, w)) {
						t.Errorf("%s: beside a false it is another one", name)
					}
					// A list that does not ascend does so behind a drop.
					if slices.IsSorted(usable) && name != "twice" && !slices.ContainsFunc(fresh, func(page int) bool { return slices.Contains(usable, page) }) {
						dropKey(t, name, w, root, key)
					}
				}
			}
		}
	}
}

// Every way to lay some nodes on four pages, with room and with little.
func TestTakeFromEachDisk(t *testing.T) {
	texts := []string{"no node"}
	for _, n := range []impl.Node{
		oneOf("b"), leaf([]string{"b", "d"}, []string{"1", "2"}), leaf([]string{"a", "c"}, []string{"3", "4"}),
		branch([]string{"a"}, 2), branch([]string{"a"}, 3), branch([]string{"a", "c"}, 2, 3), branch([]string{"b", "c"}, 3, 4), branch([]string{"a", "b"}, 4, 5), branch([]string{"c", "d"}, 5, 2), branch([]string{"a", "b", "c", "d"}, 2, 3, 4, 12),
	} {
		texts = append(texts, nodeText(t, n))
	}
	size := len(texts)
	for row := range size * size * size * size {
		d := impl.Disk{Pages: []string{"", "", texts[row%size], texts[row/size%size], texts[row/size/size%size], texts[row/size/size/size], "", "", "", "", "", "", "", ""}}
		for _, key := range []string{"b", "c", "d"} {
			_, _, ok := dropKey(t, "some pages", work(d, 6, nil, nil, nil), 5, key)
			if _, there := impl.GetKey(d, 5, key); ok && !there {
				t.Fatalf("row %d: %q is taken, and was not there", row, key)
			}
			dropKey(t, "some pages, Fresh", work(d, 14, []int{7}, nil, []int{5, 2, 3, 4}), 5, key)
		}
	}
}

// Drawn trees of any shape: where AllPairs was true, it is so behind each take, with all that was there but for one.
func TestTakeFromDrawnTrees(t *testing.T) {
	for seed := range 120 {
		next := drawn(seed)
		w, root, pairs := drawTree(t, next, 3+seed%7, 20)
		if _, right := impl.AllPairs(w.Disk, root); !right {
			for _, p := range pairs {
				_, there := impl.GetKey(w.Disk, root, p.Key)
				if _, _, ok := dropKey(t, "too deep", w, root, p.Key); ok != there {
					t.Errorf("seed %d: %q is taken: %v", seed, p.Key, ok)
				}
			}
			continue
		}
		for len(pairs) > 0 {
			key := pairs[next(len(pairs))].Key
			w, root, pairs = takeRight(t, "a drawn tree", w, root, pairs, key)
			if next(3) == 0 {
				back := append(slices.Clone(w.Usable), w.Gone...)
				slices.Sort(back)
				w = work(impl.SyncDisk(w.Disk), w.Next, back, nil, nil)
			}
		}
		if root != 0 {
			t.Errorf("seed %d: root %d is left", seed, root)
		}
	}
}

// A long row of puts and takes, drawn by a rule, the tree growing and shrinking: now and then all that was written is kept, and what is gone may be given.
func TestPutAndTakeLongRow(t *testing.T) {
	for seed := range 8 {
		w, root, pairs := impl.WorkNew(newDisk(t, 20+seed%3*10), meta(0, 0, 2), 0), 0, []impl.Pair{}
		next := drawn(seed)
		for at := range 300 {
			key, val := strings.Repeat("ab", next(3))+strconv.Itoa(next(25)), strconv.Itoa(at)
			there := slices.ContainsFunc(pairs, func(p impl.Pair) bool { return p.Key == key })
			if take := next(10) < 3+at/50%2*5; take && len(pairs) > 0 && next(5) > 0 {
				key, there = pairs[next(len(pairs))].Key, true
				if _, _, ok := dropKey(t, "a row", w, root, key); ok {
					w, root, pairs = takeRight(t, "a row", w, root, pairs, key)
				}
			} else if take && !there {
				refusesTake(t, "not there", w, root, key)
			} else if _, _, ok := putKey(t, "a row", w, root, key, val); ok {
				w, root, pairs = putRight(t, "a row", w, root, pairs, key, val)
			}
			if told, ok := impl.AllPairs(w.Disk, root); !ok || !slices.Equal(told, pairs) {
				t.Fatalf("seed %d: %q, not %q", seed, told, pairs)
			}
			if next(7) == 0 || len(w.Disk.Late) > 150 {
				back := append(slices.Clone(w.Usable), w.Gone...)
				slices.Sort(back)
				w = work(impl.SyncDisk(w.Disk), w.Next, back, nil, nil)
			}
		}
	}
}

// takeCalls are takes of pairs that are there, such as are refused, and one behind another.
func takeCalls() map[string]func(w impl.Work, root int) (impl.Work, int, bool) {
	take := func(key string) func(w impl.Work, root int) (impl.Work, int, bool) {
		return func(w impl.Work, root int) (impl.Work, int, bool) { return impl.DropKey(w, root, key) }
	}
	return map[string]func(w impl.Work, root int) (impl.Work, int, bool){
		"the first":    take("k100"),
		"another one":  take("k102"),
		"a later one":  take("k110"),
		"not there":    take("k103!"),
		"too long":     take(strings.Repeat("k", 25)),
		"from nothing": func(w impl.Work, root int) (impl.Work, int, bool) { return impl.DropKey(w, 0, "k100") },
		"from no root": func(w impl.Work, root int) (impl.Work, int, bool) { return impl.DropKey(w, -1, "k100") },
		"from no node": func(w impl.Work, root int) (impl.Work, int, bool) { return impl.DropKey(w, 1, "k100") },
		"all of a leaf": func(w impl.Work, root int) (impl.Work, int, bool) {
			ok := true
			for _, key := range []string{"k100", "k101", "k102", "k103"} {
				w, root, ok = impl.DropKey(w, root, key)
			}
			return w, root, ok
		},
	}
}

func TestTakeArgumentsStay(t *testing.T) {
	for name, c := range treeWorks(t) {
		for call, do := range takeCalls() {
			w := roomyWork(c.w)
			want := wholeWork(w)
			do(w, c.root)
			if !sameWork(wholeWork(w), want) || !sameWork(w, c.w) {
				t.Errorf("%s, %s: it writes into its argument", call, name)
			}
		}
	}
}

func TestTakesAreNewMemory(t *testing.T) {
	for name, c := range treeWorks(t) {
		for call, do := range takeCalls() {
			w := roomyWork(c.w)
			got, root, _ := do(w, c.root)
			other, _, _ := do(w, c.root)
			later, _, _ := impl.DropKey(got, root, "k101")
			want, last := ownWork(got), ownWork(later)
			scribbleWork(w)
			if !sameWork(got, want) {
				t.Errorf("%s, %s: an argument that is changed changes the answer", call, name)
			}
			scribbleWork(got)
			if !sameWork(other, want) || !sameWork(later, last) {
				t.Errorf("%s, %s: two answers share memory", call, name)
			}
			w = roomyWork(c.w)
			whole := wholeWork(w)
			got, root, _ = do(w, c.root)
			later, _, _ = impl.DropKey(got, root, "k101")
			scribbleWork(later)
			if !sameWork(got, want) {
				t.Errorf("%s, %s: an answer that is changed changes an earlier one", call, name)
			}
			scribbleWork(got)
			if !sameWork(wholeWork(w), whole) {
				t.Errorf("%s, %s: an answer that is changed changes the argument", call, name)
			}
		}
	}
}

// The lists of one answer are apart, in their spare room, too.
func TestListsOfATakeAreApart(t *testing.T) {
	for name, c := range treeWorks(t) {
		for call, do := range takeCalls() {
			got, _, _ := do(roomyWork(c.w), c.root)
			want := ownWork(got)
			for _, list := range [][]int{got.Usable, got.Gone, got.Fresh} {
				fillSpare(list)
				if !sameWork(got, want) {
					t.Errorf("%s, %s: two lists share memory", call, name)
				}
			}
		}
	}
}

func TestTakeTextsAreNewMemory(t *testing.T) {
	texts := func(d impl.Disk) []string {
		list := slices.Clone(d.Pages)
		for _, put := range d.Late {
			list = append(list, put.Text)
		}
		return list
	}
	for name, c := range treeWorks(t) {
		w := ownWork(c.w)
		for _, key := range []string{"k100", "k102", "k102!"} {
			key := strings.Clone(key)
			got, _, _ := impl.DropKey(w, c.root, key)
			for _, text := range texts(got.Disk) {
				for _, held := range append(texts(w.Disk), key) {
					if sharesMemory(text, held) {
						t.Errorf("%s: DropKey hands out a text of its argument: %q", name, text)
					}
				}
			}
		}
	}
}

// An empty list and nil are the same value.
func TestTakeEmptyAndNil(t *testing.T) {
	d := pagesWith(t, map[int]impl.Node{2: leaf([]string{"b", "d", "f", "h"}, make([]string, 4)), 3: oneOf("m"), 4: branch([]string{"b", "m"}, 2, 3)})
	for _, next := range []int{5, 12, 14} {
		for _, root := range []int{-1, 0, 2, 3, 4} {
			for _, key := range []string{"", "b", "h", "m", "z"} {
				empty := work(impl.Disk{Pages: d.Pages, Late: []impl.Put{}}, next, []int{}, []int{}, []int{})
				none := work(impl.Disk{Pages: d.Pages}, next, nil, nil, nil)
				one, top, ok := impl.DropKey(empty, root, key)
				other, above, right := impl.DropKey(none, root, key)
				if !sameWork(one, other) || top != above || ok != right {
					t.Errorf("root %d, %q: an empty list is not nil", root, key)
				}
			}
		}
	}
	for _, w := range []impl.Work{{}, work(impl.Disk{Pages: []string{}, Late: []impl.Put{}}, 0, []int{}, []int{}, []int{})} {
		for _, root := range []int{0, 1, 2, -1} {
			refusesTake(t, "no work", w, root, "", "k")
		}
	}
}
