package tests

import (
	"maps"
	"math"
	"slices"
	"strconv"
	"strings"
	"sync"
	"testing"

	"loop.example/g00240/impl"
)

// leastPages is how many pages a tree of so many pairs must have: on each level as few nodes as hold all that is below.
func leastPages(pairs int) int {
	pages := 0
	for left := pairs; left > 0; {
		nodes := left / 4
		if left%4 > 0 {
			nodes++
		}
		pages += nodes
		if nodes == 1 {
			return pages
		}
		left = nodes
	}
	return pages
}

// plainBuild is what the document tells of BuildTree, node by node: each takes four of what is left, and is one place of the level above.
func plainBuild(w impl.Work, list []impl.Pair) (impl.Work, int, bool) {
	row := []entry{}
	for at, p := range list {
		if at > 0 && strings.Compare(list[at-1].Key, p.Key) >= 0 {
			return w, 0, false
		}
		row = append(row, entry{key: p.Key, val: p.Val})
	}
	if len(list) == 0 {
		return w, 0, true
	}
	out, isLeaf := w, true
	for isLeaf || len(row) > 1 {
		above := []entry{}
		for len(row) > 0 {
			size := min(4, len(row))
			next, page := impl.PutNode(out, nodeOf(isLeaf, row[:size]))
			if page == 0 {
				return w, 0, false
			}
			out, above, row = next, append(above, entry{key: row[0].key, kid: page}), row[size:]
		}
		row, isLeaf = above, false
	}
	return out, row[0].kid, true
}

// plainPack is what the document tells of PackTxn; the old tree is that of the disk as it was.
func plainPack(x impl.Txn) (impl.Txn, bool) {
	pairs, ok := impl.AllPairs(x.Work.Disk, x.Root)
	pages, is := impl.PagesOf(x.Work.Disk, x.Root)
	w, root, built := plainBuild(x.Work, pairs)
	if !ok || !is || !built {
		return x, false
	}
	for _, page := range pages {
		w = impl.DropPage(w, page)
	}
	return txn(x.Base, w, root), true
}

// build holds BuildTree against the document's words, each field and each page.
func build(t *testing.T, name string, w impl.Work, list []impl.Pair) (impl.Work, int, bool) {
	t.Helper()
	want, top, right := plainBuild(w, list)
	got, root, ok := impl.BuildTree(w, list)
	if root != top || ok != right || !sameWork(got, want) {
		t.Errorf("%s: BuildTree of %d pairs is %d, %v, not %d, %v", name, len(list), root, ok, top, right)
		isWork(t, name, got, want)
	}
	if !ok && (root != 0 || !sameWork(got, w)) {
		t.Errorf("%s: beside a false it is %d, and the work another one", name, root)
	}
	if t.Failed() {
		t.FailNow()
	}
	return got, root, ok
}

// refusesBuild holds that nothing is built, and all is as it was.
func refusesBuild(t *testing.T, name string, w impl.Work, list []impl.Pair) {
	t.Helper()
	if got, root, ok := impl.BuildTree(w, list); ok || root != 0 || !sameWork(got, w) {
		t.Errorf("%s: BuildTree of %d pairs is %d, %v", name, len(list), root, ok)
		isWork(t, name, got, w)
	}
}

// levelsIn are the nodes of a tree, level by level, the leaves last.
func levelsIn(t *testing.T, d impl.Disk, root int) [][]impl.Node {
	t.Helper()
	levels := [][]impl.Node{}
	for pages := []int{root}; len(pages) > 0; {
		level, below := []impl.Node{}, []int{}
		for _, page := range pages {
			n, ok := impl.ReadNode(impl.ReadPage(d, page))
			if !ok {
				t.Fatalf("page %d is no node", page)
			}
			level, below = append(level, n), append(below, n.Kids...)
		}
		levels, pages = append(levels, level), below
	}
	return levels
}

// isClose holds that a tree is as close together as it can be: each node but the last one of its level has Fan, and tells the first Key of each Kid.
func isClose(t *testing.T, name string, d impl.Disk, root int) {
	t.Helper()
	if root == 0 {
		return
	}
	levels := levelsIn(t, d, root)
	for at, level := range levels {
		for place, n := range level {
			if place < len(level)-1 && len(n.Keys) != impl.Fan {
				t.Errorf("%s: level %d, node %d of %d has %d Keys", name, at, place, len(level), len(n.Keys))
			}
			if n.Leaf != (at == len(levels)-1) {
				t.Errorf("%s: level %d of %d: leaf %v", name, at, len(levels), n.Leaf)
			}
			for kid, page := range n.Kids {
				if below, _ := impl.ReadNode(impl.ReadPage(d, page)); below.Keys[0] != n.Keys[kid] {
					t.Errorf("%s: level %d: the Key of page %d is %q, its first one %q", name, at, page, n.Keys[kid], below.Keys[0])
				}
			}
		}
		// A level has as few nodes as there can be above the next one.
		if at > 0 && len(levels[at-1]) != (len(level)+impl.Fan-1)/impl.Fan {
			t.Errorf("%s: %d nodes above %d", name, len(levels[at-1]), len(level))
		}
	}
	if len(levels[0]) != 1 || !levels[0][0].Leaf && len(levels[0][0].Kids) < 2 {
		t.Errorf("%s: the root is %+v", name, levels[0])
	}
}

// othersStay holds that no page is written over but those that were given.
func othersStay(t *testing.T, name string, was, now impl.Disk, given []int) {
	t.Helper()
	for page := range was.Pages {
		if !slices.Contains(given, page) && impl.ReadPage(now, page) != impl.ReadPage(was, page) {
			t.Errorf("%s: page %d is written over", name, page)
		}
	}
	if !slices.Equal(now.Pages, was.Pages) || !slices.Equal(now.Late[:len(was.Late)], was.Late) || len(now.Late) != len(was.Late)+len(given) {
		t.Errorf("%s: what was written is another one", name)
	}
}

// areFound holds that each of these pairs is got by its key, and what stands behind it is not.
func areFound(t *testing.T, d impl.Disk, root int, list []impl.Pair) {
	t.Helper()
	for at, p := range list {
		found(t, d, root, p.Key, p.Val)
		for _, other := range []string{p.Key + "\x00", p.Key + "~"} {
			if at == len(list)-1 || other < list[at+1].Key {
				notFound(t, d, root, other)
			}
		}
	}
}

// buildRight builds a tree, and holds the promise: it is right, has just these pairs, in order, in as few pages as must be, and all else stays.
func buildRight(t *testing.T, name string, w impl.Work, list []impl.Pair) (impl.Work, int) {
	t.Helper()
	out, root, ok := build(t, name, w, list)
	if !ok {
		t.Fatalf("%s: %d pairs are not built", name, len(list))
	}
	given := slices.Clone(out.Fresh[len(w.Fresh):])
	if !slices.Equal(out.Fresh[:len(w.Fresh)], w.Fresh) || !slices.Equal(out.Gone, w.Gone) || len(given) != leastPages(len(list)) {
		t.Errorf("%s: %d pairs have %v; Fresh %v, Gone %v", name, len(list), given, out.Fresh, out.Gone)
	}
	offered := append(slices.Clone(w.Usable), span(w.Next, len(w.Disk.Pages)-1)...)
	if !slices.Equal(given, offered[:len(given)]) || !slices.Equal(append(slices.Clone(out.Usable), span(out.Next, len(w.Disk.Pages)-1)...), offered[len(given):]) {
		t.Errorf("%s: of %v are given %v, and %v, %d left", name, offered, given, out.Usable, out.Next)
	}
	if (root == 0) != (len(list) == 0) || len(list) > 0 && root != given[len(given)-1] {
		t.Errorf("%s: root %d of the pages %v", name, root, given)
	}
	othersStay(t, name, w.Disk, out.Disk, given)
	slices.Sort(given)
	told(t, name, out.Disk, root, list, given, true)
	isClose(t, name, out.Disk, root)
	areFound(t, out.Disk, root, list)
	if t.Failed() {
		t.FailNow()
	}
	return out, root
}

// room is a work of so many pages that are free, some of them usable, the others new.
func room(t *testing.T, free, usable int) impl.Work {
	t.Helper()
	d := newDisk(t, max(4, 2+free))
	next := len(d.Pages) - free + usable
	return work(d, next, span(next-usable, next-1), nil, nil)
}

// Lists of every length, on disks of every size: as many as their pages can hold, and not one more.
func TestBuildEachLength(t *testing.T) {
	most := map[int]int{}
	for size := 4; size <= impl.MaxPages; size++ {
		for n := range 4*size + 2 {
			w := impl.WorkNew(newDisk(t, size), meta(0, 0, 2), 0)
			_, _, ok := build(t, "a length", w, pairsOf(n))
			if ok != (leastPages(n) <= size-2) {
				t.Fatalf("%d pairs on %d pages: %v", n, size, ok)
			}
			if ok {
				most[size] = n
			}
			if ok && (size == impl.MaxPages || size%9 == 4) {
				buildRight(t, "a length", w, pairsOf(n))
			}
		}
	}
	for size, want := range map[int]int{4: 4, 5: 8, 6: 12, 7: 16, 8: 16, 9: 16, 10: 20, 11: 24, 12: 28, 13: 32, 14: 32, 15: 36, 23: 64, 24: 64, 25: 64, 26: 64, 27: 68, 40: 112} {
		if most[size] != want {
			t.Errorf("%d pages hold %d pairs, not %d", size, most[size], want)
		}
	}
}

// How many pages there must be, told one by one.
func TestBuildHowManyPages(t *testing.T) {
	for n, want := range map[int]int{
		0: 0, 1: 1, 2: 1, 3: 1, 4: 1, 5: 3, 7: 3, 8: 3, 9: 4, 12: 4, 13: 5, 15: 5, 16: 5, 17: 8, 20: 8, 21: 9, 31: 11, 32: 11, 33: 13, 48: 16, 49: 18, 63: 21, 64: 21, 65: 25, 68: 25, 69: 26, 80: 28, 81: 30, 108: 37, 109: 38, 112: 38,
	} {
		out, _ := buildRight(t, "how many", room(t, 38, 0), pairsOf(n))
		if len(out.Fresh) != want || leastPages(n) != want {
			t.Errorf("%d pairs have %d pages, not %d", n, len(out.Fresh), want)
		}
	}
}

// The nodes of some trees, page by page: leaves first, from the left on, then each level above.
func TestBuildNodes(t *testing.T) {
	list := pairsOf(17)
	part := func(from, to int) impl.Node {
		n := impl.Node{Leaf: true}
		for _, p := range list[from:to] {
			n.Keys, n.Vals = append(n.Keys, p.Key), append(n.Vals, p.Val)
		}
		return n
	}
	for name, c := range map[string]struct {
		pairs, next int
		usable      []int
		root        int
		want        map[int]impl.Node
	}{
		"one pair":                  {1, 2, nil, 2, map[int]impl.Node{2: part(0, 1)}},
		"one pair, usable":          {1, 6, []int{5}, 5, map[int]impl.Node{5: part(0, 1)}},
		"a leaf":                    {4, 3, nil, 3, map[int]impl.Node{3: part(0, 4)}},
		"one more than a leaf":      {5, 2, nil, 4, map[int]impl.Node{2: part(0, 4), 3: part(4, 5), 4: branch([]string{"k100", "k104"}, 2, 3)}},
		"one less than two leaves":  {7, 2, nil, 4, map[int]impl.Node{2: part(0, 4), 3: part(4, 7), 4: branch([]string{"k100", "k104"}, 2, 3)}},
		"two leaves, usable":        {8, 9, []int{3, 7}, 9, map[int]impl.Node{3: part(0, 4), 7: part(4, 8), 9: branch([]string{"k100", "k104"}, 3, 7)}},
		"usable ones that descend":  {8, 9, []int{7, 3, 5}, 5, map[int]impl.Node{7: part(0, 4), 3: part(4, 8), 5: branch([]string{"k100", "k104"}, 7, 3)}},
		"four leaves":               {16, 2, nil, 6, map[int]impl.Node{2: part(0, 4), 3: part(4, 8), 4: part(8, 12), 5: part(12, 16), 6: branch([]string{"k100", "k104", "k108", "k112"}, 2, 3, 4, 5)}},
		"one more than four leaves": {17, 4, []int{3}, 10, map[int]impl.Node{3: part(0, 4), 4: part(4, 8), 5: part(8, 12), 6: part(12, 16), 7: part(16, 17), 8: branch([]string{"k100", "k104", "k108", "k112"}, 3, 4, 5, 6), 9: branch([]string{"k116"}, 7), 10: branch([]string{"k100", "k116"}, 8, 9)}},
	} {
		w := work(named(14), c.next, c.usable, []int{1}, []int{12})
		want := w
		for _, page := range append(slices.Clone(c.usable), span(c.next, 13)...)[:len(c.want)] {
			want.Disk = write(t, want.Disk, page, nodeText(t, c.want[page]))
			want, _ = impl.GivePage(want)
		}
		got, root, ok := impl.BuildTree(w, list[:c.pairs])
		if root != c.root || !ok {
			t.Errorf("%s: root %d, %v", name, root, ok)
		}
		isWork(t, name, got, want)
		told(t, name, got.Disk, root, list[:c.pairs], slices.Sorted(maps.Keys(c.want)), true)
	}
}

// The last leaf and the last node of each level have what is left, be it one alone.
func TestBuildLastNodes(t *testing.T) {
	for n := 1; n <= 112; n++ {
		out, root := buildRight(t, "the last ones", room(t, 38, n%39), pairsOf(n))
		levels := levelsIn(t, out.Disk, root)
		below := n
		for at := len(levels) - 1; at >= 0; at-- {
			last := levels[at][len(levels[at])-1]
			if left := below - 4*(len(levels[at])-1); len(last.Keys) != left || left < 1 || left > 4 {
				t.Fatalf("%d pairs: the last node of level %d has %d, not %d", n, at, len(last.Keys), left)
			}
			below = len(levels[at])
		}
	}
	for n, want := range map[int]int{16 + 1: 2, 32 + 1: 3, 48 + 1: 4, 64 + 1: 5, 80 + 1: 6} {
		out, root := buildRight(t, "one Kid alone", room(t, 38, 0), pairsOf(n))
		levels := levelsIn(t, out.Disk, root)
		above := levels[len(levels)-2]
		if last := above[len(above)-1]; len(above) != want || len(last.Kids) != 1 {
			t.Errorf("%d pairs: %d nodes above the leaves, the last one has %v", n, len(above), last.Kids)
		}
	}
}

// No pairs at all: root 0, and nothing is written, whatever the work is.
func TestBuildNothing(t *testing.T) {
	works := anyWorks()
	works["200 Late"] = work(lateUp(named(9), maxLate), 9, nil, nil, nil)
	works["Next far past"] = work(named(9), math.MaxInt, nil, nil, nil)
	works["Next far below"] = work(named(9), math.MinInt, nil, nil, nil)
	for name, w := range works {
		for _, list := range [][]impl.Pair{nil, {}, pairsOf(9)[:0]} {
			got, root, ok := impl.BuildTree(w, list)
			if root != 0 || !ok {
				t.Errorf("%s: root %d, %v", name, root, ok)
			}
			isWork(t, name, got, w)
		}
	}
}

// Keys that do not ascend, at each place of a list: two that are alike, two that are the other way round, one that is elsewhere.
func TestBuildKeysThatDoNotAscend(t *testing.T) {
	for _, n := range []int{2, 3, 4, 5, 8, 9, 16, 17, 18, 33, 65, 112} {
		right := pairsOf(n)
		w := room(t, 38, 5)
		buildRight(t, "as they should be", w, right)
		for at := 1; at < n; at++ {
			for name, change := range map[string]func(list []impl.Pair){
				"two alike":             func(list []impl.Pair) { list[at].Key = list[at-1].Key },
				"two alike, Vals too":   func(list []impl.Pair) { list[at] = list[at-1] },
				"the other way round":   func(list []impl.Pair) { list[at-1], list[at] = list[at], list[at-1] },
				"the first one again":   func(list []impl.Pair) { list[at].Key = list[0].Key },
				"less than all":         func(list []impl.Pair) { list[at].Key = "" },
				"above all, not last":   func(list []impl.Pair) { list[at-1].Key = "z" },
				"the beginning of it":   func(list []impl.Pair) { list[at].Key = list[at-1].Key[:3] },
				"a byte 0 behind it":    func(list []impl.Pair) { list[at-1].Key = list[at].Key + "\x00" },
				"the first one here":    func(list []impl.Pair) { copy(list, append(slices.Clone(list[1:at+1]), list[0])) },
				"down from here":        func(list []impl.Pair) { slices.Reverse(list[at-1:]) },
				"down to here":          func(list []impl.Pair) { slices.Reverse(list[:at+1]) },
				"all alike from here":   func(list []impl.Pair) { copy(list[at-1:], slices.Repeat(list[at-1:at], n-at+1)) },
				"a key that is too low": func(list []impl.Pair) { list[at].Key = "j" },
			} {
				list := slices.Clone(right)
				change(list)
				refusesBuild(t, name, w, list)
				build(t, name, w, list)
			}
		}
	}
	// Whatever the work is, nothing is left behind.
	for name, w := range anyWorks() {
		refusesBuild(t, name, w, []impl.Pair{pair("b", ""), pair("a", "")})
		refusesBuild(t, name, w, []impl.Pair{pair("", ""), pair("", "")})
		refusesBuild(t, name, w, append(pairsOf(30), pair("", "")))
	}
}

// Rows of all keys of few letters, of up to four: built just when they ascend.
func TestBuildEachRow(t *testing.T) {
	keys := []string{"", "\x00", "a", "a\x00", "a\xff", "b"}
	w := room(t, 6, 2)
	var rows func(list []impl.Pair, ascend bool)
	rows = func(list []impl.Pair, ascend bool) {
		if _, _, ok := build(t, "a row", w, list); ok != ascend {
			t.Fatalf("%q: %v", list, ok)
		}
		if len(list) == 4 {
			return
		}
		for _, key := range keys {
			rows(append(slices.Clip(list), pair(key, "v")), ascend && (len(list) == 0 || list[len(list)-1].Key < key))
		}
	}
	rows(nil, true)
}

// Texts of any bytes and every length to the limit; those that are one too long, at each place, are refused.
func TestBuildTexts(t *testing.T) {
	list := []impl.Pair{}
	for size := range 25 {
		list = append(list, pair(strings.Repeat("a", size), strings.Repeat("\xff", 24-size)), pair(strings.Repeat("a", size)+"\x00", ""))
	}
	list = list[:49]
	list = append(list, pair(strings.Repeat("\xff", 24), strings.Repeat("\x00", 24)))
	slices.SortFunc(list, func(a, b impl.Pair) int { return strings.Compare(a.Key, b.Key) })
	for n := range len(list) + 1 {
		buildRight(t, "any texts", room(t, 38, 0), list[:n])
		buildRight(t, "any texts", room(t, 38, 38), list[len(list)-n:])
	}
	longest := []impl.Pair{}
	for at := range 112 {
		longest = append(longest, pair(strings.Repeat("k", 21)+strconv.Itoa(100+at), strings.Repeat("v", 24)))
	}
	buildRight(t, "the longest", room(t, 38, 9), longest)
	for _, n := range []int{1, 2, 4, 5, 9, 16, 17, 30} {
		for at := range n {
			for _, more := range []int{1, 2, 100, 1000, impl.MaxText} {
				wrong := slices.Clone(longest[:n])
				wrong[at].Key += strings.Repeat("k", more)
				refusesBuild(t, "a Key too long", room(t, 38, 3), wrong)
				wrong = slices.Clone(longest[:n])
				wrong[at].Val += strings.Repeat("v", more)
				refusesBuild(t, "a Val too long", room(t, 38, 3), wrong)
			}
		}
	}
}

// Just as many pages as are needed, one too few for the last leaf, for a node above, or for the root, and each number below that: usable ones, new ones, both, and such as may still be Late.
func TestBuildWithTooFewPages(t *testing.T) {
	for _, n := range []int{1, 4, 5, 8, 9, 13, 16, 17, 20, 21, 33, 64, 65, 112} {
		need := leastPages(n)
		for some := range min(need+2, 39) {
			few := func(name string, w impl.Work) {
				t.Helper()
				out, _, ok := build(t, name, w, pairsOf(n))
				if ok != (some >= need) {
					t.Fatalf("%s: %d pairs, %d pages of %d: %v", name, n, some, need, ok)
				}
				if ok {
					buildRight(t, name, w, pairsOf(n))
				} else if !sameWork(out, w) {
					t.Fatalf("%s: %d pairs, %d pages of %d: something is left behind", name, n, some, need)
				}
			}
			for usable := range some + 1 {
				few("both", room(t, some, usable))
			}
			few("usable alone", work(named(impl.MaxPages), math.MaxInt, span(40-some, 39), []int{2}, []int{1}))
			few("those that are left", work(named(impl.MaxPages), 40-some, nil, span(2, 39-some), []int{1, 0}))
			few("Late", work(lateUp(named(impl.MaxPages), maxLate-some), 2, nil, nil, nil))
		}
	}
}

// Lists that are far too long for any disk are refused, and that ends.
func TestBuildFarTooMany(t *testing.T) {
	list := []impl.Pair{}
	for at := range 200000 {
		list = append(list, pair("k"+strconv.Itoa(1000000+at), ""))
	}
	for name, w := range map[string]impl.Work{
		"all pages":         room(t, 38, 0),
		"usable ones twice": work(named(impl.MaxPages), 2, slices.Repeat(span(2, 39), 50), nil, nil),
		"one a hundred":     work(named(impl.MaxPages), 2, slices.Repeat([]int{3}, 1000), nil, nil),
		"no disk":           work(impl.Disk{}, 2, slices.Repeat([]int{3}, 1000), nil, nil),
	} {
		refusesBuild(t, name, w, list)
		refusesBuild(t, name, w, append(list[:113:113], list[112]))
		build(t, name, w, list[:113])
	}
}

// A tree that is on the disk already stays as it was, and so does each page that is not given.
func TestBuildBesideATree(t *testing.T) {
	for at, g := range grownTrees(t) {
		for _, kept := range []bool{false, true} {
			if kept {
				g.disk = impl.SyncDisk(g.disk)
			}
			for n := range 20 {
				w := inWork(g)
				w.Gone, w.Fresh = []int{1, 0}, []int{0}
				if leastPages(n) > len(w.Usable) {
					continue
				}
				name := "beside tree " + strconv.Itoa(at)
				out, root := buildRight(t, name, w, pairsOf(n))
				oldStays(t, name, g, out)
				told(t, name+", kept", impl.SyncDisk(out.Disk), root, pairsOf(n), slices.Sorted(slices.Values(out.Fresh[1:])), true)
			}
		}
	}
	// One tree behind another: each is there, and none is in the other's way.
	w, roots, used := room(t, 38, 11), []int{}, 0
	for n := 1; used+leastPages(n) <= 38; n++ {
		out, root := buildRight(t, "one behind another", w, pairsOf(n))
		w, roots, used = out, append(roots, root), used+leastPages(n)
		for at, root := range roots {
			if got, ok := impl.AllPairs(w.Disk, root); !ok || !slices.Equal(got, pairsOf(at+1)) {
				t.Fatalf("the tree of %d is %q, %v", at+1, got, ok)
			}
		}
	}
	if len(roots) < 10 {
		t.Errorf("%d trees alone", len(roots))
	}
}

// Works whose Usable has pages twice, pages off the disk, or pages 0 and 1; Next below 2, past the disk, and the greatest and least number: as PutNode puts there.
func TestBuildInWrongWorks(t *testing.T) {
	met := map[bool]int{}
	for name, usable := range map[string][]int{
		"none": nil, "twice": {5, 5, 6}, "twice, apart": {5, 6, 5}, "three times": {7, 7, 7}, "all twice": {5, 5, 6, 6, 7, 7}, "page 0": {0}, "page 0, then more": {0, 5, 6}, "page 0 above": {5, 6, 0}, "page 1": {1, 5, 6}, "page 1 above": {5, 6, 1},
		"page 1 in the midst": {5, 1, 6}, "both": {0, 1, 2, 3}, "the root twice": {5, 6, 6}, "below 0": {-1, 5, 6}, "below 0, later": {5, -1, 6}, "the least": {math.MinInt, 5}, "past the disk": {5, 14, 6}, "just past it": {14}, "far past": {5, 6, math.MaxInt}, "in no order": {9, 3, 7, 2},
		"far apart twice": {2, 3, 4, 5, 6, 2, 7, 8, 9, 10}, "one for all": slices.Repeat([]int{5}, 30), "two for all": slices.Repeat([]int{5, 6}, 30),
	} {
		for _, next := range []int{2, 1, 0, -1, math.MinInt, 12, 13, 14, 15, 40, math.MaxInt, math.MaxInt - 1} {
			for _, d := range []impl.Disk{named(14), lateUp(named(14), 3), lateUp(named(14), maxLate-2)} {
				for _, n := range []int{0, 1, 4, 5, 8, 9, 12, 17, 40} {
					_, _, ok := build(t, name, work(d, next, usable, []int{3}, []int{5, 2}), pairsOf(n))
					met[ok]++
				}
			}
		}
	}
	if met[true] < 500 || met[false] < 500 {
		t.Errorf("%d are built, %d are not", met[true], met[false])
	}
	w := work(named(14), 12, []int{5, 5, 6}, nil, nil)
	refusesBuild(t, "one Kid twice", w, pairsOf(5))
	refusesBuild(t, "page 1 is no Kid", work(named(14), 12, []int{5, 1}, nil, nil), pairsOf(5))
	refusesBuild(t, "page 0 is none", work(named(14), 12, []int{0, 5}, nil, nil), pairsOf(1))
	refusesBuild(t, "page 0 is no root", work(named(14), 12, []int{5, 6, 0}, nil, nil), pairsOf(5))
	refusesBuild(t, "Next 0", work(named(14), 0, nil, nil, nil), pairsOf(1))
	refusesBuild(t, "Next below 0", work(named(14), -1, nil, nil, nil), pairsOf(1))
	refusesBuild(t, "Next past the disk", work(named(14), 15, nil, nil, nil), pairsOf(1))
	refusesBuild(t, "the greatest Next", work(named(14), math.MaxInt, nil, nil, nil), pairsOf(1))
	refusesBuild(t, "a usable page off the disk", work(named(14), 2, []int{14}, nil, nil), pairsOf(1))
	// Page 1 is a page, and a root is in no node: by its words PutNode puts there, and so it is the root.
	for name, w := range map[string]impl.Work{"usable": work(named(14), 2, []int{1}, nil, nil), "Next": work(named(14), 1, nil, nil, nil)} {
		if got, root, ok := build(t, name, w, pairsOf(4)); root != 1 || !ok || !slices.Equal(got.Fresh, []int{1}) {
			t.Errorf("%s: page 1 is root %d, %v", name, root, ok)
		}
	}
}

// A disk that is not right can't be written: nothing but nothing is built there.
func TestBuildOnWrongDisks(t *testing.T) {
	for name, d := range wrongDisks() {
		for _, w := range []impl.Work{work(d, 2, nil, nil, nil), work(d, 9, []int{2, 3}, []int{4}, []int{3}), work(d, math.MaxInt, nil, nil, nil)} {
			for _, n := range []int{1, 2, 4, 5, 17, 200} {
				refusesBuild(t, name, w, pairsOf(n))
			}
			if got, root, ok := impl.BuildTree(w, nil); root != 0 || !ok || !sameWork(got, w) {
				t.Errorf("%s: nothing is root %d, %v", name, root, ok)
			}
		}
	}
	// Late to pages that are given, and to others: the last one counts.
	d := named(9)
	for page := range 9 {
		d.Late = append(d.Late, impl.Put{Page: page, Text: "late"}, impl.Put{Page: page, Text: ""})
	}
	buildRight(t, "something late", work(d, 7, []int{3, 5}, nil, nil), pairsOf(8))
}

// packs holds PackTxn against the document's words, each field and each page.
func packs(t *testing.T, name string, x impl.Txn) (impl.Txn, bool) {
	t.Helper()
	want, right := plainPack(x)
	got, ok := impl.PackTxn(x)
	if ok != right || !sameTxn(got, want) {
		t.Errorf("%s: PackTxn is %v, not %v", name, ok, right)
		isTxn(t, name, got, want)
	}
	if !ok && !sameTxn(got, x) {
		t.Errorf("%s: beside a false the change is another one", name)
	}
	if t.Failed() {
		t.FailNow()
	}
	return got, ok
}

// refusesPack holds that nothing is packed, and all is as it was.
func refusesPack(t *testing.T, name string, x impl.Txn) {
	t.Helper()
	got, ok := impl.PackTxn(x)
	if ok {
		t.Errorf("%s: it is packed", name)
	}
	isTxn(t, name, got, x)
}

// packRight packs a change of these pairs, and holds the promise: they are the same, in no more pages than must be; the old tree stays as it was, and its pages are Usable again or Gone.
func packRight(t *testing.T, name string, x impl.Txn, pairs []impl.Pair) impl.Txn {
	t.Helper()
	old, _ := impl.PagesOf(x.Work.Disk, x.Root)
	out, ok := packs(t, name, x)
	if !ok {
		t.Fatalf("%s: it is not packed", name)
	}
	w, d := out.Work, out.Work.Disk
	pages, _ := impl.PagesOf(d, out.Root)
	told(t, name, d, out.Root, pairs, pages, true)
	isClose(t, name, d, out.Root)
	areFound(t, d, out.Root, pairs)
	if len(pages) != leastPages(len(pairs)) || impl.TreeOk(x.Work.Disk, x.Root) && len(pages) > len(old) {
		t.Errorf("%s: %d pairs are in %d pages, and were in %d", name, len(pairs), len(pages), len(old))
	}
	gone, fresh, usable := slices.Clone(x.Work.Gone), slices.Clone(x.Work.Fresh), []int{}
	for _, page := range old {
		if slices.Contains(pages, page) {
			t.Errorf("%s: page %d is in the old tree and the new one", name, page)
		}
		if slices.Contains(x.Work.Fresh, page) {
			usable = append(usable, page)
		} else {
			gone = append(gone, page)
		}
	}
	fresh = slices.DeleteFunc(fresh, func(page int) bool { return slices.Contains(old, page) })
	given := slices.Clone(w.Fresh[len(fresh):])
	if !slices.Equal(w.Gone, gone) || !slices.Equal(w.Fresh[:len(fresh)], fresh) || !slices.Equal(slices.Sorted(slices.Values(given)), pages) {
		t.Errorf("%s: Gone %v, Fresh %v, of the old pages %v and the new ones %v", name, w.Gone, w.Fresh, old, pages)
	}
	for _, page := range usable {
		if !slices.Contains(w.Usable, page) || slices.Contains(w.Gone, page) || slices.Contains(w.Fresh, page) {
			t.Errorf("%s: page %d was Fresh, and is not Usable again", name, page)
		}
	}
	if !slices.Equal(roomOf(t, w, out.Root), roomOf(t, x.Work, x.Root)) || !slices.IsSorted(w.Usable) {
		t.Errorf("%s: pages are lost, or in two places: %v, not %v", name, roomOf(t, w, out.Root), roomOf(t, x.Work, x.Root))
	}
	othersStay(t, name, x.Work.Disk, d, given)
	told(t, name+": the old tree", d, x.Root, pairs, old, impl.TreeOk(x.Work.Disk, x.Root))
	if again, ok := packs(t, name+", again", out); ok {
		more, _ := impl.PagesOf(again.Work.Disk, again.Root)
		told(t, name+", again", again.Work.Disk, again.Root, pairs, more, true)
		if len(more) != len(pages) {
			t.Errorf("%s: again it is in %d pages, not %d", name, len(more), len(pages))
		}
	}
	if t.Failed() {
		t.FailNow()
	}
	return out
}

// isReopened holds that a state is there when its disk is opened again, with all that is promised of a store.
func isReopened(t *testing.T, name string, s state) {
	t.Helper()
	again := opened(t, s.disk)
	if !sameMeta(again.Meta, s.meta) {
		t.Fatalf("%s: opened again the meta is %+v", name, again.Meta)
	}
	counts(t, name+", opened again", state{disk: again.Disk, meta: again.Meta, pairs: s.pairs})
	pagesAre(t, name, again.Disk, again.Meta, true)
	for _, p := range s.pairs {
		found(t, again.Disk, again.Meta.Root, p.Key, p.Val)
	}
}

// Changes of puts and takes, packed: the same pairs, in no more pages; committed and opened again, still the same.
func TestPackChanges(t *testing.T) {
	for was, s := range someStates(t) {
		all := changesOf(s)
		all["nothing"] = nil
		for name, acts := range all {
			for _, oldest := range []int{-1, s.meta.Tx - 1, s.meta.Tx} {
				name := was + ", " + name
				x, pairs := actedAll(t, name, s, oldest, acts)
				packed := packRight(t, name, x, pairs)
				if len(pairs) == 0 && plainNothing(packed) {
					continue
				}
				now := committed(t, name, s, packed, pairs)
				isReopened(t, name, now)
				if pages, _ := impl.PagesOf(now.disk, now.meta.Root); len(pages) != leastPages(len(pairs)) {
					t.Fatalf("%s: committed it is in %d pages", name, len(pages))
				}
				// Packed, it goes on as any change does.
				for _, a := range []act{putAct("k100!", "more"), putAct("", "least")} {
					ok := false
					if packed, pairs, ok = acted(t, name, packed, pairs, a); !ok {
						t.Fatalf("%s: behind packing %+v is refused", name, a)
					}
				}
				committed(t, name, s, packed, pairs)
			}
		}
	}
}

// Pairs put in every order, and then some taken: what comes to be sparse is packed to as few pages as must be, and those are fewer.
func TestPackFewerPages(t *testing.T) {
	fewer := 0
	for order, list := range ordersOf(30) {
		for _, step := range []int{0, 2, 3, 5, 7} {
			s := emptyState(t, impl.MaxPages)
			x, pairs := impl.Begin(s.disk, s.meta, 0), []impl.Pair{}
			for at, n := range list {
				x, pairs, _ = acted(t, order, x, pairs, putAct("k"+strconv.Itoa(100+n), strconv.Itoa(at)))
			}
			for at, n := range list {
				if step > 0 && at%step > 0 {
					x, pairs, _ = acted(t, order, x, pairs, takeAct("k"+strconv.Itoa(100+n)))
				}
			}
			was, _ := impl.PagesOf(x.Work.Disk, x.Root)
			packed := packRight(t, order, x, pairs)
			now, _ := impl.PagesOf(packed.Work.Disk, packed.Root)
			if len(now) < len(was) {
				fewer++
			}
			isReopened(t, order, committed(t, order, s, packed, pairs))
		}
	}
	if fewer < 30 {
		t.Errorf("%d are in fewer pages alone", fewer)
	}
	g := grow(t, pairsOf(20), 2, span(2, 39))
	packed := packRight(t, "20 pairs", txn(meta(3, g.root, 40), inWork(g), g.root), g.pairs)
	if now, _ := impl.PagesOf(packed.Work.Disk, packed.Root); len(g.pages) != 21 || len(now) != 8 {
		t.Errorf("20 pairs are packed from %d pages to %d", len(g.pages), len(now))
	}
}

// Trees of every shape of grownTrees, with no page Fresh and with all.
func TestPackGrownTrees(t *testing.T) {
	for at, g := range grownTrees(t) {
		for _, d := range []impl.Disk{g.disk, impl.SyncDisk(g.disk)} {
			for _, fresh := range [][]int{nil, g.pages} {
				name := "tree " + strconv.Itoa(at)
				x := txn(meta(5, g.root, impl.MaxPages), work(d, impl.MaxPages, free40(g), []int{1}, fresh), g.root)
				if leastPages(len(g.pairs)) > len(x.Work.Usable) {
					refusesPack(t, name, x)
					continue
				}
				packed := packRight(t, name, x, g.pairs)
				oldStays(t, name, g, packed.Work)
				isClose(t, name, packed.Work.Disk, packed.Root)
			}
		}
	}
}

// Each choice of pages that are Fresh: they are Usable again, in their place; others are Gone, behind those that were, ascending.
func TestPackSomeFresh(t *testing.T) {
	up, mixed := span(2, 39), []int{9, 4, 11, 2, 7, 3, 12, 5}
	for _, g := range []tree{grow(t, pairsOf(3), 4, mixed), grow(t, pairsOf(5), 4, mixed), grow(t, pairsOf(6), 2, up), grow(t, pairsOf(9), 3, mixed), grow(t, pairsOf(7), 2, mixed)} {
		g.disk = impl.SyncDisk(g.disk)
		for mask := range 1 << len(g.pages) {
			w := inWork(g)
			w.Gone, w.Fresh = []int{1, 0}, []int{0}
			for at, is := range bits(mask, len(g.pages)) {
				if is {
					w.Fresh = slices.Insert(w.Fresh, mask%len(w.Fresh), g.pages[at])
				}
			}
			packRight(t, "some Fresh", txn(meta(3, g.root, 40), w, g.root), g.pairs)
		}
	}
}

// What is packed, page by page and field by field.
func TestPackNodes(t *testing.T) {
	one, two := leaf([]string{"a", "c"}, []string{"1", "2"}), leaf([]string{"e"}, []string{"3"})
	three := branch([]string{"a", "d"}, 6, 3)
	d := pagesWith(t, map[int]impl.Node{6: one, 3: two, 4: three})
	base := meta(7, 4, 9, free(2, 2, 8), free(5, 7))
	whole := nodeText(t, leaf([]string{"a", "c", "e"}, []string{"1", "2", "3"}))
	for name, c := range map[string]struct {
		was, want impl.Work
		root      int
	}{
		"a usable page":        {work(d, 9, []int{2, 8}, nil, nil), work(write(t, d, 2, whole), 9, []int{8}, []int{3, 4, 6}, []int{2}), 2},
		"a new page":           {work(d, 9, nil, []int{5}, nil), work(write(t, d, 9, whole), 10, nil, []int{5, 3, 4, 6}, []int{9}), 9},
		"all of it Fresh":      {work(d, 9, []int{8}, []int{5}, []int{6, 4, 3}), work(write(t, d, 8, whole), 9, []int{3, 4, 6}, []int{5}, []int{8}), 8},
		"a leaf Fresh":         {work(d, 9, []int{2, 5, 8}, []int{7}, []int{6}), work(write(t, d, 2, whole), 9, []int{5, 6, 8}, []int{7, 3, 4}, []int{2}), 2},
		"the root Fresh":       {work(d, 9, []int{2, 8}, nil, []int{5, 4, 7}), work(write(t, d, 2, whole), 9, []int{4, 8}, []int{3, 6}, []int{5, 7, 2}), 2},
		"the other leaf Fresh": {work(d, 13, nil, nil, []int{3}), work(write(t, d, 13, whole), 14, []int{3}, []int{4, 6}, []int{13}), 13},
	} {
		got, ok := impl.PackTxn(txn(base, c.was, 4))
		if !ok {
			t.Errorf("%s: it is not packed", name)
		}
		isTxn(t, name, got, txn(base, c.want, c.root))
	}
	// The Root of the change is what is packed, not that of Base.
	got, ok := impl.PackTxn(txn(base, work(d, 9, []int{2, 8}, nil, nil), 3))
	if !ok {
		t.Error("another Root: it is not packed")
	}
	isTxn(t, "another Root", got, txn(base, work(write(t, d, 2, nodeText(t, two)), 9, []int{8}, []int{3}, []int{2}), 2))
}

// A change without any tree: root 0, nothing is written or dropped, whatever the rest of it is.
func TestPackNothing(t *testing.T) {
	for name, w := range anyWorks() {
		for _, m := range append(rightMetas(), meta(-1, math.MaxInt, math.MinInt, free(9, 9), free(9, 9)), impl.Meta{}) {
			got, ok := impl.PackTxn(txn(m, w, 0))
			if !ok {
				t.Errorf("%s: it is refused", name)
			}
			isTxn(t, name, got, txn(m, w, 0))
		}
	}
	s := emptyState(t, 9)
	x := impl.Begin(s.disk, s.meta, 0)
	packed, ok := impl.PackTxn(x)
	if d, m, done := impl.Commit(packed); !ok || !done || !sameMeta(m, s.meta) || !sameDisk(d, s.disk) {
		t.Errorf("nothing is committed as %+v, %v", m, done)
	}
	// What is put and taken again leaves no tree.
	x, _ = actedAll(t, "put and taken", s, 0, []act{putAct("a", "1"), putAct("b", "2"), takeAct("a"), takeAct("b")})
	packRight(t, "put and taken", x, nil)
	one := grownState(t, 9, 5, 5)
	acts := []act{}
	for _, p := range one.pairs {
		acts = append(acts, takeAct(p.Key))
	}
	x, pairs := actedAll(t, "all taken", one, one.meta.Tx, acts)
	committed(t, "all taken", one, packRight(t, "all taken", x, pairs), nil)
}

// Just room beside the old tree, and one page too few, and each number below that. The old tree's own pages are no room, be they Fresh or not: they are dropped behind.
func TestPackRoom(t *testing.T) {
	for _, g := range []tree{grow(t, pairsOf(1), 4, span(2, 39)), grow(t, pairsOf(4), 2, span(2, 39)), grow(t, pairsOf(9), 3, span(2, 39)), grow(t, pairsOf(16), 4, span(2, 39)), grow(t, pairsOf(17), 4, span(2, 39)), grow(t, pairsOf(16), 2, span(2, 39)), grow(t, pairsOf(40), 4, span(2, 39)), grow(t, pairsOf(52), 4, span(2, 39))} {
		g.disk = impl.SyncDisk(g.disk)
		need := leastPages(len(g.pairs))
		behind := len(g.pages) + 2
		for some := range min(need+3, 40-behind+1) {
			for _, fresh := range [][]int{nil, g.pages} {
				few := func(name string, w impl.Work) {
					t.Helper()
					x := txn(meta(3, g.root, behind), w, g.root)
					if _, ok := packs(t, name, x); ok != (some >= need) {
						t.Fatalf("%s: %d pages of %d: %v", name, some, need, ok)
					}
					if some >= need {
						packRight(t, name, x, g.pairs)
					} else {
						refusesPack(t, name, x)
					}
				}
				few("usable", work(g.disk, impl.MaxPages, free40(g)[:some], []int{1}, fresh))
				small := ownDisk(g.disk)
				small.Pages = small.Pages[:behind+some]
				if len(small.Pages) >= 4 {
					few("new ones", work(small, behind, nil, []int{1}, fresh))
				}
				if some > 0 && len(small.Pages) >= 4 {
					few("both", work(small, behind+1, []int{behind}, []int{1}, fresh))
				}
				few("Late", work(lateUp(g.disk, maxLate-some), impl.MaxPages, free40(g), []int{1}, fresh))
			}
		}
	}
	// A disk that has just room for the tree twice, and one that is a page smaller.
	for _, n := range []int{1, 4, 5, 8, 9, 16, 17, 20, 33, 48, 52} {
		for more, want := range []bool{false, true} {
			size := 1 + 2*leastPages(n) + more
			if size < 4 || size > impl.MaxPages {
				continue
			}
			s := emptyState(t, size)
			w, root := buildRight(t, "once", impl.WorkNew(s.disk, s.meta, 0), pairsOf(n))
			if _, ok := packs(t, "twice", txn(s.meta, w, root)); ok != want {
				t.Errorf("%d pages: %d pairs are packed: %v", size, n, ok)
			}
			now := committed(t, "once", s, txn(s.meta, w, root), pairsOf(n))
			if _, ok := packs(t, "begun", impl.Begin(now.disk, now.meta, now.meta.Tx)); ok != want {
				t.Errorf("%d pages: %d pairs that were kept are packed: %v", size, n, ok)
			}
		}
	}
}

// A page that is no node, wherever it stands; roots that are none; rounds, pages that are come to twice, trees too deep: as it is, and false.
func TestPackWhereThereIsNoTree(t *testing.T) {
	for _, g := range []tree{grow(t, pairsOf(3), 4, span(2, 39)), grow(t, pairsOf(13), 4, span(2, 39)), grow(t, pairsOf(20), 3, span(2, 39)), grow(t, pairsOf(12), 2, span(2, 39))} {
		g.disk = impl.SyncDisk(g.disk)
		x := txn(meta(3, g.root, 40), inWork(g), g.root)
		packRight(t, "as it should be", x, g.pairs)
		for _, page := range g.pages {
			for name, text := range spoilt(t, g.disk.Pages[page]) {
				late, kept := ownTxn(x), ownTxn(x)
				late.Work.Disk, kept.Work.Disk.Pages[page] = write(t, g.disk, page, text), text
				refusesPack(t, name, late)
				refusesPack(t, name+", kept", kept)
			}
		}
		for _, root := range []int{-1, -2, 1, 38, 39, 40, 41, math.MaxInt, math.MinInt} {
			refusesPack(t, "root "+strconv.Itoa(root), txn(x.Base, x.Work, root))
		}
	}
	for levels := 1; levels <= impl.MaxDeep+3; levels++ {
		d, root := chain(t, levels)
		d.Pages = append(d.Pages, make([]string, 5)...)
		x := txn(meta(3, root, 14), work(d, 14, nil, nil, []int{2, 4, 6}), root)
		if levels > impl.MaxDeep {
			refusesPack(t, strconv.Itoa(levels)+" levels", x)
		} else {
			x.Work.Usable = span(root+1, 13)
			packRight(t, strconv.Itoa(levels)+" levels", x, []impl.Pair{pair("k", "k")})
		}
	}
	for name, nodes := range map[string]map[int]impl.Node{
		"its own Kid":            {2: oneOf("a"), 4: branch([]string{"a", "c"}, 2, 4)},
		"nothing but itself":     {4: branch([]string{"a"}, 4)},
		"a round of two":         {2: oneOf("a"), 3: branch([]string{"c"}, 4), 4: branch([]string{"a", "c"}, 2, 3)},
		"a round below the root": {2: oneOf("a"), 3: branch([]string{"c"}, 5), 5: branch([]string{"c"}, 3), 4: branch([]string{"a", "c"}, 2, 3)},
		"come to twice":          {2: oneOf("a"), 3: branch([]string{"c"}, 2), 4: branch([]string{"a", "c"}, 2, 3)},
		"a Kid that is no node":  {2: oneOf("a"), 4: branch([]string{"a", "c"}, 2, 7)},
		"a Kid past the disk":    {2: oneOf("a"), 4: branch([]string{"a", "c"}, 2, 20)},
	} {
		for _, fresh := range [][]int{nil, {2, 3, 4, 5}} {
			refusesPack(t, name, txn(meta(3, 4, 6), work(pagesWith(t, nodes), 6, nil, []int{1}, fresh), 4))
		}
	}
	d := stiffTree(t)
	for root := range impl.MaxPages + 1 {
		if root > 0 {
			refusesPack(t, "no end", txn(meta(3, root, 40), work(d, 2, nil, nil, nil), root))
		}
	}
}

// Trees whose Keys do not ascend, or have two alike, from one leaf to another: as it is, and false.
func TestPackKeysThatDoNotAscend(t *testing.T) {
	for name, nodes := range map[string]map[int]impl.Node{
		"leaves that descend":         {2: oneOf("b"), 3: oneOf("a"), 4: branch([]string{"a", "b"}, 2, 3)},
		"two alike":                   {2: oneOf("b"), 3: oneOf("b"), 4: branch([]string{"a", "b"}, 2, 3)},
		"in one another":              {2: leaf([]string{"a", "c"}, []string{"", ""}), 3: leaf([]string{"b", "d"}, []string{"", ""}), 4: branch([]string{"a", "b"}, 2, 3)},
		"the last one and the first":  {2: leaf([]string{"a", "c"}, []string{"", ""}), 3: leaf([]string{"c", "d"}, []string{"", ""}), 4: branch([]string{"a", "c"}, 2, 3)},
		"full leaves that descend":    {2: leaf([]string{"e", "f", "g", "h"}, make([]string, 4)), 3: leaf([]string{"a", "b", "c", "d"}, make([]string, 4)), 4: branch([]string{"a", "e"}, 2, 3)},
		"the third below the first":   {2: oneOf("b"), 3: oneOf("c"), 5: oneOf("a"), 4: branch([]string{"b", "c", "d"}, 2, 3, 5)},
		"full, the first Keys ascend": {2: leaf([]string{"a", "b", "c", "x"}, make([]string, 4)), 3: leaf([]string{"e", "f", "g", "h"}, make([]string, 4)), 4: branch([]string{"a", "e"}, 2, 3)},
	} {
		x := txn(meta(3, 4, 6), work(pagesWith(t, nodes), 6, nil, []int{1}, []int{3}), 4)
		if _, ok := impl.AllPairs(x.Work.Disk, 4); !ok {
			t.Fatalf("%s: there are no pairs", name)
		}
		refusesPack(t, name, x)
		packs(t, name, x)
	}
}

// Trees that are not right, but whose Keys ascend: leaves at several depths, Keys above that are not fit. Packed they are right, and each key is found.
func TestPackMends(t *testing.T) {
	for name, nodes := range map[string]map[int]impl.Node{
		"a Key above what is below":     {2: oneOf("a"), 3: oneOf("b"), 4: branch([]string{"a", "c"}, 2, 3)},
		"a Key not above what is ahead": {2: leaf([]string{"a", "c"}, []string{"1", "2"}), 3: oneOf("d"), 4: branch([]string{"a", "b"}, 2, 3)},
		"two depths":                    {2: oneOf("a"), 3: oneOf("b"), 5: branch([]string{"b"}, 3), 4: branch([]string{"a", "b"}, 2, 5)},
		"all Keys above":                {2: oneOf("a"), 3: oneOf("b"), 4: branch([]string{"x", "y"}, 2, 3)},
	} {
		x := txn(meta(3, 4, 6), work(pagesWith(t, nodes), 6, nil, []int{1}, []int{3}), 4)
		pairs, _ := impl.AllPairs(x.Work.Disk, 4)
		if impl.TreeOk(x.Work.Disk, 4) {
			t.Fatalf("%s: the tree is right", name)
		}
		packRight(t, name, x, pairs)
	}
	for levels := 2; levels <= impl.MaxDeep; levels++ {
		for deep := range 4 {
			w, root, pairs := unevenTree(t, 4, 3-deep, deep, levels)
			packRight(t, "uneven", txn(meta(3, root, w.Next), w, root), pairs)
		}
	}
	packed := 0
	for seed := range 150 {
		w, root, pairs := drawTree(t, drawn(seed), 7+seed%3, 21)
		x := txn(meta(3, root, w.Next), w, root)
		if _, ok := packs(t, "a drawn tree", x); ok {
			packRight(t, "a drawn tree", x, pairs)
			packed++
		}
	}
	if packed < 50 {
		t.Errorf("%d drawn trees are packed alone", packed)
	}
}

// Works in which pages of the tree itself are usable, pages twice, pages 0 and 1, or Next is a page of it: as the words go, page by page. The pages that are dropped are those of the tree as it was.
func TestPackIntoItsOwnPages(t *testing.T) {
	// One leaf: its page is given for the new one, which is Fresh; then it is dropped, and Usable again.
	d := pagesWith(t, map[int]impl.Node{2: leaf([]string{"a", "b"}, []string{"1", "2"})})
	for name, w := range map[string]impl.Work{"usable": work(d, 14, []int{2}, nil, nil), "Next": work(d, 2, nil, nil, nil)} {
		got, ok := packs(t, name, txn(meta(3, 2, 3), w, 2))
		if !ok || got.Root != 2 || !slices.Equal(got.Work.Usable, []int{2}) || len(got.Work.Fresh) != 0 || len(got.Work.Gone) != 0 {
			t.Errorf("%s: %+v, %v", name, got.Work, ok)
		}
	}
	// Three leaves: the new one is written over the old root, whose other pages are those of the old tree still.
	nodes := map[int]impl.Node{2: oneOf("a"), 3: oneOf("b"), 5: oneOf("c"), 4: branch([]string{"a", "b", "c"}, 2, 3, 5)}
	got, ok := packs(t, "over the root", txn(meta(3, 4, 6), work(pagesWith(t, nodes), 6, []int{4}, nil, nil), 4))
	if !ok || got.Root != 4 || !slices.Equal(got.Work.Gone, []int{2, 3, 5}) || !slices.Equal(got.Work.Usable, []int{4}) || len(got.Work.Fresh) != 0 {
		t.Errorf("over the root: %+v, %v", got.Work, ok)
	}
	met := map[bool]int{}
	g := grow(t, pairsOf(10), 2, span(2, 13))
	g.disk = impl.SyncDisk(g.disk)
	g.disk.Pages = g.disk.Pages[:20]
	for _, usable := range [][]int{nil, {2}, {2, 2}, {2, 3, 4, 5}, {13, 12, 11}, {5, 5, 5, 5}, {0}, {1}, {0, 1, 2}, {1, 15, 16, 17}, {15, 16, 17, 1}, {15, 15, 16, 17}, {15, 16, 17, 17}, {15, 16, 17, 15}, {-1}, {15, -1}, {20}, {15, 16, 40}, {math.MaxInt}, {math.MinInt}, {15, 7, 16, 17}, {11, 15, 16, 17}, {12, 12, 15, 16, 17}} {
		for _, next := range []int{14, 2, 1, 0, -1, math.MinInt, 18, 19, 20, 21, 40, math.MaxInt} {
			for _, fresh := range [][]int{nil, g.pages, {15, 2, 15, 2}, usable, {0, 1, 40}} {
				for _, gone := range [][]int{nil, {2, 3}, {15, 15}} {
					_, ok := packs(t, "its own pages", txn(meta(3, g.root, 14), work(g.disk, next, usable, gone, fresh), g.root))
					met[ok]++
				}
			}
		}
	}
	if met[true] < 200 || met[false] < 200 {
		t.Errorf("%d are packed, %d are not", met[true], met[false])
	}
}

// Changes whose parts do not belong together, named and drawn: each is answered by the document's words, and none goes on without end.
func TestPackOddTxns(t *testing.T) {
	met := map[bool]int{}
	odd := oddTxns(t)
	for name, x := range odd {
		_, ok := packs(t, name, x)
		met[ok]++
		for _, n := range []int{0, 1, 5, 17} {
			build(t, name, x.Work, pairsOf(n))
		}
	}
	names := slices.Sorted(maps.Keys(odd))
	for seed := range 3000 {
		next := drawn(seed)
		x := ownTxn(odd[names[next(len(names))]])
		for range next(4) {
			other := odd[names[next(len(names))]]
			switch next(7) {
			case 0:
				x.Work.Disk = other.Work.Disk
			case 1:
				x.Root = oddNumber(next)
			case 2:
				x.Work.Usable = oddList(next, 9)
			case 3:
				x.Work.Fresh = oddList(next, 9)
			case 4:
				x.Work.Next = oddNumber(next)
			case 5:
				x.Root = other.Root
			case 6:
				x.Base = other.Base
			}
		}
		name := "seed " + strconv.Itoa(seed)
		_, ok := packs(t, name, x)
		met[ok]++
		list := pairsOf(next(30))
		if len(list) > 0 && next(4) == 0 {
			list[next(len(list))].Key = "k" + strconv.Itoa(100+next(30))
		}
		build(t, name, x.Work, list)
	}
	if met[true] < 300 || met[false] < 300 {
		t.Errorf("%d are packed, %d are not", met[true], met[false])
	}
}

// The power goes while what is packed is being committed: the old tree counts, or the new one, and both tell the same.
func TestPackFalls(t *testing.T) {
	for was, s := range someStates(t) {
		for name, acts := range map[string][]act{"nothing else": nil, "a put": {putAct("m", "1")}, "a put and a take": {putAct("m", "1"), putAct("z", "1"), takeAct("m")}} {
			name = was + ", " + name
			x, pairs := actedAll(t, name, s, s.meta.Tx, acts)
			packed := packRight(t, name, x, pairs)
			if plainNothing(packed) {
				continue
			}
			now := committed(t, name, s, packed, pairs)
			late := len(packed.Work.Disk.Late)
			for seed := range 40 {
				next := drawn(seed)
				left := make([]bool, next(late+3))
				for at := range left {
					left[at] = next(2) == 0
				}
				isWhole(t, name, impl.CommitCut(packed, 0, left, next(late+2)-1), s)
			}
			isWhole(t, name, impl.CommitCut(packed, 0, all(late), -1), s)
			isWhole(t, name, impl.CommitCut(packed, 1, all(1), 0), s)
			isWhole(t, name, impl.CommitCut(packed, 1, nil, -1), s)
			isWhole(t, name, impl.CommitCut(packed, 1, all(1), -1), now)
		}
	}
}

// packStep packs what a store writes, as any other step of its change; as it is where there is no room.
func (l life) packStep(t *testing.T, name string) (life, bool) {
	t.Helper()
	out, ok := l, false
	out.store.Txn, ok = packs(t, name, l.store.Txn)
	if ok {
		packRight(t, name, l.store.Txn, l.next)
	}
	out.holds(t, name)
	return out, ok
}

// Long lives with readers and falls, in which what is written is packed now and then: what was committed is there, whoever reads sees what was, no page is lost.
func TestLivesWithPacking(t *testing.T) {
	met := map[bool]int{}
	for seed := range 40 {
		next, name := drawn(seed), "seed "+strconv.Itoa(seed)
		l := newLife(t, 7+seed%8*4)
		for range 90 {
			l, _ = l.stepped(t, name, drawEvent(next))
			if l.store.Writing && next(3) == 0 {
				ok := false
				l, ok = l.packStep(t, name)
				met[ok]++
			}
			if next(25) > 0 {
				continue
			}
			d := impl.FallDisk(l.store.Disk, bits(next(1<<15), 60), next(60)-1)
			if l.store.Writing {
				d = impl.CommitCut(l.store.Txn, next(2), bits(next(1<<15), 60), next(60)-1)
			}
			l = life{store: opened(t, d), seen: map[int][]impl.Pair{}}
			l.model, _ = impl.AllPairs(l.store.Disk, l.store.Meta.Root)
			l.holds(t, name+", behind a fall")
		}
	}
	if met[true] < 200 || met[false] < 20 {
		t.Errorf("%d times packed, %d times without room", met[true], met[false])
	}
}

// Who reads sees what was when they began, while what is packed is committed, again and again.
func TestPackWhileReading(t *testing.T) {
	l := newLife(t, impl.MaxPages)
	for at, e := range []event{{what: "begin"}, {what: "put", key: "a"}, {what: "put", key: "b"}, {what: "put", key: "c"}, {what: "put", key: "d"}, {what: "put", key: "e"}, {what: "put", key: "f"}, {what: "end"}} {
		code := 0
		if l, code = l.stepped(t, "ahead", e); code != 0 {
			t.Fatalf("step %d has the code %d", at, code)
		}
	}
	for id := 1; id <= 3; id++ {
		l, _ = l.stepped(t, "who reads", event{what: "read", id: id})
		l, _ = l.stepped(t, "who writes", event{what: "begin"})
		l, _ = l.stepped(t, "who writes", event{what: "put", key: "x" + strconv.Itoa(id), val: "1"})
		ok := false
		if l, ok = l.packStep(t, "packed"); !ok {
			t.Fatal("it is not packed")
		}
		l, _ = l.stepped(t, "who writes", event{what: "drop", key: string(rune('a' + id))})
		code := 0
		if l, code = l.stepped(t, "who writes", event{what: "end"}); code != 0 {
			t.Fatalf("the code is %d", code)
		}
		l.gets(t, "who reads", []string{"a", "b", "c", "d", "x1", "x2", "x3", "none"})
		isSound(t, "packed", l.store)
	}
	// Given up, nothing is packed.
	was := l
	l, _ = l.stepped(t, "given up", event{what: "begin"})
	l, _ = l.packStep(t, "given up")
	l, _ = l.stepped(t, "given up", event{what: "stop"})
	if !sameMeta(l.store.Meta, was.store.Meta) {
		t.Error("what was given up counts")
	}
}

// Collections and things that are packed are found by their fields, in their order.
func TestPackThings(t *testing.T) {
	x, h := people(t, impl.MaxPages)
	pairs, _ := impl.AllPairs(x.Work.Disk, x.Root)
	packed := packRight(t, "people", x, pairs)
	h.holds(t, "packed", packed.Work.Disk, packed.Root)
	indexIs(t, "packed", packed.Work.Disk, packed.Root, true)
	kept := commits(t, packed)
	h.holds(t, "kept", kept.Work.Disk, kept.Root)
	isSound(t, "kept", opened(t, kept.Work.Disk))
	for seed := range 8 {
		next, name := drawn(seed), "seed "+strconv.Itoa(seed)
		x, h := begun(t, impl.MaxPages), newHold()
		for range 12 {
			e := drawDeed(next, h)
			out, code := e.do(x)
			if x = out; code == 0 {
				h = e.in(h)
			}
			if next(3) > 0 {
				continue
			}
			if out, ok := packs(t, name, x); ok {
				packRight(t, name, x, h.pairs(t))
				x = out
			}
			h.holds(t, name, x.Work.Disk, x.Root)
			if next(2) == 0 {
				x = commits(t, x)
				isSound(t, name, opened(t, x.Work.Disk))
			}
		}
	}
}

// packCalls are calls of both functions, such as are refused among them; what BuildTree answers is a change without a Base.
func packCalls() map[string]func(x impl.Txn, list []impl.Pair) (impl.Txn, bool) {
	built := func(w impl.Work, root int, ok bool) (impl.Txn, bool) { return txn(impl.Meta{}, w, root), ok }
	return map[string]func(x impl.Txn, list []impl.Pair) (impl.Txn, bool){
		"PackTxn":              func(x impl.Txn, list []impl.Pair) (impl.Txn, bool) { return impl.PackTxn(x) },
		"PackTxn of no tree":   func(x impl.Txn, list []impl.Pair) (impl.Txn, bool) { return impl.PackTxn(txn(x.Base, x.Work, 0)) },
		"PackTxn of no root":   func(x impl.Txn, list []impl.Pair) (impl.Txn, bool) { return impl.PackTxn(txn(x.Base, x.Work, -1)) },
		"BuildTree":            func(x impl.Txn, list []impl.Pair) (impl.Txn, bool) { return built(impl.BuildTree(x.Work, list)) },
		"BuildTree of a leaf":  func(x impl.Txn, list []impl.Pair) (impl.Txn, bool) { return built(impl.BuildTree(x.Work, list[:3])) },
		"BuildTree of nothing": func(x impl.Txn, list []impl.Pair) (impl.Txn, bool) { return built(impl.BuildTree(x.Work, list[:0])) },
		"BuildTree, refused": func(x impl.Txn, list []impl.Pair) (impl.Txn, bool) {
			return built(impl.BuildTree(x.Work, append(slices.Clone(list), list[0])))
		},
		"both": func(x impl.Txn, list []impl.Pair) (impl.Txn, bool) {
			w, root, _ := impl.BuildTree(x.Work, list)
			return impl.PackTxn(txn(x.Base, w, root))
		},
	}
}

// roomyPairs are seven pairs in memory of their own, with spare room behind them, which is filled.
func roomyPairs() []impl.Pair {
	list := []impl.Pair{}
	for _, p := range pairsOf(10) {
		list = append(list, pair(strings.Clone(p.Key), strings.Clone(p.Val)))
	}
	return list[:7]
}

// packedTxns are changes of many kinds, with trees and without, such as are refused among them.
func packedTxns(t *testing.T) map[string]impl.Txn {
	t.Helper()
	list := fewTxns(t)
	for name, c := range treeWorks(t) {
		list["tree: "+name] = txn(meta(4, c.root, 9, free(2, 3, 4), free(4, 5)), c.w, c.root)
	}
	list["no end"] = txn(meta(3, 2, 40, free(1, 2)), work(stiffTree(t), 2, nil, nil, nil), 2)
	return list
}

func TestPackArgumentsStay(t *testing.T) {
	for name, plain := range packedTxns(t) {
		x, list := roomyTxn(plain), roomyPairs()
		want, pairs := wholeTxn(x), slices.Clone(list[:cap(list)])
		for call, do := range packCalls() {
			got, ok := do(x, list)
			if !sameTxn(wholeTxn(x), want) || !sameTxn(x, plain) || !slices.Equal(list[:cap(list)], pairs) {
				t.Fatalf("%s of %s writes into its argument", call, name)
			}
			if other, is := do(plain, pairsOf(7)); ok != is || !sameTxn(got, other) {
				t.Fatalf("%s of %s: with room behind its lists another thing is answered", call, name)
			}
		}
	}
}

func TestPackAnswersAreNewMemory(t *testing.T) {
	for name, plain := range packedTxns(t) {
		for call, do := range packCalls() {
			x, list := roomyTxn(plain), roomyPairs()
			got, _ := do(x, list)
			other, _ := do(x, list)
			if !apart(slices.Concat(txnStretches(x), txnStretches(got), txnStretches(other), []stretch{stretchOf(list)})) {
				t.Fatalf("%s of %s: lists share memory", call, name)
			}
			want := ownTxn(got)
			scribbleTxn(x)
			clear(list[:cap(list)])
			scribbleTxn(other)
			if !sameTxn(got, want) {
				t.Fatalf("%s of %s: what is changed elsewhere changes the answer", call, name)
			}
			// A later answer that is changed changes no earlier one.
			later, _ := do(got, roomyPairs())
			scribbleTxn(later)
			if !sameTxn(got, want) {
				t.Fatalf("%s of %s: a later answer shares memory", call, name)
			}
		}
	}
}

// The lists of one answer are apart, in their spare room, too.
func TestListsOfAPackAreApart(t *testing.T) {
	for name, plain := range packedTxns(t) {
		for call, do := range packCalls() {
			got, _ := do(roomyTxn(plain), roomyPairs())
			want := ownTxn(got)
			lists := [][]int{got.Work.Usable, got.Work.Gone, got.Work.Fresh}
			for _, f := range got.Base.Frees {
				lists = append(lists, f.Pages)
			}
			for _, list := range lists {
				fillSpare(list)
				if !sameTxn(got, want) {
					t.Fatalf("%s of %s: two lists share memory", call, name)
				}
			}
		}
	}
}

func TestPackTextsAreNewMemory(t *testing.T) {
	for name, plain := range packedTxns(t) {
		x, list := ownTxn(plain), roomyPairs()
		held := textsOf(x.Work.Disk)
		for _, p := range list {
			held = append(held, p.Key, p.Val)
		}
		for call, do := range packCalls() {
			got, _ := do(x, list)
			for _, text := range textsOf(got.Work.Disk) {
				if slices.ContainsFunc(held, func(other string) bool { return sharesMemory(text, other) }) {
					t.Fatalf("%s of %s hands out a text of its argument: %q", call, name, text)
				}
			}
		}
	}
}

// An empty list and nil are the same value.
func TestPackEmptyAndNil(t *testing.T) {
	d := pagesWith(t, map[int]impl.Node{2: oneOf("b"), 3: oneOf("m"), 4: branch([]string{"b", "m"}, 2, 3)})
	for _, pages := range [][]string{nil, d.Pages, d.Pages[:5]} {
		for _, root := range []int{0, 1, 2, 4, -1} {
			none := txn(impl.Meta{Tx: 3, Root: 4, Next: 5}, work(impl.Disk{Pages: pages}, 5, nil, nil, nil), root)
			empty := txn(meta(3, 4, 5, []impl.Free{}...), work(impl.Disk{Pages: append([]string{}, pages...), Late: []impl.Put{}}, 5, []int{}, []int{}, []int{}), root)
			for call, do := range packCalls() {
				one, ok := do(none, roomyPairs())
				other, is := do(empty, roomyPairs())
				if ok != is || !sameTxn(one, other) {
					t.Errorf("%s of %d pages, Root %d: an empty list is not nil", call, len(pages), root)
				}
			}
			one, first, ok := impl.BuildTree(none.Work, nil)
			other, second, is := impl.BuildTree(none.Work, []impl.Pair{})
			if first != second || ok != is || !sameWork(one, other) {
				t.Errorf("%d pages: an empty list of pairs is not nil", len(pages))
			}
		}
	}
}

// No function keeps anything: the same is answered whatever was asked between, and by whomever at once.
func TestPackKeepsNothing(t *testing.T) {
	changes, calls := packedTxns(t), packCalls()
	first := map[string]impl.Txn{}
	for name, x := range changes {
		for call, do := range calls {
			first[name+", "+call], _ = do(x, pairsOf(7))
		}
	}
	var all sync.WaitGroup
	for range 4 {
		all.Go(func() {
			for name, x := range changes {
				for call, do := range calls {
					if got, _ := do(x, pairsOf(7)); !sameTxn(got, first[name+", "+call]) {
						t.Errorf("%s of %s answers something else the second time", call, name)
					}
				}
			}
		})
	}
	all.Wait()
}
