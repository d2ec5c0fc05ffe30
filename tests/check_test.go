package tests

import (
	"maps"
	"math"
	"slices"
	"strconv"
	"strings"
	"sync"
	"testing"

	"loop.example/g00240/impl"
)

// plainTreePages are the pages of a tree, by the document's words.
func plainTreePages(d impl.Disk, root int) ([]int, bool) {
	if root == 0 {
		return nil, true
	}
	stops, ok := plainStops(d, root, 0)
	pages := []int{}
	for _, s := range stops {
		if slices.Contains(pages, s.page) {
			return nil, false
		}
		pages = append(pages, s.page)
	}
	return pages, ok
}

// plainPagesRight counts how often each page is somewhere.
func plainPagesRight(d impl.Disk, m impl.Meta) bool {
	times := map[int]int{}
	pages, ok := plainTreePages(d, m.Root)
	for _, page := range pages {
		times[page]++
	}
	for _, f := range m.Frees {
		for _, page := range f.Pages {
			times[page]++
		}
	}
	for page, n := range times {
		if n != 1 || page < 2 || page >= m.Next {
			return false
		}
	}
	size := 0
	if m.Next > 2 {
		size = m.Next - 2
	}
	return ok && len(times) == size
}

// plainIndexRight looks for each IndexKey among all pairs, and for each Key that begins with `i` among all IndexKeys.
func plainIndexRight(d impl.Disk, root int) bool {
	pairs, ok := impl.AllPairs(d, root)
	every := []string{}
	for _, p := range pairs {
		if p.Key == "" || p.Key[0] != 'o' {
			continue
		}
		at := strings.IndexByte(p.Key, 0)
		if at < 0 {
			return false
		}
		list, known := impl.SchemaIn(d, root, p.Key[1:at])
		v, is := impl.ReadThing(list, p.Val)
		if !known || !is {
			return false
		}
		for _, index := range plainIndexKeys(p.Key[1:at], p.Key[at+1:], list, v) {
			if !slices.Contains(pairs, pair(index, "")) {
				return false
			}
			every = append(every, index)
		}
	}
	other := func(p impl.Pair) bool {
		return p.Key != "" && p.Key[0] == 'i' && (p.Val != "" || !slices.Contains(every, p.Key))
	}
	return ok && !slices.ContainsFunc(pairs, other)
}

func plainStoreRight(s impl.Store) bool {
	right := plainMetaOk(s.Meta) && impl.TreeOk(s.Disk, s.Meta.Root) && plainPagesRight(s.Disk, s.Meta) && plainIndexRight(s.Disk, s.Meta.Root)
	for _, r := range s.Readers {
		right = right && impl.TreeOk(s.Disk, r.Meta.Root)
	}
	return right
}

// pagesAre and those below hold what is told of a disk, a tree and a store.
func pagesAre(t *testing.T, name string, d impl.Disk, m impl.Meta, want bool) {
	t.Helper()
	if got := impl.PagesRight(d, m); got != want {
		t.Errorf("%s: PagesRight of %+v is %v", name, m, got)
	}
}

func indexIs(t *testing.T, name string, d impl.Disk, root int, want bool) {
	t.Helper()
	if got := impl.IndexRight(d, root); got != want {
		pairs, _ := impl.AllPairs(d, root)
		t.Errorf("%s: IndexRight of %q is %v", name, pairs, got)
	}
}

func storeIs(t *testing.T, name string, s impl.Store, want bool) {
	t.Helper()
	if got := impl.StoreRight(s); got != want {
		t.Errorf("%s: StoreRight is %v", name, got)
	}
}

// isSound holds that all is right of a store, and of its disk when it is opened again, whatever of a change is kept on it.
func isSound(t *testing.T, name string, s impl.Store) {
	t.Helper()
	stores := []impl.Store{s, opened(t, s.Disk), opened(t, impl.SyncDisk(s.Disk))}
	if s.Writing {
		stores = append(stores, opened(t, s.Txn.Work.Disk), opened(t, impl.SyncDisk(s.Txn.Work.Disk)))
	}
	for _, s := range stores {
		pagesAre(t, name, s.Disk, s.Meta, true)
		indexIs(t, name, s.Disk, s.Meta.Root, true)
		storeIs(t, name, s, true)
	}
	if t.Failed() {
		t.FailNow()
	}
}

// A disk that was made ready and opened is right.
func TestNewStoresAreRight(t *testing.T) {
	for n := 4; n <= impl.MaxPages; n++ {
		s := newStore(t, n)
		isSound(t, "new", s)
		for name, next := range map[string]int{"one more": 3, "many more": n, "the most": impl.MaxPages, "past them": impl.MaxPages + 1, "the greatest": math.MaxInt} {
			s.Meta.Next = next
			pagesAre(t, name, s.Disk, s.Meta, false)
			storeIs(t, name, s, false)
			indexIs(t, name, s.Disk, s.Meta.Root, true)
		}
	}
	for name, s := range someStores(t) {
		isSound(t, name, s)
	}
}

// Every row of few calls, from a store with something in it on: it is right behind each of them.
func TestEachRowOfCallsIsRight(t *testing.T) {
	steps := []event{
		{what: "begin"}, {what: "put", key: "b", val: "1"}, {what: "drop", key: "a"}, {what: "end"}, {what: "stop"},
		{what: "read", id: 1}, {what: "close", id: 1},
	}
	var rows func(l life, left int)
	rows = func(l life, left int) {
		isSound(t, "a row", l.store)
		if left == 0 {
			return
		}
		for _, e := range steps {
			if next, code := l.do(t, e); code == 0 || code == 3 {
				rows(next, left-1)
			}
		}
	}
	for _, pages := range []int{4, 7} {
		l := newLife(t, pages)
		for _, e := range []event{{what: "begin"}, {what: "put", key: "a"}, {what: "put", key: "c"}, {what: "end"}, {what: "read", id: 2}} {
			l, _ = l.do(t, e)
		}
		rows(l, 6)
	}
}

// Long lives, drawn by a rule, with falls: the store is right behind each call, and behind each fall.
func TestLivesAreRight(t *testing.T) {
	for seed := range 60 {
		next, name := drawn(seed), "seed "+strconv.Itoa(seed)
		l := newLife(t, 4+seed%10*4)
		for range 120 {
			l, _ = l.do(t, drawEvent(next))
			isSound(t, name, l.store)
			if next(30) > 0 {
				continue
			}
			d := impl.FallDisk(l.store.Disk, bits(next(1<<15), 60), next(60)-1)
			if l.store.Writing {
				d = impl.CommitCut(l.store.Txn, next(2), bits(next(1<<15), 60), next(60)-1)
			}
			l.store, l.seen = opened(t, d), map[int][]impl.Pair{}
			isSound(t, name+", behind a fall", l.store)
			l.model, _ = impl.AllPairs(l.store.Disk, l.store.Meta.Root)
		}
	}
}

// Lives of collections and things, with readers and falls: right behind each call, and so is what is being written.
func TestLivesOfThingsAreRight(t *testing.T) {
	things := 0
	for seed := range 24 {
		next, name := drawn(seed), "seed "+strconv.Itoa(seed)
		s, h := newStore(t, 25+seed%4*5), newHold()
		for range 24 {
			s = step(t, 0)(impl.StartWrite(s))
			now := h
			for range 1 + next(5) {
				e := drawDeed(next, now)
				x, code := e.do(s.Txn)
				if s.Txn = x; code == 0 {
					now = e.in(now)
				}
				indexIs(t, name+", writing", x.Work.Disk, x.Root, true)
				isSound(t, name, s)
			}
			cut := impl.CommitCut(s.Txn, next(2), bits(next(1<<15), 60), next(60)-1)
			isSound(t, name+", behind a fall", opened(t, cut))
			code := 0
			if next(5) == 0 {
				s = step(t, 0)(impl.StopWrite(s))
			} else if s, code = impl.EndWrite(s); code == 0 {
				h = now
			}
			isSound(t, name+", at rest", s)
			s, _ = impl.StartRead(s, 1+next(9))
			s, _ = impl.EndRead(s, 1+next(9))
			isSound(t, name+", read", s)
		}
		for _, list := range h.things {
			things += len(list)
		}
	}
	if things < 60 {
		t.Errorf("at the ends there are %d things alone", things)
	}
}

// inTurn is these pages in so many Frees, one page to each in turn.
func inTurn(pages []int, frees int) []impl.Free {
	list := []impl.Free{}
	for at := range frees {
		list = append(list, free(at+1))
	}
	for at, page := range pages {
		list[at%frees].Pages = append(list[at%frees].Pages, page)
	}
	return slices.DeleteFunc(list, func(f impl.Free) bool { return len(f.Pages) == 0 })
}

// restOf is a meta of a tree in which all other pages below next are free.
func restOf(g tree, next, frees int) impl.Meta {
	rest := []int{}
	for page := 2; page < next; page++ {
		if !slices.Contains(g.pages, page) {
			rest = append(rest, page)
		}
	}
	return meta(frees, g.root, next, inTurn(rest, frees)...)
}

// withFree is the meta with one more Free of these pages.
func withFree(m impl.Meta, pages ...int) impl.Meta {
	out := ownMeta(m)
	out.Frees = append(out.Frees, free(m.Tx, pages...))
	return out
}

// lostPages are metas as right ones in which pages are lost, or are somewhere twice, or where none should be, each by one thing.
func lostPages(g tree, m impl.Meta) map[string]impl.Meta {
	list := map[string]impl.Meta{}
	add := func(name string, change func(m *impl.Meta)) {
		out := ownMeta(m)
		change(&out)
		list[name] = out
	}
	add("Next one more", func(m *impl.Meta) { m.Next++ })
	add("Next one less", func(m *impl.Meta) { m.Next-- })
	for _, next := range []int{2, 1, 0, -1, math.MinInt, math.MinInt + 1, math.MaxInt} {
		add("Next "+strconv.Itoa(next), func(m *impl.Meta) { m.Next = next })
	}
	for at, f := range m.Frees {
		for place, page := range f.Pages {
			of := "page " + strconv.Itoa(page)
			add(of+" nowhere", func(m *impl.Meta) { m.Frees[at].Pages = slices.Delete(m.Frees[at].Pages, place, place+1) })
			add(of+" twice in one", func(m *impl.Meta) { m.Frees[at].Pages = slices.Insert(m.Frees[at].Pages, place, page) })
			add(of+" twice, apart", func(m *impl.Meta) { m.Frees[at].Pages = append(m.Frees[at].Pages, page) })
			list[of+" in two"] = withFree(m, page)
			for _, other := range []int{0, 1, -1, m.Next, m.Next + 1, g.pages[0], math.MaxInt, math.MinInt} {
				add(of+" is "+strconv.Itoa(other), func(m *impl.Meta) { m.Frees[at].Pages[place] = other })
			}
		}
		add("without the Free at "+strconv.Itoa(at), func(m *impl.Meta) { m.Frees = slices.Delete(m.Frees, at, at+1) })
		add("the Free at "+strconv.Itoa(at)+" twice", func(m *impl.Meta) { m.Frees = append(m.Frees, m.Frees[at]) })
	}
	for _, page := range g.pages {
		list["page "+strconv.Itoa(page)+" of the tree"] = withFree(m, page)
		if page != g.root {
			add("a root below", func(m *impl.Meta) { m.Root = page })
		}
	}
	for _, page := range []int{0, 1, -1, m.Next, m.Next + 1, 39, 40, 1000, math.MaxInt, math.MinInt} {
		list["also "+strconv.Itoa(page)] = withFree(m, page)
	}
	list["also the next two"] = withFree(m, m.Next, m.Next+2)
	add("no tree", func(m *impl.Meta) { m.Root = 0 })
	add("no root", func(m *impl.Meta) { m.Root = 1 })
	return list
}

// Each page of 2 .. Next - 1 is in the tree or in Frees, once: no page may be nowhere, twice, or elsewhere.
func TestPagesRight(t *testing.T) {
	for _, g := range grownTrees(t) {
		last := g.pages[len(g.pages)-1]
		for _, next := range []int{last + 1, last + 2, last + 5} {
			for frees := 1; frees <= 3; frees++ {
				m := restOf(g, next, frees)
				for at, d := range []impl.Disk{g.disk, impl.SyncDisk(g.disk)} {
					name := []string{"Late", "kept"}[at]
					pagesAre(t, name, d, m, true)
					for wrong, m := range lostPages(g, m) {
						pagesAre(t, name+", "+wrong, d, m, false)
					}
					if t.Failed() {
						t.FailNow()
					}
				}
			}
		}
	}
}

// Frees are looked at in no other way: neither their Tx, nor their order, nor that of their pages, nor what is empty.
func TestPagesRightOfAnyFrees(t *testing.T) {
	g := grow(t, pairsOf(9), impl.Fan, []int{3, 9, 5, 7})
	rest := []int{2, 4, 6, 8, 10}
	for name, frees := range map[string][]impl.Free{
		"ascending":              {free(1, rest...)},
		"one each":               {free(1, 2), free(2, 4), free(3, 6), free(4, 8), free(5, 10)},
		"one each, descending":   {free(5, 10), free(4, 8), free(3, 6), free(2, 4), free(1, 2)},
		"pages that descend":     {free(1, 10, 8, 6, 4, 2)},
		"in neither order":       {free(1, 8, 2), free(2, 10, 4, 6)},
		"of one Tx":              {free(3, 2, 4), free(3, 6), free(3, 8, 10)},
		"of odd Tx":              {free(-1, 2, 4), free(math.MaxInt, 6), free(math.MinInt, 8, 10)},
		"some without pages":     {free(1), free(2, rest...), free(3), free(4, []int{}...)},
		"many without pages":     append(slices.Repeat([]impl.Free{free(2)}, 500), free(1, rest...)),
		"some without, in midst": {free(1, 2, 4, 6), free(2), free(3, 8, 10)},
	} {
		for _, tx := range []int{0, 9, -1, maxTx + 1, math.MaxInt, math.MinInt} {
			pagesAre(t, name, g.disk, meta(tx, g.root, 11, frees...), true)
			pagesAre(t, name, g.disk, meta(tx, g.root, 12, frees...), false)
			pagesAre(t, name, g.disk, meta(tx, g.root, 10, frees...), false)
			pagesAre(t, name, g.disk, meta(tx, g.root, 11, frees[1:]...), len(frees[0].Pages) == 0)
		}
	}
}

// A tree without anything has no pages: all must be free, whatever the disk is.
func TestPagesRightOfNothing(t *testing.T) {
	disks := wrongDisks()
	maps.Copy(disks, rightDisks())
	for name, d := range disks {
		pagesAre(t, name, d, meta(0, 0, 2), true)
		pagesAre(t, name, d, meta(0, 0, 3), false)
		pagesAre(t, name, d, meta(1, 0, 3, free(1, 2)), true)
		pagesAre(t, name, d, meta(1, 0, 2, free(1, 2)), false)
		pagesAre(t, name, d, meta(1, 0, 4, free(1, 2)), false)
		pagesAre(t, name, d, meta(1, 0, 4, free(1, 3)), false)
		pagesAre(t, name, d, meta(1, 0, 4, free(1, 2), free(2, 3)), true)
		pagesAre(t, name, d, meta(1, 0, 4, free(1, 2, 3), free(2, 3)), false)
		pagesAre(t, name, d, meta(1, 0, 4, free(1, 3, 3)), false)
		pagesAre(t, name, d, meta(1, 0, 4, free(1, 1, 3)), false)
		pagesAre(t, name, d, meta(1, 0, 4, free(1, 3, 4)), false)
		pagesAre(t, name, d, meta(1, 0, 40, free(1, span(2, 39)...)), true)
		pagesAre(t, name, d, meta(1, 0, 1000, free(1, span(2, 999)...)), true)
		pagesAre(t, name, d, meta(1, 0, 2, free(1)), true)
	}
}

// With a Next below 2 there is no page in 2 .. Next - 1, either: nothing is just that, and any page is too many.
func TestPagesRightOfNextBelowTwo(t *testing.T) {
	g := grow(t, pairsOf(2), impl.Fan, []int{2})
	for _, next := range []int{2, 1, 0, -1, -40, math.MinInt + 2, math.MinInt + 1, math.MinInt} {
		pagesAre(t, "nothing", g.disk, meta(0, 0, next), true)
		pagesAre(t, "a Free without pages", g.disk, meta(0, 0, next, free(1)), true)
		pagesAre(t, "a tree", g.disk, meta(0, 2, next), false)
		for _, page := range []int{2, 1, 0, -1, next, next - 1, next + 1} {
			pagesAre(t, "a free page", g.disk, meta(0, 0, next, free(1, page)), false)
		}
	}
	pagesAre(t, "no meta and no disk", impl.Disk{}, impl.Meta{}, true)
}

// A page of the tree that is no node, that is come to twice, or that is too deep: there are no pages of such a tree.
func TestPagesRightOfBrokenTrees(t *testing.T) {
	for _, g := range grownTrees(t) {
		d := impl.SyncDisk(g.disk)
		m := restOf(g, g.pages[len(g.pages)-1]+1, 1)
		all := meta(1, g.root, m.Next, free(1, span(2, m.Next-1)...))
		for _, page := range g.pages {
			for name, s := range spoilt(t, d.Pages[page]) {
				late, kept := write(t, d, page, s), ownDisk(d)
				kept.Pages[page] = s
				for _, d := range []impl.Disk{late, kept} {
					pagesAre(t, name, d, m, false)
					pagesAre(t, name, d, withFree(m, page), false)
					pagesAre(t, name, d, all, false)
					indexIs(t, name, d, g.root, false)
				}
			}
		}
	}
	for levels := 1; levels <= impl.MaxDeep+2; levels++ {
		d, root := chain(t, levels)
		right := levels <= impl.MaxDeep
		m := meta(1, root, root+1)
		pagesAre(t, "levels: "+strconv.Itoa(levels), d, m, right)
		indexIs(t, "levels: "+strconv.Itoa(levels), d, root, right)
		storeIs(t, "levels: "+strconv.Itoa(levels), impl.Store{Disk: d, Meta: m}, right)
		pagesAre(t, "all are free", d, meta(1, root, root+1, free(1, span(2, root)...)), false)
	}
	d := pagesWith(t, map[int]impl.Node{
		2: oneOf("a"), 3: branch([]string{"a"}, 2), 4: branch([]string{"a", "b"}, 2, 3), 5: branch([]string{"a"}, 5), 6: branch([]string{"a", "b"}, 7, 2), 7: branch([]string{"a", "b"}, 6, 3),
		8: branch([]string{"a", "b", "c", "d"}, 8, 9, 10, 11), 9: branch([]string{"a", "b", "c", "d"}, 8, 9, 10, 11), 10: branch([]string{"a", "b", "c", "d"}, 8, 9, 10, 11), 11: branch([]string{"a", "b", "c", "d"}, 8, 9, 10, 11),
	})
	for root, name := range map[int]string{4: "a leaf twice", 5: "itself below", 6: "two below one another", 7: "likewise", 8: "many", 12: "no node", 13: "no node", 14: "past the end", -1: "below 0", math.MaxInt: "the greatest", math.MinInt: "the least"} {
		for next := 2; next <= 14; next++ {
			pagesAre(t, name, d, meta(1, root, next), false)
			pagesAre(t, name, d, meta(1, root, next, free(1, span(2, next-1)...)), false)
			pagesAre(t, name, d, meta(1, root, next, free(1, span(3, next-1)...)), false)
		}
		indexIs(t, name, d, root, false)
		storeIs(t, name, impl.Store{Disk: d, Meta: meta(1, root, 12)}, false)
	}
}

// Whether a disk is right is not asked: a tree is what its pages tell, few or many, kept or Late.
func TestChecksOfWrongDisks(t *testing.T) {
	one := nodeText(t, oneOf("a"))
	few := impl.Disk{Pages: []string{"", "", one}}
	many := named(100)
	many.Pages[39], many.Pages[99] = one, nodeText(t, branch([]string{""}, 39))
	tooLong := named(6)
	tooLong.Pages[2], tooLong.Pages[3] = one, strings.Repeat("a", impl.PageSize+1)
	late := named(6)
	late.Late = append(slices.Repeat([]impl.Put{{Page: 99, Text: one}, {Page: -1, Text: one}}, maxLate), impl.Put{Page: 2, Text: "no node"}, impl.Put{Page: 2, Text: one})
	for name, c := range map[string]struct {
		d impl.Disk
		m impl.Meta
	}{
		"three pages":                    {few, meta(1, 2, 3)},
		"a free page past the end":       {few, meta(1, 2, 30, free(1, span(3, 29)...))},
		"a free page that is too long":   {tooLong, meta(1, 2, 4, free(1, 3))},
		"Late to pages that are not one": {late, meta(1, 2, 3)},
	} {
		pagesAre(t, name, c.d, c.m, true)
		storeIs(t, name, impl.Store{Disk: c.d, Meta: c.m}, true)
		if name != "a free page past the end" && impl.DiskOk(c.d) {
			t.Errorf("%s: the disk is right", name)
		}
	}
	pagesAre(t, "a root past MaxPages", many, meta(1, 99, 100, free(1, slices.Concat(span(2, 38), span(40, 98))...)), true)
	pagesAre(t, "a tree that is too long", tooLong, meta(1, 3, 4, free(1, 2)), false)
	late.Late = append(late.Late, impl.Put{Page: 2, Text: one[:len(one)/2]})
	pagesAre(t, "a torn one is Late", late, meta(1, 2, 3), false)
	storeIs(t, "a torn one is Late", impl.Store{Disk: late, Meta: meta(1, 2, 3)}, false)
	for name, d := range wrongDisks() {
		for root := 1; root < 6; root++ {
			pagesAre(t, name, d, meta(1, root, 6, free(1, span(2, 5)...)), false)
			indexIs(t, name, d, root, false)
			storeIs(t, name, impl.Store{Disk: d, Meta: meta(1, root, root+1)}, false)
		}
		indexIs(t, name, d, 0, true)
		storeIs(t, name, impl.Store{Disk: d, Meta: meta(0, 0, 2)}, true)
	}
}

// Every way to lay some nodes on three pages, each with many metas, by the document's words.
func TestPagesRightOfEachDisk(t *testing.T) {
	texts := []string{"no node"}
	for _, n := range []impl.Node{oneOf("a"), branch([]string{"a"}, 3), branch([]string{"a", "b"}, 2, 4), branch([]string{"a", "b"}, 3, 2)} {
		texts = append(texts, nodeText(t, n))
	}
	frees := [][]impl.Free{nil, {free(1)}, {free(1, 2)}, {free(1, 3)}, {free(1, 4)}, {free(1, 2, 3)}, {free(1, 3), free(2, 2)}, {free(1, 2, 2)}, {free(1, 2, 4), free(2, 3)}, {free(1, 5)}, {free(1, 1)}, {free(1, 2), free(2, 2)}}
	size, right := len(texts), 0
	for row := range size * size * size {
		d := impl.Disk{Pages: []string{"", "", texts[row%size], texts[row/size%size], texts[row/size/size]}}
		for _, root := range []int{0, 1, 2, 3, 4, 5, -1} {
			for _, next := range []int{0, 1, 2, 3, 4, 5, 6, math.MaxInt, math.MinInt} {
				for _, list := range frees {
					m := meta(2, root, next, list...)
					want := plainPagesRight(d, m)
					if impl.PagesRight(d, m) != want {
						t.Fatalf("PagesRight of %q and %+v is not %v", d.Pages, m, want)
					}
					if want {
						right++
					}
				}
			}
		}
	}
	if right < 1000 {
		t.Errorf("%d are right alone", right)
	}
}

// indexOf tells IndexRight of a tree of these pairs, on pages in any order.
func indexOf(t *testing.T, pairs []impl.Pair) bool {
	t.Helper()
	if len(pairs) == 0 {
		return impl.IndexRight(newDisk(t, 4), 0)
	}
	down := span(2, impl.MaxPages-1)
	slices.Reverse(down)
	x, g := treeOf(t, pairs), grow(t, pairs, 3, down)
	got := impl.IndexRight(x.Work.Disk, x.Root)
	if impl.IndexRight(g.disk, g.root) != got {
		t.Fatalf("of one tree and another IndexRight of %q is not the same", pairs)
	}
	if want := plainIndexRight(x.Work.Disk, x.Root); got != want {
		t.Errorf("IndexRight of %q is %v, not %v", pairs, got, want)
	}
	return got
}

// with is pairs with some more, each in the place of one of its Key.
func with(pairs []impl.Pair, more ...impl.Pair) []impl.Pair {
	for _, p := range more {
		pairs = withKey(pairs, p.Key, p.Val)
	}
	return pairs
}

// without is pairs without those of these Keys.
func without(pairs []impl.Pair, keys ...string) []impl.Pair {
	for _, key := range keys {
		pairs = withoutKey(pairs, key)
	}
	return pairs
}

// An IndexKey of each field of each thing must be there: without any one pair of collections and things a tree is not right.
func TestIndexRightMissing(t *testing.T) {
	base := peoplePairs(t)
	if !indexOf(t, base) || !indexOf(t, nil) {
		t.Fatal("what is right is not")
	}
	for _, p := range base {
		if indexOf(t, withoutKey(base, p.Key)) {
			t.Errorf("without %q it is right", p.Key)
		}
		if p.Key[0] == 'i' && (indexOf(t, withKey(base, p.Key, "x")) || indexOf(t, withKey(base, p.Key, "\x00"))) {
			t.Errorf("with a text at %q it is right", p.Key)
		}
		for _, val := range []string{"", "\x00", "\x01", p.Val + "\x00", "no schema, no thing"} {
			if p.Key[0] == 'o' && indexOf(t, withKey(base, p.Key, val)) {
				t.Errorf("with %q at %q it is right", val, p.Key)
			}
			if p.Key[0] == 's' && indexOf(t, withKey(base, p.Key, val)) {
				t.Errorf("with %q at %q it is right", val, p.Key)
			}
		}
	}
	kinds := map[byte][]string{}
	for _, p := range base {
		kinds[p.Key[0]] = append(kinds[p.Key[0]], p.Key)
	}
	for what, want := range map[string]bool{"s": false, "o": false, "i": false, "oi": true, "soi": true, "so": false, "si": false} {
		pairs := base
		for at := range what {
			pairs = without(pairs, kinds[what[at]]...)
		}
		if indexOf(t, pairs) != want {
			t.Errorf("without any of %q it is %v", what, !want)
		}
	}
}

// There are no other Keys that begin with `i`: one of another collection, field, order or key is one too many.
func TestIndexRightTooMany(t *testing.T) {
	base := peoplePairs(t)
	keys := []string{"i", "i\x00", "ip", "iq", "ix", "i\x00\x00", "ip\x00", "ip\x00age", "ip\x00age\x00", "ip\x00age\x00\x00\x00\x09", "ipq\x00age\x00bob\x00", "index", "i\xff", "ii"}
	for _, coll := range []string{"p", "pq", "q", "pp", "", "pqr", "P"} {
		for _, field := range []string{"age", "name", "ag", "agee", "nam", "", "x"} {
			for _, order := range []string{"\x00\x00\x09", "\x00\x00\x03", "\x00\x00\x08", "\x00\x09\x00", "bob\x00", "bobby\x00", "\x00", "bo\x00", ""} {
				for _, key := range []string{"x", "xx", "y", "z", "", "x\x00"} {
					keys = append(keys, plainIndexKey(coll, field, order, key))
				}
			}
		}
	}
	there := 0
	for _, key := range keys {
		_, known := plainVal(base, key)
		if known {
			there++
		}
		if indexOf(t, withKey(base, key, "")) != known {
			t.Errorf("also with %q it is %v", key, !known)
		}
		if indexOf(t, withKey(base, key, "x")) {
			t.Errorf("also with a text at %q it is right", key)
		}
		if indexOf(t, []impl.Pair{pair(key, "")}) {
			t.Errorf("with %q alone it is right", key)
		}
	}
	if there != 7 {
		t.Errorf("%d of them are there", there)
	}
	// One in the place of another: as many as there should be, but not those.
	for _, key := range keys {
		if _, known := plainVal(base, key); !known && indexOf(t, withKey(withoutKey(base, "ip\x00age\x00\x00\x00\x09x"), key, "")) {
			t.Errorf("with %q in the place of another it is right", key)
		}
	}
}

// Keys that begin with neither `o` nor `i` are as they are, the empty one too.
func TestIndexRightOtherKeys(t *testing.T) {
	base := peoplePairs(t)
	for _, key := range []string{"", "\x00", "a", "h", "hi", "ho", "j", "n", "p", "pi", "po", "s", "sp\x00", "sq", "sabcd", "si", "so", "t", "z", "\xff", "I", "O", "Ip\x00", "Op\x00x", " i", " o"} {
		for _, val := range []string{"", "v", "\x01\x03age"} {
			if !indexOf(t, withKey(base, key, val)) || !indexOf(t, []impl.Pair{pair(key, val)}) {
				t.Errorf("with %q at %q it is not right", val, key)
			}
		}
	}
}

// Each Key that begins with `o` has a thing by the schema of its collection.
func TestIndexRightThings(t *testing.T) {
	base := peoplePairs(t)
	index := func(coll, key string) []impl.Pair {
		return []impl.Pair{pair("i"+coll+"\x00age\x00\x00\x00\x08"+key, ""), pair("i"+coll+"\x00name\x00al\x00"+key, "")}
	}
	thing := func(coll, key string) impl.Pair { return pair("o"+coll+"\x00"+key, "\x08\x02al") }
	both, same := pair("sq", "\x01\x03age\x02\x04name"), pair("spq", "\x01\x03age\x02\x04name")
	for name, c := range map[string]struct {
		pairs []impl.Pair
		right bool
	}{
		"one more":                         {with(base, append(index("p", "z"), thing("p", "z"))...), true},
		"one more without an index":        {with(base, thing("p", "z")), false},
		"one more with a part of it":       {with(base, index("p", "z")[0], thing("p", "z")), false},
		"one more with the other part":     {with(base, index("p", "z")[1], thing("p", "z")), false},
		"one more with another's":          {with(base, append(index("p", "y"), thing("p", "z"))...), false},
		"of a new collection":              {with(base, append(index("q", "z"), thing("q", "z"), both)...), true},
		"of no collection":                 {with(base, append(index("q", "z"), thing("q", "z"))...), false},
		"of one whose schema is none":      {with(base, append(index("q", "z"), thing("q", "z"), pair("sq", "\x03\x03age"))...), false},
		"of one whose schema is empty":     {with(base, append(index("q", "z"), thing("q", "z"), pair("sq", ""))...), false},
		"of one with another schema":       {with(base, append(index("q", "z"), thing("q", "z"), pair("sq", "\x01\x03age"))...), false},
		"by the schema of pq":              {with(base, append(index("pq", "z"), thing("pq", "z"))...), false},
		"of pq, which has that of p":       {with(without(base, "opq\x00x", "ipq\x00age\x00bob\x00x"), append(index("pq", "z"), thing("pq", "z"), same)...), true},
		"of pq, with the index of p":       {with(without(base, "opq\x00x", "ipq\x00age\x00bob\x00x"), append(index("p", "z"), thing("pq", "z"), same)...), false},
		"of p, with the index of pq":       {with(base, append(index("pq", "z"), thing("p", "z"))...), false},
		"without a byte 0":                 {with(base, pair("op", "\x08\x02al")), false},
		"without a byte 0, with an index":  {with(base, append(index("p", ""), pair("op", "\x08\x02al"))...), false},
		"without one, of no thing":         {with(base, pair("ox", "")), false},
		"just the byte":                    {with(base, pair("o", "")), false},
		"just the byte and a 0":            {with(base, pair("o\x00", "")), false},
		"a name without a 0":               {[]impl.Pair{pair("oooo", "v")}, false},
		"no name, which has a schema":      {with(base, append(index("", "z"), thing("", "z"), pair("s", both.Val))...), true},
		"no name without a schema":         {with(base, append(index("", "z"), thing("", "z"))...), false},
		"an empty key":                     {with(base, append(index("p", ""), thing("p", ""))...), true},
		"an empty key without an index":    {with(base, thing("p", "")), false},
		"a key that goes on with a 0":      {with(base, append(index("p", "x\x00y"), thing("p", "x\x00y"))...), true},
		"a key that begins with a 0":       {with(base, append(index("p", "\x00x"), thing("p", "\x00x"))...), true},
		"a schema of a name with a 0":      {with(base, append(index("p\x00", "x"), thing("p\x00", "x"), pair("sp\x00", both.Val))...), false},
		"four letters, with a schema":      {with(base, append(index("abcd", "z"), thing("abcd", "z"), pair("sabcd", both.Val))...), true},
		"an index longer than a key is":    {with(base, pair("sabcdefghij", "\x01\x03age\x02\x04name"), pair("oabcdefghij\x00x", "\x09\x06bobbyy")), false},
		"a thing that is too great":        {with(base, pair("op\x00x", "\xc0\x84\x3d\x03bob")), false},
		"the greatest thing":               {with(without(base, "ip\x00age\x00\x00\x00\x09x"), pair("op\x00x", "\xbf\x84\x3d\x03bob"), pair("ip\x00age\x00\x0f\x42\x3fx", "")), true},
		"another thing":                    {with(base, pair("op\x00x", "\x08\x03bob")), false},
		"a longer form of the same":        {with(base, pair("op\x00x", "\x89\x00\x03bob")), false},
		"kinds that are turned":            {with(base, pair("sp", "\x02\x03age\x01\x04name")), false},
		"fields that are turned":           {with(base, pair("sp", "\x02\x04name\x01\x03age")), false},
		"one field alone":                  {with(base, pair("sp", "\x01\x03age")), false},
		"another name of a field":          {with(base, pair("sp", "\x01\x03agf\x02\x04name")), false},
		"two fields of one name":           {with(base, pair("sp", "\x01\x03age\x02\x03age")), false},
		"one field of a Kind that is none": {with(base, pair("sp", "\x01\x03age\x03\x04name")), false},
	} {
		if indexOf(t, c.pairs) != c.right {
			t.Errorf("%s: it is %v", name, !c.right)
		}
	}
}

// Things of every schema, one to four of them: right as they are, and not right with any one pair less, or any IndexKey more.
func TestIndexRightOfEachSchema(t *testing.T) {
	for at, list := range rightSchemas() {
		h := newHold().withColl("a", list).withColl("ab", list)
		for n := range 4 {
			h = h.withThing([]string{"a", "ab"}[n%2], "k"+strconv.Itoa(n/2), thingOf(list, at+n*7))
			pairs := h.pairs(t)
			if !indexOf(t, pairs) {
				t.Fatalf("schema %v: it is not right", list)
			}
			for _, p := range pairs {
				needed := p.Key[0] != 's' || len(h.things[p.Key[1:]]) > 0
				if indexOf(t, withoutKey(pairs, p.Key)) == needed {
					t.Errorf("schema %v: without %q it is %v", list, p.Key, needed)
				}
				if more := p.Key + "0"; p.Key[0] == 'i' && indexOf(t, withKey(pairs, more, "")) {
					t.Errorf("schema %v: with %q it is right", list, more)
				}
			}
		}
	}
}

// Trees with pairs that are not right, one kind of them, and several at once, drawn: by the document's words.
func TestIndexRightOfOddTrees(t *testing.T) {
	base := peoplePairs(t)
	right := map[string]bool{"a schema of 4 letters": true, "a schema of no name": true, "a schema of a name with 0": false, "odd keys with an index": true}
	for name, more := range oddPairs() {
		if got := indexOf(t, with(base, more...)); got != right[name] {
			t.Errorf("%s: it is %v", name, got)
		}
	}
	for seed := range 400 {
		indexOf(t, drawOdd(drawn(seed), base, 2))
	}
}

// In a tree whose Keys do not ascend, all Keys of AllPairs count, wherever they stand, and the schema is the one that is got.
func TestIndexRightOfKeysThatDoNotAscend(t *testing.T) {
	index := func(n byte, key string) string { return "ip\x00age\x00\x00\x00" + string([]byte{n}) + key }
	of := func(keys ...string) impl.Node { return leaf(keys, make([]string, len(keys))) }
	things := leaf([]string{"op\x00x", "sp"}, []string{"\x09", "\x01\x03age"})
	two := leaf([]string{"op\x00x", "op\x00y", "sp"}, []string{"\x09", "\x03", "\x01\x03age"})
	for name, c := range map[string]struct {
		first, second impl.Node
		keys          []string
		right         bool
	}{
		"an index behind the things":    {things, of(index(9, "x")), []string{"", "z"}, true},
		"two of them":                   {two, of(index(3, "y"), index(9, "x")), []string{"", "z"}, true},
		"one of two is missing":         {two, of(index(3, "y")), []string{"", "z"}, false},
		"one too many":                  {things, of(index(3, "y"), index(9, "x")), []string{"", "z"}, false},
		"one with a text":               {things, leaf([]string{index(9, "x")}, []string{"x"}), []string{"", "z"}, false},
		"a schema that is not got":      {things, of(index(9, "x")), []string{"", "i"}, false},
		"one twice":                     {of(index(9, "x"), "j"), leaf([]string{index(9, "x"), "op\x00x", "sp"}, []string{"", "\x09", "\x01\x03age"}), []string{"", "o"}, true},
		"one twice, once with a text":   {of(index(9, "x"), "j"), leaf([]string{index(9, "x"), "op\x00x", "sp"}, []string{"x", "\x09", "\x01\x03age"}), []string{"", "o"}, false},
		"likewise, the first of them":   {leaf([]string{index(9, "x")}, []string{"x"}), leaf([]string{index(9, "x"), "op\x00x", "sp"}, []string{"", "\x09", "\x01\x03age"}), []string{"", "o"}, false},
		"one thing twice":               {leaf([]string{index(9, "x"), "op\x00x"}, []string{"", "\x09"}), things, []string{"", "o"}, true},
		"once as another, with both":    {leaf([]string{index(3, "x"), index(9, "x"), "op\x00x"}, []string{"", "", "\x03"}), things, []string{"", "o"}, true},
		"once as another, with one":     {leaf([]string{index(9, "x"), "op\x00x"}, []string{"", "\x03"}), things, []string{"", "o"}, false},
		"once as none":                  {leaf([]string{index(9, "x"), "op\x00x"}, []string{"", ""}), things, []string{"", "o"}, false},
		"a thing that is not got, none": {leaf([]string{index(9, "x"), "op\x00y"}, []string{"", ""}), things, []string{"", "o"}, false},
	} {
		d := pagesWith(t, map[int]impl.Node{2: c.first, 3: c.second, 4: branch(c.keys, 2, 3)})
		if impl.TreeOk(d, 4) {
			t.Errorf("%s: the tree is right", name)
		}
		indexIs(t, name, d, 4, c.right)
		if plainIndexRight(d, 4) != c.right {
			t.Errorf("%s: the document's words tell another thing", name)
		}
		pagesAre(t, name, d, meta(1, 4, 5), true)
		storeIs(t, name, impl.Store{Disk: d, Meta: meta(1, 4, 5)}, false)
	}
}

// peopleStore is a store with collections and things, whose Frees have something, and two readers of elder trees.
func peopleStore(t *testing.T) impl.Store {
	t.Helper()
	s := wrote(t, newStore(t, 32), pair("a", "1"), pair("b", "2"))
	s = wrote(t, step(t, 0)(impl.StartRead(s, 4)), pair("a", "3"), pair("c", "4"))
	s = step(t, 0)(impl.StartWrite(step(t, 0)(impl.StartRead(s, 7))))
	s.Txn = went(t, 0)(impl.MakeColl(s.Txn, "p", schema("nt", "age", "name")))
	for _, key := range []string{"x", "y"} {
		s.Txn = went(t, 0)(impl.PutThing(s.Txn, "p", key, []impl.Value{num(9), text(key)}))
	}
	s = step(t, 0)(impl.EndWrite(s))
	if len(s.Meta.Frees) < 2 || len(s.Readers) != 2 {
		t.Fatalf("the store is %+v", s)
	}
	return s
}

// told5 is what each check tells of a store.
type told5 struct {
	meta, tree, pages, index, readers bool
}

func checksOf(s impl.Store) told5 {
	got := told5{impl.MetaOk(s.Meta), impl.TreeOk(s.Disk, s.Meta.Root), impl.PagesRight(s.Disk, s.Meta), impl.IndexRight(s.Disk, s.Meta.Root), true}
	for _, r := range s.Readers {
		got.readers = got.readers && impl.TreeOk(s.Disk, r.Meta.Root)
	}
	return got
}

// withTree is the store with another tree that counts, of these nodes from page 2 on, the last one its root; all that was is gone.
func withTree(t *testing.T, s impl.Store, nodes ...impl.Node) impl.Store {
	t.Helper()
	out := ownStore(s)
	for at, n := range nodes {
		out.Disk.Pages[2+at] = nodeText(t, n)
	}
	out.Meta, out.Readers = meta(3, 1+len(nodes), 2+len(nodes)), nil
	return out
}

// A store in which one thing alone is not right is not right, whichever it is; all else is not asked.
func TestStoreRightOneByOne(t *testing.T) {
	base := peopleStore(t)
	isSound(t, "people", base)
	right := told5{true, true, true, true, true}
	not := func(change func(c *told5)) told5 {
		c := right
		change(&c)
		return c
	}
	noMeta, noOrder := not(func(c *told5) { c.meta = false }), not(func(c *told5) { c.tree = false })
	lost, noIndex, noReader := not(func(c *told5) { c.pages = false }), not(func(c *told5) { c.index = false }), not(func(c *told5) { c.readers = false })
	holds := func(name string, want told5, s impl.Store) {
		t.Helper()
		if got := checksOf(s); got != want {
			t.Errorf("%s: the checks are %+v, not %+v", name, got, want)
		}
		storeIs(t, name, s, want == right)
	}
	changed := func(name string, want told5, change func(s *impl.Store)) {
		t.Helper()
		s := ownStore(base)
		change(&s)
		holds(name, want, s)
	}
	last := len(base.Meta.Frees) - 1
	changed("the greatest Tx and 1", noMeta, func(s *impl.Store) { s.Meta.Tx = maxTx + 1 })
	changed("a Tx below a Free's", noMeta, func(s *impl.Store) { s.Meta.Tx = s.Meta.Frees[last].Tx - 1 })
	changed("a Free of Tx 0", noMeta, func(s *impl.Store) { s.Meta.Frees[0].Tx = 0 })
	changed("a Free without pages", noMeta, func(s *impl.Store) { s.Meta.Frees = append([]impl.Free{free(0)}, s.Meta.Frees...) })
	changed("Frees that descend", noMeta, func(s *impl.Store) { slices.Reverse(s.Meta.Frees) })
	changed("pages that descend", noMeta, func(s *impl.Store) { slices.Reverse(s.Meta.Frees[last].Pages) })
	changed("Next one more", lost, func(s *impl.Store) { s.Meta.Next++ })
	changed("a Free less", lost, func(s *impl.Store) { s.Meta.Frees = s.Meta.Frees[:last] })
	changed("a page less", lost, func(s *impl.Store) { s.Meta.Frees[last].Pages = s.Meta.Frees[last].Pages[1:] })
	for at := range base.Readers {
		of := "reader " + strconv.Itoa(at)
		for _, root := range []int{1, -1, 31, 32, math.MaxInt, math.MinInt} {
			changed(of+": root "+strconv.Itoa(root), noReader, func(s *impl.Store) { s.Readers[at].Meta.Root = root })
		}
		changed(of+": no tree any more", noReader, func(s *impl.Store) { s.Disk.Pages[s.Readers[at].Meta.Root] = "no node" })
		changed(of+": none any more, Late", noReader, func(s *impl.Store) { s.Disk = write(t, s.Disk, s.Readers[at].Meta.Root, "no node") })
		changed(of+": nothing", right, func(s *impl.Store) { s.Readers[at].Meta = impl.Meta{} })
		changed(of+": another tree", right, func(s *impl.Store) { s.Readers[at].Meta.Root = s.Meta.Root })
		changed(of+": a meta that is wrong", right, func(s *impl.Store) {
			s.Readers[at].Meta = meta(-1, s.Readers[at].Meta.Root, math.MinInt, free(0), free(-9, 0, 0, 99))
		})
		changed(of+": another Id", right, func(s *impl.Store) { s.Readers[at].Id = math.MaxInt })
		changed(of+": a tree that does not ascend", noReader, func(s *impl.Store) {
			s.Disk.Pages[29], s.Disk.Pages[30], s.Disk.Pages[31] = nodeText(t, oneOf("c")), nodeText(t, oneOf("b")), nodeText(t, branch([]string{"a", "d"}, 29, 30))
			s.Readers[at].Meta.Root = 31
		})
	}
	many := slices.Repeat([]impl.Reader{reader(4, base.Meta)}, 50)
	changed("fifty readers", right, func(s *impl.Store) { s.Readers = many })
	changed("the last of fifty", noReader, func(s *impl.Store) { s.Readers = append(many[:49:49], reader(4, meta(1, 1, 2))) })
	changed("readers without anything", right, func(s *impl.Store) { s.Readers = make([]impl.Reader, 4) })
	changed("writing and failed", right, func(s *impl.Store) { s.Writing, s.Failed = true, true })
	changed("a change of nothing that belongs to it", right, func(s *impl.Store) {
		s.Txn = txn(meta(-1, 1, -1, free(0)), work(named(3), -1, []int{0}, []int{1}, []int{2}), 99)
	})
	one := withTree(t, base, oneOf("a"))
	holds("a right tree", right, one)
	for _, tx := range []int{-1, maxTx + 1, math.MaxInt, math.MinInt} {
		one.Meta.Tx = tx
		holds("Tx "+strconv.Itoa(tx), noMeta, one)
	}
	holds("Keys that do not ascend", noOrder, withTree(t, base, oneOf("c"), oneOf("b"), branch([]string{"a", "d"}, 2, 3)))
	holds("a Key above what is below", noOrder, withTree(t, base, oneOf("a"), oneOf("b"), branch([]string{"a", "c"}, 2, 3)))
	holds("a Key not above what is ahead", noOrder, withTree(t, base, leaf([]string{"a", "c"}, []string{"", ""}), oneOf("d"), branch([]string{"a", "b"}, 2, 3)))
	holds("leaves at two depths", noOrder, withTree(t, base, oneOf("a"), oneOf("b"), branch([]string{"b"}, 3), branch([]string{"a", "b"}, 2, 4)))
	holds("an index key too many", noIndex, withTree(t, base, oneOf("i")))
	holds("a thing without a collection", noIndex, withTree(t, base, oneOf("o")))
	holds("no tree", not(func(c *told5) { c.tree, c.pages, c.index = false, false, false }), withTree(t, base, branch([]string{"a"}, 2)))
	holds("nothing at all", noMeta, impl.Store{})
	holds("nothing", right, impl.Store{Meta: meta(0, 0, 2)})
}

// What a reader's tree tells is not asked: an index that is not right there is no matter, but in the tree that counts.
func TestStoreRightReadersIndex(t *testing.T) {
	s := wrote(t, newStore(t, 20), pair("ip\x00age", ""), pair("op", ""))
	storeIs(t, "not right by its index", s, false)
	s = step(t, 0)(impl.StartWrite(step(t, 0)(impl.StartRead(s, 1))))
	s = step(t, 0)(impl.WriteDrop(step(t, 0)(impl.WriteDrop(s, "op")), "ip\x00age"))
	storeIs(t, "while it is written", s, false)
	s = step(t, 0)(impl.EndWrite(s))
	isSound(t, "mended", s)
	indexIs(t, "who reads", s.Disk, s.Readers[0].Meta.Root, false)
	s = step(t, 0)(impl.StartWrite(s))
	s = step(t, 0)(impl.WritePut(s, "i", ""))
	storeIs(t, "what is written does not count yet", s, true)
	indexIs(t, "but it is not right", s.Txn.Work.Disk, s.Txn.Root, false)
	storeIs(t, "now it counts", step(t, 0)(impl.EndWrite(s)), false)
	isSound(t, "given up", step(t, 0)(impl.StopWrite(s)))
}

// Stores whose parts do not belong together, named and drawn: by the document's words.
func TestChecksOfOddStores(t *testing.T) {
	stores := anyStores(t)
	maps.Copy(stores, wrongStores(t))
	stores["people"] = peopleStore(t)
	for name, s := range stores {
		checkChecks(t, name, s)
	}
	names := slices.Sorted(maps.Keys(stores))
	rights := 0
	for seed := range 3000 {
		next := drawn(seed)
		s := ownStore(stores[names[next(len(names))]])
		for range next(3) {
			other := stores[names[next(len(names))]]
			switch next(5) {
			case 0:
				s.Meta = other.Meta
			case 1:
				s.Disk = other.Disk
			case 2:
				s.Readers = append(s.Readers, reader(next(9), other.Meta))
			case 3:
				s.Meta.Root = oddNumber(next)
			case 4:
				s.Meta.Frees = append(s.Meta.Frees, free(oddNumber(next), oddList(next, 3)...))
			}
		}
		if checkChecks(t, "seed "+strconv.Itoa(seed), s) {
			rights++
		}
	}
	if rights < 100 || rights > 2500 {
		t.Errorf("%d of the drawn ones are right", rights)
	}
}

// checkChecks holds all that is told of a store against the document's words.
func checkChecks(t *testing.T, name string, s impl.Store) bool {
	t.Helper()
	metas := []impl.Meta{s.Meta, s.Txn.Base}
	for _, r := range s.Readers[:min(len(s.Readers), 3)] {
		metas = append(metas, r.Meta)
	}
	for _, d := range []impl.Disk{s.Disk, s.Txn.Work.Disk} {
		for _, m := range metas {
			pagesAre(t, name, d, m, plainPagesRight(d, m))
			indexIs(t, name, d, m.Root, plainIndexRight(d, m.Root))
		}
	}
	want := plainStoreRight(s)
	storeIs(t, name, s, want)
	if t.Failed() {
		t.FailNow()
	}
	return want
}

// Metas that are right and not, on disks with trees and without: by the document's words, and none takes long.
func TestChecksOfOddMetas(t *testing.T) {
	disks := map[string]impl.Disk{"no pages": {}, "no nodes": named(40), "people": peopleStore(t).Disk}
	for at, g := range grownTrees(t) {
		disks["tree "+strconv.Itoa(at)] = g.disk
	}
	metas := append(rightMetas(), meta(math.MaxInt, math.MaxInt, math.MaxInt), meta(math.MinInt, math.MinInt, math.MinInt), meta(0, 2, math.MaxInt), meta(0, 2, math.MinInt), meta(0, 0, math.MaxInt, free(1, span(2, 5000)...)), meta(0, 0, 5001, free(1, span(2, 5000)...)))
	for _, m := range wrongMetas() {
		metas = append(metas, m)
	}
	for _, frees := range anyFrees() {
		metas = append(metas, meta(9, 0, 10, frees...), meta(9, 2, 10, frees...))
	}
	for name, d := range disks {
		for _, m := range metas {
			pagesAre(t, name, d, m, plainPagesRight(d, m))
			storeIs(t, name, impl.Store{Disk: d, Meta: m}, plainStoreRight(impl.Store{Disk: d, Meta: m}))
		}
		if t.Failed() {
			t.FailNow()
		}
	}
}

// stiffTree has a round: pages that lead back to one another in all ways that there are.
func stiffTree(t *testing.T) impl.Disk {
	t.Helper()
	d := newDisk(t, impl.MaxPages)
	for page := 2; page < impl.MaxPages; page++ {
		kids := []int{}
		for at := range impl.Fan {
			kids = append(kids, 2+(page*4+at)%38)
		}
		d.Pages[page] = nodeText(t, branch([]string{"", "i", "o", "s"}, kids...))
	}
	return d
}

// Trees that have no end are gone through to where they come back.
func TestChecksEnd(t *testing.T) {
	d := stiffTree(t)
	for root := range impl.MaxPages + 2 {
		pagesAre(t, "no end", d, meta(1, root, 40, free(1, span(2, 39)...)), root == 0)
		pagesAre(t, "no end", d, meta(1, root, 40), false)
		indexIs(t, "no end", d, root, root == 0)
		storeIs(t, "no end", impl.Store{Disk: d, Meta: meta(1, root, 40)}, false)
		storeIs(t, "read without end", impl.Store{Disk: d, Meta: meta(1, 0, 2), Readers: []impl.Reader{reader(1, meta(1, root, 40))}}, root == 0)
	}
}

// checkAnswers are all that is told of a store, by any of its disks and metas.
func checkAnswers(s impl.Store) []bool {
	return []bool{
		impl.StoreRight(s), impl.PagesRight(s.Disk, s.Meta), impl.PagesRight(s.Txn.Work.Disk, s.Txn.Base), impl.PagesRight(s.Txn.Work.Disk, s.Meta),
		impl.IndexRight(s.Disk, s.Meta.Root), impl.IndexRight(s.Txn.Work.Disk, s.Txn.Root), impl.IndexRight(s.Disk, 0), impl.IndexRight(s.Disk, 2),
	}
}

// checkedStores are stores of all kinds.
func checkedStores(t *testing.T) map[string]impl.Store {
	t.Helper()
	stores := anyStores(t)
	people := peopleStore(t)
	stores["people"] = people
	stores["people, writing"] = step(t, 0)(impl.WritePut(step(t, 0)(impl.StartWrite(people)), "i", ""))
	stores["no end"] = impl.Store{Disk: stiffTree(t), Meta: meta(1, 2, 40, free(1, 5, 3))}
	g := grow(t, pairsOf(9), impl.Fan, []int{3, 9, 5, 7})
	stores["Frees in no order"] = impl.Store{Disk: g.disk, Meta: meta(1, g.root, 11, free(1, 8, 2), free(1, 10, 4, 6))}
	return stores
}

// Nothing is written into an argument, nor into the spare room behind it; nor does the room tell anything.
func TestCheckArgumentsStay(t *testing.T) {
	for name, plain := range checkedStores(t) {
		s := roomyStore(plain)
		want := wholeStore(s)
		got := checkAnswers(s)
		if !sameStore(wholeStore(s), want) || !sameStore(s, plain) {
			t.Fatalf("%s: something is written into it", name)
		}
		if !slices.Equal(got, checkAnswers(plain)) {
			t.Errorf("%s: with room behind its lists another thing is told", name)
		}
	}
}

// An empty list and nil are the same value.
func TestChecksEmptyAndNil(t *testing.T) {
	one := nodeText(t, oneOf("a"))
	for _, pages := range [][]string{{}, {"", ""}, {"", "", one}} {
		for _, m := range []impl.Meta{meta(0, 0, 2), meta(0, 2, 3), meta(0, 2, 4), {}} {
			none, empty := impl.Store{Disk: impl.Disk{Pages: pages}, Meta: m}, impl.Store{Disk: impl.Disk{Pages: pages, Late: []impl.Put{}}, Meta: m, Readers: []impl.Reader{}}
			none.Meta.Frees, empty.Meta.Frees = nil, []impl.Free{}
			if len(pages) == 0 {
				none.Disk.Pages = nil
			}
			if !slices.Equal(checkAnswers(none), checkAnswers(empty)) {
				t.Errorf("%q, %+v: an empty list is not nil", pages, m)
			}
			none.Meta.Frees, empty.Meta.Frees = []impl.Free{{Tx: 1}}, []impl.Free{{Tx: 1, Pages: []int{}}}
			if !slices.Equal(checkAnswers(none), checkAnswers(empty)) {
				t.Errorf("%q, %+v: an empty list of pages is not nil", pages, m)
			}
		}
	}
}

// No function keeps anything: the same is told whatever was asked between, and by whomever at once.
func TestChecksKeepNothing(t *testing.T) {
	stores := checkedStores(t)
	first := map[string][]bool{}
	for name, s := range stores {
		first[name] = checkAnswers(s)
	}
	var all sync.WaitGroup
	for range 4 {
		all.Go(func() {
			for name, s := range stores {
				if !slices.Equal(checkAnswers(s), first[name]) {
					t.Errorf("%s: another thing is told the second time", name)
				}
			}
		})
	}
	all.Wait()
}
