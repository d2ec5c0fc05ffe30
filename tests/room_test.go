package tests

import (
	"math"
	"slices"
	"testing"

	"loop.example/g00240/impl"
)

// work is a work with these fields.
func work(d impl.Disk, next int, usable, gone, fresh []int) impl.Work {
	return impl.Work{Disk: d, Next: next, Usable: usable, Gone: gone, Fresh: fresh}
}

func sameWork(a, b impl.Work) bool {
	return sameDisk(a.Disk, b.Disk) && a.Next == b.Next && slices.Equal(a.Usable, b.Usable) && slices.Equal(a.Gone, b.Gone) && slices.Equal(a.Fresh, b.Fresh)
}

// ownWork is the same work in memory of its own, down to the bytes.
func ownWork(w impl.Work) impl.Work {
	return work(ownDisk(w.Disk), w.Next, slices.Clone(w.Usable), slices.Clone(w.Gone), slices.Clone(w.Fresh))
}

// isWork holds a work against what is told of it.
func isWork(t *testing.T, name string, got, want impl.Work) {
	t.Helper()
	if !sameDisk(got.Disk, want.Disk) {
		t.Errorf("%s: the disk is %+v, not %+v", name, got.Disk, want.Disk)
	}
	got.Disk, want.Disk = impl.Disk{}, impl.Disk{}
	if !sameWork(got, want) {
		t.Errorf("%s: %+v, not %+v", name, got, want)
	}
}

func gives(t *testing.T, w impl.Work, want int) impl.Work {
	t.Helper()
	out, page := impl.GivePage(w)
	if page != want {
		t.Fatalf("GivePage of %+v gives %d, not %d", w, page, want)
	}
	return out
}

func puts(t *testing.T, w impl.Work, n impl.Node, want int) impl.Work {
	t.Helper()
	out, page := impl.PutNode(w, n)
	if page != want {
		t.Fatalf("PutNode into %+v is at %d, not %d", w, page, want)
	}
	return out
}

// anyFrees are Frees as metas have them, and as none that is right has them.
func anyFrees() map[string][]impl.Free {
	list := map[string][]impl.Free{
		"none":                        nil,
		"an empty list":               {},
		"one without pages":           {free(1)},
		"some without pages":          {free(1), free(2, 3), free(3), free(4, 2)},
		"one page each":               {free(1, 2), free(2, 3), free(3, 4)},
		"not ascending together":      {free(1, 9), free(2, 4, 8), free(3, 2, 5)},
		"in one another":              {free(1, 2, 9), free(2, 4, 6), free(3, 3, 5, 7)},
		"a page in two Frees":         {free(1, 3, 5), free(2, 2, 5), free(3, 3)},
		"pages twice in one":          {free(2, 4, 4), free(3, 2, 4, 4)},
		"pages that descend":          {free(2, 9, 5, 3), free(3, 8, 2)},
		"Tx that descend":             {free(3, 2), free(2, 3), free(1, 4)},
		"one Tx twice":                {free(2, 5), free(2, 3)},
		"Tx 0 and below":              {free(0, 2), free(-1, 3), free(math.MinInt, 4)},
		"the greatest Tx":             {free(maxTx, 2), free(math.MaxInt, 3)},
		"pages that are none":         {free(1, -1, 0, 1), free(2, 40, math.MaxInt, math.MinInt)},
		"more Frees than a meta has":  freesOfOne(60, 61),
		"more pages than a disk has":  {free(2, span(2, 300)...), free(1, span(200, 400)...)},
		"all pages, the last one off": {free(1, span(3, impl.MaxPages-1)...), free(2, 2)},
	}
	for _, m := range rightMetas() {
		list["of a right meta: "+metaName(m)] = m.Frees
	}
	for name, m := range wrongMetas() {
		list["of a meta with "+name] = m.Frees
	}
	return list
}

func metaName(m impl.Meta) string {
	text, _ := impl.MetaText(m)
	out, _ := impl.Hex(text)
	return out
}

// plainUsable are the pages that may be given, by the document's words: each page is looked for in all Frees.
func plainUsable(frees []impl.Free, oldest int) []int {
	list := []int{}
	for _, f := range frees {
		for _, page := range f.Pages {
			if f.Tx <= oldest && !slices.Contains(list, page) {
				list = append(list, page)
			}
		}
	}
	slices.Sort(list)
	return list
}

func TestWorkNew(t *testing.T) {
	frees := []impl.Free{free(2, 9), free(4, 3, 8), free(6, 2, 5), free(9, 4)}
	for oldest, want := range map[int][]int{
		math.MinInt: nil, -1: nil, 0: nil, 1: nil, 2: {9}, 3: {9}, 4: {3, 8, 9}, 5: {3, 8, 9},
		6: {2, 3, 5, 8, 9}, 7: {2, 3, 5, 8, 9}, 8: {2, 3, 5, 8, 9}, 9: {2, 3, 4, 5, 8, 9}, 10: {2, 3, 4, 5, 8, 9}, math.MaxInt: {2, 3, 4, 5, 8, 9},
	} {
		w := impl.WorkNew(withLate(), meta(9, 7, 12, frees...), oldest)
		isWork(t, "WorkNew", w, work(withLate(), 12, want, nil, nil))
	}
}

func TestWorkNewOfAnyFrees(t *testing.T) {
	for name, frees := range anyFrees() {
		for _, oldest := range []int{math.MinInt, -2, -1, 0, 1, 2, 3, 4, 19, 20, 100, maxTx - 20, maxTx - 1, maxTx, maxTx + 1, math.MaxInt} {
			w := impl.WorkNew(named(4), meta(5, 0, 7, frees...), oldest)
			isWork(t, name, w, work(named(4), 7, plainUsable(frees, oldest), nil, nil))
		}
	}
}

// Neither the meta nor the disk need be right; the Tx and the Root are not looked at.
func TestWorkNewOfAnyMeta(t *testing.T) {
	disks := wrongDisks()
	for name, d := range rightDisks() {
		disks[name] = d
	}
	for name, d := range disks {
		isWork(t, name, impl.WorkNew(d, impl.Meta{}, 9), work(d, 0, nil, nil, nil))
		for _, next := range []int{math.MinInt, -1, 0, 1, 2, 39, 40, 41, math.MaxInt} {
			for _, root := range []int{-1, 0, 2, 3, 50} {
				isWork(t, name, impl.WorkNew(d, meta(next, root, next, free(3, 3), free(4, 2)), 4), work(d, next, []int{2, 3}, nil, nil))
			}
		}
	}
}

// Each row of up to two Frees of up to two pages, and each oldest.
func TestWorkNewOfEachRow(t *testing.T) {
	rows := [][]int{{}}
	for first := range 4 {
		rows = append(rows, []int{first})
		for second := range 4 {
			rows = append(rows, []int{first, second})
		}
	}
	for _, one := range rows {
		for _, two := range rows {
			for tx := range 3 {
				for oldest := range 4 {
					frees := []impl.Free{free(1, one...), free(tx, two...)}
					w := impl.WorkNew(impl.Disk{}, meta(3, 0, 4, frees...), oldest)
					isWork(t, "a row", w, work(impl.Disk{}, 4, plainUsable(frees, oldest), nil, nil))
				}
			}
		}
	}
}

func TestGivePage(t *testing.T) {
	for name, c := range map[string]struct {
		was, want impl.Work
		page      int
	}{
		"the first usable one":              {work(named(9), 7, []int{3, 5}, nil, nil), work(named(9), 7, []int{5}, nil, []int{3}), 3},
		"the last usable one":               {work(named(9), 7, []int{5}, nil, []int{3}), work(named(9), 7, nil, nil, []int{3, 5}), 5},
		"Fresh is not ascending":            {work(named(9), 7, []int{4, 6}, []int{2}, []int{5}), work(named(9), 7, []int{6}, []int{2}, []int{5, 4}), 4},
		"Next":                              {work(named(9), 7, nil, nil, []int{3, 5}), work(named(9), 8, nil, nil, []int{3, 5, 7}), 7},
		"Next, with an empty list":          {work(named(9), 7, []int{}, []int{}, []int{}), work(named(9), 8, nil, nil, []int{7}), 7},
		"Next, the last page":               {work(named(9), 8, nil, []int{3}, nil), work(named(9), 9, nil, []int{3}, []int{8}), 8},
		"Next is how many":                  {work(named(9), 9, nil, []int{3}, []int{8}), work(named(9), 9, nil, []int{3}, []int{8}), 0},
		"Next is more":                      {work(named(9), 10, nil, nil, nil), work(named(9), 10, nil, nil, nil), 0},
		"Next is far more":                  {work(named(9), math.MaxInt, nil, nil, nil), work(named(9), math.MaxInt, nil, nil, nil), 0},
		"one usable, Next is how many":      {work(named(9), 9, []int{4}, nil, nil), work(named(9), 9, nil, nil, []int{4}), 4},
		"one usable, Next is more":          {work(named(9), 99, []int{4, 5}, nil, nil), work(named(9), 99, []int{5}, nil, []int{4}), 4},
		"no disk":                           {work(impl.Disk{}, 0, nil, nil, nil), work(impl.Disk{}, 0, nil, nil, nil), 0},
		"no disk, one usable":               {work(impl.Disk{}, 2, []int{4}, nil, nil), work(impl.Disk{}, 2, nil, nil, []int{4}), 4},
		"Late ones are no pages":            {work(withLate(), 5, nil, nil, nil), work(withLate(), 5, nil, nil, nil), 0},
		"a disk that is not right":          {work(named(2), 1, nil, nil, nil), work(named(2), 2, nil, nil, []int{1}), 1},
		"the last page of all":              {work(named(impl.MaxPages), 39, nil, nil, nil), work(named(impl.MaxPages), 40, nil, nil, []int{39}), 39},
		"Gone ones are not given":           {work(named(4), 4, nil, []int{2, 3}, nil), work(named(4), 4, nil, []int{2, 3}, nil), 0},
		"Fresh ones are not given again":    {work(named(4), 4, nil, nil, []int{3, 2}), work(named(4), 4, nil, nil, []int{3, 2}), 0},
		"the disk stays, with what is Late": {work(withLate(), 4, []int{2}, nil, nil), work(withLate(), 4, nil, nil, []int{2}), 2},
	} {
		got, page := impl.GivePage(c.was)
		if page != c.page {
			t.Errorf("%s: page %d, not %d", name, page, c.page)
		}
		isWork(t, name, got, c.want)
	}
}

// Pages are given one behind the other, each once, till there is none: the usable ones, the least first, then new ones.
func TestGiveTillThereIsNone(t *testing.T) {
	for _, m := range rightMetas() {
		for _, size := range []int{4, 5, 9, 21, impl.MaxPages} {
			for _, oldest := range []int{0, 2, 3, m.Tx - 1, m.Tx} {
				w := impl.WorkNew(named(size), m, oldest)
				want := append(plainUsable(m.Frees, oldest), span(m.Next, size-1)...)
				for at, page := range want {
					w = gives(t, w, page)
					if !slices.Equal(w.Fresh, want[:at+1]) {
						t.Fatalf("Fresh are %v, not %v", w.Fresh, want[:at+1])
					}
				}
				end := work(named(size), max(m.Next, size), nil, nil, want)
				isWork(t, "all given", w, end)
				isWork(t, "one more", gives(t, gives(t, w, 0), 0), end)
			}
		}
	}
}

func TestDropPage(t *testing.T) {
	plain := work(withLate(), 7, []int{3, 5}, []int{9, 2}, []int{6, 4, 8})
	drop := func(name string, page int, usable, gone, fresh []int) {
		t.Helper()
		isWork(t, name, impl.DropPage(plain, page), work(withLate(), 7, usable, gone, fresh))
	}
	drop("fresh, above all usable ones", 8, []int{3, 5, 8}, []int{9, 2}, []int{6, 4})
	drop("fresh, above them, the first", 6, []int{3, 5, 6}, []int{9, 2}, []int{4, 8})
	drop("fresh, in their midst", 4, []int{3, 4, 5}, []int{9, 2}, []int{6, 8})
	plain.Fresh = []int{8, 2}
	drop("fresh, less than all of them", 2, []int{2, 3, 5}, []int{9, 2}, []int{8})
	drop("not fresh", 7, []int{3, 5}, []int{9, 2, 7}, []int{8, 2})
	drop("not fresh, less than the others", 1, []int{3, 5}, []int{9, 2, 1}, []int{8, 2})
	drop("not on the disk", 99, []int{3, 5}, []int{9, 2, 99}, []int{8, 2})
	drop("page 0", 0, []int{3, 5}, []int{9, 2, 0}, []int{8, 2})
	drop("below 0", -1, []int{3, 5}, []int{9, 2, -1}, []int{8, 2})
	drop("far below", math.MinInt, []int{3, 5}, []int{9, 2, math.MinInt}, []int{8, 2})
	drop("far above", math.MaxInt, []int{3, 5}, []int{9, 2, math.MaxInt}, []int{8, 2})
	drop("usable, not fresh", 3, []int{3, 5}, []int{9, 2, 3}, []int{8, 2})
	plain.Usable, plain.Gone = nil, nil
	drop("fresh, nothing usable", 8, []int{8}, nil, []int{2})
	drop("not fresh, nothing gone", 5, nil, []int{5}, []int{8, 2})
	plain.Fresh = []int{8}
	drop("the last fresh one", 8, []int{8}, nil, nil)
	plain.Fresh = nil
	drop("nothing fresh", 8, nil, []int{8}, nil)
	isWork(t, "no work", impl.DropPage(impl.Work{}, 0), work(impl.Disk{}, 0, nil, []int{0}, nil))
}

// A page that is dropped again is fresh no more: it is gone, and it is not usable twice.
func TestDroppedTwice(t *testing.T) {
	was := impl.WorkNew(named(9), meta(5, 4, 6, free(2, 3)), 2)
	w := gives(t, gives(t, was, 3), 6)
	once := impl.DropPage(w, 3)
	isWork(t, "fresh", once, work(named(9), 7, []int{3}, nil, []int{6}))
	twice := impl.DropPage(once, 3)
	isWork(t, "fresh, twice", twice, work(named(9), 7, []int{3}, []int{3}, []int{6}))
	isWork(t, "given but once", gives(t, gives(t, twice, 3), 7), work(named(9), 8, nil, []int{3}, []int{6, 3, 7}))
	once = impl.DropPage(w, 4)
	isWork(t, "not fresh", once, work(named(9), 7, nil, []int{4}, []int{3, 6}))
	isWork(t, "not fresh, twice", impl.DropPage(once, 4), work(named(9), 7, nil, []int{4, 4}, []int{3, 6}))
	isWork(t, "another one between", impl.DropPage(impl.DropPage(once, 5), 4), work(named(9), 7, nil, []int{4, 5, 4}, []int{3, 6}))
}

// In a work that has one page in several lists, it is given once.
func TestDropOfOneThatIsInTwoLists(t *testing.T) {
	twice := work(named(9), 7, []int{3}, nil, []int{5, 4, 5})
	isWork(t, "fresh in two places", impl.DropPage(twice, 5), work(named(9), 7, []int{3, 5}, nil, []int{4}))
	usable := work(named(9), 7, []int{3, 5, 6}, nil, []int{5})
	isWork(t, "fresh and usable", impl.DropPage(usable, 5), work(named(9), 7, []int{3, 5, 6}, nil, nil))
	gone := work(named(9), 7, []int{3}, []int{5}, []int{5})
	isWork(t, "fresh and gone", impl.DropPage(gone, 5), work(named(9), 7, []int{3, 5}, []int{5}, nil))
}

// A fresh page that is dropped is given again, ahead of new ones, in the order of the pages.
func TestDroppedAreGivenAgain(t *testing.T) {
	was := impl.WorkNew(named(12), meta(5, 0, 8, free(2, 3, 6)), 2)
	all := []int{3, 6, 8, 9, 10, 11}
	for mask := range 1 << len(all) {
		w := was
		for _, page := range all {
			w = gives(t, w, page)
		}
		back := []int{}
		for at, is := range bits(mask, len(all)) {
			if is {
				back = append(back, all[at])
			}
		}
		for at := range back {
			// From behind, or from before: their place is the same.
			if mask%2 == 0 {
				at = len(back) - 1 - at
			}
			w = impl.DropPage(w, back[at])
		}
		if !slices.Equal(w.Usable, back) || w.Next != 12 || len(w.Gone) != 0 {
			t.Fatalf("dropped %v: %+v", back, w)
		}
		for _, page := range back {
			w = gives(t, w, page)
		}
		gives(t, w, 0)
	}
}

func TestPutNode(t *testing.T) {
	w := impl.WorkNew(withLate(), meta(5, 2, 4, free(5, 3)), 5)
	one, other := oneOf("k"), branch([]string{"a", "b"}, 3, 4)
	w = puts(t, w, one, 3)
	d := write(t, withLate(), 3, nodeText(t, one))
	isWork(t, "to a usable page", w, work(d, 4, nil, nil, []int{3}))
	w = puts(t, w, other, 4)
	d = write(t, d, 4, nodeText(t, other))
	isWork(t, "to a new page", w, work(d, 5, nil, nil, []int{3, 4}))
	isWork(t, "no page is left", puts(t, w, one, 0), w)
	w = puts(t, impl.DropPage(w, 3), other, 3)
	isWork(t, "to a page that was dropped", w, work(write(t, d, 3, nodeText(t, other)), 5, nil, nil, []int{4, 3}))
}

// Each node that is put is read from its page, and the other pages are as they were.
func TestPutIsRead(t *testing.T) {
	for _, n := range rightNodes() {
		w := impl.WorkNew(withLate(), meta(9, 0, 4, free(1, 3), free(2, 2)), 2)
		for _, page := range []int{2, 3, 4} {
			was := w
			w = puts(t, w, n, page)
			got, ok := impl.ReadNode(impl.ReadPage(w.Disk, page))
			if !ok || !sameNode(got, n) {
				t.Errorf("%#v is read as %#v, %v", n, got, ok)
			}
			if !slices.Equal(w.Fresh, append(slices.Clone(was.Fresh), page)) || len(w.Gone) != 0 || slices.Contains(w.Usable, page) {
				t.Errorf("put to %d: %+v", page, w)
			}
			if !slices.Equal(w.Disk.Pages, was.Disk.Pages) {
				t.Errorf("put to %d: something is kept already", page)
			}
			for other := range was.Disk.Pages {
				if other != page && impl.ReadPage(w.Disk, other) != impl.ReadPage(was.Disk, other) {
					t.Errorf("put to %d: page %d is another one", page, other)
				}
			}
		}
	}
}

func TestPutNodeRefuses(t *testing.T) {
	refused := func(name string, w impl.Work, n impl.Node) {
		t.Helper()
		isWork(t, name, puts(t, w, n, 0), w)
	}
	n := oneOf("k")
	works := []impl.Work{work(withLate(), 3, []int{2, 3}, []int{4}, []int{1}), work(named(9), 3, nil, nil, nil), work(named(9), 9, nil, []int{2, 3}, []int{8, 4})}
	for name, wrong := range wrongNodes() {
		for _, w := range works {
			refused(name, w, wrong)
		}
	}
	for _, next := range []int{9, 10, 40, math.MaxInt} {
		refused("no page is left", work(named(9), next, nil, []int{2, 3}, []int{8, 4}), n)
	}
	for name, d := range wrongDisks() {
		refused(name, work(d, 2, nil, nil, nil), n)
		refused(name, work(d, 9, []int{2, 3}, []int{4}, []int{3}), n)
	}
	full := rightDisks()["200 Late"]
	refused("200 Late", work(full, 9, nil, nil, nil), n)
	refused("200 Late, one usable", work(full, 9, []int{2, 3}, nil, []int{4}), n)
	full.Late = full.Late[1:]
	out := puts(t, work(full, 9, nil, nil, nil), n, 9)
	if len(out.Disk.Late) != maxLate {
		t.Errorf("%d are Late, not %d", len(out.Disk.Late), maxLate)
	}
	refused("200 Late now", out, n)
	for _, page := range []int{-1, math.MinInt, 5, 6, 40, math.MaxInt} {
		refused("a usable page that is not on the disk", work(withLate(), 3, []int{page, 2}, []int{4}, []int{1}), n)
	}
	refused("Next below 0", work(withLate(), -1, nil, []int{4}, []int{1}), n)
}

// plainGive, plainDrop and plainPut are what the document tells, place by place.
func plainGive(w impl.Work) (impl.Work, int) {
	out := ownWork(w)
	if len(w.Usable) > 0 {
		out.Usable = slices.Delete(out.Usable, 0, 1)
		out.Fresh = append(out.Fresh, w.Usable[0])
		return out, w.Usable[0]
	}
	if w.Next >= len(w.Disk.Pages) {
		return out, 0
	}
	out.Next = w.Next + 1
	out.Fresh = append(out.Fresh, w.Next)
	return out, w.Next
}

func plainDrop(w impl.Work, page int) impl.Work {
	out := ownWork(w)
	at := slices.Index(w.Fresh, page)
	if at < 0 {
		out.Gone = append(out.Gone, page)
		return out
	}
	out.Fresh = slices.Delete(out.Fresh, at, at+1)
	place := 0
	for place < len(out.Usable) && out.Usable[place] < page {
		place++
	}
	out.Usable = slices.Insert(out.Usable, place, page)
	return out
}

func plainPut(w impl.Work, n impl.Node) (impl.Work, int) {
	text, ok := impl.NodeText(n)
	out, page := plainGive(w)
	if !ok || page == 0 || !impl.DiskOk(w.Disk) || page >= len(w.Disk.Pages) || len(w.Disk.Late) >= maxLate {
		return w, 0
	}
	out.Disk.Late = append(out.Disk.Late, impl.Put{Page: page, Text: text})
	return out, page
}

// Each row of five steps on a small disk: pages that are given and put, wrong nodes, and drops of each page, also of those that were dropped.
func TestEachRowOfSteps(t *testing.T) {
	var step func(w impl.Work, left int)
	step = func(w impl.Work, left int) {
		if left == 0 || t.Failed() {
			return
		}
		check := func(name string, got, want impl.Work, page, plain int) {
			t.Helper()
			if page != plain || !sameWork(got, want) {
				t.Errorf("%s of %+v: %d, %+v, not %d, %+v", name, w, page, got, plain, want)
			}
			step(got, left-1)
		}
		got, page := impl.GivePage(w)
		want, plain := plainGive(w)
		check("GivePage", got, want, page, plain)
		for _, n := range []impl.Node{oneOf("k"), {}} {
			got, page = impl.PutNode(w, n)
			want, plain = plainPut(w, n)
			check("PutNode", got, want, page, plain)
		}
		for drop := 1; drop <= 6; drop++ {
			check("DropPage", impl.DropPage(w, drop), plainDrop(w, drop), 0, 0)
		}
	}
	step(impl.WorkNew(named(5), meta(7, 0, 4, free(2, 3), free(4, 2)), 4), 5)
	step(impl.WorkNew(named(6), meta(7, 2, 4, free(2, 3), free(5, 2)), 4), 4)
	step(impl.WorkNew(newDisk(t, 4), meta(0, 0, 2), 0), 4)
}

// The promise: who gives back what they were given, and each page of the old tree once, is never given a page that is in use, nor one that someone may still look at.
func TestGivenOnce(t *testing.T) {
	old := []int{2, 4, 7}                                         // the pages of the tree that counts
	m := meta(9, 2, 10, free(3, 5, 9), free(6, 3), free(9, 6, 8)) // those of 9 are still looked at
	for mask := range 1 << 12 {
		w := impl.WorkNew(named(16), m, 6)
		held, dropped := []int{}, []int{}
		for at, give := range bits(mask, 12) {
			if give || len(held) == 0 {
				out, page := impl.GivePage(w)
				if page != 0 {
					if slices.Contains(held, page) || slices.Contains(old, page) || page == 6 || page == 8 || page < 2 || page > 15 {
						t.Fatalf("row %b: page %d is given, which is in use", mask, page)
					}
					held = append(held, page)
				}
				w = out
			} else if at%3 == 0 && len(dropped) < len(old) {
				page := old[len(dropped)]
				w = impl.DropPage(w, page)
				dropped = append(dropped, page)
			} else {
				place := at % len(held)
				w = impl.DropPage(w, held[place])
				held = slices.Delete(held, place, place+1)
			}
			whole := slices.Concat(w.Usable, held, old, []int{6, 8}, span(w.Next, 15))
			slices.Sort(whole)
			if !slices.Equal(whole, span(2, 15)) || !slices.Equal(w.Gone, dropped) || !slices.IsSorted(w.Usable) {
				t.Fatalf("row %b: held %v, %+v", mask, held, w)
			}
		}
	}
}

func roomyList(list []int) []int {
	return append(slices.Clone(list), 7, 7, 7)[:len(list)]
}

// roomyWork is the same work with spare room behind its lists, which is filled.
func roomyWork(w impl.Work) impl.Work {
	return work(roomy(w.Disk), w.Next, roomyList(w.Usable), roomyList(w.Gone), roomyList(w.Fresh))
}

// wholeWork is a copy of the work with all that is in the room behind its lists.
func wholeWork(w impl.Work) impl.Work {
	d := impl.Disk{Pages: w.Disk.Pages[:cap(w.Disk.Pages)], Late: w.Disk.Late[:cap(w.Disk.Late)]}
	return ownWork(work(d, w.Next, w.Usable[:cap(w.Usable)], w.Gone[:cap(w.Gone)], w.Fresh[:cap(w.Fresh)]))
}

// scribbleWork changes all that a work's lists reach, the spare room too.
func scribbleWork(w impl.Work) {
	scribble(w.Disk)
	for _, list := range [][]int{w.Usable, w.Gone, w.Fresh} {
		for at := range list[:cap(list)] {
			list[:cap(list)][at] = -7
		}
	}
}

// workCalls are calls of all functions that take a work and answer one.
func workCalls() map[string]func(w impl.Work) impl.Work {
	return map[string]func(w impl.Work) impl.Work{
		"GivePage":        func(w impl.Work) impl.Work { out, _ := impl.GivePage(w); return out },
		"DropPage":        func(w impl.Work) impl.Work { return impl.DropPage(w, 2) },
		"DropPage, fresh": func(w impl.Work) impl.Work { return impl.DropPage(w, 4) },
		"PutNode":         func(w impl.Work) impl.Work { out, _ := impl.PutNode(w, oneOf("k")); return out },
		"PutNode of none": func(w impl.Work) impl.Work { out, _ := impl.PutNode(w, impl.Node{}); return out },
	}
}

func anyWorks() map[string]impl.Work {
	works := map[string]impl.Work{
		"nothing":             {},
		"nothing usable":      work(named(9), 7, nil, []int{2, 3}, []int{6, 4}),
		"usable":              work(withLate(), 5, []int{2, 3}, []int{0, 1}, []int{4}),
		"no page left":        work(withLate(), 5, nil, []int{3, 1}, []int{4, 2}),
		"all lists empty":     work(withLate(), 3, []int{}, []int{}, []int{}),
		"not ascending":       work(named(9), 7, []int{6, 2, 6, 3}, []int{5, 5}, []int{4, 8, 4}),
		"usable off the disk": work(named(9), 7, []int{99, -1}, nil, []int{4}),
	}
	for name, d := range wrongDisks() {
		works[name] = work(d, 3, []int{2, 3}, []int{0, 1}, []int{4})
	}
	for name, d := range rightDisks() {
		works[name] = work(d, 3, []int{2, 3}, []int{0, 1}, []int{4})
	}
	return works
}

func TestWorkArgumentsStay(t *testing.T) {
	for name, plain := range anyWorks() {
		for call, do := range workCalls() {
			w := roomyWork(plain)
			want := wholeWork(w)
			do(w)
			if !sameWork(wholeWork(w), want) || !sameWork(w, plain) {
				t.Errorf("%s of %s writes into its argument", call, name)
			}
		}
	}
	for _, plain := range rightNodes() {
		n := roomyNode(plain)
		want := wholeNode(n)
		impl.PutNode(work(named(9), 7, nil, nil, nil), n)
		if !sameNode(wholeNode(n), want) || !sameNode(n, plain) {
			t.Errorf("PutNode writes into %#v", plain)
		}
	}
	for name, frees := range anyFrees() {
		m, d := roomyMeta(meta(9, 0, 7, frees...)), roomy(withLate())
		want, disk := wholeMeta(m), ownDisk(impl.Disk{Pages: d.Pages[:cap(d.Pages)], Late: d.Late[:cap(d.Late)]})
		impl.WorkNew(d, m, 3)
		if !sameMeta(wholeMeta(m), want) || !sameDisk(impl.Disk{Pages: d.Pages[:cap(d.Pages)], Late: d.Late[:cap(d.Late)]}, disk) {
			t.Errorf("WorkNew of Frees with %s writes into its argument", name)
		}
	}
}

func TestWorksAreNewMemory(t *testing.T) {
	for name, plain := range anyWorks() {
		for call, do := range workCalls() {
			w := roomyWork(plain)
			got, other := do(w), do(w)
			want := ownWork(got)
			scribbleWork(w)
			if !sameWork(got, want) {
				t.Errorf("%s of %s: an argument that is changed changes the answer", call, name)
			}
			scribbleWork(got)
			if !sameWork(other, want) {
				t.Errorf("%s of %s: two answers share memory", call, name)
			}
			w = roomyWork(plain)
			whole := wholeWork(w)
			scribbleWork(do(w))
			if !sameWork(wholeWork(w), whole) {
				t.Errorf("%s of %s: an answer that is changed changes the argument", call, name)
			}
		}
	}
}

func TestNewWorksAreNewMemory(t *testing.T) {
	for _, plain := range rightMetas() {
		d, m := roomy(withLate()), roomyMeta(plain)
		got, other := impl.WorkNew(d, m, maxTx), impl.WorkNew(d, m, maxTx)
		want := ownWork(got)
		scribbleWork(other)
		if !sameMeta(m, plain) || !sameDisk(d, withLate()) || !sameWork(got, want) {
			t.Error("WorkNew: an answer that is changed changes the argument or another answer")
		}
		scribble(d)
		scribbleMeta(m)
		if !sameWork(got, want) {
			t.Error("WorkNew: an argument that is changed changes the answer")
		}
	}
}

// fillSpare changes all that is in the room behind a list.
func fillSpare(list []int) {
	for at := len(list); at < cap(list); at++ {
		list[:cap(list)][at] = -7
	}
}

// The lists of one answer are apart, in their spare room, too.
func TestListsOfAWorkAreApart(t *testing.T) {
	for name, plain := range anyWorks() {
		for call, do := range workCalls() {
			got := do(roomyWork(plain))
			want := ownWork(got)
			lists := [][]int{got.Usable, got.Gone, got.Fresh}
			for _, list := range lists {
				fillSpare(list)
				if !sameWork(got, want) {
					t.Errorf("%s of %s: two lists share memory", call, name)
				}
			}
		}
	}
}

func TestWorkTextsAreNewMemory(t *testing.T) {
	texts := func(d impl.Disk) []string {
		list := slices.Clone(d.Pages)
		for _, put := range d.Late {
			list = append(list, put.Text)
		}
		return list
	}
	for call, do := range workCalls() {
		w := work(ownDisk(withLate()), 5, []int{2, 3}, []int{0, 1}, []int{4})
		fresh := impl.WorkNew(w.Disk, meta(5, 0, 5), 5)
		for _, text := range append(texts(do(w).Disk), texts(fresh.Disk)...) {
			for _, held := range texts(w.Disk) {
				if sharesMemory(text, held) {
					t.Errorf("%s or WorkNew hands out a text of its argument: %q", call, text)
				}
			}
		}
	}
}

// An empty list and nil are the same value.
func TestWorkEmptyAndNil(t *testing.T) {
	for call, do := range workCalls() {
		for _, pages := range [][]string{{}, named(4).Pages} {
			empty := work(impl.Disk{Pages: pages, Late: []impl.Put{}}, 3, []int{}, []int{}, []int{})
			none := work(impl.Disk{Pages: pages}, 3, nil, nil, nil)
			if len(pages) == 0 {
				none.Disk.Pages = nil
			}
			if !sameWork(do(empty), do(none)) {
				t.Errorf("%s of %d pages: an empty list is not nil", call, len(pages))
			}
		}
	}
	for _, frees := range [][]impl.Free{nil, {}, {{Tx: 1}}, {{Tx: 1, Pages: []int{}}}} {
		isWork(t, "WorkNew of nothing free", impl.WorkNew(named(4), meta(3, 0, 3, frees...), 3), work(named(4), 3, nil, nil, nil))
	}
}
