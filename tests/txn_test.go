package tests

import (
	"maps"
	"math"
	"slices"
	"strconv"
	"strings"
	"testing"

	"loop.example/g00240/impl"
)

func txn(base impl.Meta, w impl.Work, root int) impl.Txn {
	return impl.Txn{Base: base, Work: w, Root: root}
}

func sameTxn(a, b impl.Txn) bool {
	return sameMeta(a.Base, b.Base) && sameWork(a.Work, b.Work) && a.Root == b.Root
}

// ownMeta is the same meta in memory of its own.
func ownMeta(m impl.Meta) impl.Meta {
	out := meta(m.Tx, m.Root, m.Next)
	for _, f := range m.Frees {
		out.Frees = append(out.Frees, free(f.Tx, slices.Clone(f.Pages)...))
	}
	return out
}

// ownTxn is the same change in memory of its own, down to the bytes.
func ownTxn(x impl.Txn) impl.Txn {
	return txn(ownMeta(x.Base), ownWork(x.Work), x.Root)
}

// isTxn holds a change against what is told of it.
func isTxn(t *testing.T, name string, got, want impl.Txn) {
	t.Helper()
	if !sameMeta(got.Base, want.Base) || got.Root != want.Root {
		t.Errorf("%s: Base %+v, Root %d, not %+v, %d", name, got.Base, got.Root, want.Base, want.Root)
	}
	isWork(t, name, got.Work, want.Work)
}

// plainNothing tells whether there is nothing to be committed, by the document's words.
func plainNothing(x impl.Txn) bool {
	return x.Root == x.Base.Root && len(x.Work.Gone) == 0
}

// plainNext is what the document tells of NextMeta, whether it is right or not.
func plainNext(x impl.Txn) impl.Meta {
	m := meta(x.Base.Tx+1, x.Root, x.Work.Next)
	for _, f := range x.Base.Frees {
		left := slices.DeleteFunc(slices.Clone(f.Pages), func(page int) bool { return slices.Contains(x.Work.Fresh, page) })
		if len(left) > 0 {
			m.Frees = append(m.Frees, free(f.Tx, left...))
		}
	}
	more := map[int]int{}
	for _, page := range x.Work.Gone {
		more[page]++
	}
	for _, page := range x.Work.Usable {
		if !(page < x.Base.Next) {
			more[page]++
		}
	}
	if len(more) > 0 {
		m.Frees = append(m.Frees, free(m.Tx, slices.Sorted(maps.Keys(more))...))
	}
	return m
}

// plainNextMeta is that, or the zero meta and false where it is not right; no right meta is too long.
func plainNextMeta(x impl.Txn) (impl.Meta, bool) {
	if m := plainNext(x); plainMetaOk(m) {
		return m, true
	}
	return impl.Meta{}, false
}

func plainCommit(t *testing.T, x impl.Txn) (impl.Disk, impl.Meta, bool) {
	t.Helper()
	kept := impl.SyncDisk(x.Work.Disk)
	if plainNothing(x) {
		return kept, x.Base, true
	}
	m, ok := plainNextMeta(x)
	if !ok || !impl.DiskOk(kept) {
		return x.Work.Disk, x.Base, false
	}
	kept.Pages[m.Tx%2] = metaText(t, m)
	return kept, m, true
}

// plainFall is what a fall leaves, page by page.
func plainFall(d impl.Disk, left []bool, torn int) impl.Disk {
	if !impl.DiskOk(d) {
		return d
	}
	var out impl.Disk
	for page := range d.Pages {
		out.Pages = append(out.Pages, pageAfterFall(d, left, torn, page))
	}
	return out
}

func plainCut(t *testing.T, x impl.Txn, stage int, left []bool, torn int) impl.Disk {
	t.Helper()
	m, ok := plainNextMeta(x)
	if stage == 0 || !ok || plainNothing(x) {
		return plainFall(x.Work.Disk, left, torn)
	}
	kept := impl.SyncDisk(x.Work.Disk)
	if impl.DiskOk(kept) {
		kept.Late = []impl.Put{{Page: m.Tx % 2, Text: metaText(t, m)}}
	}
	return plainFall(kept, left, torn)
}

// cuts are some numbers of stages, each of which but the first is the second one.
func cuts() []int {
	return []int{0, 1, 2, -1, 3, math.MaxInt, math.MinInt}
}

// checkTxn holds what is answered of a change against the document's words.
func checkTxn(t *testing.T, name string, x impl.Txn) {
	t.Helper()
	want, right := plainNextMeta(x)
	if got, ok := impl.NextMeta(x); ok != right || !sameMeta(got, want) {
		t.Fatalf("%s: NextMeta = %+v, %v, not %+v, %v", name, got, ok, want, right)
	}
	disk, base, right := plainCommit(t, x)
	if d, m, ok := impl.Commit(x); ok != right || !sameMeta(m, base) || !sameDisk(d, disk) {
		t.Fatalf("%s: Commit = %+v, %+v, %v, not %+v, %+v, %v", name, d, m, ok, disk, base, right)
	}
	late := len(x.Work.Disk.Late)
	for _, stage := range cuts() {
		for _, left := range [][]bool{nil, {true}, {false, true}, {true, false, true}, all(late), all(late + 3)} {
			for _, torn := range []int{-1, 0, late - 1, late} {
				if got, want := impl.CommitCut(x, stage, left, torn), plainCut(t, x, stage, left, torn); !sameDisk(got, want) {
					t.Fatalf("%s: CommitCut(%d, %v, %d) = %+v, not %+v", name, stage, left, torn, got, want)
				}
			}
		}
	}
}

// state is a disk, the meta that counts there, and the pairs of its tree.
type state struct {
	disk  impl.Disk
	meta  impl.Meta
	pairs []impl.Pair
}

// emptyState is a disk with a meta of nothing at page 0.
func emptyState(t *testing.T, pages int) state {
	t.Helper()
	d, m := newDisk(t, pages), meta(0, 0, 2)
	d.Pages[0] = metaText(t, m)
	return state{disk: d, meta: m}
}

// counts holds that the disk tells the state: its meta is the best one, its tree is right and has just these pairs, and each page below Next is in the tree or in Frees, once.
func counts(t *testing.T, name string, s state) {
	t.Helper()
	if m, ok := impl.BestMeta(s.disk); !ok || !sameMeta(m, s.meta) {
		t.Errorf("%s: BestMeta = %+v, %v, not %+v", name, m, ok, s.meta)
	}
	if got, ok := impl.AllPairs(s.disk, s.meta.Root); !ok || !slices.Equal(got, s.pairs) || !impl.TreeOk(s.disk, s.meta.Root) {
		t.Errorf("%s: AllPairs = %q, %v, not %q", name, got, ok, s.pairs)
	}
	pages, _ := impl.PagesOf(s.disk, s.meta.Root)
	for _, f := range s.meta.Frees {
		pages = append(pages, f.Pages...)
	}
	slices.Sort(pages)
	if !slices.Equal(pages, span(2, s.meta.Next-1)) {
		t.Errorf("%s: the tree and Frees have %v of the pages below %d", name, pages, s.meta.Next)
	}
	if t.Failed() {
		t.FailNow()
	}
}

// act is one step of a change: a pair that is put, or a key that is taken.
type act struct {
	pair impl.Pair
	take bool
}

func putAct(key, val string) act { return act{pair: pair(key, val)} }

func takeAct(key string) act { return act{pair: pair(key, ""), take: true} }

// acted does one step, and holds it against PutKey and DropKey.
func acted(t *testing.T, name string, x impl.Txn, pairs []impl.Pair, a act) (impl.Txn, []impl.Pair, bool) {
	t.Helper()
	var w impl.Work
	var got impl.Txn
	root, right, ok := 0, false, false
	if a.take {
		w, root, right = impl.DropKey(x.Work, x.Root, a.pair.Key)
		got, ok = impl.TxnDrop(x, a.pair.Key)
	} else {
		w, root, right = impl.PutKey(x.Work, x.Root, a.pair.Key, a.pair.Val)
		got, ok = impl.TxnPut(x, a.pair.Key, a.pair.Val)
	}
	want := txn(x.Base, w, root)
	if !right {
		want = x
	}
	if ok != right || !sameTxn(got, want) {
		t.Errorf("%s: %+v is %v, not %v", name, a, ok, right)
		isTxn(t, name, got, want)
		t.FailNow()
	}
	if !ok {
		return got, pairs, false
	}
	if a.take {
		return got, withoutKey(pairs, a.pair.Key), true
	}
	return got, withKey(pairs, a.pair.Key, a.pair.Val), true
}

// actedAll begins a change of a state, and does all of these steps.
func actedAll(t *testing.T, name string, s state, oldest int, acts []act) (impl.Txn, []impl.Pair) {
	t.Helper()
	x, pairs := impl.Begin(s.disk, s.meta, oldest), s.pairs
	for _, a := range acts {
		ok := false
		if x, pairs, ok = acted(t, name, x, pairs, a); !ok {
			t.Fatalf("%s: %+v is refused", name, a)
		}
	}
	return x, pairs
}

// committed commits a change of a state to these pairs, and holds the promise: they count now, and the old tree's pages and meta are as they were.
func committed(t *testing.T, name string, s state, x impl.Txn, pairs []impl.Pair) state {
	t.Helper()
	checkTxn(t, name, x)
	d, m, ok := impl.Commit(x)
	if !ok {
		t.Fatalf("%s: Commit is refused", name)
	}
	if m.Tx != s.meta.Tx+1 || m.Root != x.Root || m.Next != x.Work.Next || len(d.Late) != 0 {
		t.Errorf("%s: the meta is %+v, %d are Late", name, m, len(d.Late))
	}
	pages, _ := impl.PagesOf(s.disk, s.meta.Root)
	for _, page := range append(pages, 1-m.Tx%2) {
		if impl.ReadPage(d, page) != impl.ReadPage(s.disk, page) {
			t.Errorf("%s: page %d is written over", name, page)
		}
	}
	told(t, name+": the old tree", d, s.meta.Root, s.pairs, pages, true)
	now := state{disk: d, meta: m, pairs: pairs}
	counts(t, name, now)
	return now
}

// grownState is what several changes made: each puts some of these pairs, and all that is free may be given again.
func grownState(t *testing.T, pages, n, each int) state {
	t.Helper()
	s := emptyState(t, pages)
	for part := range slices.Chunk(pairsOf(n), each) {
		acts := []act{}
		for _, p := range part {
			acts = append(acts, act{pair: p})
		}
		x, pairs := actedAll(t, "growing", s, s.meta.Tx, acts)
		s = committed(t, "growing", s, x, pairs)
	}
	return s
}

// changesOf are changes of a state, small ones and great ones.
func changesOf(s state) map[string][]act {
	list := map[string][]act{
		"a new pair":              {putAct("a", "1")},
		"the same pair twice":     {putAct("m", "1"), putAct("m", "2")},
		"a pair put and taken":    {putAct("m", "1"), putAct("z", "1"), takeAct("m")},
		"pairs in all places":     {putAct("", "1"), putAct("k101!", "2"), putAct("z", "3")},
		"some pairs one by one":   {putAct("b1", "1"), putAct("b2", "2"), putAct("b3", "3"), putAct("b4", "4"), putAct("b5", "5")},
		"the longest texts there": {putAct(strings.Repeat("\xff", impl.MaxKey), strings.Repeat("v", impl.MaxVal))},
	}
	taken, put := []act{}, []act{}
	for at, p := range s.pairs {
		list["another Val of "+p.Key] = []act{putAct(p.Key, "new")}
		list["without "+p.Key] = []act{takeAct(p.Key)}
		if at < 6 {
			taken = append(taken, takeAct(p.Key))
			put = append(put, takeAct(p.Key), putAct(p.Key, "again"))
		}
	}
	if len(taken) > 0 {
		list["without the first ones"] = taken
		list["the first ones anew"] = put
	}
	return list
}

// someStates are states of no pair, of one, and of trees of one level to three, with and without pages that are free.
func someStates(t *testing.T) map[string]state {
	return map[string]state{
		"nothing":      emptyState(t, impl.MaxPages),
		"one pair":     grownState(t, impl.MaxPages, 1, 1),
		"one leaf":     grownState(t, impl.MaxPages, 4, 4),
		"two levels":   grownState(t, impl.MaxPages, 9, 3),
		"one by one":   grownState(t, 25, 7, 1),
		"three levels": grownState(t, impl.MaxPages, 20, 5),
	}
}

// The meta, WorkNew of all three, and the meta's Root: also of metas and disks that are not right.
func TestBegin(t *testing.T) {
	metas, disks := rightMetas(), []impl.Disk{{}, named(4), withLate(), newDisk(t, impl.MaxPages)}
	for _, m := range wrongMetas() {
		metas = append(metas, m)
	}
	for _, d := range wrongDisks() {
		disks = append(disks, d)
	}
	for _, frees := range anyFrees() {
		metas = append(metas, meta(5, 3, 7, frees...))
	}
	for at, m := range metas {
		for _, oldest := range []int{math.MinInt, -1, 0, 1, 3, m.Tx - 1, m.Tx, math.MaxInt} {
			d := disks[at%len(disks)]
			isTxn(t, "Begin", impl.Begin(d, m, oldest), txn(m, work(d, m.Next, plainUsable(m.Frees, oldest), nil, nil), m.Root))
		}
	}
}

// What is committed counts, of states and changes of many kinds.
func TestCommitCounts(t *testing.T) {
	for was, s := range someStates(t) {
		counts(t, was, s)
		for name, acts := range changesOf(s) {
			for _, oldest := range []int{-1, s.meta.Tx - 1, s.meta.Tx} {
				x, pairs := actedAll(t, was+", "+name, s, oldest, acts)
				committed(t, was+", "+name, s, x, pairs)
			}
		}
	}
}

// The bytes of the pages behind two changes.
func TestCommitBytes(t *testing.T) {
	s := emptyState(t, 6)
	one := write(t, s.disk, 2, nodeText(t, leaf([]string{"a"}, []string{"1"})))
	x, ok := impl.TxnPut(impl.Begin(s.disk, s.meta, 0), "a", "1")
	if !ok {
		t.Fatal("a is not put")
	}
	isTxn(t, "a put", x, txn(meta(0, 0, 2), work(one, 3, nil, nil, []int{2}), 2))
	d, m, ok := impl.Commit(x)
	want := impl.SyncDisk(write(t, one, 1, metaText(t, meta(1, 2, 3))))
	if !ok || !sameMeta(m, meta(1, 2, 3)) || !sameDisk(d, want) {
		t.Fatalf("the first change: %+v, %+v, %v", d, m, ok)
	}
	x, ok = impl.TxnDrop(impl.Begin(d, m, 1), "a")
	if !ok {
		t.Fatal("a is not taken")
	}
	isTxn(t, "a taken", x, txn(m, work(d, 3, nil, []int{2}, nil), 0))
	d, m, ok = impl.Commit(x)
	want = impl.SyncDisk(write(t, want, 0, metaText(t, meta(2, 0, 3, free(2, 2)))))
	if !ok || !sameMeta(m, meta(2, 0, 3, free(2, 2))) || !sameDisk(d, want) {
		t.Fatalf("the second change: %+v, %+v, %v", d, m, ok)
	}
	// Page 2 is given again: its list has none left, and is gone.
	x, _ = impl.TxnPut(impl.Begin(d, m, 2), "b", "2")
	d, m, ok = impl.Commit(x)
	want = impl.SyncDisk(write(t, write(t, want, 2, nodeText(t, leaf([]string{"b"}, []string{"2"}))), 1, metaText(t, meta(3, 2, 3))))
	if !ok || !sameMeta(m, meta(3, 2, 3)) || !sameDisk(d, want) {
		t.Fatalf("the third change: %+v, %+v, %v", d, m, ok)
	}
}

// isWhole holds that a disk tells one of two states as a whole.
func isWhole(t *testing.T, name string, d impl.Disk, s state) {
	t.Helper()
	if len(d.Late) != 0 {
		t.Fatalf("%s: %d are Late", name, len(d.Late))
	}
	s.disk = d
	counts(t, name, s)
}

// The power goes ahead of the first SyncDisk, with every choice of what is left, and each page torn: the old tree counts.
func TestFallAheadOfTheTree(t *testing.T) {
	for was, s := range someStates(t) {
		for name, acts := range changesOf(s) {
			x, _ := actedAll(t, name, s, s.meta.Tx, acts)
			late := len(x.Work.Disk.Late)
			if late > 8 {
				continue
			}
			for mask := range 1 << late {
				for torn := -1; torn <= late; torn++ {
					left := bits(mask, late)
					d := impl.CommitCut(x, 0, left, torn)
					isWhole(t, was+", "+name, d, s)
					if !sameDisk(d, plainCut(t, x, 0, left, torn)) {
						t.Fatalf("%s: CommitCut(0, %v, %d)", name, left, torn)
					}
				}
			}
		}
	}
}

// Great changes, of which many pages are Late: what is left is drawn.
func TestFallAheadOfAGreatTree(t *testing.T) {
	for seed := range 40 {
		next := drawn(seed)
		s := grownState(t, impl.MaxPages, 10+seed%5, 4)
		acts := []act{}
		for at := range 8 {
			acts = append(acts, putAct("k"+strconv.Itoa(100+next(20)), strconv.Itoa(at)))
		}
		x, _ := actedAll(t, "a great change", s, s.meta.Tx, acts)
		for range 60 {
			left := make([]bool, next(len(x.Work.Disk.Late)+5))
			for at := range left {
				left[at] = next(2) == 0
			}
			isWhole(t, "a great change", impl.CommitCut(x, 0, left, next(len(left)+2)-1), s)
		}
	}
}

// The power goes ahead of the second SyncDisk: the new tree counts when the meta is left as a whole, else the old one.
func TestFallAheadOfTheMeta(t *testing.T) {
	for was, s := range someStates(t) {
		for name, acts := range changesOf(s) {
			name = was + ", " + name
			x, pairs := actedAll(t, name, s, s.meta.Tx, acts)
			now := committed(t, name, s, x, pairs)
			for _, stage := range cuts()[1:] {
				for _, left := range [][]bool{nil, {}, {false}, {true}, {false, true}, {true, true}, all(300), make([]bool, 300)} {
					for _, torn := range []int{-1, 0, 1, 2, 300, math.MaxInt, math.MinInt} {
						d := impl.CommitCut(x, stage, left, torn)
						if len(left) > 0 && left[0] && torn != 0 {
							isWhole(t, name, d, now)
							continue
						}
						isWhole(t, name, d, s)
						// The tree is kept already, and nobody counts it.
						if got, ok := impl.AllPairs(d, x.Root); !ok || !slices.Equal(got, pairs) {
							t.Fatalf("%s: stage %d: the new tree has %q, %v", name, stage, got, ok)
						}
					}
				}
			}
		}
	}
}

// After a fall it goes on from what counts then, and the same change is done again.
func TestGoOnAfterAFall(t *testing.T) {
	for was, s := range someStates(t) {
		for name, acts := range changesOf(s) {
			name = was + ", " + name
			x, pairs := actedAll(t, name, s, s.meta.Tx, acts)
			for _, stage := range []int{0, 1} {
				for _, left := range [][]bool{nil, {true}, {false, true, true}, all(9)} {
					d := impl.CommitCut(x, stage, left, 0)
					m, ok := impl.BestMeta(d)
					if !ok || !sameMeta(m, s.meta) {
						t.Fatalf("%s: BestMeta = %+v, %v", name, m, ok)
					}
					old := state{disk: d, meta: m, pairs: s.pairs}
					again, both := actedAll(t, name, old, m.Tx, acts)
					if !slices.Equal(both, pairs) {
						t.Fatalf("%s: %q, not %q", name, both, pairs)
					}
					committed(t, name, old, again, both)
				}
			}
		}
	}
}

// stillRead holds that who reads a state that was sees it as it was.
func stillRead(t *testing.T, name string, d impl.Disk, held []state) {
	t.Helper()
	for _, s := range held {
		if got, ok := impl.AllPairs(d, s.meta.Root); !ok || !slices.Equal(got, s.pairs) {
			t.Fatalf("%s: who reads the tree of %d sees %q, %v, not %q", name, s.meta.Tx, got, ok, s.pairs)
		}
	}
}

// oldestOf is the least Tx of what counts and of all that is read still.
func oldestOf(s state, held []state) int {
	oldest := s.meta.Tx
	for _, h := range held {
		oldest = min(oldest, h.meta.Tx)
	}
	return oldest
}

// drawActs does some drawn steps of a change; who is refused leaves all as it is.
func drawActs(t *testing.T, next func(n int) int, s state, oldest int) (impl.Txn, []impl.Pair) {
	t.Helper()
	x, pairs := impl.Begin(s.disk, s.meta, oldest), s.pairs
	for range next(6) {
		a := putAct("k"+strconv.Itoa(100+next(30)), strconv.Itoa(next(1000)))
		if next(3) == 0 {
			a = takeAct("k" + strconv.Itoa(100+next(30)))
			if len(pairs) > 0 && next(4) > 0 {
				a.pair.Key = pairs[next(len(pairs))].Key
			}
		}
		x, pairs, _ = acted(t, "a row", x, pairs, a)
		if got, ok := impl.AllPairs(x.Work.Disk, x.Root); !ok || !slices.Equal(got, pairs) {
			t.Fatalf("the change has %q, %v, not %q", got, ok, pairs)
		}
	}
	return x, pairs
}

// Long rows of changes, drawn by a rule, some committed, some given up, some cut by a fall, while some read older trees: what was committed last counts, or what was just being committed, as a whole; no page is lost; whoever reads sees what was.
func TestRowsOfChanges(t *testing.T) {
	done := map[string]int{}
	for seed := range 24 {
		next := drawn(seed)
		s, held := emptyState(t, 16+seed%4*8), []state{}
		for range 60 {
			x, pairs := drawActs(t, next, s, oldestOf(s, held))
			left := make([]bool, next(30))
			for at := range left {
				left[at] = next(3) > 0
			}
			what := next(10)
			switch d, m, ok := impl.Commit(x); {
			case what < 6 && ok && plainNothing(x):
				done["nothing"]++
				if !sameMeta(m, s.meta) {
					t.Fatalf("seed %d: of nothing the meta is %+v", seed, m)
				}
				s.disk = d
			case what < 6 && ok:
				done["committed"]++
				s = committed(t, "a row", s, x, pairs)
			case what < 6:
				// There is no room for one more list of Frees.
				done["refused"]++
				if len(plainNext(x).Frees) <= maxFrees {
					t.Fatalf("seed %d: %+v is refused", seed, plainNext(x))
				}
				s.disk = impl.SyncDisk(x.Work.Disk)
			case what < 8:
				done["given up"]++
				s.disk = impl.SyncDisk(x.Work.Disk)
			default:
				s.disk = impl.CommitCut(x, what%2, left, next(30)-1)
				held = nil
				if m, _ := impl.BestMeta(s.disk); m.Tx != s.meta.Tx {
					done["committed by a fall"]++
					s.meta, s.pairs = plainNext(x), pairs
				} else {
					done["fallen"]++
				}
			}
			counts(t, "a row", s)
			stillRead(t, "a row", s.disk, held)
			if next(4) == 0 && len(held) < 3 {
				held = append(held, s)
			} else if next(6) == 0 && len(held) > 0 {
				held = slices.Delete(held, 0, 1)
			}
		}
	}
	for _, what := range []string{"nothing", "committed", "given up", "fallen", "committed by a fall"} {
		if done[what] < 20 {
			t.Errorf("%s: %d times alone", what, done[what])
		}
	}
}

// A change by which nothing is to be committed: the disk is kept alone, and Base is answered; a fall leaves of the Work's disk what it leaves, at each stage.
func TestNothingToBeCommitted(t *testing.T) {
	s := grownState(t, impl.MaxPages, 9, 3)
	begun := impl.Begin(s.disk, s.meta, s.meta.Tx)
	written := begun
	written.Work.Disk = write(t, write(t, s.disk, 1, "one"), 30, "thirty")
	given := begun
	given.Work, _ = impl.GivePage(impl.DropPage(written.Work, 77))
	given.Work.Gone = nil
	dropped, _ := actedAll(t, "put and taken", emptyState(t, 9), 0, []act{putAct("a", "1"), takeAct("a")})
	for name, x := range map[string]impl.Txn{
		"nothing at all":      {},
		"just begun":          begun,
		"something is Late":   written,
		"something is Fresh":  given,
		"put and taken":       dropped,
		"no meta":             txn(meta(-1, 9, -5), work(withLate(), 9, []int{3}, nil, []int{4}), 9),
		"Tx at its end":       txn(meta(maxTx, 2, 5), work(withLate(), 5, nil, nil, nil), 2),
		"the greatest Tx":     txn(meta(math.MaxInt, 2, 5, free(9, 9), free(9, 9)), work(withLate(), 5, nil, nil, nil), 2),
		"an empty list":       txn(meta(3, 2, 5), work(withLate(), 5, []int{}, []int{}, []int{}), 2),
		"usable past Next":    txn(meta(3, 2, 5), work(withLate(), 8, []int{6, 7}, nil, nil), 2),
		"a Root below 0":      txn(meta(3, -1, 5), work(withLate(), 5, nil, nil, nil), -1),
		"the disk of nothing": txn(meta(3, 2, 5), work(impl.Disk{}, 5, nil, nil, nil), 2),
	} {
		d, m, ok := impl.Commit(x)
		if !ok || !sameMeta(m, x.Base) || !sameDisk(d, impl.SyncDisk(x.Work.Disk)) {
			t.Errorf("%s: Commit = %+v, %+v, %v", name, d, m, ok)
		}
		late := len(x.Work.Disk.Late)
		for _, stage := range cuts() {
			for _, left := range [][]bool{nil, {true}, {false, true}, all(late), all(late + 1)} {
				for torn := -1; torn <= late; torn++ {
					if got := impl.CommitCut(x, stage, left, torn); !sameDisk(got, impl.FallDisk(x.Work.Disk, left, torn)) {
						t.Errorf("%s: CommitCut(%d, %v, %d) = %+v", name, stage, left, torn, got)
					}
				}
			}
		}
		checkTxn(t, name, x)
	}
	for name, d := range wrongDisks() {
		checkTxn(t, name, txn(meta(3, 2, 5), work(d, 5, nil, nil, nil), 2))
	}
	// With something Gone there is something to be committed, though the Root is that of Base; and with another Root, though nothing is Gone.
	x := txn(meta(3, 2, 5), work(named(6), 5, nil, []int{3}, nil), 2)
	if d, m, ok := impl.Commit(x); !ok || !sameMeta(m, meta(4, 2, 5, free(4, 3))) || d.Pages[0] != metaText(t, m) {
		t.Errorf("something Gone: %+v, %+v, %v", d, m, ok)
	}
	checkTxn(t, "something Gone", x)
	x = txn(meta(3, 2, 5), work(named(6), 5, nil, nil, nil), 4)
	if d, m, ok := impl.Commit(x); !ok || !sameMeta(m, meta(4, 4, 5)) || d.Pages[0] != metaText(t, m) {
		t.Errorf("another Root: %+v, %+v, %v", d, m, ok)
	}
	checkTxn(t, "another Root", x)
}

// Frees of Base without the Pages that are Fresh, and behind them what the change leaves.
func TestNextMeta(t *testing.T) {
	frees := []impl.Free{free(2, 3, 5), free(6, 7), free(9, 8)}
	base := meta(9, 4, 10, frees...)
	for name, c := range map[string]struct {
		base                impl.Meta
		next                int
		usable, gone, fresh []int
		root                int
		want                impl.Meta
	}{
		"nothing Fresh":                    {base, 10, []int{3, 5, 7}, nil, nil, 0, meta(10, 0, 10, frees...)},
		"the first of a list Fresh":        {base, 10, []int{5, 7}, nil, []int{3}, 3, meta(10, 3, 10, free(2, 5), free(6, 7), free(9, 8))},
		"the last of a list Fresh":         {base, 10, []int{3, 7}, nil, []int{5}, 5, meta(10, 5, 10, free(2, 3), free(6, 7), free(9, 8))},
		"all of the first list Fresh":      {base, 10, []int{7}, nil, []int{5, 3}, 5, meta(10, 5, 10, free(6, 7), free(9, 8))},
		"all of the second list Fresh":     {base, 10, nil, nil, []int{7}, 7, meta(10, 7, 10, free(2, 3, 5), free(9, 8))},
		"all lists Fresh":                  {base, 10, nil, nil, []int{3, 5, 7, 8}, 8, meta(10, 8, 10)},
		"all lists Fresh, and new ones":    {base, 12, nil, nil, []int{3, 5, 7, 8, 10, 11}, 11, meta(10, 11, 12)},
		"some Gone":                        {base, 10, []int{3, 5, 7}, []int{6, 2, 4}, nil, 0, meta(10, 0, 10, append(slices.Clone(frees), free(10, 2, 4, 6))...)},
		"one Gone twice":                   {base, 10, nil, []int{6, 2, 6, 6, 2}, nil, 4, meta(10, 4, 10, append(slices.Clone(frees), free(10, 2, 6))...)},
		"Gone, all lists Fresh":            {base, 10, nil, []int{4, 9}, []int{3, 5, 7, 8}, 8, meta(10, 8, 10, free(10, 4, 9))},
		"usable past Next of Base":         {base, 13, []int{3, 5, 7, 10, 12}, nil, []int{11}, 11, meta(10, 11, 13, append(slices.Clone(frees), free(10, 10, 12))...)},
		"usable one below it, and at it":   {base, 11, []int{9, 10}, nil, nil, 0, meta(10, 0, 11, append(slices.Clone(frees), free(10, 10))...)},
		"usable one below it alone":        {base, 10, []int{9}, nil, nil, 0, meta(10, 0, 10, frees...)},
		"both, in one another":             {base, 14, []int{5, 10, 13}, []int{9, 12, 2, 11}, nil, 0, meta(10, 0, 14, append(slices.Clone(frees), free(10, 2, 9, 10, 11, 12, 13))...)},
		"both, a page in both":             {base, 12, []int{10, 11}, []int{11, 6, 10}, nil, 4, meta(10, 4, 12, append(slices.Clone(frees), free(10, 6, 10, 11))...)},
		"usable ones that descend":         {base, 13, []int{12, 3, 10, 11, 10}, []int{2}, nil, 4, meta(10, 4, 13, append(slices.Clone(frees), free(10, 2, 10, 11, 12))...)},
		"Fresh and Gone":                   {base, 12, nil, []int{10, 2}, []int{10, 11}, 11, meta(10, 11, 12, append(slices.Clone(frees), free(10, 2, 10))...)},
		"a list of Base without pages":     {meta(9, 4, 10, free(3), free(4, 5)), 10, nil, nil, nil, 0, meta(10, 0, 10, free(4, 5))},
		"Base without Frees":               {meta(9, 4, 10), 10, nil, []int{4}, nil, 0, meta(10, 0, 10, free(10, 4))},
		"Base of Next 2":                   {meta(0, 0, 2), 5, []int{3}, nil, []int{2, 4}, 4, meta(1, 4, 5, free(1, 3))},
		"Base with all pages Fresh or not": {meta(8, 2, 40, free(1, span(3, 39)...)), 40, nil, []int{2}, span(3, 38), 38, meta(9, 38, 40, free(1, 39), free(9, 2))},
		"the Base's Frees twice one Tx":    {meta(9, 0, 10, free(3, 4), free(3, 5)), 10, nil, nil, []int{4}, 4, meta(10, 4, 10, free(3, 5))},
		"Tx 0 behind -1":                   {meta(-1, 0, 2), 3, nil, nil, []int{2}, 2, meta(0, 2, 3)},
		"the last Tx":                      {meta(maxTx-1, 0, 5), 5, nil, []int{3}, []int{2}, 2, meta(maxTx, 2, 5, free(maxTx, 3))},
		"20 Frees":                         {meta(50, 0, 40, freesOfOne(19, 50)...), 40, nil, []int{30}, nil, 0, meta(51, 0, 40, append(freesOfOne(19, 50), free(51, 30))...)},
		"20 Frees, nothing more":           {meta(50, 0, 40, freesOfOne(20, 50)...), 40, nil, nil, []int{39}, 39, meta(51, 39, 40, freesOfOne(20, 50)...)},
		"20 Frees, one used up":            {meta(50, 0, 40, freesOfOne(20, 50)...), 40, nil, []int{30}, []int{2}, 2, meta(51, 2, 40, append(freesOfOne(20, 50)[1:], free(51, 30))...)},
		"21 Frees, two used up":            {meta(50, 0, 40, freesOfOne(21, 50)...), 40, nil, []int{30}, []int{2, 3}, 2, meta(51, 2, 40, append(freesOfOne(21, 50)[2:], free(51, 30))...)},
		"the longest text":                 {meta(maxTx-1, 2, 40, freesOfOne(19, maxTx-1)...), 40, nil, span(21, 39), nil, 0, meta(maxTx, 0, 40, append(freesOfOne(19, maxTx-1), free(maxTx, span(21, 39)...))...)},
		"a Root that the disk has not":     {base, 40, nil, nil, nil, 39, meta(10, 39, 40, frees...)},
	} {
		x := txn(c.base, work(named(12), c.next, c.usable, c.gone, c.fresh), c.root)
		if got, ok := impl.NextMeta(x); !ok || !sameMeta(got, c.want) {
			t.Errorf("%s: NextMeta = %+v, %v, not %+v", name, got, ok, c.want)
		}
		checkTxn(t, name, x)
	}
}

// A meta that is not right, or too long, is none: nothing is committed, and a fall leaves of the Work's disk what it leaves, at each stage.
func TestNextMetaRefuses(t *testing.T) {
	base := meta(9, 4, 10, free(2, 3, 5), free(9, 8))
	for name, x := range map[string]impl.Txn{
		"Tx at its end":               txn(meta(maxTx, 2, 5), work(withLate(), 5, nil, nil, nil), 3),
		"Tx at MaxNumber":             txn(meta(impl.MaxNumber, 2, 5), work(withLate(), 5, nil, nil, nil), 3),
		"the greatest Tx":             txn(meta(math.MaxInt, 2, 5), work(withLate(), 5, nil, nil, nil), 3),
		"one less":                    txn(meta(math.MaxInt-1, 2, 5), work(withLate(), 5, nil, nil, nil), 3),
		"the least Tx":                txn(meta(math.MinInt, 2, 5), work(withLate(), 5, nil, nil, nil), 3),
		"Tx -2":                       txn(meta(-2, 2, 5), work(withLate(), 5, nil, nil, nil), 3),
		"Tx 0 with something Gone":    txn(meta(-1, 2, 5), work(withLate(), 5, nil, []int{2}, nil), 3),
		"Root 1":                      txn(base, work(withLate(), 10, nil, nil, nil), 1),
		"Root below 0":                txn(base, work(withLate(), 10, nil, nil, nil), -1),
		"the least Root":              txn(base, work(withLate(), 10, nil, nil, nil), math.MinInt),
		"Root at Next":                txn(base, work(withLate(), 10, nil, nil, nil), 10),
		"the greatest Root":           txn(base, work(withLate(), 10, nil, nil, nil), math.MaxInt),
		"Root is free":                txn(base, work(withLate(), 10, nil, nil, nil), 5),
		"Root is Gone":                txn(base, work(withLate(), 10, nil, []int{6}, nil), 6),
		"Root is usable past Next":    txn(base, work(withLate(), 12, []int{11}, nil, nil), 11),
		"Next past MaxPages":          txn(base, work(withLate(), impl.MaxPages+1, nil, nil, nil), 2),
		"Next 1":                      txn(meta(9, 4, 10), work(withLate(), 1, nil, nil, nil), 0),
		"the least Next":              txn(meta(9, 4, 10), work(withLate(), math.MinInt, nil, nil, nil), 0),
		"the greatest Next":           txn(meta(9, 4, 10), work(withLate(), math.MaxInt, nil, nil, nil), 0),
		"Next below Frees of Base":    txn(base, work(withLate(), 8, nil, nil, nil), 2),
		"Gone is free":                txn(base, work(withLate(), 10, nil, []int{3}, nil), 4),
		"Gone past Next":              txn(base, work(withLate(), 10, nil, []int{10}, nil), 4),
		"Gone is page 1":              txn(base, work(withLate(), 10, nil, []int{1}, nil), 4),
		"Gone below 0":                txn(base, work(withLate(), 10, nil, []int{math.MinInt}, nil), 4),
		"usable past Next of it":      txn(base, work(withLate(), 10, []int{10}, nil, nil), 2),
		"the greatest usable":         txn(base, work(withLate(), 10, []int{math.MaxInt}, nil, nil), 2),
		"usable and free, Next less":  txn(meta(9, 4, 3, free(2, 5)), work(withLate(), 10, []int{5}, nil, nil), 2),
		"20 Frees and one more":       txn(meta(50, 0, 40, freesOfOne(20, 50)...), work(withLate(), 40, nil, []int{30}, nil), 0),
		"20 Frees, one not all Fresh": txn(meta(50, 0, 40, append(freesOfOne(19, 49), free(50, 31, 32))...), work(withLate(), 40, nil, []int{30}, []int{31}), 31),
		"21 Frees":                    txn(meta(50, 0, 40, freesOfOne(21, 50)...), work(withLate(), 40, nil, nil, nil), 39),
		"a Base of a later Free":      txn(meta(9, 4, 10, free(11, 5)), work(withLate(), 10, nil, nil, nil), 2),
		"a Base whose Free is next":   txn(meta(9, 4, 10, free(10, 5)), work(withLate(), 10, nil, []int{4}, nil), 2),
		"a Base whose Frees descend":  txn(meta(9, 4, 10, free(5, 5), free(3, 6)), work(withLate(), 10, nil, nil, nil), 2),
		"a Base with a page twice":    txn(meta(9, 4, 10, free(3, 5), free(5, 5)), work(withLate(), 10, nil, nil, nil), 2),
		"a Base whose pages descend":  txn(meta(9, 4, 10, free(3, 6, 5)), work(withLate(), 10, nil, nil, nil), 2),
	} {
		if m, ok := impl.NextMeta(x); ok || !sameMeta(m, impl.Meta{}) {
			t.Errorf("%s: NextMeta = %+v, %v", name, m, ok)
		}
		if d, m, ok := impl.Commit(x); ok || !sameMeta(m, x.Base) || !sameDisk(d, x.Work.Disk) {
			t.Errorf("%s: Commit = %+v, %+v, %v", name, d, m, ok)
		}
		for _, stage := range cuts() {
			for mask := range 1 << 7 {
				left, torn := bits(mask, 7), mask%9-1
				if got := impl.CommitCut(x, stage, left, torn); !sameDisk(got, impl.FallDisk(x.Work.Disk, left, torn)) {
					t.Errorf("%s: CommitCut(%d, %v, %d) = %+v", name, stage, left, torn, got)
				}
			}
		}
		checkTxn(t, name, x)
	}
}

// The meta is written to the page of its Tx, and the other one is not touched, however long the text there is.
func TestCommitMetaPage(t *testing.T) {
	for tx := range 300 {
		d := named(7)
		d.Late = []impl.Put{{Page: 0, Text: "late 0"}, {Page: 1, Text: "late 1"}, {Page: 6, Text: "late 6"}}
		x := txn(meta(tx, 2, 5), work(d, 7, nil, []int{2}, []int{5, 6}), 6)
		want := impl.SyncDisk(d)
		want.Pages[(tx+1)%2] = metaText(t, meta(tx+1, 6, 7, free(tx+1, 2)))
		got, m, ok := impl.Commit(x)
		if !ok || m.Tx != tx+1 || !sameDisk(got, want) || impl.MetaPage(m.Tx) != (tx+1)%2 {
			t.Fatalf("Tx %d: %+v, %+v, %v", tx, got, m, ok)
		}
		torn := impl.CommitCut(x, 1, all(1), 0)
		want.Pages[(tx+1)%2] = want.Pages[(tx+1)%2][:len(want.Pages[(tx+1)%2])/2]
		if !sameDisk(torn, want) {
			t.Fatalf("Tx %d: torn it is %+v", tx, torn)
		}
	}
}

// Disks that are not right: a commit syncs first, so that one counts that is right then; else it is as it is.
func TestCommitToWrongDisks(t *testing.T) {
	refused := 0
	for name, d := range wrongDisks() {
		for _, tx := range []int{3, 4} {
			x := txn(meta(tx, 2, 5), work(d, 6, nil, []int{2}, []int{5}), 5)
			checkTxn(t, name, x)
			got, m, ok := impl.Commit(x)
			if ok != impl.DiskOk(impl.SyncDisk(d)) {
				t.Errorf("%s: Commit is %v", name, ok)
			}
			if ok {
				continue
			}
			refused++
			if !sameDisk(got, d) || !sameMeta(m, x.Base) {
				t.Errorf("%s: beside a false it is %+v, %+v", name, got, m)
			}
			// What is kept by the first SyncDisk is there; no meta is on its way.
			for _, left := range [][]bool{nil, all(1), all(9)} {
				if cut := impl.CommitCut(x, 1, left, 0); !sameDisk(cut, impl.SyncDisk(d)) {
					t.Errorf("%s: CommitCut(1) = %+v", name, cut)
				}
				if cut := impl.CommitCut(x, 0, left, 0); !sameDisk(cut, d) {
					t.Errorf("%s: CommitCut(0) = %+v", name, cut)
				}
			}
		}
	}
	if refused < 10 {
		t.Errorf("%d are refused alone", refused)
	}
	// As many Late as there may be are kept, and then there is room for the meta.
	full := lateUp(named(6), maxLate)
	x := txn(meta(3, 2, 5), work(full, 5, nil, []int{2}, nil), 0)
	checkTxn(t, "200 Late", x)
	if d, m, ok := impl.Commit(x); !ok || d.Pages[1] != "x" || d.Pages[0] != metaText(t, m) {
		t.Errorf("200 Late: %+v, %v", m, ok)
	}
	for pages := range 4 {
		x := txn(meta(pages, 2, 5), work(named(pages), 5, nil, []int{2}, nil), 0)
		checkTxn(t, "few pages", x)
		if d, m, ok := impl.Commit(x); ok || !sameDisk(d, named(pages)) || !sameMeta(m, x.Base) {
			t.Errorf("%d pages: %+v, %+v, %v", pages, d, m, ok)
		}
	}
}

// oddNumber is a drawn number: mostly one of a few pages, now and then any number there is.
func oddNumber(next func(n int) int) int {
	if next(25) == 0 {
		return []int{math.MinInt, math.MaxInt, -1, 0, 1, 39, 40, 41, maxTx, impl.MaxNumber}[next(10)]
	}
	return 2 + next(9)
}

func oddList(next func(n int) int, most int) []int {
	list := []int{}
	for range next(most + 1) {
		list = append(list, oddNumber(next))
	}
	if next(3) > 0 {
		slices.Sort(list)
		list = slices.Compact(list)
	}
	return list
}

// Changes whose Base, Work and Root do not belong together, drawn by a rule: each answer is what the document tells.
func TestAnyTxn(t *testing.T) {
	right := 0
	for seed := range 2500 {
		next := drawn(seed)
		base := meta(next(12), oddNumber(next), 2+next(10))
		if next(20) == 0 {
			base.Tx, base.Next = oddNumber(next), oddNumber(next)
		}
		for tx := range next(4) {
			base.Frees = append(base.Frees, free(tx+1+next(2), oddList(next, 3)...))
		}
		d := []impl.Disk{withLate(), named(12), newDisk(t, impl.MaxPages), lateUp(named(5), 9)}[next(4)]
		x := txn(base, work(d, 8+next(6), oddList(next, 4), oddList(next, 2), oddList(next, 5)), oddNumber(next))
		if next(3) == 0 {
			x.Root = 0
		}
		if next(4) == 0 {
			x.Root = base.Root
		}
		if _, ok := impl.NextMeta(x); ok {
			right++
		}
		checkTxn(t, "any change", x)
		for _, key := range []string{"", "k", strings.Repeat("k", 25)} {
			acted(t, "any change", x, nil, putAct(key, "v"))
			acted(t, "any change", x, nil, takeAct(key))
		}
	}
	if right < 200 {
		t.Errorf("%d have a meta alone", right)
	}
}

// TxnPut and TxnDrop are false where PutKey and DropKey are, and the change is as it is.
func TestTxnRefuses(t *testing.T) {
	s := grownState(t, impl.MaxPages, 9, 3)
	begun, small := impl.Begin(s.disk, s.meta, s.meta.Tx), grownState(t, 12, 9, 9)
	full := impl.Begin(small.disk, small.meta, -1)
	full.Work.Next = 12
	late := begun
	late.Work.Disk = lateUp(s.disk, maxLate)
	refuses := func(name string, x impl.Txn, got impl.Txn, ok bool) {
		t.Helper()
		if ok {
			t.Errorf("%s: it is not refused", name)
		}
		isTxn(t, name, got, x)
	}
	for name, c := range map[string]struct {
		x        impl.Txn
		key, val string
	}{
		"a key too long":     {begun, strings.Repeat("k", 25), "v"},
		"a val too long":     {begun, "k", strings.Repeat("v", 25)},
		"no page":            {full, "k101", "v"},
		"no page for a new":  {full, "z", "v"},
		"200 Late":           {late, "k101", "v"},
		"a Root that is one": {txn(s.meta, begun.Work, 1), "k101", "v"},
		"a Root below 0":     {txn(s.meta, begun.Work, -1), "k101", "v"},
		"a Root past all":    {txn(s.meta, begun.Work, math.MaxInt), "k101", "v"},
		"no disk":            {impl.Txn{}, "k101", "v"},
	} {
		got, ok := impl.TxnPut(c.x, c.key, c.val)
		refuses(name+", put", c.x, got, ok)
		got, ok = impl.TxnDrop(c.x, c.key)
		refuses(name+", taken", c.x, got, ok)
	}
	for _, key := range []string{"", "k", "k101!", "z", strings.Repeat("k", 25)} {
		got, ok := impl.TxnDrop(begun, key)
		refuses("not there", begun, got, ok)
	}
	for name, d := range wrongDisks() {
		x := txn(meta(3, 0, 5), work(d, 2, nil, nil, nil), 0)
		got, ok := impl.TxnPut(x, "k", "v")
		refuses(name, x, got, ok)
		got, ok = impl.TxnDrop(x, "k")
		refuses(name, x, got, ok)
	}
	// A change goes on behind a refusal.
	x, _ := impl.TxnPut(begun, strings.Repeat("k", 25), "v")
	x, ok := impl.TxnPut(x, "k", "v")
	if !ok {
		t.Fatal("k is not put")
	}
	committed(t, "behind a refusal", s, x, withKey(s.pairs, "k", "v"))
}

// The Root of the change is what is gone from, not that of Base.
func TestTxnGoesFromItsRoot(t *testing.T) {
	d := pagesWith(t, map[int]impl.Node{2: oneOf("a"), 3: oneOf("b")})
	x := txn(meta(5, 2, 4), work(d, 4, nil, nil, nil), 3)
	put, ok := impl.TxnPut(x, "c", "1")
	if !ok {
		t.Fatal("c is not put")
	}
	told(t, "put", put.Work.Disk, put.Root, []impl.Pair{pair("b", "b"), pair("c", "1")}, []int{4}, true)
	if got, ok := impl.TxnDrop(x, "a"); ok || !sameTxn(got, x) {
		t.Errorf("a is taken, which is not below the Root: %+v", got)
	}
	taken, ok := impl.TxnDrop(x, "b")
	if !ok || taken.Root != 0 || !slices.Equal(taken.Work.Gone, []int{3}) {
		t.Errorf("b is not taken: %+v, %v", taken, ok)
	}
}

// roomyTxn is the same change with spare room behind its lists, which is filled.
func roomyTxn(x impl.Txn) impl.Txn {
	return txn(roomyMeta(x.Base), roomyWork(x.Work), x.Root)
}

// wholeTxn is a copy of the change with all that is in the room behind its lists.
func wholeTxn(x impl.Txn) impl.Txn {
	return txn(wholeMeta(x.Base), wholeWork(x.Work), x.Root)
}

func scribbleTxn(x impl.Txn) {
	scribbleMeta(x.Base)
	scribbleWork(x.Work)
}

// txnAnswer is what a call answers, whatever it is: the fields that it has not are zero.
type txnAnswer struct {
	x    impl.Txn
	disk impl.Disk
	meta impl.Meta
}

func sameAnswer(a, b txnAnswer) bool {
	return sameTxn(a.x, b.x) && sameDisk(a.disk, b.disk) && sameMeta(a.meta, b.meta)
}

func ownAnswer(a txnAnswer) txnAnswer {
	return txnAnswer{x: ownTxn(a.x), disk: ownDisk(a.disk), meta: ownMeta(a.meta)}
}

func scribbleAnswer(a txnAnswer) {
	scribbleTxn(a.x)
	scribble(a.disk)
	scribbleMeta(a.meta)
}

// textsOf are all texts that an answer has.
func textsOf(disks ...impl.Disk) []string {
	list := []string{}
	for _, d := range disks {
		list = append(list, d.Pages...)
		for _, put := range d.Late {
			list = append(list, put.Text)
		}
	}
	return list
}

// txnCalls are calls of all functions that take a change.
func txnCalls() map[string]func(x impl.Txn) txnAnswer {
	cut := func(stage int, left []bool, torn int) func(x impl.Txn) txnAnswer {
		return func(x impl.Txn) txnAnswer { return txnAnswer{disk: impl.CommitCut(x, stage, left, torn)} }
	}
	return map[string]func(x impl.Txn) txnAnswer{
		"Begin":             func(x impl.Txn) txnAnswer { return txnAnswer{x: impl.Begin(x.Work.Disk, x.Base, x.Base.Tx)} },
		"TxnPut":            func(x impl.Txn) txnAnswer { out, _ := impl.TxnPut(x, "k102", "v"); return txnAnswer{x: out} },
		"TxnPut, a new one": func(x impl.Txn) txnAnswer { out, _ := impl.TxnPut(x, "k102!", "v"); return txnAnswer{x: out} },
		"TxnPut, too long": func(x impl.Txn) txnAnswer {
			out, _ := impl.TxnPut(x, strings.Repeat("k", 25), "v")
			return txnAnswer{x: out}
		},
		"TxnDrop":           func(x impl.Txn) txnAnswer { out, _ := impl.TxnDrop(x, "k102"); return txnAnswer{x: out} },
		"TxnDrop, no key":   func(x impl.Txn) txnAnswer { out, _ := impl.TxnDrop(x, "none"); return txnAnswer{x: out} },
		"NextMeta":          func(x impl.Txn) txnAnswer { m, _ := impl.NextMeta(x); return txnAnswer{meta: m} },
		"Commit":            func(x impl.Txn) txnAnswer { d, m, _ := impl.Commit(x); return txnAnswer{disk: d, meta: m} },
		"CommitCut, first":  cut(0, []bool{true, false, true}, 2),
		"CommitCut, second": cut(1, []bool{true}, -1),
		"CommitCut, torn":   cut(1, []bool{true}, 0),
		"CommitCut, lost":   cut(1, nil, 0),
	}
}

// anyTxns are changes of many kinds: begun, with something done, such as are refused, and such as are not right.
func anyTxns(t *testing.T) map[string]impl.Txn {
	t.Helper()
	list := map[string]impl.Txn{
		"nothing":         {},
		"no disk":         txn(meta(3, 2, 5, free(1, 3), free(3, 4)), work(impl.Disk{}, 6, []int{5}, []int{2}, []int{3}), 0),
		"refused":         txn(meta(9, 4, 10, free(2, 3, 5), free(9, 8)), work(withLate(), 10, []int{3}, []int{3, 2}, []int{5}), 4),
		"Tx at its end":   txn(meta(maxTx, 4, 10, free(2, 3, 5), free(9, 8)), work(withLate(), 10, []int{3}, []int{2}, []int{5}), 4),
		"all in one":      txn(meta(9, 4, 10, free(2, 3, 5), free(9, 8)), work(withLate(), 12, []int{3, 10}, []int{11, 2}, []int{5}), 5),
		"lists of length": txn(meta(9, 4, 10, free(2, 3, 5, 6), free(9, 7, 8)), work(withLate(), 30, span(10, 20), span(21, 29), span(5, 7)), 4),
	}
	for name, d := range wrongDisks() {
		list[name] = txn(meta(3, 2, 5, free(1, 3)), work(d, 6, []int{5}, []int{2}, []int{4}), 4)
	}
	for name, s := range someStates(t) {
		list[name+", begun"] = impl.Begin(s.disk, s.meta, s.meta.Tx)
		x, _ := actedAll(t, name, s, s.meta.Tx, []act{putAct("k103!", "1"), putAct("k102", "2"), putAct("z", "3"), takeAct("z")})
		list[name+", done"] = x
	}
	return list
}

func TestTxnArgumentsStay(t *testing.T) {
	for name, plain := range anyTxns(t) {
		for call, do := range txnCalls() {
			x := roomyTxn(plain)
			want := wholeTxn(x)
			do(x)
			if !sameTxn(wholeTxn(x), want) || !sameTxn(x, plain) {
				t.Errorf("%s of %s writes into its argument", call, name)
			}
		}
	}
	left := bits(5, 9)
	for name, x := range anyTxns(t) {
		for _, stage := range []int{0, 1} {
			impl.CommitCut(x, stage, left[:7], 2)
			if !slices.Equal(left, bits(5, 9)) {
				t.Fatalf("CommitCut of %s writes into left", name)
			}
		}
	}
}

func TestTxnsAreNewMemory(t *testing.T) {
	for name, plain := range anyTxns(t) {
		for call, do := range txnCalls() {
			x := roomyTxn(plain)
			got, other := do(x), do(x)
			want := ownAnswer(got)
			scribbleTxn(x)
			if !sameAnswer(got, want) {
				t.Errorf("%s of %s: an argument that is changed changes the answer", call, name)
			}
			scribbleAnswer(got)
			if !sameAnswer(other, want) {
				t.Errorf("%s of %s: two answers share memory", call, name)
			}
			x = roomyTxn(plain)
			whole := wholeTxn(x)
			scribbleAnswer(do(x))
			if !sameTxn(wholeTxn(x), whole) {
				t.Errorf("%s of %s: an answer that is changed changes the argument", call, name)
			}
		}
		// What is committed later changes nothing of an earlier answer.
		first, _ := impl.TxnPut(plain, "k101", "first")
		want := ownTxn(first)
		for _, do := range txnCalls() {
			scribbleAnswer(do(first))
		}
		if !sameTxn(first, want) {
			t.Errorf("%s: a later answer that is changed changes an earlier one", name)
		}
	}
}

// The lists of one answer are apart, in their spare room, too.
func TestListsOfATxnAreApart(t *testing.T) {
	for name, plain := range anyTxns(t) {
		for call, do := range txnCalls() {
			got := do(roomyTxn(plain))
			want := ownAnswer(got)
			lists := [][]int{got.x.Work.Usable, got.x.Work.Gone, got.x.Work.Fresh}
			for _, f := range append(slices.Clone(got.x.Base.Frees), got.meta.Frees...) {
				lists = append(lists, f.Pages)
			}
			for _, list := range lists {
				fillSpare(list)
				if !sameAnswer(got, want) {
					t.Errorf("%s of %s: two lists share memory", call, name)
				}
			}
		}
	}
}

func TestTxnTextsAreNewMemory(t *testing.T) {
	for name, plain := range anyTxns(t) {
		for call, do := range txnCalls() {
			x := ownTxn(plain)
			got := do(x)
			for _, text := range textsOf(got.x.Work.Disk, got.disk) {
				for _, held := range textsOf(x.Work.Disk) {
					if sharesMemory(text, held) {
						t.Fatalf("%s of %s hands out a text of its argument: %q", call, name, text)
					}
				}
			}
		}
	}
}

// An empty list and nil are the same value.
func TestTxnEmptyAndNil(t *testing.T) {
	for _, pages := range [][]string{nil, named(4).Pages} {
		for _, root := range []int{0, 2, 3} {
			for _, frees := range [][]impl.Free{nil, {{Tx: 2}}} {
				none := txn(meta(3, 2, 4, frees...), work(impl.Disk{Pages: pages}, 4, nil, nil, nil), root)
				empty := txn(meta(3, 2, 4, []impl.Free{}...), work(impl.Disk{Pages: append([]string{}, pages...), Late: []impl.Put{}}, 4, []int{}, []int{}, []int{}), root)
				for range frees {
					empty.Base.Frees = []impl.Free{{Tx: 2, Pages: []int{}}}
				}
				for call, do := range txnCalls() {
					if !sameAnswer(do(none), do(empty)) {
						t.Errorf("%s of %d pages, Root %d: an empty list is not nil", call, len(pages), root)
					}
				}
				if !sameDisk(impl.CommitCut(none, 1, nil, 0), impl.CommitCut(none, 1, []bool{}, 0)) {
					t.Errorf("CommitCut of %d pages, Root %d: an empty left is not nil", len(pages), root)
				}
			}
		}
	}
}
