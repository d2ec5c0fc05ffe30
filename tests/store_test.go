package tests

import (
	"maps"
	"math"
	"slices"
	"strconv"
	"strings"
	"sync"
	"testing"
	"unsafe"

	"loop.example/g00240/impl"
)

func reader(id int, m impl.Meta) impl.Reader {
	return impl.Reader{Id: id, Meta: m}
}

func sameReader(a, b impl.Reader) bool {
	return a.Id == b.Id && sameMeta(a.Meta, b.Meta)
}

func sameStore(a, b impl.Store) bool {
	return sameDisk(a.Disk, b.Disk) && sameMeta(a.Meta, b.Meta) && slices.EqualFunc(a.Readers, b.Readers, sameReader) &&
		sameTxn(a.Txn, b.Txn) && a.Writing == b.Writing && a.Failed == b.Failed
}

// ownStore is the same store in memory of its own, down to the bytes.
func ownStore(s impl.Store) impl.Store {
	out := impl.Store{Disk: ownDisk(s.Disk), Meta: ownMeta(s.Meta), Txn: ownTxn(s.Txn), Writing: s.Writing, Failed: s.Failed}
	for _, r := range s.Readers {
		out.Readers = append(out.Readers, reader(r.Id, ownMeta(r.Meta)))
	}
	return out
}

// isStore holds a store against what is told of it.
func isStore(t *testing.T, name string, got, want impl.Store) {
	t.Helper()
	if !sameDisk(got.Disk, want.Disk) {
		t.Errorf("%s: the disk is %+v, not %+v", name, got.Disk, want.Disk)
	}
	if !sameMeta(got.Meta, want.Meta) || got.Writing != want.Writing || got.Failed != want.Failed {
		t.Errorf("%s: %+v, Writing %v, Failed %v, not %+v, %v, %v", name, got.Meta, got.Writing, got.Failed, want.Meta, want.Writing, want.Failed)
	}
	if !slices.EqualFunc(got.Readers, want.Readers, sameReader) {
		t.Errorf("%s: the readers are %+v, not %+v", name, got.Readers, want.Readers)
	}
	isTxn(t, name, got.Txn, want.Txn)
}

// opened is the store of a disk.
func opened(t *testing.T, d impl.Disk) impl.Store {
	t.Helper()
	s, ok := impl.Open(d)
	if !ok {
		t.Fatal("the disk is not opened")
	}
	return s
}

// newStore is a store of so many pages without anything.
func newStore(t *testing.T, pages int) impl.Store {
	t.Helper()
	d, ok := impl.Format(pages)
	if !ok {
		t.Fatalf("Format(%d) is refused", pages)
	}
	return opened(t, d)
}

// step takes what a call answered, which must be this code.
func step(t *testing.T, code int) func(s impl.Store, got int) impl.Store {
	t.Helper()
	return func(s impl.Store, got int) impl.Store {
		t.Helper()
		if got != code {
			t.Fatalf("the code is %d, not %d", got, code)
		}
		return s
	}
}

// wrote is the store behind one change that puts these pairs.
func wrote(t *testing.T, s impl.Store, pairs ...impl.Pair) impl.Store {
	t.Helper()
	s = step(t, 0)(impl.StartWrite(s))
	for _, p := range pairs {
		s = step(t, 0)(impl.WritePut(s, p.Key, p.Val))
	}
	return step(t, 0)(impl.EndWrite(s))
}

// has tells whether a reader with this Id is there.
func has(s impl.Store, id int) bool {
	return slices.ContainsFunc(s.Readers, func(r impl.Reader) bool { return r.Id == id })
}

func plainOldest(s impl.Store) int {
	list := []int{s.Meta.Tx}
	for _, r := range s.Readers {
		list = append(list, r.Meta.Tx)
	}
	return slices.Min(list)
}

// plainStartRead and those below are what the document tells of each call, in its order of the codes.
func plainStartRead(s impl.Store, id int) (impl.Store, int) {
	switch {
	case id < 1 || id > 9:
		return s, 4
	case has(s, id):
		return s, 1
	case len(s.Readers) >= 3:
		return s, 3
	}
	ahead := 0
	for ahead < len(s.Readers) && s.Readers[ahead].Id < id {
		ahead++
	}
	out := ownStore(s)
	out.Readers = slices.Concat(s.Readers[:ahead], []impl.Reader{reader(id, s.Meta)}, s.Readers[ahead:])
	return out, 0
}

func plainEndRead(s impl.Store, id int) (impl.Store, int) {
	if !has(s, id) {
		return s, 2
	}
	out := ownStore(s)
	out.Readers = nil
	for _, r := range s.Readers {
		if r.Id != id {
			out.Readers = append(out.Readers, r)
		}
	}
	return out, 0
}

func plainReaderGet(s impl.Store, id int, key string) (string, int) {
	for _, r := range s.Readers {
		if r.Id != id {
			continue
		}
		if val, ok := impl.GetKey(s.Disk, r.Meta.Root, key); ok {
			return val, 0
		}
		return "", 2
	}
	return "", 2
}

func plainStartWrite(s impl.Store) (impl.Store, int) {
	if s.Writing {
		return s, 1
	}
	out := ownStore(s)
	out.Txn = impl.Begin(s.Disk, s.Meta, plainOldest(s))
	out.Writing, out.Failed = true, false
	return out, 0
}

// plainStep is a store whose change went on, or could not.
func plainStep(s impl.Store, x impl.Txn, ok bool) (impl.Store, int) {
	out := ownStore(s)
	if !ok {
		out.Failed = true
		return out, 3
	}
	out.Txn = x
	return out, 0
}

func plainWritePut(s impl.Store, key, val string) (impl.Store, int) {
	if !s.Writing {
		return s, 2
	}
	if len(key) > 24 || len(val) > 24 {
		return s, 4
	}
	x, ok := impl.TxnPut(s.Txn, key, val)
	return plainStep(s, x, ok)
}

func plainWriteDrop(s impl.Store, key string) (impl.Store, int) {
	if !s.Writing {
		return s, 2
	}
	if _, there := impl.GetKey(s.Txn.Work.Disk, s.Txn.Root, key); !there {
		return s, 2
	}
	x, ok := impl.TxnDrop(s.Txn, key)
	return plainStep(s, x, ok)
}

// atRest is the store without any change, with this disk and meta.
func atRest(s impl.Store, d impl.Disk, m impl.Meta) impl.Store {
	return impl.Store{Disk: d, Meta: m, Readers: s.Readers}
}

func plainStopWrite(s impl.Store) (impl.Store, int) {
	if !s.Writing {
		return s, 2
	}
	return atRest(s, impl.SyncDisk(s.Txn.Work.Disk), s.Meta), 0
}

func plainEndWrite(s impl.Store) (impl.Store, int) {
	if !s.Writing {
		return s, 2
	}
	d, m, ok := impl.Commit(s.Txn)
	if s.Failed || !ok {
		stopped, _ := plainStopWrite(s)
		return stopped, 3
	}
	return atRest(s, d, m), 0
}

// said is what a call answers: the store (of ReaderGet none), what was read, and the code.
type said struct {
	store impl.Store
	val   string
	code  int
}

func sameSaid(a, b said) bool {
	return sameStore(a.store, b.store) && a.val == b.val && a.code == b.code
}

// storeCall is a call, and what the document tells of it.
type storeCall struct {
	do, plain func(s impl.Store) said
}

// storeIds are the Ids that are asked for: all right ones, and some that are not.
func storeIds() []int {
	return append(span(-1, 11), math.MinInt, math.MaxInt)
}

// long is a text of so many bytes.
func long(n int) string {
	return strings.Repeat("x", n)
}

// storeCalls are calls of all functions that take a store, at all their edges.
func storeCalls() map[string]storeCall {
	calls := map[string]storeCall{}
	add := func(name string, do, plain func(s impl.Store) (impl.Store, int)) {
		of := func(call func(s impl.Store) (impl.Store, int)) func(s impl.Store) said {
			return func(s impl.Store) said { out, code := call(s); return said{store: out, code: code} }
		}
		calls[name] = storeCall{do: of(do), plain: of(plain)}
	}
	add("StartWrite", impl.StartWrite, plainStartWrite)
	add("EndWrite", impl.EndWrite, plainEndWrite)
	add("StopWrite", impl.StopWrite, plainStopWrite)
	for _, id := range storeIds() {
		of := " of " + strconv.Itoa(id)
		add("StartRead"+of, func(s impl.Store) (impl.Store, int) { return impl.StartRead(s, id) }, func(s impl.Store) (impl.Store, int) { return plainStartRead(s, id) })
		add("EndRead"+of, func(s impl.Store) (impl.Store, int) { return impl.EndRead(s, id) }, func(s impl.Store) (impl.Store, int) { return plainEndRead(s, id) })
		for _, key := range []string{"", "k101", "none", long(25)} {
			calls["ReaderGet"+of+", "+key] = storeCall{
				do:    func(s impl.Store) said { val, code := impl.ReaderGet(s, id, key); return said{val: val, code: code} },
				plain: func(s impl.Store) said { val, code := plainReaderGet(s, id, key); return said{val: val, code: code} },
			}
		}
	}
	for _, p := range []impl.Pair{pair("", ""), pair("k101", "new"), pair("k101!", "v"), pair("z", ""), pair(long(24), long(24)), pair(long(25), "v"), pair("k101", long(25)), pair(long(25), long(25)), pair(long(500), long(500))} {
		of := " of " + p.Key + " " + p.Val
		add("WritePut"+of, func(s impl.Store) (impl.Store, int) { return impl.WritePut(s, p.Key, p.Val) }, func(s impl.Store) (impl.Store, int) { return plainWritePut(s, p.Key, p.Val) })
	}
	for _, key := range []string{"", "k100", "k101", "k105", "none", long(24), long(25)} {
		add("WriteDrop of "+key, func(s impl.Store) (impl.Store, int) { return impl.WriteDrop(s, key) }, func(s impl.Store) (impl.Store, int) { return plainWriteDrop(s, key) })
	}
	return calls
}

// checkStore holds all calls of a store against the document's words, and answers how often each code was met.
func checkStore(t *testing.T, name string, s impl.Store) map[int]int {
	t.Helper()
	codes := map[int]int{}
	if got, want := impl.OldestOf(s), plainOldest(s); got != want {
		t.Fatalf("%s: OldestOf = %d, not %d", name, got, want)
	}
	for call, c := range storeCalls() {
		got, want := c.do(s), c.plain(s)
		codes[got.code]++
		if !sameSaid(got, want) {
			t.Errorf("%s, %s: %q, code %d, not %q, %d", name, call, got.val, got.code, want.val, want.code)
			isStore(t, name+", "+call, got.store, want.store)
			t.FailNow()
		}
	}
	return codes
}

// someStores are stores as calls make them: without anything, grown, read, written, failed, full, and at rest behind all that.
func someStores(t *testing.T) map[string]impl.Store {
	t.Helper()
	empty := newStore(t, 24)
	grown := wrote(t, wrote(t, empty, pairsOf(4)...), pairsOf(7)[4:]...)
	deep := wrote(t, newStore(t, impl.MaxPages), pairsOf(24)...)
	read := step(t, 0)(impl.StartRead(grown, 5))
	elder := wrote(t, read, pair("k101", "later"))
	two := wrote(t, step(t, 0)(impl.StartRead(elder, 2)), pair("k102", "later still"))
	three := step(t, 0)(impl.StartRead(two, 9))
	writing := step(t, 0)(impl.StartWrite(two))
	put := step(t, 0)(impl.WritePut(writing, "k103!", "put"))
	taken := step(t, 0)(impl.WriteDrop(put, "k103!"))
	failed := step(t, 0)(impl.StartWrite(grown))
	for code, at := 0, 0; code == 0; at++ {
		failed, code = impl.WritePut(failed, "p"+strconv.Itoa(100+at), "v")
	}
	small := wrote(t, newStore(t, 4), pairsOf(3)...)
	return map[string]impl.Store{
		"nothing":           empty,
		"nothing, writing":  step(t, 0)(impl.StartWrite(empty)),
		"grown":             grown,
		"three levels":      deep,
		"one reads":         read,
		"an elder reader":   elder,
		"two readers":       two,
		"three readers":     three,
		"begun":             writing,
		"put":               put,
		"put and taken":     taken,
		"failed":            failed,
		"behind a failure":  step(t, 3)(impl.EndWrite(failed)),
		"stopped":           step(t, 0)(impl.StopWrite(put)),
		"ended":             step(t, 0)(impl.EndWrite(put)),
		"nobody reads":      step(t, 0)(impl.EndRead(step(t, 0)(impl.EndRead(two, 2)), 5)),
		"small":             small,
		"small, writing":    step(t, 0)(impl.StartWrite(small)),
		"the last Tx":       lastTx(t, deep),
		"the last, writing": step(t, 0)(impl.StartWrite(lastTx(t, deep))),
	}
}

// lastTx is the store with the greatest Tx that a meta may have.
func lastTx(t *testing.T, s impl.Store) impl.Store {
	t.Helper()
	out := ownStore(s)
	out.Meta.Tx = maxTx
	out.Disk.Pages[0], out.Disk.Pages[1] = metaText(t, out.Meta), ""
	return opened(t, out.Disk)
}

// wrongStores are stores whose parts do not belong together.
func wrongStores(t *testing.T) map[string]impl.Store {
	t.Helper()
	base := someStores(t)
	list := map[string]impl.Store{"nothing at all": {}}
	add := func(name, from string, change func(s *impl.Store)) {
		s := ownStore(base[from])
		change(&s)
		list[name] = s
	}
	readers := func(ids ...int) func(s *impl.Store) {
		return func(s *impl.Store) {
			s.Readers = nil
			for at, id := range ids {
				s.Readers = append(s.Readers, reader(id, meta(at, s.Meta.Root*(at%2), 2+at)))
			}
		}
	}
	for name, ids := range map[string][]int{
		"readers that descend": {9, 5}, "three that descend": {7, 5, 2}, "neither order": {5, 9, 2}, "one Id twice": {5, 5}, "twice, apart": {5, 2, 5}, "three times": {2, 2, 2},
		"four readers": {1, 2, 3, 4}, "nine readers": span(1, 9), "four of one Id": {4, 4, 4, 4}, "many": slices.Repeat([]int{1, 9, 3}, 20),
		"Ids that are wrong": {-1, 0, 10}, "the edges": {0, 10}, "the greatest and least": {math.MaxInt, math.MinInt}, "just 0": {0}, "just 11": {11},
	} {
		add(name, "grown", readers(ids...))
		add(name+", writing", "put", readers(ids...))
	}
	add("a change that nobody writes", "put", func(s *impl.Store) { s.Writing = false })
	add("a failed one that nobody writes", "failed", func(s *impl.Store) { s.Writing = false })
	add("failed without a change", "grown", func(s *impl.Store) { s.Failed = true })
	add("writing without a change", "grown", func(s *impl.Store) { s.Writing = true })
	add("writing and failed without one", "grown", func(s *impl.Store) { s.Writing, s.Failed = true, true })
	add("a change of another store", "grown", func(s *impl.Store) { s.Txn, s.Writing = base["small, writing"].Txn, true })
	add("a disk of another store", "put", func(s *impl.Store) { s.Disk = base["small"].Disk })
	add("a meta of another store", "put", func(s *impl.Store) { s.Meta = base["small"].Meta })
	add("a Root past all pages", "put", func(s *impl.Store) { s.Meta.Root, s.Txn.Root = math.MaxInt, math.MaxInt })
	add("a Root below 0", "put", func(s *impl.Store) { s.Meta.Root, s.Txn.Root, s.Readers[0].Meta.Root = -1, math.MinInt, -1 })
	add("a Root that is no node", "put", func(s *impl.Store) { s.Meta.Root, s.Txn.Root, s.Readers[0].Meta.Root = 1, 1, 1 })
	add("readers of later trees", "three readers", func(s *impl.Store) {
		for at := range s.Readers {
			s.Readers[at].Meta.Tx = s.Meta.Tx + 1 + at
		}
	})
	add("readers below 0", "put", func(s *impl.Store) { s.Readers[0].Meta.Tx, s.Readers[1].Meta.Tx = -1, math.MinInt })
	add("the greatest numbers", "put", func(s *impl.Store) {
		s.Meta.Tx, s.Meta.Next, s.Txn.Base.Tx, s.Txn.Work.Next = math.MaxInt, math.MaxInt, math.MaxInt, math.MaxInt
	})
	add("the least numbers", "put", func(s *impl.Store) {
		s.Meta.Tx, s.Meta.Next, s.Txn.Base.Tx, s.Txn.Work.Next = math.MinInt, math.MinInt, math.MinInt, math.MinInt
	})
	add("no pages", "put", func(s *impl.Store) { s.Disk, s.Txn.Work.Disk = impl.Disk{}, impl.Disk{} })
	add("200 Late", "put", func(s *impl.Store) { s.Disk, s.Txn.Work.Disk = lateUp(s.Disk, 200), lateUp(s.Disk, 200) })
	for name, m := range wrongMetas() {
		add("a meta with "+name, "put", func(s *impl.Store) { s.Meta, s.Txn.Base, s.Readers[1].Meta = m, m, m })
		add("at rest, a meta with "+name, "two readers", func(s *impl.Store) { s.Meta, s.Readers[0].Meta = m, m })
	}
	for name, d := range wrongDisks() {
		add("disk: "+name, "put", func(s *impl.Store) { s.Disk, s.Txn.Work.Disk = d, d })
		add("at rest, disk: "+name, "grown", func(s *impl.Store) { s.Disk = d })
	}
	for name, w := range anyWorks() {
		add("work: "+name, "put", func(s *impl.Store) { s.Txn.Work = w })
	}
	return list
}

func TestStoreConstants(t *testing.T) {
	if impl.CodeBusy != 1 || impl.CodeNone != 2 || impl.CodeFull != 3 || impl.CodeWrong != 4 || impl.MaxReaders != 3 {
		t.Error("a code or MaxReaders is another one")
	}
}

func TestFormat(t *testing.T) {
	for n := -3; n <= impl.MaxPages+3; n++ {
		d, ok := impl.Format(n)
		want := impl.Disk{}
		if right := n >= 4 && n <= 40; ok != right {
			t.Errorf("Format(%d) is %v", n, ok)
		} else if right {
			want = newDisk(t, n)
			want.Pages[0] = metaText(t, meta(0, 0, 2))
		}
		if !sameDisk(d, want) {
			t.Errorf("Format(%d) = %+v", n, d)
		}
	}
	for _, n := range []int{math.MinInt, -1 << 32, 1 << 32, math.MaxInt} {
		if d, ok := impl.Format(n); ok || !sameDisk(d, impl.Disk{}) {
			t.Errorf("Format(%d) = %+v, %v", n, d, ok)
		}
	}
}

// A disk made ready and opened has nothing; nobody reads or writes.
func TestOpenOfFormat(t *testing.T) {
	for n := 4; n <= impl.MaxPages; n++ {
		d, _ := impl.Format(n)
		s := opened(t, d)
		isStore(t, "a new store", s, impl.Store{Disk: d, Meta: meta(0, 0, 2)})
		counts(t, "a new store", state{disk: s.Disk, meta: s.Meta})
		s = step(t, 0)(impl.StartRead(s, 1))
		if val, code := impl.ReaderGet(s, 1, ""); val != "" || code != 2 {
			t.Errorf("of nothing ReaderGet = %q, %d", val, code)
		}
	}
}

// With one meta alone, with two, with neither, kept and Late.
func TestOpenMetas(t *testing.T) {
	low, high := meta(3, 2, 4, free(3, 3)), meta(4, 0, 7, free(4, 2, 6))
	a, b := metaText(t, low), metaText(t, high)
	for name, c := range map[string]struct {
		first, second string
		want          impl.Meta
		right         bool
	}{
		"page 0 alone":        {a, "", low, true},
		"page 1 alone":        {"", a, low, true},
		"the greater at 0":    {b, a, high, true},
		"the greater at 1":    {a, b, high, true},
		"one Tx":              {a, metaText(t, meta(3, 0, 2)), low, true},
		"the greater is torn": {b[:len(b)/2], a, low, true},
		"one byte turned":     {a, turned(b, 2, 1), low, true},
		"neither":             {"", "", impl.Meta{}, false},
		"both torn":           {b[:len(b)/2], a[:len(a)/2], impl.Meta{}, false},
		"nodes":               {nodeText(t, oneOf("a")), nodeText(t, oneOf("b")), impl.Meta{}, false},
	} {
		kept := named(7)
		kept.Pages[0], kept.Pages[1] = c.first, c.second
		late := named(7)
		late.Late = []impl.Put{{Page: 1, Text: c.second}, {Page: 5, Text: "late"}, {Page: 0, Text: c.first}}
		for _, d := range []impl.Disk{kept, late} {
			want := impl.Store{}
			if c.right {
				want = impl.Store{Disk: d, Meta: c.want}
			}
			s, ok := impl.Open(d)
			if ok != c.right {
				t.Errorf("%s: Open is %v", name, ok)
			}
			isStore(t, name, s, want)
		}
	}
}

// A disk that is not right is not opened, whatever its metas tell; one at the edges of what is right is.
func TestOpenDisks(t *testing.T) {
	m := meta(3, 2, 4, free(3, 3))
	for name, d := range wrongDisks() {
		for page := range 2 {
			d := ownDisk(d)
			if page < len(d.Pages) && len(d.Pages[page]) <= impl.PageSize {
				d.Pages[page] = metaText(t, m)
			}
			if impl.DiskOk(d) {
				t.Fatalf("%s is right", name)
			}
			if s, ok := impl.Open(d); ok || !sameStore(s, impl.Store{}) {
				t.Errorf("%s: Open = %+v, %v", name, s, ok)
			}
		}
	}
	for name, d := range rightDisks() {
		d = ownDisk(d)
		for at := range d.Late {
			d.Late[at].Page = max(d.Late[at].Page, 2)
		}
		d.Pages[1] = metaText(t, m)
		isStore(t, name, opened(t, d), impl.Store{Disk: d, Meta: m})
	}
}

func TestOldestOf(t *testing.T) {
	of := func(tx int, readers ...int) impl.Store {
		s := impl.Store{Meta: meta(tx, 0, 2)}
		for at, read := range readers {
			s.Readers = append(s.Readers, reader(at+1, meta(read, 0, 2)))
		}
		return s
	}
	for name, c := range map[string]struct {
		s    impl.Store
		want int
	}{
		"nothing":                  {impl.Store{}, 0},
		"no readers":               {of(7), 7},
		"one of the same tree":     {of(7, 7), 7},
		"one of an elder tree":     {of(7, 4), 4},
		"the first is eldest":      {of(7, 2, 4, 6), 2},
		"the second is eldest":     {of(7, 4, 2, 6), 2},
		"the last is eldest":       {of(7, 4, 6, 2), 2},
		"one above the Meta":       {of(7, 9), 7},
		"all above the Meta":       {of(7, 9, 8, math.MaxInt), 7},
		"above it and below":       {of(7, 9, 5, 8), 5},
		"of Tx 0":                  {of(7, 3, 0), 0},
		"below 0":                  {of(7, 3, -1), -1},
		"the least":                {of(math.MaxInt, 3, math.MinInt), math.MinInt},
		"the Meta is the least":    {of(math.MinInt, 3, 0), math.MinInt},
		"the greatest everywhere":  {of(math.MaxInt, math.MaxInt), math.MaxInt},
		"more than MaxReaders":     {of(9, 8, 7, 6, 5, 4, 3), 3},
		"a change of an elder one": {impl.Store{Meta: meta(7, 0, 2), Txn: txn(meta(1, 0, 2), impl.Work{}, 0), Writing: true}, 7},
	} {
		if got := impl.OldestOf(c.s); got != c.want {
			t.Errorf("%s: OldestOf = %d, not %d", name, got, c.want)
		}
	}
}

// idsOf are the Ids of the readers, in order.
func idsOf(s impl.Store) []int {
	list := []int{}
	for _, r := range s.Readers {
		list = append(list, r.Id)
	}
	return list
}

// Readers that begin in each order stand ascending, and end in each order.
func TestReadersInTheirPlaces(t *testing.T) {
	s := wrote(t, newStore(t, 12), pairsOf(3)...)
	for a := 1; a <= 9; a++ {
		for b := 1; b <= 9; b++ {
			for c := 1; c <= 9; c++ {
				ids := []int{a, b, c}
				sorted := slices.Compact(slices.Sorted(slices.Values(ids)))
				if len(sorted) < 3 {
					continue
				}
				now := s
				for _, id := range ids {
					now = step(t, 0)(impl.StartRead(now, id))
					if !slices.IsSorted(idsOf(now)) {
						t.Fatalf("%v: the readers are %v", ids, idsOf(now))
					}
				}
				want := s
				for _, id := range sorted {
					want.Readers = append(want.Readers, reader(id, s.Meta))
				}
				if !sameStore(now, want) {
					t.Fatalf("%v: the readers are %+v", ids, now.Readers)
				}
				for left := range ids {
					now = step(t, 0)(impl.EndRead(now, ids[left]))
					if !slices.Equal(idsOf(now), slices.DeleteFunc(slices.Clone(sorted), func(id int) bool { return slices.Contains(ids[:left+1], id) })) {
						t.Fatalf("%v: behind EndRead(%d) they are %v", ids, ids[left], idsOf(now))
					}
				}
				if !sameStore(now, s) {
					t.Fatalf("%v: with nobody left the store is another one", ids)
				}
			}
		}
	}
}

// refusedAs holds that a call is refused with this code, and that the store is as it is.
func refusedAs(t *testing.T, name string, s impl.Store, code int, got impl.Store, gotCode int) {
	t.Helper()
	if gotCode != code {
		t.Errorf("%s: the code is %d, not %d", name, gotCode, code)
	}
	isStore(t, name, got, s)
}

// The codes of StartRead, where several apply at once.
func TestStartReadCodes(t *testing.T) {
	stores := someStores(t)
	full := stores["three readers"]
	odd := ownStore(full)
	odd.Readers[0].Id, odd.Readers[2].Id = 0, 10
	few := ownStore(odd)
	few.Readers = few.Readers[:1]
	for _, id := range []int{math.MinInt, -1, 0, 10, 11, math.MaxInt} {
		for name, s := range map[string]impl.Store{"full": full, "a wrong Id that is there": odd, "just a wrong Id": few, "nobody": stores["grown"], "writing": stores["put"]} {
			got, code := impl.StartRead(s, id)
			refusedAs(t, name+", "+strconv.Itoa(id), s, 4, got, code)
		}
	}
	for _, r := range full.Readers {
		got, code := impl.StartRead(full, r.Id)
		refusedAs(t, "full, and there", full, 1, got, code)
	}
	two := stores["two readers"]
	for _, r := range two.Readers {
		got, code := impl.StartRead(two, r.Id)
		refusedAs(t, "there", two, 1, got, code)
	}
	for _, id := range []int{1, 3, 4, 6, 7, 8} {
		got, code := impl.StartRead(full, id)
		refusedAs(t, "full", full, 3, got, code)
		got, code = impl.StartRead(two, id)
		if want := slices.Sorted(slices.Values([]int{2, 5, id})); code != 0 || !slices.Equal(idsOf(got), want) {
			t.Errorf("StartRead(%d) of two = %v, %d", id, idsOf(got), code)
		}
	}
	// More than MaxReaders is full, too.
	more := ownStore(full)
	more.Readers = append(more.Readers, reader(9, more.Meta))
	more.Readers[3].Id = 10
	got, code := impl.StartRead(more, 1)
	refusedAs(t, "more than MaxReaders", more, 3, got, code)
	// The limit is by readers, whatever their Ids are.
	got, code = impl.StartRead(odd, 1)
	refusedAs(t, "three with wrong Ids", odd, 3, got, code)
	// Who ended may begin again, and sees what is committed then.
	again := step(t, 0)(impl.StartRead(step(t, 0)(impl.EndRead(two, 5)), 5))
	if !sameMeta(again.Readers[1].Meta, two.Meta) || sameMeta(two.Readers[1].Meta, two.Meta) {
		t.Errorf("who begins again sees %+v", again.Readers[1].Meta)
	}
}

func TestEndReadCodes(t *testing.T) {
	for name, s := range someStores(t) {
		for _, id := range storeIds() {
			got, code := impl.EndRead(s, id)
			if !has(s, id) {
				refusedAs(t, name, s, 2, got, code)
				continue
			}
			want := s
			want.Readers = slices.DeleteFunc(slices.Clone(s.Readers), func(r impl.Reader) bool { return r.Id == id })
			if code != 0 || len(want.Readers) != len(s.Readers)-1 {
				t.Errorf("%s: EndRead(%d) is %d", name, id, code)
			}
			isStore(t, name, got, want)
			got, code = impl.EndRead(got, id)
			refusedAs(t, name+", once more", want, 2, got, code)
		}
	}
}

// A reader ahead of, between and behind others sees their own tree alone; nobody else sees any.
func TestReaderGetCodes(t *testing.T) {
	s := newStore(t, 30)
	for at, id := range []int{5, 2, 8} {
		s = wrote(t, s, pair("k", strconv.Itoa(id)), pair("only"+strconv.Itoa(id), ""))
		s = step(t, 0)(impl.StartRead(s, id))
		if at == 0 {
			s = step(t, 0)(impl.EndWrite(step(t, 0)(impl.WriteDrop(step(t, 0)(impl.StartWrite(s)), "only5"))))
		}
	}
	s = wrote(t, s, pair("k", "nobody"), pair("last", "nobody"))
	gets := func(id int, key, val string, code int) {
		t.Helper()
		if got, gotCode := impl.ReaderGet(s, id, key); got != val || gotCode != code {
			t.Errorf("ReaderGet(%d, %q) = %q, %d, not %q, %d", id, key, got, gotCode, val, code)
		}
	}
	for _, id := range []int{5, 2, 8} {
		gets(id, "k", strconv.Itoa(id), 0)
		gets(id, "last", "", 2)
		gets(id, "", "", 2)
		gets(id, long(25), "", 2)
	}
	gets(5, "only5", "", 0)
	gets(2, "only5", "", 2)
	gets(5, "only2", "", 2)
	gets(2, "only2", "", 0)
	gets(8, "only2", "", 0)
	gets(8, "only8", "", 0)
	gets(2, "only8", "", 2)
	for _, id := range []int{math.MinInt, -5, 0, 1, 3, 4, 6, 7, 9, 10, math.MaxInt} {
		gets(id, "k", "", 2)
	}
	// A tree that is none: a page of it is spoilt.
	spoiled := ownStore(s)
	spoiled.Disk.Pages[s.Readers[1].Meta.Root] = "no node"
	if val, code := impl.ReaderGet(spoiled, 5, "k"); val != "" || code != 2 {
		t.Errorf("of a spoilt page: %q, %d", val, code)
	}
	if val, code := impl.ReaderGet(spoiled, 2, "k"); val != "2" || code != 0 {
		t.Errorf("beside a spoilt page: %q, %d", val, code)
	}
}

// The codes of all calls that write, when it is not Writing and when it is.
func TestWriteCodes(t *testing.T) {
	for name, s := range someStores(t) {
		if s.Writing {
			got, code := impl.StartWrite(s)
			refusedAs(t, name+", StartWrite", s, 1, got, code)
			continue
		}
		for _, key := range []string{"", "k101", "none", long(24), long(25)} {
			for _, val := range []string{"", "v", long(24), long(25)} {
				got, code := impl.WritePut(s, key, val)
				refusedAs(t, name+", WritePut", s, 2, got, code)
			}
			got, code := impl.WriteDrop(s, key)
			refusedAs(t, name+", WriteDrop", s, 2, got, code)
		}
		got, code := impl.EndWrite(s)
		refusedAs(t, name+", EndWrite", s, 2, got, code)
		got, code = impl.StopWrite(s)
		refusedAs(t, name+", StopWrite", s, 2, got, code)
		begun := step(t, 0)(impl.StartWrite(s))
		want := s
		want.Txn, want.Writing = impl.Begin(s.Disk, s.Meta, plainOldest(s)), true
		isStore(t, name+", StartWrite", begun, want)
		got, code = impl.StartWrite(begun)
		refusedAs(t, name+", StartWrite twice", begun, 1, got, code)
	}
	s := step(t, 0)(impl.StartWrite(wrote(t, newStore(t, 12), pair(long(24), "1"))))
	for _, p := range []impl.Pair{pair(long(25), ""), pair("", long(25)), pair(long(25), long(25)), pair(long(24), long(25)), pair(long(25), long(24))} {
		got, code := impl.WritePut(s, p.Key, p.Val)
		refusedAs(t, "too long", s, 4, got, code)
	}
	for _, key := range []string{"", "x", long(23), long(25), long(1000)} {
		got, code := impl.WriteDrop(s, key)
		refusedAs(t, "not there", s, 2, got, code)
	}
	put := step(t, 0)(impl.WritePut(s, long(24), long(24)))
	told(t, "24 bytes", put.Txn.Work.Disk, put.Txn.Root, []impl.Pair{pair(long(24), long(24))}, []int{3}, true)
	gone := step(t, 0)(impl.WriteDrop(put, long(24)))
	got, code := impl.WriteDrop(gone, long(24))
	refusedAs(t, "taken twice", gone, 2, got, code)
	if gone.Txn.Root != 0 || gone.Failed || put.Failed {
		t.Errorf("with nothing left: %+v", gone.Txn)
	}
}

// fill puts pairs till that is refused, and answers the store ahead of the last call, the one behind it, and the pairs.
func fill(t *testing.T, s impl.Store, pairs []impl.Pair) (impl.Store, impl.Store, []impl.Pair) {
	t.Helper()
	for at := range 1000 {
		key := "p" + strconv.Itoa(1000+at)
		next, code := impl.WritePut(s, key, "v")
		if code == 3 {
			return s, next, pairs
		}
		s, pairs = step(t, 0)(next, code), withKey(pairs, key, "v")
	}
	t.Fatal("it is never full")
	return s, s, nil
}

// A put that is full: Failed, and all else as it is; then EndWrite is CodeFull, as by StopWrite, whatever is written between.
func TestFailed(t *testing.T) {
	for pages := 4; pages <= 20; pages++ {
		rest := wrote(t, newStore(t, pages), pairsOf(2)...)
		rest = step(t, 0)(impl.StartRead(rest, 4))
		ahead, failed, _ := fill(t, step(t, 0)(impl.StartWrite(rest)), pairsOf(2))
		want := ownStore(ahead)
		want.Failed = true
		isStore(t, "failed", failed, want)
		if ahead.Failed {
			t.Errorf("%d pages: it is Failed ahead of that", pages)
		}
		got, code := impl.StartWrite(failed)
		refusedAs(t, "StartWrite of a failed one", failed, 1, got, code)
		got, code = impl.WritePut(failed, long(25), "v")
		refusedAs(t, "too long behind it", failed, 4, got, code)
		got, code = impl.WriteDrop(failed, "none")
		refusedAs(t, "none behind it", failed, 2, got, code)
		// What can be written behind it is, but it stays Failed.
		more := failed
		for range 3 {
			next, code := impl.WriteDrop(more, "k100")
			if code == 0 {
				if next, code = impl.WritePut(next, "k100", "again"); code == 0 {
					more = next
				}
			}
		}
		if !more.Failed {
			t.Errorf("%d pages: what is written behind a failure takes it back", pages)
		}
		for _, s := range []impl.Store{failed, more} {
			stopped := step(t, 0)(impl.StopWrite(s))
			ended := step(t, 3)(impl.EndWrite(s))
			isStore(t, "ended", ended, stopped)
			isStore(t, "stopped", stopped, atRest(rest, impl.SyncDisk(s.Txn.Work.Disk), rest.Meta))
			counts(t, "stopped", state{disk: stopped.Disk, meta: stopped.Meta, pairs: pairsOf(2)})
			again := step(t, 0)(impl.StartWrite(ended))
			if again.Failed || !sameTxn(again.Txn, impl.Begin(ended.Disk, ended.Meta, 1)) {
				t.Errorf("%d pages: behind a failure it begins as %+v", pages, again.Txn)
			}
			if val, code := impl.ReaderGet(again, 4, "k101"); val != "v1" || code != 0 {
				t.Errorf("%d pages: the reader gets %q, %d", pages, val, code)
			}
		}
	}
}

// A take that is full: Failed likewise.
func TestDropFails(t *testing.T) {
	met := 0
	for pages := 4; pages <= 20; pages++ {
		s, _, pairs := fill(t, step(t, 0)(impl.StartWrite(newStore(t, pages))), nil)
		s = step(t, 0)(impl.EndWrite(s))
		if pages > 6 {
			s = step(t, 0)(impl.StartRead(s, 1))
		}
		s = step(t, 0)(impl.StartWrite(s))
		for _, p := range pairs {
			next, code := impl.WriteDrop(s, p.Key)
			if code == 3 {
				met++
				want := ownStore(s)
				want.Failed = true
				isStore(t, "a take that is full", next, want)
				isStore(t, "and ended", step(t, 3)(impl.EndWrite(next)), step(t, 0)(impl.StopWrite(next)))
				counts(t, "and ended", state{disk: impl.SyncDisk(s.Txn.Work.Disk), meta: s.Meta, pairs: pairs})
				break
			}
			s = step(t, 0)(next, code)
		}
	}
	if met < 5 {
		t.Errorf("a take is full %d times alone", met)
	}
}

// As many Late as there may be: one more is full.
func TestLateIsFull(t *testing.T) {
	s := wrote(t, newStore(t, impl.MaxPages), pair("k", "kept"))
	w := step(t, 0)(impl.StartWrite(s))
	for at := range maxLate {
		w = step(t, 0)(impl.WritePut(w, "k", strconv.Itoa(at)))
	}
	put, taken := step(t, 3)(impl.WritePut(w, "k", "v")), step(t, 0)(impl.WriteDrop(w, "k"))
	if !put.Failed || taken.Failed || len(w.Txn.Work.Disk.Late) != maxLate {
		t.Errorf("Failed %v, %v, %d Late", put.Failed, taken.Failed, len(w.Txn.Work.Disk.Late))
	}
	for name, c := range map[string]struct {
		s    impl.Store
		code int
		want []impl.Pair
	}{"200": {w, 0, []impl.Pair{pair("k", "199")}}, "one more": {put, 3, []impl.Pair{pair("k", "kept")}}, "taken": {taken, 0, nil}} {
		ended := step(t, c.code)(impl.EndWrite(c.s))
		counts(t, name, state{disk: ended.Disk, meta: ended.Meta, pairs: c.want})
	}
}

// EndWrite where Commit is false, of stores that their calls made: more Frees than a meta has, kept for a reader; and the last Tx.
func TestEndWriteWhereCommitIsFalse(t *testing.T) {
	s := wrote(t, newStore(t, impl.MaxPages), pair("k", "first"))
	s = step(t, 0)(impl.StartRead(s, 3))
	for at := range maxFrees {
		s = wrote(t, s, pair("k", strconv.Itoa(at)))
	}
	if len(s.Meta.Frees) != maxFrees {
		t.Fatalf("%d Frees", len(s.Meta.Frees))
	}
	last := lastTx(t, s)
	for name, rest := range map[string]impl.Store{"one more of Frees": s, "the last Tx": last} {
		w := step(t, 0)(impl.WritePut(step(t, 0)(impl.StartWrite(rest)), "k", "lost"))
		if w.Failed {
			t.Errorf("%s: it is Failed", name)
		}
		ended := step(t, 3)(impl.EndWrite(w))
		isStore(t, name, ended, step(t, 0)(impl.StopWrite(w)))
		isStore(t, name, ended, atRest(rest, impl.SyncDisk(w.Txn.Work.Disk), rest.Meta))
		counts(t, name, state{disk: ended.Disk, meta: ended.Meta, pairs: []impl.Pair{pair("k", "19")}})
		if opened(t, ended.Disk).Meta.Tx != rest.Meta.Tx {
			t.Errorf("%s: opened again it is another one", name)
		}
		// A change of nothing is well, all the same.
		isStore(t, name+", nothing", step(t, 0)(impl.EndWrite(step(t, 0)(impl.StartWrite(rest)))), rest)
	}
	if val, code := impl.ReaderGet(s, 3, "k"); val != "first" || code != 0 {
		t.Errorf("the reader gets %q, %d", val, code)
	}
	// Without the reader all is given again.
	s = step(t, 0)(impl.EndRead(s, 3))
	for at := range 100 {
		s = wrote(t, s, pair("k", strconv.Itoa(at)))
	}
	counts(t, "without the reader", state{disk: s.Disk, meta: s.Meta, pairs: []impl.Pair{pair("k", "99")}})
	// By hand: a change whose meta is none, and a disk that can't be written.
	w := step(t, 0)(impl.WritePut(step(t, 0)(impl.StartWrite(s)), "k", "lost"))
	for name, change := range map[string]func(s *impl.Store){
		"a Root that is Gone": func(s *impl.Store) { s.Txn.Root = s.Txn.Work.Gone[0] },
		"Next past all":       func(s *impl.Store) { s.Txn.Work.Next = math.MaxInt },
		"three pages":         func(s *impl.Store) { s.Txn.Work.Disk.Pages = s.Txn.Work.Disk.Pages[:3] },
		"Base of the last Tx": func(s *impl.Store) { s.Txn.Base.Tx = maxTx },
		"Base's Frees twice":  func(s *impl.Store) { s.Txn.Base.Frees = []impl.Free{free(1, 5), free(1, 5)} },
	} {
		x := ownStore(w)
		change(&x)
		if _, _, ok := impl.Commit(x.Txn); ok {
			t.Errorf("%s: Commit is true", name)
		}
		isStore(t, name, step(t, 3)(impl.EndWrite(x)), atRest(x, impl.SyncDisk(x.Txn.Work.Disk), x.Meta))
	}
}

// The pages, metas and codes of one life, by hand: which page is given hangs on the eldest reader.
func TestPagesAndReaders(t *testing.T) {
	s := newStore(t, 10)
	writes := func(val string, page int, want impl.Meta) {
		t.Helper()
		w := step(t, 0)(impl.WritePut(step(t, 0)(impl.StartWrite(s)), "k", val))
		if !slices.Equal(w.Txn.Work.Fresh, []int{page}) || w.Txn.Root != page {
			t.Fatalf("%s: page %v is given, not %d", val, w.Txn.Work.Fresh, page)
		}
		s = step(t, 0)(impl.EndWrite(w))
		if !sameMeta(s.Meta, want) || s.Writing || s.Failed || !sameTxn(s.Txn, impl.Txn{}) {
			t.Fatalf("%s: %+v, not %+v", val, s.Meta, want)
		}
		counts(t, val, state{disk: s.Disk, meta: s.Meta, pairs: []impl.Pair{pair("k", val)}})
	}
	reads := func(oldest int, want map[int]string) {
		t.Helper()
		if got := impl.OldestOf(s); got != oldest {
			t.Fatalf("OldestOf = %d, not %d", got, oldest)
		}
		for id, val := range want {
			if got, code := impl.ReaderGet(s, id, "k"); got != val || code != 0 {
				t.Fatalf("reader %d sees %q, %d, not %q", id, got, code, val)
			}
		}
	}
	writes("a", 2, meta(1, 2, 3))
	s = step(t, 0)(impl.StartRead(s, 7))
	writes("b", 3, meta(2, 3, 4, free(2, 2)))
	writes("c", 4, meta(3, 4, 5, free(2, 2), free(3, 3)))
	reads(1, map[int]string{7: "a"})
	s = step(t, 0)(impl.StartRead(s, 4))
	writes("d", 5, meta(4, 5, 6, free(2, 2), free(3, 3), free(4, 4)))
	reads(1, map[int]string{7: "a", 4: "c"})
	s = step(t, 0)(impl.EndRead(s, 7))
	reads(3, map[int]string{4: "c"})
	writes("e", 2, meta(5, 2, 6, free(3, 3), free(4, 4), free(5, 5)))
	reads(3, map[int]string{4: "c"})
	s = step(t, 0)(impl.StartRead(s, 9))
	writes("f", 3, meta(6, 3, 6, free(4, 4), free(5, 5), free(6, 2)))
	writes("g", 6, meta(7, 6, 7, free(4, 4), free(5, 5), free(6, 2), free(7, 3)))
	reads(3, map[int]string{4: "c", 9: "e"})
	s = step(t, 0)(impl.EndRead(s, 4))
	reads(5, map[int]string{9: "e"})
	writes("h", 4, meta(8, 4, 7, free(5, 5), free(6, 2), free(7, 3), free(8, 6)))
	writes("i", 5, meta(9, 5, 7, free(6, 2), free(7, 3), free(8, 6), free(9, 4)))
	writes("j", 7, meta(10, 7, 8, free(6, 2), free(7, 3), free(8, 6), free(9, 4), free(10, 5)))
	reads(5, map[int]string{9: "e"})
	s = step(t, 0)(impl.EndRead(s, 9))
	reads(10, nil)
	writes("k", 2, meta(11, 2, 8, free(7, 3), free(8, 6), free(9, 4), free(10, 5), free(11, 7)))
	// Who begins while it is written sees what was committed, and their pages are not given either.
	w := step(t, 0)(impl.WritePut(step(t, 0)(impl.StartWrite(s)), "k", "l"))
	w = step(t, 0)(impl.StartRead(w, 1))
	w = step(t, 0)(impl.WritePut(w, "k", "m"))
	s = step(t, 0)(impl.EndWrite(w))
	reads(11, map[int]string{1: "k"})
	writes("n", 3, meta(13, 3, 8, free(8, 6), free(10, 5), free(11, 7), free(12, 2), free(13, 4)))
	reads(11, map[int]string{1: "k"})
}

// A small store that is full refuses, and what was committed stays; there is room again when something is taken or nobody reads.
func TestSmallStore(t *testing.T) {
	s := newStore(t, 4)
	s = wrote(t, s, pairsOf(3)...)
	kept := state{disk: s.Disk, meta: s.Meta, pairs: pairsOf(3)}
	counts(t, "three pairs", kept)
	// A change has one page beside that of the tree.
	s = wrote(t, s, pair("k103", "v3"))
	counts(t, "four pairs", state{disk: s.Disk, meta: s.Meta, pairs: pairsOf(4)})
	w := step(t, 3)(impl.WritePut(step(t, 0)(impl.StartWrite(s)), "k104", "v4"))
	s = step(t, 3)(impl.EndWrite(w))
	counts(t, "a fifth one", state{disk: s.Disk, meta: s.Meta, pairs: pairsOf(4)})
	// Who reads has a page of their own, then there is none left.
	s = wrote(t, step(t, 0)(impl.StartRead(s, 1)), pair("k100", "new"))
	w = step(t, 3)(impl.WritePut(step(t, 0)(impl.StartWrite(s)), "k100", "newer"))
	s = step(t, 0)(impl.StopWrite(w))
	counts(t, "with a reader", state{disk: s.Disk, meta: s.Meta, pairs: withKey(pairsOf(4), "k100", "new")})
	if val, code := impl.ReaderGet(s, 1, "k100"); val != "v0" || code != 0 {
		t.Errorf("the reader gets %q, %d", val, code)
	}
	w = step(t, 3)(impl.WriteDrop(step(t, 0)(impl.StartWrite(s)), "k100"))
	s = step(t, 3)(impl.EndWrite(w))
	s = wrote(t, step(t, 0)(impl.EndRead(s, 1)), pair("k100", "newer"))
	counts(t, "without a reader", state{disk: s.Disk, meta: s.Meta, pairs: withKey(pairsOf(4), "k100", "newer")})
	for _, p := range pairsOf(4) {
		s = step(t, 0)(impl.EndWrite(step(t, 0)(impl.WriteDrop(step(t, 0)(impl.StartWrite(s)), p.Key))))
	}
	counts(t, "all taken", state{disk: s.Disk, meta: s.Meta})
}

// life is a store, what was committed, what is being written, and what each reader sees.
type life struct {
	store impl.Store
	model []impl.Pair
	next  []impl.Pair
	seen  map[int][]impl.Pair
}

func newLife(t *testing.T, pages int) life {
	t.Helper()
	return life{store: newStore(t, pages), seen: map[int][]impl.Pair{}}
}

// do takes one step of a life, and answers its code: what the step should do is done to what is told of it, too.
func (l life) do(t *testing.T, e event) (life, int) {
	t.Helper()
	out, code := l, 0
	switch e.what {
	case "begin":
		out.store, code = impl.StartWrite(l.store)
		if code == 0 {
			out.next = l.model
		}
	case "put":
		out.store, code = impl.WritePut(l.store, e.key, e.val)
		if code == 0 {
			out.next = withKey(l.next, e.key, e.val)
		}
	case "drop":
		out.store, code = impl.WriteDrop(l.store, e.key)
		if code == 0 {
			out.next = withoutKey(l.next, e.key)
		}
	case "end":
		out.store, code = impl.EndWrite(l.store)
		if code == 0 {
			out.model = l.next
		}
	case "stop":
		out.store, code = impl.StopWrite(l.store)
	case "read":
		out.store, code = impl.StartRead(l.store, e.id)
		if code == 0 {
			out.seen = maps.Clone(l.seen)
			out.seen[e.id] = l.model
		}
	case "close":
		out.store, code = impl.EndRead(l.store, e.id)
		if code == 0 {
			out.seen = maps.Clone(l.seen)
			delete(out.seen, e.id)
		}
	default:
		t.Fatalf("no step: %+v", e)
	}
	return out, code
}

// event is one step of a life.
type event struct {
	what     string
	id       int
	key, val string
}

// holds is the promise: the store is right, nobody's page is lost or given, and whoever reads sees what was when they began.
func (l life) holds(t *testing.T, name string) {
	t.Helper()
	s := l.store
	counts(t, name, state{disk: s.Disk, meta: s.Meta, pairs: l.model})
	if !slices.Equal(idsOf(s), slices.Sorted(maps.Keys(l.seen))) {
		t.Fatalf("%s: the readers are %v", name, idsOf(s))
	}
	disks := []impl.Disk{s.Disk}
	if s.Writing {
		disks = append(disks, s.Txn.Work.Disk)
	} else if s.Failed || !sameTxn(s.Txn, impl.Txn{}) || len(s.Disk.Late) != 0 {
		t.Fatalf("%s: at rest it is %+v", name, s)
	}
	needed, _ := impl.PagesOf(s.Disk, s.Meta.Root)
	oldest := s.Meta.Tx
	for _, r := range s.Readers {
		oldest = min(oldest, r.Meta.Tx)
		for _, d := range disks {
			if got, ok := impl.AllPairs(d, r.Meta.Root); !ok || !slices.Equal(got, l.seen[r.Id]) {
				t.Fatalf("%s: reader %d sees %q, %v, not %q", name, r.Id, got, ok, l.seen[r.Id])
			}
		}
		pages, _ := impl.PagesOf(s.Disk, r.Meta.Root)
		needed = append(needed, pages...)
	}
	if impl.OldestOf(s) != oldest {
		t.Fatalf("%s: OldestOf = %d, not %d", name, impl.OldestOf(s), oldest)
	}
	if !s.Writing {
		return
	}
	l.holdsWriting(t, name, needed)
}

// holdsWriting is what holds of a change, while these pages are needed by others.
func (l life) holdsWriting(t *testing.T, name string, needed []int) {
	t.Helper()
	x := l.store.Txn
	if got, ok := impl.AllPairs(x.Work.Disk, x.Root); !ok || !slices.Equal(got, l.next) || !impl.TreeOk(x.Work.Disk, x.Root) {
		t.Fatalf("%s: what is written is %q, %v, not %q", name, got, ok, l.next)
	}
	given := slices.Concat(x.Work.Fresh, x.Work.Usable)
	for _, put := range x.Work.Disk.Late {
		given = append(given, put.Page)
	}
	for _, page := range given {
		if page < 2 || slices.Contains(needed, page) {
			t.Fatalf("%s: page %d is given, which is needed: %v", name, page, needed)
		}
	}
	// Whatever of it is kept: opened then, the store is what was committed last.
	for _, d := range []impl.Disk{x.Work.Disk, impl.SyncDisk(x.Work.Disk), impl.CommitCut(x, 0, bits(len(given)*7+5, len(given)), len(given)%5)} {
		s, ok := impl.Open(d)
		if !ok || !sameMeta(s.Meta, l.store.Meta) || s.Writing || s.Failed || len(s.Readers) != 0 {
			t.Fatalf("%s: opened again it is %+v, %v", name, s, ok)
		}
		if got, ok := impl.AllPairs(s.Disk, s.Meta.Root); !ok || !slices.Equal(got, l.model) {
			t.Fatalf("%s: opened again it has %q, %v, not %q", name, got, ok, l.model)
		}
	}
}

// gets holds what each reader gets of some keys.
func (l life) gets(t *testing.T, name string, keys []string) {
	t.Helper()
	for id := range 11 {
		for _, key := range keys {
			val, code := "", 2
			for _, p := range l.seen[id] {
				if p.Key == key {
					val, code = p.Val, 0
				}
			}
			if got, gotCode := impl.ReaderGet(l.store, id, key); got != val || gotCode != code {
				t.Fatalf("%s: ReaderGet(%d, %q) = %q, %d, not %q, %d", name, id, key, got, gotCode, val, code)
			}
		}
	}
}

// codeOf is the code of a step by what is told of the life, but for what is full.
func (l life) codeOf(e event) int {
	_, there := l.seen[e.id]
	switch {
	case e.what == "begin" && l.store.Writing:
		return 1
	case slices.Contains([]string{"put", "drop", "end", "stop"}, e.what) && !l.store.Writing:
		return 2
	case e.what == "put" && (len(e.key) > 24 || len(e.val) > 24):
		return 4
	case e.what == "drop" && !slices.ContainsFunc(l.next, func(p impl.Pair) bool { return p.Key == e.key }):
		return 2
	case e.what == "end" && l.store.Failed:
		return 3
	case e.what == "read" && (e.id < 1 || e.id > 9):
		return 4
	case e.what == "read" && there:
		return 1
	case e.what == "read" && len(l.seen) == 3:
		return 3
	case e.what == "close" && !there:
		return 2
	}
	return 0
}

// stepped takes a step, and holds its code, and the store that is behind it.
func (l life) stepped(t *testing.T, name string, e event) (life, int) {
	t.Helper()
	out, code := l.do(t, e)
	mayBeFull := slices.Contains([]string{"put", "drop", "end"}, e.what)
	if want := l.codeOf(e); code != want && !(want == 0 && code == 3 && mayBeFull) {
		t.Fatalf("%s, %+v: the code is %d, not %d", name, e, code, want)
	}
	want := l.store
	if code == 3 && e.what == "end" {
		want, _ = plainStopWrite(want)
	} else if code == 3 && mayBeFull {
		want.Failed = true
	}
	if code != 0 && !sameStore(out.store, want) {
		t.Fatalf("%s, %+v: beside the code %d the store is another one", name, e, code)
	}
	out.holds(t, name)
	return out, code
}

// Every row of five steps of a few, behind a store with something in it: after each step all that is promised holds.
func TestEachRowOfCalls(t *testing.T) {
	steps := []event{
		{what: "begin"}, {what: "put", key: "b", val: "1"}, {what: "drop", key: "a"}, {what: "end"}, {what: "stop"},
		{what: "read", id: 1}, {what: "read", id: 2}, {what: "close", id: 1}, {what: "close", id: 2},
	}
	met := map[string]int{}
	var rows func(l life, left int)
	rows = func(l life, left int) {
		if left == 0 {
			return
		}
		for _, e := range steps {
			next, code := l.stepped(t, "a row", e)
			met[e.what+" "+strconv.Itoa(code)]++
			rows(next, left-1)
		}
	}
	for _, pages := range []int{4, 7} {
		l := newLife(t, pages)
		for _, e := range []event{{what: "begin"}, {what: "put", key: "a", val: "0"}, {what: "put", key: "c", val: "0"}, {what: "end"}, {what: "read", id: 2}} {
			l, _ = l.stepped(t, "ahead", e)
		}
		rows(l, 5)
	}
	for _, want := range []string{"begin 0", "begin 1", "put 0", "put 2", "put 3", "drop 0", "drop 2", "drop 3", "end 0", "end 2", "end 3", "stop 0", "stop 2", "read 0", "read 1", "close 0", "close 2"} {
		if met[want] == 0 {
			t.Errorf("%s is not met", want)
		}
	}
}

// drawEvent is a drawn step; keys are some of few, so that they meet.
func drawEvent(next func(n int) int) event {
	e := event{id: next(11), key: "k" + strconv.Itoa(100+next(24)), val: strconv.Itoa(next(1000))}
	if next(40) == 0 {
		e.key = long(23 + next(4))
	}
	if next(40) == 0 {
		e.val = long(23 + next(4))
	}
	e.what = []string{"begin", "begin", "put", "put", "put", "put", "put", "put", "drop", "drop", "drop", "end", "end", "stop", "read", "close", "close"}[next(17)]
	return e
}

// Long lives, drawn by a rule, with as many readers of elder trees as there may be, on small disks and great ones.
func TestLivesOfStores(t *testing.T) {
	met := map[string]int{}
	keys := []string{"", "k", long(25)}
	for at := range 24 {
		keys = append(keys, "k"+strconv.Itoa(100+at))
	}
	for seed := range 120 {
		next := drawn(seed)
		l := newLife(t, 4+seed%10*4)
		for at := range 160 {
			e := drawEvent(next)
			now, code := l.stepped(t, "seed "+strconv.Itoa(seed), e)
			met[e.what+" "+strconv.Itoa(code)]++
			l = now
			if at%20 == 0 {
				l.gets(t, "seed "+strconv.Itoa(seed), keys)
			}
			if next(50) == 0 {
				// The power goes, or it is left: opened again nobody reads.
				s, ok := impl.Open(l.store.Disk)
				if !ok || !sameStore(s, impl.Store{Disk: l.store.Disk, Meta: l.store.Meta}) {
					t.Fatalf("seed %d: opened again it is %+v, %v", seed, s, ok)
				}
				l.store, l.seen = s, map[int][]impl.Pair{}
				l.holds(t, "opened again")
			}
		}
	}
	for _, want := range []string{"begin 0", "begin 1", "put 0", "put 2", "put 3", "put 4", "drop 0", "drop 2", "drop 3", "end 0", "end 2", "end 3", "stop 0", "stop 2", "read 0", "read 1", "read 3", "read 4", "close 0", "close 2"} {
		if met[want] < 5 {
			t.Errorf("%s: %d times alone", want, met[want])
		}
	}
}

// A reader sees the same through many changes, commits and stops, two who began at two times each their own.
func TestReadersThroughChanges(t *testing.T) {
	l := newLife(t, impl.MaxPages)
	act := func(list ...event) {
		t.Helper()
		for _, e := range list {
			now, code := l.stepped(t, "through changes", e)
			if code != 0 {
				t.Fatalf("%+v: the code is %d", e, code)
			}
			l = now
		}
	}
	keys := []string{}
	for at, p := range pairsOf(9) {
		keys = append(keys, p.Key)
		act(event{what: "begin"}, event{what: "put", key: p.Key, val: p.Val}, event{what: "end"})
		if at%3 == 2 {
			act(event{what: "read", id: at + 1})
		}
	}
	if sizes := []int{len(l.seen[3]), len(l.seen[6]), len(l.seen[9])}; !slices.Equal(sizes, []int{3, 6, 9}) {
		t.Fatalf("the readers see %v", sizes)
	}
	for at, p := range pairsOf(9) {
		act(event{what: "begin"}, event{what: "drop", key: p.Key}, event{what: "put", key: "z", val: strconv.Itoa(at)})
		l.gets(t, "through changes", append(keys, "z"))
		act(event{what: []string{"end", "stop"}[at%2]})
		l.gets(t, "through changes", append(keys, "z"))
	}
	act(event{what: "close", id: 6}, event{what: "begin"}, event{what: "put", key: "y", val: "1"}, event{what: "end"}, event{what: "close", id: 3}, event{what: "close", id: 9})
	if !slices.Equal(l.model, []impl.Pair{pair("k101", "v1"), pair("k103", "v3"), pair("k105", "v5"), pair("k107", "v7"), pair("y", "1"), pair("z", "8")}) {
		t.Errorf("at the end there is %q", l.model)
	}
}

// All calls of stores that calls made, against the document's words.
func TestCallsOfStores(t *testing.T) {
	codes := map[int]int{}
	for name, s := range someStores(t) {
		for code, n := range checkStore(t, name, s) {
			codes[code] += n
		}
	}
	for code := range 5 {
		if codes[code] == 0 {
			t.Errorf("code %d is not met", code)
		}
	}
}

// All calls of stores that are not right: each is answered, by the document's words.
func TestCallsOfWrongStores(t *testing.T) {
	for name, s := range wrongStores(t) {
		checkStore(t, name, s)
	}
}

// Stores whose parts are drawn: disks, metas, readers and changes that do not belong together.
func TestAnyStores(t *testing.T) {
	right := slices.Collect(maps.Values(someStores(t)))
	slices.SortFunc(right, func(a, b impl.Store) int {
		return strings.Compare(strings.Join(a.Disk.Pages, ""), strings.Join(b.Disk.Pages, ""))
	})
	for seed := range 1000 {
		next := drawn(seed)
		pick := func() impl.Store { return right[next(len(right))] }
		odd := func() impl.Meta {
			if next(2) == 0 {
				return pick().Meta
			}
			return meta(oddNumber(next), oddNumber(next), oddNumber(next), free(oddNumber(next), oddList(next, 3)...), free(oddNumber(next), oddList(next, 3)...))
		}
		s := impl.Store{Disk: pick().Disk, Meta: odd(), Txn: pick().Txn, Writing: next(3) > 0, Failed: next(3) == 0}
		for range next(6) {
			s.Readers = append(s.Readers, reader(oddNumber(next)-1, odd()))
		}
		if next(2) == 0 {
			s.Txn = txn(odd(), work(pick().Disk, oddNumber(next), oddList(next, 4), oddList(next, 2), oddList(next, 5)), oddNumber(next))
		}
		checkStore(t, "seed "+strconv.Itoa(seed), s)
	}
}

// Readers that do not ascend, or with one Id twice: what no sentence names stays as it is.
func TestReadersThatDoNotAscend(t *testing.T) {
	of := func(ids ...int) impl.Store {
		s := newStore(t, 6)
		for at, id := range ids {
			s.Readers = append(s.Readers, reader(id, meta(at+1, 0, 2)))
		}
		return s
	}
	for _, c := range []struct {
		was  []int
		id   int
		want []int
	}{
		{[]int{5, 2}, 1, []int{1, 5, 2}}, {[]int{5, 2}, 3, []int{3, 5, 2}}, {[]int{5, 2}, 9, []int{5, 2, 9}}, {[]int{5, 5}, 2, []int{2, 5, 5}},
		{[]int{5, 5}, 9, []int{5, 5, 9}}, {[]int{0, 10}, 4, []int{0, 4, 10}}, {[]int{10, 0}, 4, []int{4, 10, 0}}, {[]int{math.MinInt, math.MaxInt}, 9, []int{math.MinInt, 9, math.MaxInt}},
	} {
		if got := step(t, 0)(impl.StartRead(of(c.was...), c.id)); !slices.Equal(idsOf(got), c.want) {
			t.Errorf("%v: behind StartRead(%d) they are %v, not %v", c.was, c.id, idsOf(got), c.want)
		}
	}
	for _, c := range []struct {
		was  []int
		id   int
		want []int
	}{
		{[]int{7, 5, 2}, 5, []int{7, 2}}, {[]int{7, 5, 2}, 7, []int{5, 2}}, {[]int{5, 2, 5}, 5, []int{2}}, {[]int{5, 5, 2}, 2, []int{5, 5}},
		{[]int{4, 4, 4, 4}, 4, []int{}}, {[]int{1, 2, 3, 4, 5}, 3, []int{1, 2, 4, 5}}, {[]int{-1, 0, 10}, 0, []int{-1, 10}}, {[]int{math.MaxInt, math.MinInt}, math.MinInt, []int{math.MaxInt}},
	} {
		got := step(t, 0)(impl.EndRead(of(c.was...), c.id))
		if !slices.Equal(idsOf(got), c.want) {
			t.Errorf("%v: behind EndRead(%d) they are %v, not %v", c.was, c.id, idsOf(got), c.want)
		}
		if _, code := impl.EndRead(got, c.id); code != 2 {
			t.Errorf("%v: EndRead(%d) twice is %d", c.was, c.id, code)
		}
	}
	// Of two with one Id the first one is read.
	s := wrote(t, wrote(t, newStore(t, 12), pair("k", "first")), pair("k", "second"))
	elder := meta(1, 2, 3)
	for at, list := range [][]impl.Reader{{reader(3, elder), reader(3, s.Meta)}, {reader(3, s.Meta), reader(3, elder)}} {
		s.Readers = list
		if val, code := impl.ReaderGet(s, 3, "k"); val != []string{"first", "second"}[at] || code != 0 {
			t.Errorf("of two with one Id: %q, %d", val, code)
		}
		if impl.OldestOf(s) != 1 {
			t.Errorf("of two with one Id the oldest is %d", impl.OldestOf(s))
		}
	}
}

// roomyStore is the same store with spare room behind its lists, which is filled.
func roomyStore(s impl.Store) impl.Store {
	out := impl.Store{Disk: roomy(s.Disk), Meta: roomyMeta(s.Meta), Txn: roomyTxn(s.Txn), Writing: s.Writing, Failed: s.Failed}
	for _, r := range s.Readers {
		out.Readers = append(out.Readers, reader(r.Id, roomyMeta(r.Meta)))
	}
	spare := append(out.Readers, reader(7, meta(7, 7, 7, free(7, 7))), reader(8, impl.Meta{}), reader(9, impl.Meta{}))
	out.Readers = spare[:len(s.Readers)]
	return out
}

// wholeStore is a copy of the store with all that is in the room behind its lists.
func wholeStore(s impl.Store) impl.Store {
	d := impl.Disk{Pages: s.Disk.Pages[:cap(s.Disk.Pages)], Late: s.Disk.Late[:cap(s.Disk.Late)]}
	out := impl.Store{Disk: ownDisk(d), Meta: wholeMeta(s.Meta), Txn: wholeTxn(s.Txn), Writing: s.Writing, Failed: s.Failed}
	for _, r := range s.Readers[:cap(s.Readers)] {
		out.Readers = append(out.Readers, reader(r.Id, wholeMeta(r.Meta)))
	}
	return out
}

func scribbleStore(s impl.Store) {
	scribble(s.Disk)
	scribbleMeta(s.Meta)
	scribbleTxn(s.Txn)
	for _, r := range s.Readers {
		scribbleMeta(r.Meta)
	}
	clear(s.Readers[:cap(s.Readers)])
}

// stretch is the memory of a list, with its spare room: where it begins, and where it ends.
type stretch struct {
	from, to uintptr
}

func stretchOf[T any](list []T) stretch {
	var one T
	from := uintptr(unsafe.Pointer(unsafe.SliceData(list)))
	return stretch{from, from + uintptr(cap(list))*unsafe.Sizeof(one)}
}

// stretchesOf are those of all lists of a store.
func stretchesOf(s impl.Store) []stretch {
	list := []stretch{stretchOf(s.Readers)}
	for _, d := range []impl.Disk{s.Disk, s.Txn.Work.Disk} {
		list = append(list, stretchOf(d.Pages), stretchOf(d.Late))
	}
	list = append(list, stretchOf(s.Txn.Work.Usable), stretchOf(s.Txn.Work.Gone), stretchOf(s.Txn.Work.Fresh))
	metas := []impl.Meta{s.Meta, s.Txn.Base}
	for _, r := range s.Readers {
		metas = append(metas, r.Meta)
	}
	for _, m := range metas {
		list = append(list, stretchOf(m.Frees))
		for _, f := range m.Frees {
			list = append(list, stretchOf(f.Pages))
		}
	}
	return slices.DeleteFunc(list, func(s stretch) bool { return s.from == s.to })
}

// apart tells whether no two of these share memory.
func apart(list []stretch) bool {
	slices.SortFunc(list, func(a, b stretch) int {
		if a.from < b.from {
			return -1
		}
		return 1
	})
	for at := 1; at < len(list); at++ {
		if list[at].from < list[at-1].to {
			return false
		}
	}
	return true
}

// anyStores are stores of all kinds.
func anyStores(t *testing.T) map[string]impl.Store {
	t.Helper()
	list := someStores(t)
	for name, s := range wrongStores(t) {
		if !strings.Contains(name, "meta with") && !strings.Contains(name, "work:") {
			list["wrong: "+name] = s
		}
	}
	return list
}

func TestStoreArgumentsStay(t *testing.T) {
	for name, plain := range anyStores(t) {
		s := roomyStore(plain)
		want := wholeStore(s)
		for call, c := range storeCalls() {
			c.do(s)
			impl.OldestOf(s)
			impl.Open(s.Disk)
			if !sameStore(wholeStore(s), want) || !sameStore(s, plain) {
				t.Fatalf("%s of %s writes into its argument", call, name)
			}
		}
	}
}

func TestStoresAreNewMemory(t *testing.T) {
	for name, plain := range anyStores(t) {
		for call, c := range storeCalls() {
			s := roomyStore(plain)
			got, other := c.do(s), c.do(s)
			lists := slices.Concat(stretchesOf(s), stretchesOf(got.store), stretchesOf(other.store))
			if !apart(lists) {
				t.Fatalf("%s of %s: lists share memory", call, name)
			}
			want := ownStore(got.store)
			scribbleStore(s)
			scribbleStore(other.store)
			if !sameStore(got.store, want) {
				t.Fatalf("%s of %s: what is changed elsewhere changes the answer", call, name)
			}
		}
	}
}

func TestStoreTextsAreNewMemory(t *testing.T) {
	for name, plain := range someStores(t) {
		s := ownStore(plain)
		held := textsOf(s.Disk, s.Txn.Work.Disk)
		for call, c := range storeCalls() {
			got := c.do(s)
			for _, text := range append(textsOf(got.store.Disk, got.store.Txn.Work.Disk), got.val) {
				if slices.ContainsFunc(held, func(other string) bool { return sharesMemory(text, other) }) {
					t.Fatalf("%s of %s hands out a text of its argument: %q", call, name, text)
				}
			}
		}
		if again, ok := impl.Open(s.Disk); ok {
			for _, text := range textsOf(again.Disk) {
				if slices.ContainsFunc(held, func(other string) bool { return sharesMemory(text, other) }) {
					t.Fatalf("Open of %s hands out a text of its argument: %q", name, text)
				}
			}
		}
	}
}

func TestOpenedIsNewMemory(t *testing.T) {
	first, _ := impl.Format(9)
	second, _ := impl.Format(9)
	want := ownDisk(second)
	scribble(first)
	if !sameDisk(second, want) {
		t.Error("two answers of Format share memory")
	}
	for name, plain := range someStores(t) {
		d := plain.Disk
		if plain.Writing {
			d = plain.Txn.Work.Disk
		}
		d = roomy(d)
		got, other := opened(t, d), opened(t, d)
		disk := []stretch{stretchOf(d.Pages), stretchOf(d.Late)}
		if !apart(slices.Concat(disk, stretchesOf(got), stretchesOf(other))) {
			t.Errorf("%s: what is opened shares memory", name)
		}
		want := ownStore(got)
		scribbleStore(other)
		scribble(d)
		if !sameStore(got, want) {
			t.Errorf("%s: what is changed elsewhere changes what is opened", name)
		}
	}
}

// An empty list and nil are the same value.
func TestStoreEmptyAndNil(t *testing.T) {
	bare := func(list bool) impl.Store {
		s := impl.Store{Disk: impl.Disk{Pages: named(5).Pages}, Meta: meta(3, 2, 4), Txn: txn(meta(3, 2, 4), work(named(5), 4, nil, nil, nil), 2)}
		if list {
			s.Disk.Late, s.Meta.Frees, s.Readers = []impl.Put{}, []impl.Free{}, []impl.Reader{}
			s.Txn.Base.Frees, s.Txn.Work = []impl.Free{}, work(impl.Disk{Pages: named(5).Pages, Late: []impl.Put{}}, 4, []int{}, []int{}, []int{})
		}
		return s
	}
	for _, writing := range []bool{false, true} {
		for _, failed := range []bool{false, true} {
			none, empty := bare(false), bare(true)
			none.Writing, none.Failed, empty.Writing, empty.Failed = writing, failed, writing, failed
			for call, c := range storeCalls() {
				if !sameSaid(c.do(none), c.do(empty)) {
					t.Errorf("%s: an empty list is not nil", call)
				}
			}
			if impl.OldestOf(none) != impl.OldestOf(empty) {
				t.Error("OldestOf: an empty list is not nil")
			}
		}
	}
	d, _ := impl.Format(5)
	other := ownDisk(d)
	d.Late, other.Late = nil, []impl.Put{}
	isStore(t, "Open", opened(t, d), opened(t, other))
}

// No function keeps anything: the same is answered whatever was asked between, and by whomever at once.
func TestStoresKeepNothing(t *testing.T) {
	stores := someStores(t)
	calls := storeCalls()
	first := map[string]said{}
	for name, s := range stores {
		for call, c := range calls {
			first[name+", "+call] = c.do(s)
		}
	}
	var all sync.WaitGroup
	for range 4 {
		all.Go(func() {
			for name, s := range stores {
				for call, c := range calls {
					if !sameSaid(c.do(s), first[name+", "+call]) {
						t.Errorf("%s of %s answers something else the second time", call, name)
					}
				}
			}
		})
	}
	all.Wait()
}
