package tests

import (
	"maps"
	"math"
	"slices"
	"strconv"
	"strings"
	"sync"
	"testing"

	"loop.example/g00240/impl"
)

// happen is an event of a kind that needs nothing else.
func happen(kind int) impl.Event {
	return impl.Event{Kind: kind, Id: 1, Torn: -1}
}

func happenBegin() impl.Event { return happen(impl.EvBegin) }
func happenEnd() impl.Event   { return happen(impl.EvEnd) }
func happenStop() impl.Event  { return happen(impl.EvStop) }
func happenPack() impl.Event  { return happen(impl.EvPack) }

func happenPut(key, val string) impl.Event {
	return impl.Event{Kind: impl.EvPut, Id: 1, Key: key, Val: val, Torn: -1}
}

func happenDrop(key string) impl.Event {
	return impl.Event{Kind: impl.EvDrop, Id: 1, Key: key, Torn: -1}
}

func happenRead(id int) impl.Event {
	return impl.Event{Kind: impl.EvRead, Id: id, Torn: -1}
}

func happenGet(id int, key string) impl.Event {
	return impl.Event{Kind: impl.EvGet, Id: id, Key: key, Torn: -1}
}

func happenClose(id int) impl.Event {
	return impl.Event{Kind: impl.EvClose, Id: id, Torn: -1}
}

func happenFall(stage, torn int, left ...bool) impl.Event {
	return impl.Event{Kind: impl.EvFall, Id: 1, Stage: stage, Left: left, Torn: torn}
}

// commitOf are the events of one change that puts these pairs, each a key of one byte and its val.
func commitOf(pairs ...string) []impl.Event {
	list := []impl.Event{happenBegin()}
	for _, p := range pairs {
		list = append(list, happenPut(p[:1], p[1:]))
	}
	return append(list, happenEnd())
}

func sameSeen(a, b impl.Seen) bool {
	return a.Id == b.Id && slices.Equal(a.Pairs, b.Pairs)
}

func sameWorld(a, b impl.World) bool {
	return sameStore(a.Store, b.Store) && slices.Equal(a.Model, b.Model) && slices.Equal(a.Next, b.Next) && slices.EqualFunc(a.Seens, b.Seens, sameSeen) &&
		slices.Equal(a.Codes, b.Codes) && slices.Equal(a.Told, b.Told)
}

// ownWorld is the same world in memory of its own.
func ownWorld(w impl.World) impl.World {
	out := impl.World{Store: ownStore(w.Store), Model: slices.Clone(w.Model), Next: slices.Clone(w.Next), Codes: slices.Clone(w.Codes), Told: slices.Clone(w.Told)}
	for _, s := range w.Seens {
		out.Seens = append(out.Seens, impl.Seen{Id: s.Id, Pairs: slices.Clone(s.Pairs)})
	}
	return out
}

// isWorld holds a world against what is told of it.
func isWorld(t *testing.T, name string, got, want impl.World) {
	t.Helper()
	isStore(t, name, got.Store, want.Store)
	if !slices.Equal(got.Model, want.Model) || !slices.Equal(got.Next, want.Next) {
		t.Errorf("%s: Model %q, Next %q, not %q, %q", name, got.Model, got.Next, want.Model, want.Next)
	}
	if !slices.EqualFunc(got.Seens, want.Seens, sameSeen) {
		t.Errorf("%s: Seens %q, not %q", name, shownSeens(got.Seens), shownSeens(want.Seens))
	}
	if !slices.Equal(got.Codes, want.Codes) || !slices.Equal(got.Told, want.Told) {
		t.Errorf("%s: Codes %v, Told %q, not %v, %q", name, got.Codes, got.Told, want.Codes, want.Told)
	}
	if t.Failed() {
		t.FailNow()
	}
}

// account is what is kept beside a life by the document's words: the pairs by their Keys, those who see some in the order in which they began.
type account struct {
	store       impl.Store
	model, next map[string]string
	ids         []int
	seens       map[int]map[string]string
	codes       []int
	told        []string
}

func newAccount(t *testing.T, pages int) *account {
	t.Helper()
	return &account{store: newStore(t, pages), model: map[string]string{}, next: map[string]string{}, seens: map[int]map[string]string{}}
}

// inOrder are the pairs of an account, ascending.
func inOrder(pairs map[string]string) []impl.Pair {
	list := []impl.Pair{}
	for _, key := range slices.Sorted(maps.Keys(pairs)) {
		list = append(list, pair(key, pairs[key]))
	}
	return list
}

// world is what the account tells.
func (a *account) world() impl.World {
	w := impl.World{Store: a.store, Model: inOrder(a.model), Next: inOrder(a.next), Codes: a.codes, Told: a.told}
	for _, id := range a.ids {
		w.Seens = append(w.Seens, impl.Seen{Id: id, Pairs: inOrder(a.seens[id])})
	}
	return w
}

// wants is the code of an event by the account alone, and whether it may be full instead.
func (a *account) wants(e impl.Event) (int, bool) {
	_, there := a.seens[e.Id]
	_, kept := a.next[e.Key]
	_, read := a.seens[e.Id][e.Key]
	writing := a.store.Writing
	switch {
	case e.Kind == impl.EvBegin && writing:
		return 1, false
	case slices.Contains([]int{impl.EvPut, impl.EvDrop, impl.EvEnd, impl.EvStop, impl.EvPack}, e.Kind) && !writing:
		return 2, false
	case e.Kind == impl.EvPut && (len(e.Key) > 24 || len(e.Val) > 24):
		return 4, false
	case e.Kind == impl.EvDrop && !kept:
		return 2, false
	case e.Kind == impl.EvEnd && a.store.Failed:
		return 3, false
	case e.Kind == impl.EvRead && there:
		return 1, false
	case e.Kind == impl.EvRead && len(a.ids) == 3:
		return 3, false
	case e.Kind == impl.EvGet && !read, e.Kind == impl.EvClose && !there:
		return 2, false
	}
	return 0, slices.Contains([]int{impl.EvPut, impl.EvDrop, impl.EvEnd, impl.EvPack}, e.Kind)
}

// take does an event to the account, by the document's words; its code must be the one that the account wants.
func (a *account) take(t *testing.T, e impl.Event) int {
	t.Helper()
	want, mayBeFull := a.wants(e)
	code, told := 0, ""
	switch e.Kind {
	case impl.EvBegin:
		if a.store, code = plainStartWrite(a.store); code == 0 {
			a.next = maps.Clone(a.model)
		}
	case impl.EvPut:
		if a.store, code = plainWritePut(a.store, e.Key, e.Val); code == 0 {
			a.next[e.Key] = e.Val
		}
	case impl.EvDrop:
		if a.store, code = plainWriteDrop(a.store, e.Key); code == 0 {
			delete(a.next, e.Key)
		}
	case impl.EvEnd:
		if a.store, code = plainEndWrite(a.store); code == 0 {
			a.model = maps.Clone(a.next)
		}
	case impl.EvStop:
		a.store, code = plainStopWrite(a.store)
	case impl.EvRead:
		if a.store, code = plainStartRead(a.store, e.Id); code == 0 {
			a.ids, a.seens[e.Id] = append(a.ids, e.Id), maps.Clone(a.model)
		}
	case impl.EvGet:
		told, code = plainReaderGet(a.store, e.Id, e.Key)
		if told != a.seens[e.Id][e.Key] {
			t.Fatalf("reader %d gets %q of %q, not %q", e.Id, told, e.Key, a.seens[e.Id][e.Key])
		}
	case impl.EvClose:
		a.store, code = plainEndRead(a.store, e.Id)
		a.ids = slices.DeleteFunc(a.ids, func(id int) bool { return id == e.Id })
		delete(a.seens, e.Id)
	case impl.EvPack:
		code = a.pack()
	case impl.EvFall:
		a.fall(t, e)
	}
	if code != want && !(code == 3 && mayBeFull) {
		t.Fatalf("%+v: the code is %d, not %d", e, code, want)
	}
	a.codes, a.told = append(a.codes, code), append(a.told, told)
	return code
}

func (a *account) pack() int {
	if !a.store.Writing {
		return 2
	}
	x, ok := plainPack(a.store.Txn)
	a.store = ownStore(a.store)
	if !ok {
		a.store.Failed = true
		return 3
	}
	a.store.Txn = x
	return 0
}

// fall leaves what was committed, or all that was being written when its meta is kept whole.
func (a *account) fall(t *testing.T, e impl.Event) {
	t.Helper()
	was := a.store
	d := plainFall(was.Disk, e.Left, e.Torn)
	if was.Writing {
		d = plainCut(t, was.Txn, e.Stage, e.Left, e.Torn)
		_, ok := plainNextMeta(was.Txn)
		if e.Stage == 1 && ok && !plainNothing(was.Txn) && len(e.Left) > 0 && e.Left[0] && e.Torn != 0 {
			a.model = a.next
		}
	}
	a.store = opened(t, d)
	a.next, a.ids, a.seens = map[string]string{}, nil, map[int]map[string]string{}
}

// areTrue holds what is true of a world: the tree that counts is Model, who reads sees what they saw, what is written is Next, no page is lost.
func areTrue(t *testing.T, name string, w impl.World) {
	t.Helper()
	s := w.Store
	counts(t, name, state{disk: s.Disk, meta: s.Meta, pairs: w.Model})
	if !impl.MetaOk(s.Meta) || !impl.PagesRight(s.Disk, s.Meta) {
		t.Fatalf("%s: the store is not right: %+v", name, s.Meta)
	}
	ids := []int{}
	for _, seen := range w.Seens {
		ids = append(ids, seen.Id)
		at := slices.Index(idsOf(s), seen.Id)
		if at < 0 {
			t.Fatalf("%s: %d sees something, and does not read", name, seen.Id)
		}
		if got, ok := impl.AllPairs(s.Disk, s.Readers[at].Meta.Root); !ok || !slices.Equal(got, seen.Pairs) {
			t.Fatalf("%s: %d sees %q, %v, not %q", name, seen.Id, got, ok, seen.Pairs)
		}
	}
	if slices.Sort(ids); !slices.Equal(ids, idsOf(s)) {
		t.Fatalf("%s: the readers are %v, those who see something %v", name, idsOf(s), ids)
	}
	if !s.Writing || s.Failed {
		return
	}
	if got, ok := impl.AllPairs(s.Txn.Work.Disk, s.Txn.Root); !ok || !slices.Equal(got, w.Next) {
		t.Fatalf("%s: what is written is %q, %v, not %q", name, got, ok, w.Next)
	}
}

// kindName is how a kind and a code are counted.
func kindName(kind, code int) string {
	return []string{"none", "begin", "put", "drop", "end", "stop", "read", "get", "close", "pack", "fall"}[kind] + " " + strconv.Itoa(code)
}

// lives holds a life against its account: behind each event when each is set, else behind the last one. It answers how often each kind had each code.
func lives(t *testing.T, name string, pages int, events []impl.Event, each bool) (impl.World, map[string]int) {
	t.Helper()
	a, met := newAccount(t, pages), map[string]int{}
	var w impl.World
	for at := 0; at <= len(events); at++ {
		if at > 0 {
			met[kindName(events[at-1].Kind, a.take(t, events[at-1]))]++
		}
		if !each && at < len(events) {
			continue
		}
		ok := false
		if w, ok = impl.RunLife(pages, events[:at]); !ok {
			t.Fatalf("%s: a life of %d events is refused", name, at)
		}
		if want := a.world(); !sameWorld(w, want) {
			isWorld(t, name+", behind event "+strconv.Itoa(at), w, want)
		}
		areTrue(t, name, w)
	}
	return w, met
}

// line is an event of a life by hand, and what is told of the world behind it: pairs are each a key and its val, with a blank between them.
type line struct {
	e           impl.Event
	code        int
	told        string
	model, next string
	seens       string
}

// shown are pairs as a line tells them.
func shown(list []impl.Pair) string {
	texts := []string{}
	for _, p := range list {
		texts = append(texts, p.Key+p.Val)
	}
	return strings.Join(texts, " ")
}

func shownSeens(list []impl.Seen) string {
	texts := []string{}
	for _, s := range list {
		texts = append(texts, strconv.Itoa(s.Id)+":"+shown(s.Pairs))
	}
	return strings.Join(texts, ", ")
}

// follows holds a life by hand, line by line, and against its account.
func follows(t *testing.T, name string, pages int, lines []line) impl.World {
	t.Helper()
	events := []impl.Event{}
	var w impl.World
	for at, l := range lines {
		events = append(events, l.e)
		ok := false
		w, ok = impl.RunLife(pages, events)
		if !ok || len(w.Codes) != at+1 || len(w.Told) != at+1 {
			t.Fatalf("%s, line %d: %v, %d codes, %d told", name, at, ok, len(w.Codes), len(w.Told))
		}
		got := line{l.e, w.Codes[at], w.Told[at], shown(w.Model), shown(w.Next), shownSeens(w.Seens)}
		if got.code != l.code || got.told != l.told || got.model != l.model || got.next != l.next || got.seens != l.seens {
			t.Fatalf("%s, line %d: %+v, not %+v", name, at, got, l)
		}
	}
	lives(t, name, pages, events, true)
	return w
}

// codesAre holds the codes of a life.
func codesAre(t *testing.T, name string, pages int, events []impl.Event, codes ...int) impl.World {
	t.Helper()
	w, _ := lives(t, name, pages, events, false)
	if !slices.Equal(w.Codes, codes) {
		t.Fatalf("%s: the codes are %v, not %v", name, w.Codes, codes)
	}
	return w
}

func TestLifeConstants(t *testing.T) {
	kinds := []int{impl.EvBegin, impl.EvPut, impl.EvDrop, impl.EvEnd, impl.EvStop, impl.EvRead, impl.EvGet, impl.EvClose, impl.EvPack, impl.EvFall}
	if !slices.Equal(kinds, span(1, 10)) {
		t.Errorf("the kinds are %v", kinds)
	}
}

// What is right of an event is said of each field alone: all of them at their edges, with one another.
func TestEventOk(t *testing.T) {
	in := func(n, from, to int) bool { return n >= from && n <= to }
	far := []int{math.MinInt, math.MaxInt}
	right := map[bool]int{}
	for _, kind := range append([]int{-1, 0, 1, 5, 10, 11}, far...) {
		for _, id := range append([]int{-1, 0, 1, 9, 10}, far...) {
			for _, stage := range append([]int{-1, 0, 1, 2}, far...) {
				for _, torn := range append([]int{-2, -1, 0, 60, 61}, far...) {
					for _, size := range [][3]int{{0, 0, 0}, {30, 30, 60}, {31, 0, 0}, {0, 31, 0}, {0, 0, 61}, {30, 0, 0}, {0, 30, 0}, {0, 0, 60}, {31, 31, 61}, {1000, 0, 0}, {0, 1000, 0}, {0, 0, 1000}} {
						e := impl.Event{Kind: kind, Id: id, Key: long(size[0]), Val: long(size[1]), Stage: stage, Left: all(size[2]), Torn: torn}
						want := in(kind, 1, 10) && in(id, 1, 9) && in(stage, 0, 1) && in(torn, -1, 60) && size[0] <= 30 && size[1] <= 30 && size[2] <= 60
						if impl.EventOk(e) != want {
							t.Fatalf("kind %d, id %d, stage %d, torn %d, %v: %v", kind, id, stage, torn, size, !want)
						}
						right[want]++
					}
				}
			}
		}
	}
	if right[true] != 3*2*2*3*5 {
		t.Errorf("%d are right", right[true])
	}
	for kind := -20; kind <= 30; kind++ {
		if impl.EventOk(happen(kind)) != in(kind, 1, 10) {
			t.Errorf("Kind %d", kind)
		}
	}
	for n := -20; n <= 80; n++ {
		e := happenBegin()
		if e.Id = n; impl.EventOk(e) != in(n, 1, 9) {
			t.Errorf("Id %d", n)
		}
		e = happenBegin()
		if e.Torn = n; impl.EventOk(e) != in(n, -1, 60) {
			t.Errorf("Torn %d", n)
		}
		e = happenBegin()
		if e.Stage = n; impl.EventOk(e) != in(n, 0, 1) {
			t.Errorf("Stage %d", n)
		}
		if n < 0 {
			continue
		}
		for _, kind := range span(1, 10) {
			ok := impl.EventOk(impl.Event{Kind: kind, Id: 3, Key: long(n)}) && impl.EventOk(impl.Event{Kind: kind, Id: 3, Val: long(n)})
			if ok != (n <= 30) || impl.EventOk(impl.Event{Kind: kind, Id: 3, Left: make([]bool, n)}) != (n <= 60) {
				t.Errorf("a length of %d of kind %d", n, kind)
			}
		}
	}
	if impl.EventOk(impl.Event{}) || !impl.EventOk(impl.Event{Kind: 1, Id: 1}) {
		t.Error("without anything")
	}
	for _, key := range []string{"\x00", "\xff\xfe", "a b", "\n", strings.Repeat("\x00", 30), strings.Repeat("ä", 15)} {
		if !impl.EventOk(impl.Event{Kind: 2, Id: 1, Key: key, Val: key}) {
			t.Errorf("of any bytes: %q", key)
		}
	}
}

// rowOf are pairs of these keys, in this order, each with a val of its own.
func rowOf(keys ...string) []impl.Pair {
	list := []impl.Pair{}
	for at, key := range keys {
		list = append(list, pair(key, strconv.Itoa(at)))
	}
	return list
}

// modelPut and modelDrop hold both functions against the document's words.
func modelPut(t *testing.T, list []impl.Pair, key, val string) []impl.Pair {
	t.Helper()
	got := impl.ModelPut(list, key, val)
	if want := withKey(list, key, val); !slices.Equal(got, want) {
		t.Fatalf("ModelPut of %q into %q is %q, not %q", key, list, got, want)
	}
	return got
}

func modelDrop(t *testing.T, list []impl.Pair, key string) []impl.Pair {
	t.Helper()
	got := impl.ModelDrop(list, key)
	if want := withoutKey(list, key); !slices.Equal(got, want) {
		t.Fatalf("ModelDrop of %q from %q is %q, not %q", key, list, got, want)
	}
	return got
}

// Each ascending list of a few keys, and each key: ahead of all, between two, in the place of each, behind all.
func TestModels(t *testing.T) {
	keys := []string{"", "\x00", "a", "a\x00", "ab", "b", "\xff", long(24), long(31), long(500)}
	slices.Sort(keys)
	for mask := range 1 << len(keys) {
		list := []impl.Pair{}
		for at, key := range keys {
			if mask>>at&1 == 1 {
				list = append(list, pair(key, "v"+strconv.Itoa(at)))
			}
		}
		for _, key := range keys {
			for _, val := range []string{"", "new", "v1"} {
				put := modelPut(t, list, key, val)
				if got, there := plainVal(put, key); !there || got != val || len(put) > len(list)+1 {
					t.Fatalf("what was put is %q, %v", got, there)
				}
				modelPut(t, put, key, "again")
				if gone := modelDrop(t, put, key); !slices.Equal(gone, modelDrop(t, list, key)) {
					t.Fatalf("what was put and dropped leaves %q", gone)
				}
			}
		}
	}
	for name, c := range map[string]struct{ got, want []impl.Pair }{
		"into nothing":      {impl.ModelPut(nil, "k", "v"), []impl.Pair{pair("k", "v")}},
		"of nothing":        {impl.ModelPut([]impl.Pair{}, "", ""), []impl.Pair{pair("", "")}},
		"ahead":             {impl.ModelPut(rowOf("b", "c"), "a", "x"), []impl.Pair{pair("a", "x"), pair("b", "0"), pair("c", "1")}},
		"between":           {impl.ModelPut(rowOf("a", "c"), "b", "x"), []impl.Pair{pair("a", "0"), pair("b", "x"), pair("c", "1")}},
		"behind":            {impl.ModelPut(rowOf("a", "b"), "c", "x"), []impl.Pair{pair("a", "0"), pair("b", "1"), pair("c", "x")}},
		"the first one":     {impl.ModelPut(rowOf("a", "b"), "a", "x"), []impl.Pair{pair("a", "x"), pair("b", "1")}},
		"the last one":      {impl.ModelPut(rowOf("a", "b"), "b", "x"), []impl.Pair{pair("a", "0"), pair("b", "x")}},
		"a beginning":       {impl.ModelPut(rowOf("ab", "b"), "a", "x"), []impl.Pair{pair("a", "x"), pair("ab", "0"), pair("b", "1")}},
		"bytes, no letters": {impl.ModelPut(rowOf("\x7f", "\xff"), "\x80", "x"), []impl.Pair{pair("\x7f", "0"), pair("\x80", "x"), pair("\xff", "1")}},
		"drop of nothing":   {impl.ModelDrop(nil, "k"), nil},
		"drop of another":   {impl.ModelDrop(rowOf("a", "b"), "c"), rowOf("a", "b")},
		"drop of a part":    {impl.ModelDrop(rowOf("ab", "b"), "a"), rowOf("ab", "b")},
		"drop of the first": {impl.ModelDrop(rowOf("a", "b"), "a"), []impl.Pair{pair("b", "1")}},
		"drop of the last":  {impl.ModelDrop(rowOf("a", "b"), "b"), []impl.Pair{pair("a", "0")}},
		"drop of all":       {impl.ModelDrop(rowOf(""), ""), nil},
	} {
		if !slices.Equal(c.got, c.want) {
			t.Errorf("%s: %q, not %q", name, c.got, c.want)
		}
	}
}

// Rows of puts and drops, against a map.
func TestModelsOfDrawnRows(t *testing.T) {
	for seed := range 60 {
		next := drawn(seed)
		list, want := []impl.Pair{}, map[string]string{}
		for at := range 80 {
			key, val := string(rune('a' + next(9)))[:next(4)/3+next(2)%1], strconv.Itoa(at)
			key += strconv.Itoa(next(12))
			if next(3) == 0 {
				list = modelDrop(t, list, key)
				delete(want, key)
			} else {
				list = modelPut(t, list, key, val)
				want[key] = val
			}
			if !slices.Equal(list, inOrder(want)) {
				t.Fatalf("seed %d: %q, not %q", seed, list, inOrder(want))
			}
		}
	}
}

// Lists that do not ascend, or have a Key twice: the pair is there once, in the place of the first of its Key, else ahead of the first with a greater one; all others stay as they were.
func TestModelsOfWrongLists(t *testing.T) {
	for name, c := range map[string]struct {
		was  []string
		key  string
		want []impl.Pair
	}{
		"ahead of the first that is greater": {[]string{"c", "a", "d"}, "b", []impl.Pair{pair("b", "x"), pair("c", "0"), pair("a", "1"), pair("d", "2")}},
		"greater than all":                   {[]string{"c", "a", "b"}, "d", []impl.Pair{pair("c", "0"), pair("a", "1"), pair("b", "2"), pair("d", "x")}},
		"in its place":                       {[]string{"c", "a", "b"}, "a", []impl.Pair{pair("c", "0"), pair("a", "x"), pair("b", "2")}},
		"twice, the first one":               {[]string{"a", "b", "a"}, "a", []impl.Pair{pair("a", "x"), pair("b", "1")}},
		"twice, side by side":                {[]string{"a", "b", "b", "c"}, "b", []impl.Pair{pair("a", "0"), pair("b", "x"), pair("c", "3")}},
		"three times":                        {[]string{"b", "b", "a", "b"}, "b", []impl.Pair{pair("b", "x"), pair("a", "2")}},
		"another one twice":                  {[]string{"a", "a", "c"}, "b", []impl.Pair{pair("a", "0"), pair("a", "1"), pair("b", "x"), pair("c", "2")}},
		"empty ones":                         {[]string{"", "", "a"}, "", []impl.Pair{pair("", "x"), pair("a", "2")}},
		"an empty one behind":                {[]string{"b", "", "a"}, "", []impl.Pair{pair("b", "0"), pair("", "x"), pair("a", "2")}},
	} {
		if got := impl.ModelPut(rowOf(c.was...), c.key, "x"); !slices.Equal(got, c.want) {
			t.Errorf("%s: %q, not %q", name, got, c.want)
		}
		gone := slices.DeleteFunc(slices.Clone(c.want), func(p impl.Pair) bool { return p.Key == c.key })
		if got := impl.ModelDrop(rowOf(c.was...), c.key); !slices.Equal(got, gone) {
			t.Errorf("%s: dropped it is %q, not %q", name, got, gone)
		}
	}
	keys := []string{"", "a", "b", "c"}
	var rows func(list []impl.Pair)
	rows = func(list []impl.Pair) {
		for _, key := range append(keys, "bb") {
			put, gone := impl.ModelPut(list, key, "new"), impl.ModelDrop(list, key)
			if !slices.Equal(gone, withoutKey(list, key)) || !slices.Equal(withoutKey(put, key), gone) {
				t.Fatalf("%q, %q: the others are %q, %q", list, key, put, gone)
			}
			if len(put) != len(gone)+1 || !slices.Contains(put, pair(key, "new")) {
				t.Fatalf("%q, %q: put it is %q", list, key, put)
			}
		}
		if len(list) == 5 {
			return
		}
		for _, key := range keys {
			rows(append(slices.Clip(list), pair(key, strconv.Itoa(len(list)))))
		}
	}
	rows(nil)
}

// A life in which nothing happens: what Format and Open make, on disks of every size.
func TestLifeOfNothing(t *testing.T) {
	for pages := 4; pages <= 40; pages++ {
		for _, events := range [][]impl.Event{nil, {}, commitOf()[:0]} {
			w, ok := impl.RunLife(pages, events)
			if !ok {
				t.Fatalf("%d pages are refused", pages)
			}
			isWorld(t, "nothing", w, impl.World{Store: newStore(t, pages)})
		}
	}
}

// refusesLife holds that a life is refused, and nothing is told of it.
func refusesLife(t *testing.T, name string, pages int, events []impl.Event) {
	t.Helper()
	if w, ok := impl.RunLife(pages, events); ok || !sameWorld(w, impl.World{}) {
		t.Errorf("%s: %+v, %v", name, w, ok)
	}
}

// wrongEvents are events that are not right, each by one thing, of each kind.
func wrongEvents() []impl.Event {
	list := []impl.Event{{}}
	for _, kind := range []int{math.MinInt, -1, 0, 11, 12, math.MaxInt} {
		list = append(list, happen(kind))
	}
	for kind := 1; kind <= 10; kind++ {
		for _, id := range []int{math.MinInt, -1, 0, 10, math.MaxInt} {
			list = append(list, impl.Event{Kind: kind, Id: id, Torn: -1})
		}
		for _, torn := range []int{math.MinInt, -2, 61, math.MaxInt} {
			list = append(list, impl.Event{Kind: kind, Id: 1, Torn: torn})
		}
		for _, stage := range []int{math.MinInt, -1, 2, math.MaxInt} {
			list = append(list, impl.Event{Kind: kind, Id: 1, Stage: stage})
		}
		list = append(list, impl.Event{Kind: kind, Id: 1, Key: long(31)}, impl.Event{Kind: kind, Id: 1, Val: long(31)}, impl.Event{Kind: kind, Id: 1, Left: all(61)}, impl.Event{Kind: kind, Id: 1, Key: long(100000), Left: all(100000)})
	}
	return list
}

func TestLivesThatAreRefused(t *testing.T) {
	right := slices.Concat(commitOf("a1"), []impl.Event{happenRead(1), happenBegin(), happenDrop("a"), happenPack(), happenEnd(), happenGet(1, "a"), happenClose(1), happenFall(1, 0, true), happenStop()})
	if _, ok := impl.RunLife(10, right); !ok {
		t.Fatal("what is right is refused")
	}
	for _, pages := range []int{math.MinInt, -40, -4, -1, 0, 1, 2, 3, 41, 42, 1000000000, math.MaxInt} {
		refusesLife(t, "pages", pages, nil)
		refusesLife(t, "pages", pages, right)
		refusesLife(t, "pages, and an event", pages, []impl.Event{{}})
	}
	for _, e := range wrongEvents() {
		if impl.EventOk(e) {
			t.Fatalf("%+v is right", e)
		}
		for at := range len(right) + 1 {
			refusesLife(t, "a wrong event", 10, slices.Insert(slices.Clone(right), at, e))
		}
		refusesLife(t, "a wrong one alone", 10, []impl.Event{e})
	}
}

// 70 events, and one more, of each kind, and of all in turn.
func TestHowManyEvents(t *testing.T) {
	for kind := 1; kind <= 10; kind++ {
		list := slices.Repeat([]impl.Event{happen(kind)}, 71)
		if w, ok := impl.RunLife(4, list[:70]); !ok || len(w.Codes) != 70 || len(w.Told) != 70 {
			t.Errorf("70 of kind %d: %v, %d, %d", kind, ok, len(w.Codes), len(w.Told))
		}
		refusesLife(t, "71", 4, list)
		lives(t, "70 of one kind", 4, list[:70], false)
	}
	turns := []impl.Event{}
	for at := range 71 {
		turns = append(turns, impl.Event{Kind: at%10 + 1, Id: at%9 + 1, Key: "k", Val: "v", Torn: -1})
	}
	lives(t, "in turn", 6, turns[:70], true)
	refusesLife(t, "71 in turn", 6, turns)
	refusesLife(t, "far too many", 6, slices.Repeat(turns, 3000))
	// The last of 70 is looked at ahead of the first.
	turns[69].Id = 10
	refusesLife(t, "the last is wrong", 6, turns[:70])
	turns[69].Id = 9
	lives(t, "the last is right", 6, turns[:70], false)
}

// A life by hand, with each kind of event, and each code that needs no full store.
func TestLifeByHand(t *testing.T) {
	follows(t, "by hand", 16, []line{
		{happenEnd(), 2, "", "", "", ""},
		{happenStop(), 2, "", "", "", ""},
		{happenPut("a", "0"), 2, "", "", "", ""},
		{happenDrop("a"), 2, "", "", "", ""},
		{happenPack(), 2, "", "", "", ""},
		{happenGet(1, "a"), 2, "", "", "", ""},
		{happenClose(1), 2, "", "", "", ""},
		{happenBegin(), 0, "", "", "", ""},
		{happenPut("b", "2"), 0, "", "", "b2", ""},
		{happenPut("a", "1"), 0, "", "", "a1 b2", ""},
		{happenPut("a", "3"), 0, "", "", "a3 b2", ""},
		{happenBegin(), 1, "", "", "a3 b2", ""},
		{happenDrop("b"), 0, "", "", "a3", ""},
		{happenDrop("b"), 2, "", "", "a3", ""},
		{happenRead(4), 0, "", "", "a3", "4:"},
		{happenEnd(), 0, "", "a3", "a3", "4:"},
		{happenEnd(), 2, "", "a3", "a3", "4:"},
		{happenGet(4, "a"), 2, "", "a3", "a3", "4:"},
		{happenRead(5), 0, "", "a3", "a3", "4:, 5:a3"},
		{happenRead(5), 1, "", "a3", "a3", "4:, 5:a3"},
		{happenRead(4), 1, "", "a3", "a3", "4:, 5:a3"},
		{happenRead(2), 0, "", "a3", "a3", "4:, 5:a3, 2:a3"},
		{happenRead(9), 3, "", "a3", "a3", "4:, 5:a3, 2:a3"},
		{happenBegin(), 0, "", "a3", "a3", "4:, 5:a3, 2:a3"},
		{happenPut("c", "9"), 0, "", "a3", "a3 c9", "4:, 5:a3, 2:a3"},
		{happenBegin(), 1, "", "a3", "a3 c9", "4:, 5:a3, 2:a3"},
		{happenGet(5, "c"), 2, "", "a3", "a3 c9", "4:, 5:a3, 2:a3"},
		{happenGet(5, "a"), 0, "3", "a3", "a3 c9", "4:, 5:a3, 2:a3"},
		{happenPack(), 0, "", "a3", "a3 c9", "4:, 5:a3, 2:a3"},
		{happenDrop("a"), 0, "", "a3", "c9", "4:, 5:a3, 2:a3"},
		{happenEnd(), 0, "", "c9", "c9", "4:, 5:a3, 2:a3"},
		{happenGet(5, "a"), 0, "3", "c9", "c9", "4:, 5:a3, 2:a3"},
		{happenClose(4), 0, "", "c9", "c9", "5:a3, 2:a3"},
		{happenClose(4), 2, "", "c9", "c9", "5:a3, 2:a3"},
		{happenGet(4, "a"), 2, "", "c9", "c9", "5:a3, 2:a3"},
		{happenRead(4), 0, "", "c9", "c9", "5:a3, 2:a3, 4:c9"},
		{happenGet(4, "c"), 0, "9", "c9", "c9", "5:a3, 2:a3, 4:c9"},
		{happenGet(2, "c"), 2, "", "c9", "c9", "5:a3, 2:a3, 4:c9"},
		{happenClose(5), 0, "", "c9", "c9", "2:a3, 4:c9"},
		{happenBegin(), 0, "", "c9", "c9", "2:a3, 4:c9"},
		{happenPut("d", ""), 0, "", "c9", "c9 d", "2:a3, 4:c9"},
		{happenDrop("c"), 0, "", "c9", "d", "2:a3, 4:c9"},
		{happenPut(long(25), "v"), 4, "", "c9", "d", "2:a3, 4:c9"},
		{happenPut("v", long(25)), 4, "", "c9", "d", "2:a3, 4:c9"},
		{happenStop(), 0, "", "c9", "d", "2:a3, 4:c9"},
		{happenStop(), 2, "", "c9", "d", "2:a3, 4:c9"},
		{happenBegin(), 0, "", "c9", "c9", "2:a3, 4:c9"},
		{happenPut("d", ""), 0, "", "c9", "c9 d", "2:a3, 4:c9"},
		{happenEnd(), 0, "", "c9 d", "c9 d", "2:a3, 4:c9"},
		{happenRead(1), 0, "", "c9 d", "c9 d", "2:a3, 4:c9, 1:c9 d"},
		{happenGet(1, "d"), 0, "", "c9 d", "c9 d", "2:a3, 4:c9, 1:c9 d"},
		{happenFall(0, -1), 0, "", "c9 d", "", ""},
		{happenGet(1, "d"), 2, "", "c9 d", "", ""},
		{happenClose(1), 2, "", "c9 d", "", ""},
		{happenEnd(), 2, "", "c9 d", "", ""},
		{happenRead(1), 0, "", "c9 d", "", "1:c9 d"},
		{happenBegin(), 0, "", "c9 d", "c9 d", "1:c9 d"},
		{happenPut("e", "5"), 0, "", "c9 d", "c9 d e5", "1:c9 d"},
		{happenFall(1, -1, true), 0, "", "c9 d e5", "", ""},
		{happenRead(1), 0, "", "c9 d e5", "", "1:c9 d e5"},
		{happenGet(1, "e"), 0, "5", "c9 d e5", "", "1:c9 d e5"},
	})
}

// Only the fields of its kind tell what an event does: all others may be anything that is right.
func TestFieldsOfOtherKinds(t *testing.T) {
	plain := slices.Concat(commitOf("a1", "b2"), []impl.Event{happenRead(3), happenBegin(), happenDrop("a"), happenPack(), happenGet(3, "a"), happenStop(), happenClose(3), happenBegin(), happenPut("c", "3"), happenFall(1, -1, true), happenRead(7)})
	want, _ := lives(t, "plain", 12, plain, true)
	for seed := range 40 {
		next := drawn(seed)
		odd := slices.Clone(plain)
		for at, e := range plain {
			reader := slices.Contains([]int{impl.EvRead, impl.EvGet, impl.EvClose}, e.Kind)
			if !reader {
				odd[at].Id = next(9) + 1
			}
			if e.Kind != impl.EvPut {
				odd[at].Val = long(next(31))
			}
			if e.Kind != impl.EvPut && e.Kind != impl.EvDrop && e.Kind != impl.EvGet {
				odd[at].Key = long(next(31))
			}
			if e.Kind != impl.EvFall {
				odd[at].Stage, odd[at].Left, odd[at].Torn = next(2), bits(next(1<<15), next(61)), next(62)-1
			}
		}
		got, ok := impl.RunLife(12, odd)
		if !ok {
			t.Fatalf("seed %d is refused", seed)
		}
		isWorld(t, "odd", got, want)
	}
}

// Keys and Vals at their edges: an event may have 30 bytes, a store takes 24.
func TestTextsOfEvents(t *testing.T) {
	for n := range 31 {
		code, left := 0, []impl.Pair{pair(long(n), long(n))}
		if n > 24 {
			code, left = 4, nil
		}
		drop, get := code/2, code/2
		w := codesAre(t, "texts", 8, []impl.Event{happenBegin(), happenPut(long(n), long(n)), happenEnd(), happenRead(9), happenGet(9, long(n)), happenBegin(), happenDrop(long(n)), happenStop()}, 0, code, 0, 0, get, 0, drop, 0)
		told := ""
		if n <= 24 {
			told = long(n)
		}
		if !slices.Equal(w.Model, left) || w.Told[4] != told {
			t.Errorf("%d bytes: Model %q, told %q", n, w.Model, w.Told[4])
		}
		w = codesAre(t, "a key alone", 8, []impl.Event{happenBegin(), happenPut(long(n), ""), happenPut("", long(n))}, 0, code, code)
		if (n <= 24) != (len(w.Next) > 0) {
			t.Errorf("%d bytes: Next %q", n, w.Next)
		}
	}
	// Any bytes, and empty ones.
	for _, key := range []string{"", "\x00", "\xff", "l\x00", "\n", "s", "oab"} {
		w := codesAre(t, "bytes", 8, []impl.Event{happenBegin(), happenPut(key, key), happenEnd(), happenRead(1), happenGet(1, key), happenGet(1, key+"\x00"), happenBegin(), happenDrop(key), happenEnd(), happenGet(1, key)}, 0, 0, 0, 0, 0, 2, 0, 0, 0, 0)
		if w.Told[4] != key || w.Told[9] != key || len(w.Model) != 0 {
			t.Errorf("%q: told %q, Model %q", key, w.Told, w.Model)
		}
	}
}

// A begin that is refused leaves Next as it is: what was put stays, and is committed.
func TestBeginTwice(t *testing.T) {
	for at := range 6 {
		events := slices.Insert(commitOf("a1", "b2", "c3", "d4"), 1+at%5, slices.Repeat([]impl.Event{happenBegin()}, 1+at/5)...)
		w, _ := lives(t, "begun twice", 9, events, true)
		if shown(w.Model) != "a1 b2 c3 d4" || w.Codes[1+at%5] != 1 {
			t.Errorf("begun twice at %d: %q, %v", at, w.Model, w.Codes)
		}
	}
}

// Who reads, in each order of three Ids: each sees what was when they began, in the order in which they began; who closes is gone, whoever else is there.
func TestSeensInEachOrder(t *testing.T) {
	for _, ids := range [][]int{{1, 2, 3}, {3, 2, 1}, {9, 1, 5}, {5, 9, 1}, {2, 9, 5}, {8, 3, 7}} {
		events := []impl.Event{}
		for at, id := range ids {
			events = slices.Concat(events, commitOf("k"+strconv.Itoa(at)), []impl.Event{happenRead(id)})
		}
		w, _ := lives(t, "who reads", 20, events, true)
		for at, id := range ids {
			if w.Seens[at].Id != id || shown(w.Seens[at].Pairs) != "k"+strconv.Itoa(at) {
				t.Fatalf("%v: Seens are %q", ids, shownSeens(w.Seens))
			}
		}
		for at := range ids {
			closed := append(slices.Clone(events), happenClose(ids[at]), happenClose(ids[at]), happenGet(ids[at], "k"), happenGet(ids[(at+1)%3], "k"))
			w, _ := lives(t, "who closes", 20, closed, true)
			if left := slices.Delete(slices.Clone(ids), at, at+1); len(w.Seens) != 2 || w.Seens[0].Id != left[0] || w.Seens[1].Id != left[1] {
				t.Fatalf("%v: without %d they are %q", ids, ids[at], shownSeens(w.Seens))
			}
			if got := w.Codes[len(events):]; !slices.Equal(got, []int{0, 2, 2, 0}) || w.Told[len(closed)-1] != strconv.Itoa((at+1)%3) {
				t.Fatalf("%v: the codes are %v, told is %q", ids, got, w.Told)
			}
		}
	}
	// A close that is refused leaves all others.
	for id := 1; id <= 9; id++ {
		events := slices.Concat(commitOf("a1"), []impl.Event{happenRead(5), happenRead(2), happenClose(id)})
		w, _ := lives(t, "who is not there", 9, events, true)
		if want := map[int]string{5: "2:a1", 2: "5:a1"}[id]; want != "" && shownSeens(w.Seens) != want || want == "" && len(w.Seens) != 2 {
			t.Errorf("behind a close of %d they are %q", id, shownSeens(w.Seens))
		}
	}
}

// Who reads is told what was when they began, whatever is written, committed, stopped and packed then.
func TestTellsWhatWas(t *testing.T) {
	events := slices.Concat(commitOf("a1", "b2"), []impl.Event{happenRead(3)}, commitOf("a5", "c6"), []impl.Event{happenRead(6)})
	for _, more := range [][]impl.Event{
		nil, commitOf("a7"), {happenBegin(), happenDrop("a"), happenEnd()}, {happenBegin(), happenDrop("a")}, {happenBegin(), happenPut("a", "9"), happenStop()},
		{happenBegin(), happenPack(), happenEnd()}, {happenBegin(), happenDrop("a"), happenDrop("b"), happenDrop("c"), happenPack(), happenEnd()},
		slices.Concat(commitOf("a8"), commitOf("a9"), commitOf("a0"), []impl.Event{happenBegin(), happenPut("b", "x")}),
	} {
		list := slices.Concat(events, more, []impl.Event{happenGet(3, "a"), happenGet(3, "b"), happenGet(3, "c"), happenGet(6, "a"), happenGet(6, "b"), happenGet(6, "c"), happenGet(3, "d"), happenGet(1, "a")})
		w, _ := lives(t, "what was", 24, list, true)
		from := len(events) + len(more)
		if !slices.Equal(w.Told[from:], []string{"1", "2", "", "5", "2", "6", "", ""}) || !slices.Equal(w.Codes[from:], []int{0, 0, 2, 0, 0, 0, 2, 2}) {
			t.Errorf("%v: told is %q, %v", more, w.Told[from:], w.Codes[from:])
		}
		for at, told := range w.Told[:from] {
			if told != "" {
				t.Errorf("event %d tells %q", at, told)
			}
		}
	}
}

// What is stopped is not committed, and what is written then begins with what was.
func TestStops(t *testing.T) {
	for at := range 5 {
		events := slices.Concat(commitOf("a1"), []impl.Event{happenBegin(), happenPut("b", "2"), happenDrop("a"), happenPack(), happenPut("c", "3")}[:1+at], []impl.Event{happenStop(), happenRead(1), happenBegin(), happenPut("z", "9")})
		w, _ := lives(t, "stopped", 12, events, true)
		if shown(w.Model) != "a1" || shown(w.Next) != "a1 z9" || shownSeens(w.Seens) != "1:a1" {
			t.Errorf("%d steps: Model %q, Next %q, %q", at, w.Model, w.Next, shownSeens(w.Seens))
		}
	}
}

// Where there is no room: CodeFull, and Failed, till it is ended or stopped; what was committed stays.
func TestFullLives(t *testing.T) {
	ahead := commitOf("a1", "b2", "c3", "d4")
	w := codesAre(t, "full", 4, slices.Concat(ahead, []impl.Event{happenBegin(), happenPut("e", "5")}), 0, 0, 0, 0, 0, 0, 0, 3)
	if !w.Store.Writing || !w.Store.Failed || shown(w.Next) != "a1 b2 c3 d4" {
		t.Errorf("full: %v, %v, Next %q", w.Store.Writing, w.Store.Failed, w.Next)
	}
	for name, c := range map[string]struct {
		more  []impl.Event
		codes []int
		next  string
	}{
		"ended":               {[]impl.Event{happenEnd()}, []int{3}, "a1 b2 c3 d4"},
		"ended twice":         {[]impl.Event{happenEnd(), happenEnd()}, []int{3, 2}, "a1 b2 c3 d4"},
		"stopped":             {[]impl.Event{happenStop()}, []int{0}, "a1 b2 c3 d4"},
		"begun":               {[]impl.Event{happenBegin()}, []int{1}, "a1 b2 c3 d4"},
		"a put that is taken": {[]impl.Event{happenPut("a", "9"), happenEnd()}, []int{0, 3}, "a9 b2 c3 d4"},
		"a drop behind it":    {[]impl.Event{happenDrop("a"), happenPut("e", "5"), happenEnd()}, []int{0, 3, 3}, "b2 c3 d4"},
		"packed behind it":    {[]impl.Event{happenPack(), happenEnd()}, []int{0, 3}, "a1 b2 c3 d4"},
		"again":               {[]impl.Event{happenEnd(), happenBegin(), happenPut("d", "0"), happenEnd()}, []int{3, 0, 0, 0}, "a1 b2 c3 d0"},
		"full twice":          {[]impl.Event{happenPut("e", "5"), happenPut("f", "6"), happenStop()}, []int{3, 3, 0}, "a1 b2 c3 d4"},
	} {
		events := slices.Concat(ahead, []impl.Event{happenBegin(), happenPut("e", "5")}, c.more)
		w, _ := lives(t, name, 4, events, true)
		if got := w.Codes[8:]; !slices.Equal(got, c.codes) || shown(w.Next) != c.next {
			t.Errorf("%s: the codes are %v, Next %q", name, got, w.Next)
		}
		if want := map[bool]string{true: "a1 b2 c3 d0", false: "a1 b2 c3 d4"}[name == "again"]; shown(w.Model) != want {
			t.Errorf("%s: Model %q", name, w.Model)
		}
	}
	// A drop for which there is no page.
	w = codesAre(t, "a drop", 4, slices.Concat(ahead, []impl.Event{happenRead(1), happenBegin(), happenDrop("a"), happenEnd(), happenBegin(), happenDrop("b"), happenEnd(), happenGet(1, "a")}), 0, 0, 0, 0, 0, 0, 0, 0, 0, 0, 0, 3, 3, 0)
	if shown(w.Model) != "b2 c3 d4" || shownSeens(w.Seens) != "1:a1 b2 c3 d4" || w.Told[13] != "1" {
		t.Errorf("a drop that is full: %q, %q", w.Model, shownSeens(w.Seens))
	}
}

// An end whose commit is refused, though nothing is Failed: more Frees than a meta has, kept for somebody who reads.
func TestEndThatIsFull(t *testing.T) {
	events := append(commitOf("k0"), happenRead(7))
	for at := range 20 {
		events = append(events, commitOf("k"+strconv.Itoa(at+1))...)
	}
	events = append(events, happenBegin(), happenPut("k", "lost"))
	codes := make([]int, len(events))
	w := codesAre(t, "ended", 40, append(slices.Clone(events), happenEnd(), happenGet(7, "k"), happenEnd(), happenBegin()), append(codes, 3, 0, 2, 0)...)
	if len(events) != 66 || shown(w.Model) != "k20" || shown(w.Next) != "k20" || w.Told[67] != "0" || len(w.Store.Meta.Frees) != 20 || w.Store.Failed {
		t.Errorf("ended: Model %q, Next %q, told %q", w.Model, w.Next, w.Told[66:])
	}
	w = codesAre(t, "ended", 40, append(slices.Clone(events), happenEnd()), append(codes, 3)...)
	if shown(w.Model) != "k20" || shown(w.Next) != "klost" || w.Store.Writing || shownSeens(w.Seens) != "7:k0" {
		t.Errorf("ended: Model %q, Next %q", w.Model, w.Next)
	}
	// There is no meta to be kept: whatever is left, the old tree counts.
	for _, fall := range []impl.Event{happenFall(0, -1, true), happenFall(1, -1, true, true), happenFall(1, 0, true)} {
		w = codesAre(t, "cut", 40, append(slices.Clone(events), fall, happenRead(7), happenGet(7, "k")), append(codes, 0, 0, 0)...)
		if shown(w.Model) != "k20" || w.Told[68] != "20" {
			t.Errorf("cut: Model %q, told %q", w.Model, w.Told[66:])
		}
	}
}

// Changes that are packed: the same pairs, in as few pages as must be, committed, stopped, behind puts and drops, and while somebody reads.
func TestPacksInLives(t *testing.T) {
	keys := strings.Split("abcdefghijklmnop", "")
	events := []impl.Event{happenBegin()}
	for at, key := range keys {
		events = append(events, happenPut(key, strconv.Itoa(at)))
	}
	events = append(events, happenEnd())
	loose, _ := lives(t, "loose", 40, events, false)
	pages, _ := impl.PagesOf(loose.Store.Disk, loose.Store.Meta.Root)
	for n := range 16 {
		list := append(slices.Clone(events), happenRead(2), happenBegin())
		for at := range n {
			list = append(list, happenDrop(keys[at*7%16]))
		}
		list = append(list, happenPack(), happenEnd())
		w, _ := lives(t, "packed", 40, list, true)
		fewer, _ := impl.PagesOf(w.Store.Disk, w.Store.Meta.Root)
		if len(w.Model) != 16-n || len(fewer) != leastPages(16-n) || len(fewer) >= len(pages) || w.Codes[len(list)-2] != 0 {
			t.Fatalf("without %d: %d pairs, %d pages, behind %d; the codes are %v", n, len(w.Model), len(fewer), len(pages), w.Codes)
		}
		if len(w.Seens) != 1 || !slices.Equal(w.Seens[0].Pairs, loose.Model) {
			t.Fatalf("without %d: who reads sees %q", n, shownSeens(w.Seens))
		}
	}
	codesAre(t, "nothing", 4, []impl.Event{happenPack(), happenBegin(), happenPack(), happenPack(), happenEnd(), happenPack()}, 2, 0, 0, 0, 0, 2)
	// One page beside the tree: packed once, and not twice in one change that has put something else there.
	w := codesAre(t, "no room", 5, slices.Concat(commitOf("a1", "b2"), []impl.Event{happenRead(1), happenBegin(), happenPut("c", "3"), happenEnd(), happenBegin(), happenPut("d", "4"), happenPack(), happenEnd()}), 0, 0, 0, 0, 0, 0, 0, 0, 0, 0, 3, 3)
	if shown(w.Model) != "a1 b2 c3" || shown(w.Next) != "a1 b2 c3 d4" {
		t.Errorf("no room: Model %q, Next %q", w.Model, w.Next)
	}
	w = codesAre(t, "no room, writing", 5, slices.Concat(commitOf("a1", "b2"), []impl.Event{happenRead(1), happenBegin(), happenPut("c", "3"), happenEnd(), happenBegin(), happenPut("d", "4"), happenPack(), happenPack(), happenPut("d", "5")}), 0, 0, 0, 0, 0, 0, 0, 0, 0, 0, 3, 3, 3)
	if !w.Store.Writing || !w.Store.Failed || shown(w.Next) != "a1 b2 c3 d4" {
		t.Errorf("no room: %v, %v, Next %q", w.Store.Writing, w.Store.Failed, w.Next)
	}
	codesAre(t, "no room, stopped, then none reads", 5, slices.Concat(commitOf("a1", "b2"), []impl.Event{happenRead(1), happenBegin(), happenPut("c", "3"), happenEnd(), happenBegin(), happenPut("d", "4"), happenPack(), happenStop(), happenClose(1), happenBegin(), happenPut("d", "4"), happenPack(), happenEnd()}), 0, 0, 0, 0, 0, 0, 0, 0, 0, 0, 3, 0, 0, 0, 0, 0, 0)
}

// fallsOf are all falls of both stages, with each choice of what is left of a few, shorter and longer than what is late, torn at each place and at none.
func fallsOf(late int) []impl.Event {
	list := []impl.Event{}
	for stage := range 2 {
		for size := range late + 3 {
			for mask := range 1 << size {
				for torn := -1; torn <= late+1; torn++ {
					list = append(list, happenFall(stage, torn, bits(mask, size)...))
				}
			}
		}
		list = append(list, happenFall(stage, -1, all(60)...), happenFall(stage, 60, all(60)...), happenFall(stage, 0, all(60)...), happenFall(stage, 60), happenFall(stage, -1, make([]bool, 60)...))
	}
	return list
}

// Falls in every way, at each place of a life: while nobody writes, behind an end and a stop, with nothing committed yet, while something is written; then the life goes on.
func TestFalls(t *testing.T) {
	places := map[string][]impl.Event{
		"nothing":               nil,
		"begun":                 {happenBegin()},
		"nothing committed":     {happenBegin(), happenPut("n", "1")},
		"all taken again":       {happenBegin(), happenPut("n", "1"), happenDrop("n")},
		"committed":             commitOf("a1", "b2"),
		"committed twice":       slices.Concat(commitOf("a1", "b2"), commitOf("c3")),
		"read":                  slices.Concat(commitOf("a1"), []impl.Event{happenRead(1)}, commitOf("a2"), []impl.Event{happenRead(9)}),
		"a change is begun":     append(commitOf("a1"), happenBegin()),
		"put":                   append(commitOf("a1"), happenBegin(), happenPut("b", "2")),
		"put twice":             append(commitOf("a1"), happenBegin(), happenPut("b", "2"), happenPut("b", "3")),
		"dropped, nothing left": append(commitOf("a1"), happenBegin(), happenDrop("a")),
		"packed":                append(commitOf("a1"), happenBegin(), happenPack()),
		"stopped":               append(commitOf("a1"), happenBegin(), happenPut("b", "2"), happenStop()),
		"read while written":    append(commitOf("a1"), happenRead(3), happenBegin(), happenPut("a", "2"), happenRead(4)),
		"fallen":                append(commitOf("a1"), happenBegin(), happenPut("b", "2"), happenFall(1, -1, true)),
		"fallen, torn":          append(commitOf("a1"), happenBegin(), happenPut("b", "2"), happenFall(1, 0, true)),
		"fallen, begun again":   append(commitOf("a1"), happenBegin(), happenPut("b", "2"), happenFall(1, 0, true), happenBegin(), happenPut("c", "3")),
	}
	for name, ahead := range places {
		was, _ := lives(t, name, 8, ahead, true)
		late := len(was.Store.Txn.Work.Disk.Late)
		for _, fall := range fallsOf(late) {
			list := append(slices.Clone(ahead), fall)
			now, _ := lives(t, name, 8, list, false)
			if whole := slices.Equal(now.Model, was.Model) || was.Store.Writing && slices.Equal(now.Model, was.Next); !whole || now.Codes[len(ahead)] != 0 || now.Told[len(ahead)] != "" {
				t.Fatalf("%s, %+v: Model %q, of %q and %q", name, fall, now.Model, was.Model, was.Next)
			}
			if len(now.Next) != 0 || len(now.Seens) != 0 || now.Store.Writing || now.Store.Failed || len(now.Store.Readers) != 0 || len(now.Store.Disk.Late) != 0 || !sameTxn(now.Store.Txn, impl.Txn{}) {
				t.Fatalf("%s, %+v: %+v", name, fall, now)
			}
			if fall.Stage == 0 && !slices.Equal(now.Model, was.Model) {
				t.Fatalf("%s, %+v: Model %q, not %q", name, fall, now.Model, was.Model)
			}
		}
		// Twice in a row, and gone on.
		for _, fall := range []impl.Event{happenFall(0, -1, all(3)...), happenFall(1, -1, true), happenFall(1, 0, true), happenFall(1, -1)} {
			list := slices.Concat(ahead, []impl.Event{fall, fall}, commitOf("y8", "z9"), []impl.Event{happenRead(2), happenGet(2, "z"), fall, happenGet(2, "z"), happenRead(2), happenGet(2, "y")})
			w, _ := lives(t, name+", gone on", 8, list, true)
			from := len(ahead)
			if !slices.Equal(w.Codes[from:], []int{0, 0, 0, 0, 0, 0, 0, 0, 0, 2, 0, 0}) || w.Told[from+7] != "9" || w.Told[from+11] != "8" {
				t.Fatalf("%s, gone on: %v, %q", name, w.Codes[from:], w.Told[from:])
			}
		}
	}
}

// What a fall leaves, by hand: which one of the two trees counts.
func TestFallsByHand(t *testing.T) {
	ahead := append(commitOf("a1"), happenRead(5), happenBegin(), happenPut("b", "2"), happenPut("c", "3"))
	yes, no := true, false
	for _, c := range []struct {
		fall impl.Event
		want string
	}{
		{happenFall(0, -1), "a1"}, {happenFall(0, -1, yes), "a1"}, {happenFall(0, -1, yes, yes, yes), "a1"}, {happenFall(0, 0, yes, yes, yes), "a1"}, {happenFall(0, -1, all(60)...), "a1"},
		{happenFall(1, -1), "a1"}, {happenFall(1, -1, no), "a1"}, {happenFall(1, -1, no, yes), "a1"}, {happenFall(1, 0, yes), "a1"}, {happenFall(1, 0, yes, yes), "a1"}, {happenFall(1, 0, all(60)...), "a1"},
		{happenFall(1, -1, yes), "a1 b2 c3"}, {happenFall(1, 1, yes), "a1 b2 c3"}, {happenFall(1, 1, yes, yes), "a1 b2 c3"}, {happenFall(1, 60, yes, no), "a1 b2 c3"}, {happenFall(1, -1, all(60)...), "a1 b2 c3"},
	} {
		follows(t, "which one counts", 9, []line{
			{ahead[0], 0, "", "", "", ""}, {ahead[1], 0, "", "", "a1", ""}, {ahead[2], 0, "", "a1", "a1", ""}, {ahead[3], 0, "", "a1", "a1", "5:a1"},
			{ahead[4], 0, "", "a1", "a1", "5:a1"}, {ahead[5], 0, "", "a1", "a1 b2", "5:a1"}, {ahead[6], 0, "", "a1", "a1 b2 c3", "5:a1"},
			{c.fall, 0, "", c.want, "", ""}, {happenGet(5, "a"), 2, "", c.want, "", ""}, {happenEnd(), 2, "", c.want, "", ""}, {c.fall, 0, "", c.want, "", ""},
			{happenRead(5), 0, "", c.want, "", "5:" + c.want}, {happenGet(5, "a"), 0, "1", c.want, "", "5:" + c.want},
			{happenBegin(), 0, "", c.want, c.want, "5:" + c.want}, {happenPut("d", "4"), 0, "", c.want, c.want + " d4", "5:" + c.want}, {happenEnd(), 0, "", c.want + " d4", c.want + " d4", "5:" + c.want},
			{c.fall, 0, "", c.want + " d4", "", ""},
		})
	}
}

// A change that is Failed may be cut, too: Model is what the tree that counts tells then.
func TestFallOfAFailedChange(t *testing.T) {
	ahead := slices.Concat(commitOf("a1", "b2", "c3", "d4"), []impl.Event{happenBegin(), happenDrop("a"), happenPut("e", "5"), happenPut("f", "6")})
	for _, c := range []struct {
		fall impl.Event
		want string
	}{{happenFall(0, -1, true), "a1 b2 c3 d4"}, {happenFall(1, -1), "a1 b2 c3 d4"}, {happenFall(1, 0, true), "a1 b2 c3 d4"}, {happenFall(1, -1, true), "b2 c3 d4 e5"}} {
		w := codesAre(t, "failed", 5, append(slices.Clone(ahead), c.fall), 0, 0, 0, 0, 0, 0, 0, 0, 0, 3, 0)
		if shown(w.Model) != c.want {
			t.Errorf("%+v: Model %q, not %q", c.fall, w.Model, c.want)
		}
	}
}

// As many Late as there may be: a put is full then; what is behind the 60th can't be left.
func TestLivesWithManyLate(t *testing.T) {
	events := []impl.Event{happenBegin()}
	for at := range 69 {
		events = append(events, happenPut("k"+strconv.Itoa(100+at%32), strconv.Itoa(at)))
	}
	w, met := lives(t, "many Late", 40, events, false)
	if met["put 3"] == 0 || len(w.Store.Txn.Work.Disk.Late) < 196 {
		t.Errorf("%d Late, %v", len(w.Store.Txn.Work.Disk.Late), met)
	}
	for _, fall := range []impl.Event{happenFall(0, -1, all(60)...), happenFall(0, 60, all(60)...), happenFall(1, -1, all(60)...), happenFall(1, 0, all(60)...)} {
		lives(t, "many Late, fallen", 40, append(slices.Clone(events[:69]), fall), false)
	}
}

// Every row of four events of a few, behind a life with something in it, on small disks.
func TestEachRowOfEvents(t *testing.T) {
	few := []impl.Event{
		happenBegin(), happenPut("b", "9"), happenDrop("a"), happenEnd(), happenStop(), happenRead(1), happenRead(2), happenGet(1, "a"), happenClose(1), happenPack(), happenFall(0, -1, true, true), happenFall(1, -1, true), happenFall(1, 0, true),
	}
	met := map[string]int{}
	for pages, ahead := range map[int][]impl.Event{
		4: slices.Concat(commitOf("a0", "c0", "d0", "e0"), []impl.Event{happenRead(2)}),
		6: slices.Concat(commitOf("a0", "c0"), []impl.Event{happenRead(1), happenBegin(), happenPut("a", "5")}),
	} {
		for row := range len(few) * len(few) * len(few) * len(few) {
			list := slices.Clone(ahead)
			for left, at := 4, row; left > 0; left, at = left-1, at/len(few) {
				list = append(list, few[at%len(few)])
			}
			_, now := lives(t, "a row", pages, list, false)
			for name, n := range now {
				met[name] += n
			}
		}
	}
	for _, want := range []string{"begin 0", "begin 1", "put 0", "put 2", "put 3", "drop 0", "drop 2", "drop 3", "end 0", "end 2", "end 3", "stop 0", "stop 2", "read 0", "read 1", "get 0", "get 2", "close 0", "close 2", "pack 0", "pack 2", "pack 3", "fall 0"} {
		if met[want] == 0 {
			t.Errorf("%s is not met", want)
		}
	}
}

// drawHappen is a drawn event: keys and Ids are some of few, so that they meet.
func drawHappen(next func(n int) int) impl.Event {
	kinds := []int{1, 1, 2, 2, 2, 2, 2, 2, 2, 2, 3, 3, 3, 4, 4, 5, 6, 6, 7, 7, 8, 9}
	e := impl.Event{Kind: kinds[next(len(kinds))], Id: 1 + next(5), Key: "k" + strconv.Itoa(100+next(20)), Val: strconv.Itoa(next(1000)), Torn: -1}
	if next(30) == 0 {
		e.Key = long(22 + next(9))
	}
	if next(30) == 0 {
		e.Val = long(22 + next(9))
	}
	if next(30) == 0 {
		e.Id = 1 + next(9)
	}
	if next(12) == 0 {
		e.Kind, e.Stage, e.Left = impl.EvFall, next(2), bits(next(1<<15), next(4)*next(21))
		if next(2) == 0 {
			e.Torn = next(4) * next(21)
		}
	}
	return e
}

// drawLife are the events of a drawn life.
func drawLife(seed int) (int, []impl.Event) {
	next, list := drawn(seed), []impl.Event{}
	for range 70 {
		list = append(list, drawHappen(next))
	}
	if seed%2 == 0 {
		return 4 + seed/2%6, list
	}
	return 4 + seed/2%13*3, list
}

// The promise: in a drawn life codes and answers are what the document tells, behind each event.
func TestDrawnLives(t *testing.T) {
	met := map[string]int{}
	for seed := range 400 {
		pages, events := drawLife(seed)
		_, now := lives(t, "seed "+strconv.Itoa(seed), pages, events, true)
		for name, n := range now {
			met[name] += n
		}
	}
	for _, want := range []string{"begin 0", "begin 1", "put 0", "put 2", "put 3", "put 4", "drop 0", "drop 2", "drop 3", "end 0", "end 2", "end 3", "stop 0", "stop 2", "read 0", "read 1", "read 3", "get 0", "get 2", "close 0", "close 2", "pack 0", "pack 2", "pack 3", "fall 0"} {
		if met[want] < 5 {
			t.Errorf("%s: %d times alone", want, met[want])
		}
	}
}

// Drawn events of which any field may be anything: a life of them is run just when all are right.
func TestAnyEvents(t *testing.T) {
	met := map[bool]int{}
	for seed := range 3000 {
		next := drawn(seed)
		pages, events := drawLife(seed)
		events = events[:next(71)]
		for range next(3) {
			if len(events) == 0 {
				break
			}
			e := &events[next(len(events))]
			switch next(7) {
			case 0:
				e.Kind = oddNumber(next)
			case 1:
				e.Id = oddNumber(next)
			case 2:
				e.Stage = oddNumber(next)
			case 3:
				e.Torn = oddNumber(next)
			case 4:
				e.Key = long(next(40))
			case 5:
				e.Val = long(next(40))
			case 6:
				e.Left = all(next(80))
			}
		}
		if next(8) == 0 {
			pages = oddNumber(next)
		}
		wrong := slices.ContainsFunc(events, func(e impl.Event) bool { return !impl.EventOk(e) })
		if wrong || pages < 4 || pages > 40 {
			refusesLife(t, "seed "+strconv.Itoa(seed), pages, events)
			met[false]++
			continue
		}
		lives(t, "seed "+strconv.Itoa(seed), pages, events, false)
		met[true]++
	}
	if met[true] < 300 || met[false] < 300 {
		t.Errorf("%d are run, %d are refused", met[true], met[false])
	}
}

// roomyEvents are the same events with spare room behind all lists, which is filled, in memory of their own.
func roomyEvents(events []impl.Event) []impl.Event {
	list := make([]impl.Event, 0, len(events)+3)
	for _, e := range events {
		e.Key, e.Val = strings.Clone(e.Key), strings.Clone(e.Val)
		e.Left = append(slices.Clone(e.Left), true, false, true)[:len(e.Left)]
		list = append(list, e)
	}
	return append(list, happenFall(1, 2, true), happenPut("spare", "spare"), happenRead(9))[:len(events)]
}

// wholeEvents is a copy of the events with all that is in the room behind their lists.
func wholeEvents(events []impl.Event) []impl.Event {
	list := slices.Clone(events[:cap(events)])
	for at, e := range list {
		list[at].Left = slices.Clone(e.Left[:cap(e.Left)])
	}
	return list
}

func sameEvent(a, b impl.Event) bool {
	return a.Kind == b.Kind && a.Id == b.Id && a.Key == b.Key && a.Val == b.Val && a.Stage == b.Stage && a.Torn == b.Torn && slices.Equal(a.Left, b.Left)
}

func scribbleEvents(events []impl.Event) {
	for _, e := range events[:cap(events)] {
		for at := range e.Left[:cap(e.Left)] {
			e.Left[:cap(e.Left)][at] = !e.Left[:cap(e.Left)][at]
		}
	}
	clear(events[:cap(events)])
}

func scribblePairs(list []impl.Pair) {
	for at := range list[:cap(list)] {
		list[:cap(list)][at] = pair("changed", "changed")
	}
}

func scribbleWorld(w impl.World) {
	scribbleStore(w.Store)
	scribblePairs(w.Model)
	scribblePairs(w.Next)
	for _, s := range w.Seens {
		scribblePairs(s.Pairs)
	}
	clear(w.Seens[:cap(w.Seens)])
	for at := range w.Codes[:cap(w.Codes)] {
		w.Codes[:cap(w.Codes)][at] = -7
	}
	for at := range w.Told[:cap(w.Told)] {
		w.Told[:cap(w.Told)][at] = "changed"
	}
}

// worldStretches are those of all lists of a world.
func worldStretches(w impl.World) []stretch {
	list := append(stretchesOf(w.Store), stretchOf(w.Model), stretchOf(w.Next), stretchOf(w.Seens), stretchOf(w.Codes), stretchOf(w.Told))
	for _, s := range w.Seens {
		list = append(list, stretchOf(s.Pairs))
	}
	return slices.DeleteFunc(list, func(s stretch) bool { return s.from == s.to })
}

func eventStretches(events []impl.Event) []stretch {
	list := []stretch{stretchOf(events)}
	for _, e := range events {
		list = append(list, stretchOf(e.Left))
	}
	return slices.DeleteFunc(list, func(s stretch) bool { return s.from == s.to })
}

// someLives are the events of lives of many kinds, some of them drawn, with how many pages they have; such as are refused are among them.
func someLives() map[string]struct {
	pages  int
	events []impl.Event
} {
	type one = struct {
		pages  int
		events []impl.Event
	}
	list := map[string]one{
		"nothing":          {9, nil},
		"committed":        {9, commitOf("a1", "b2", "c3")},
		"all see the same": {20, slices.Concat(commitOf("a1", "b2"), []impl.Event{happenRead(1), happenRead(2), happenRead(3), happenBegin()})},
		"ended":            {20, slices.Concat(commitOf("a1", "b2"), []impl.Event{happenRead(1), happenBegin(), happenDrop("a"), happenRead(4), happenGet(4, "a"), happenEnd(), happenRead(2), happenGet(2, "b")})},
		"packed":           {20, slices.Concat(commitOf("a1", "b2", "c3", "d4", "e5", "f6"), []impl.Event{happenRead(1), happenBegin(), happenPack(), happenPut("z", "9")})},
		"failed":           {4, slices.Concat(commitOf("a1", "b2", "c3", "d4"), []impl.Event{happenRead(7), happenBegin(), happenPut("e", "5"), happenGet(7, "a")})},
		"fallen":           {9, slices.Concat(commitOf("a1"), []impl.Event{happenRead(7), happenBegin(), happenPut("e", "5"), happenFall(1, -1, true, true), happenRead(3)})},
		"wrong":            {9, append(commitOf("a1"), impl.Event{Kind: 11, Id: 1, Left: all(3)})},
		"wrong size":       {3, commitOf("a1")},
		"too many":         {9, slices.Repeat(commitOf("a1"), 24)},
	}
	for seed := range 12 {
		pages, events := drawLife(seed)
		list["seed "+strconv.Itoa(seed)] = one{pages, events[:70-seed]}
	}
	return list
}

func TestLifeArgumentsStay(t *testing.T) {
	for name, c := range someLives() {
		events := roomyEvents(c.events)
		want := wholeEvents(events)
		got, ok := impl.RunLife(c.pages, events)
		for _, e := range events {
			impl.EventOk(e)
		}
		if !slices.EqualFunc(wholeEvents(events), want, sameEvent) {
			t.Errorf("%s: RunLife writes into its argument", name)
		}
		other, is := impl.RunLife(c.pages, c.events)
		if ok != is || !sameWorld(got, other) {
			t.Errorf("%s: with room behind its lists another thing is answered", name)
		}
	}
	for n := range 7 {
		for _, key := range []string{"k100", "k103", "k1", "z", ""} {
			list := roomyPairs()[:n]
			want := slices.Clone(list[:cap(list)])
			impl.ModelPut(list, key, "new")
			impl.ModelDrop(list, key)
			if !slices.Equal(list[:cap(list)], want) {
				t.Errorf("%q of %d: a list is written into", key, n)
			}
		}
	}
}

func TestWorldsAreNewMemory(t *testing.T) {
	for name, c := range someLives() {
		events := roomyEvents(c.events)
		got, _ := impl.RunLife(c.pages, events)
		other, _ := impl.RunLife(c.pages, events)
		if !apart(slices.Concat(eventStretches(events), worldStretches(got), worldStretches(other))) {
			t.Fatalf("%s: lists share memory", name)
		}
		want := ownWorld(got)
		scribbleEvents(events)
		scribbleWorld(other)
		if !sameWorld(got, want) {
			t.Fatalf("%s: what is changed elsewhere changes the answer", name)
		}
	}
	for n := range 7 {
		for _, key := range []string{"k100", "k103", "k1", "z", ""} {
			list := roomyPairs()[:n]
			put, gone, again, once := impl.ModelPut(list, key, "new"), impl.ModelDrop(list, key), impl.ModelPut(list, key, "new"), impl.ModelDrop(list, key)
			all := []stretch{stretchOf(list), stretchOf(put), stretchOf(gone), stretchOf(again), stretchOf(once)}
			if !apart(slices.DeleteFunc(all, func(s stretch) bool { return s.from == s.to })) {
				t.Errorf("%q of %d: lists share memory", key, n)
			}
		}
	}
}

// pairTexts are the texts of pairs.
func pairTexts(list []impl.Pair) []string {
	texts := []string{}
	for _, p := range list {
		texts = append(texts, p.Key, p.Val)
	}
	return texts
}

// Texts, too, are new memory: none is one of an event, and no two lists have one of the same memory.
func TestWorldTextsAreNewMemory(t *testing.T) {
	shares := func(texts, held []string) bool {
		return slices.ContainsFunc(texts, func(text string) bool {
			return slices.ContainsFunc(held, func(other string) bool { return sharesMemory(text, other) })
		})
	}
	for name, c := range someLives() {
		events := roomyEvents(c.events)
		held := []string{}
		for _, e := range events {
			held = append(held, e.Key, e.Val)
		}
		w, _ := impl.RunLife(c.pages, events)
		lists := [][]string{w.Told, textsOf(w.Store.Disk, w.Store.Txn.Work.Disk), pairTexts(w.Model), pairTexts(w.Next)}
		for _, s := range w.Seens {
			lists = append(lists, pairTexts(s.Pairs))
		}
		for at, texts := range lists {
			if shares(texts, held) {
				t.Fatalf("%s hands out a text of its argument", name)
			}
			for _, other := range lists[:at] {
				if shares(texts, other) {
					t.Fatalf("%s: two lists share a text", name)
				}
			}
		}
	}
	list, key, val := roomyPairs(), strings.Clone("k103"), strings.Clone("new")
	held := append(pairTexts(list), key, val)
	if shares(pairTexts(impl.ModelPut(list, key, val)), held) || shares(pairTexts(impl.ModelPut(list, val, key)), held) || shares(pairTexts(impl.ModelDrop(list, key)), held) {
		t.Error("a list hands out a text of its argument")
	}
}

// An empty list and nil are the same value.
func TestLifeEmptyAndNil(t *testing.T) {
	for name, c := range someLives() {
		none, empty := slices.Clone(c.events), slices.Clone(c.events)
		for at, e := range c.events {
			if len(e.Left) == 0 {
				none[at].Left, empty[at].Left = nil, []bool{}
			}
			if impl.EventOk(none[at]) != impl.EventOk(empty[at]) {
				t.Errorf("%s: an empty list is not nil", name)
			}
		}
		one, ok := impl.RunLife(c.pages, none)
		other, is := impl.RunLife(c.pages, empty)
		if ok != is || !sameWorld(one, other) {
			t.Errorf("%s: an empty list is not nil", name)
		}
	}
	if !slices.Equal(impl.ModelPut(nil, "k", "v"), impl.ModelPut([]impl.Pair{}, "k", "v")) || len(impl.ModelDrop(nil, "k")) != 0 || len(impl.ModelDrop([]impl.Pair{}, "k")) != 0 {
		t.Error("an empty list of pairs is not nil")
	}
}

// No function keeps anything: the same is answered whatever was asked between, and by whomever at once.
func TestLivesKeepNothing(t *testing.T) {
	list := someLives()
	first := map[string]impl.World{}
	for name, c := range list {
		first[name], _ = impl.RunLife(c.pages, c.events)
	}
	var all sync.WaitGroup
	for range 4 {
		all.Go(func() {
			for name, c := range list {
				if got, _ := impl.RunLife(c.pages, c.events); !sameWorld(got, first[name]) {
					t.Errorf("%s answers something else the second time", name)
				}
			}
		})
	}
	all.Wait()
}
