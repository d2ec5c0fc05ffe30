package tests

import (
	"maps"
	"math"
	"slices"
	"strconv"
	"strings"
	"sync"
	"testing"

	"loop.example/g00240/impl"
)

// truths is what is true of a world.
type truths struct {
	kept, seen, written, sound bool
}

var allTrue = truths{true, true, true, true}

func truthsOf(w impl.World) truths {
	return truths{impl.Kept(w), impl.SeenStill(w), impl.Written(w), impl.SoundWorld(w)}
}

// plainTells is whether there is such a tree with just these pairs, by the document's words.
func plainTells(d impl.Disk, root int, list []impl.Pair) bool {
	if root == 0 {
		return len(list) == 0
	}
	stops, _ := plainStops(d, root, 0)
	_, ok := plainTreePages(d, root)
	return ok && plainSame(plainPairs(stops), list)
}

func plainSame(a, b []impl.Pair) bool {
	for at := range max(len(a), len(b)) {
		if at >= len(a) || at >= len(b) || a[at].Key != b[at].Key || a[at].Val != b[at].Val {
			return false
		}
	}
	return true
}

// plainTruths is each truth by the document's words.
func plainTruths(w impl.World) truths {
	s := w.Store
	out := truths{kept: plainTells(s.Disk, s.Meta.Root, w.Model), seen: true, written: true}
	for _, r := range s.Readers {
		at := 0
		for at < len(w.Seens) && w.Seens[at].Id != r.Id {
			at++
		}
		if at == len(w.Seens) || !plainTells(s.Disk, r.Meta.Root, w.Seens[at].Pairs) {
			out.seen = false
		}
	}
	if s.Writing && !s.Failed {
		out.written = plainTells(s.Txn.Work.Disk, s.Txn.Root, w.Next)
	}
	stops, _ := plainStops(s.Disk, s.Meta.Root, 0)
	_, tree := plainTreePages(s.Disk, s.Meta.Root)
	tree = tree && (s.Meta.Root == 0 || plainTreeOk(s.Disk, stops))
	out.sound = plainMetaOk(s.Meta) && tree && plainPagesRight(s.Disk, s.Meta) && out.kept && out.seen && out.written
	return out
}

// truthsAre holds what is true of a world by hand, and by the document's words.
func truthsAre(t *testing.T, name string, w impl.World, want truths) {
	t.Helper()
	if got := truthsOf(w); got != want {
		t.Errorf("%s: %+v, not %+v", name, got, want)
	}
	if got := plainTruths(w); got != want {
		t.Errorf("%s: by the document's words it is %+v, not %+v", name, got, want)
	}
}

// truthsArePlain holds what is true of a world by the document's words.
func truthsArePlain(t *testing.T, name string, w impl.World) truths {
	t.Helper()
	got, want := truthsOf(w), plainTruths(w)
	if got != want {
		t.Fatalf("%s: %+v, not %+v: %+v", name, got, want, w)
	}
	return got
}

// lived is the world behind a life.
func lived(t *testing.T, pages int, parts ...[]impl.Event) impl.World {
	t.Helper()
	w, ok := impl.RunLife(pages, slices.Concat(parts...))
	if !ok {
		t.Fatal("a life is refused")
	}
	return w
}

// worldOf is the world of a life that went on beyond what RunLife takes.
func worldOf(l life) impl.World {
	w := impl.World{Store: l.store, Model: l.model, Next: l.next}
	for _, id := range slices.Sorted(maps.Keys(l.seen)) {
		w.Seens = append(w.Seens, impl.Seen{Id: id, Pairs: l.seen[id]})
	}
	return w
}

// tallWorld is one in which two read elder trees, and a change is being written: no two of these trees tell the same.
func tallWorld(t *testing.T) impl.World {
	t.Helper()
	return lived(t, 30, commitOf("a1", "c2", "e3", "g4", "i5", "k6"), []impl.Event{happenRead(5)}, commitOf("m7", "a8"), []impl.Event{happenRead(2)}, commitOf("o9"), []impl.Event{happenBegin(), happenPut("q0", "x"), happenDrop("c")})
}

// soundWorlds are worlds of which all is true, behind lives of many kinds.
func soundWorlds(t *testing.T) map[string]impl.World {
	t.Helper()
	some, more := commitOf("a1", "c2", "e3", "g4", "i5", "k6"), commitOf("b7", "a8")
	reads := []impl.Event{happenRead(7), happenRead(3), happenRead(9)}
	writes := []impl.Event{happenBegin(), happenPut("z", "9"), happenDrop("c")}
	list := map[string]impl.World{
		"nothing":                 lived(t, 9),
		"nothing, read":           lived(t, 9, reads),
		"nothing, begun":          lived(t, 9, []impl.Event{happenBegin()}),
		"nothing, read and begun": lived(t, 9, reads, []impl.Event{happenBegin()}),
		"at rest":                 lived(t, 20, some),
		"read":                    lived(t, 20, some, reads, more),
		"begun":                   lived(t, 20, some, []impl.Event{happenBegin()}),
		"written":                 lived(t, 20, some, writes),
		"read and written":        lived(t, 30, some, reads[:1], more, reads[1:], writes),
		"all taken":               lived(t, 20, commitOf("a1"), []impl.Event{happenRead(4), happenBegin(), happenDrop("a"), happenEnd()}),
		"being taken":             lived(t, 20, commitOf("a1"), []impl.Event{happenRead(4), happenBegin(), happenDrop("a")}),
		"stopped":                 lived(t, 20, some, writes, []impl.Event{happenStop()}),
		"packed":                  lived(t, 30, some, reads, writes, []impl.Event{happenPack(), happenEnd()}),
		"being packed":            lived(t, 30, some, reads, writes, []impl.Event{happenPack()}),
		"failed":                  lived(t, 4, commitOf("a1", "b2", "c3", "d4"), []impl.Event{happenRead(7), happenBegin(), happenDrop("a"), happenPut("e", "5"), happenPut("f", "6")}),
		"behind a failure":        lived(t, 4, commitOf("a1", "b2", "c3", "d4"), []impl.Event{happenBegin(), happenPut("e", "5"), happenEnd()}),
		"fallen":                  lived(t, 20, some, reads, writes, []impl.Event{happenFall(1, -1, true, true)}),
		"tall":                    tallWorld(t),
	}
	for seed := range 10 {
		pages, events := drawLife(seed)
		list["seed "+strconv.Itoa(seed)] = lived(t, pages, events[:70-seed*3])
	}
	return list
}

// changed is the world with one thing of it another.
func changed(w impl.World, change func(w *impl.World)) impl.World {
	out := ownWorld(w)
	change(&out)
	return out
}

// otherLists are lists that are not the same as this one, each by one thing.
func otherLists(list []impl.Pair) map[string][]impl.Pair {
	out := map[string][]impl.Pair{}
	for at := range len(list) + 1 {
		for _, p := range []impl.Pair{pair("", ""), pair("new", "new"), pair("\xff", "")} {
			out["more at "+strconv.Itoa(at)+p.Key] = slices.Insert(slices.Clone(list), at, p)
		}
	}
	for at, p := range list {
		of := " at " + strconv.Itoa(at)
		with := func(other impl.Pair) []impl.Pair {
			l := slices.Clone(list)
			l[at] = other
			return l
		}
		out["twice"+of] = slices.Insert(slices.Clone(list), at, p)
		out["fewer"+of] = slices.Delete(slices.Clone(list), at, at+1)
		out["a Key"+of] = with(pair(p.Key+"\x00", p.Val))
		out["another Key"+of] = with(pair("Z"+p.Key, p.Val))
		out["a Val"+of] = with(pair(p.Key, p.Val+"\x00"))
		out["another Val"+of] = with(pair(p.Key, "Z"+p.Val))
		if p.Key != p.Val {
			out["changed about"+of] = with(pair(p.Val, p.Key))
		}
		if p.Key != "" {
			out["no Key"+of] = with(pair("", p.Val))
			out["the Key parted elsewhere"+of] = with(pair(p.Key[:len(p.Key)-1], p.Key[len(p.Key)-1:]+p.Val))
		}
		if p.Val != "" {
			out["no Val"+of] = with(pair(p.Key, ""))
			out["a turned Val"+of] = with(pair(p.Key, turned(p.Val, len(p.Val)-1, 1)))
		}
		for other := range at {
			if list[other] != p {
				l := with(list[other])
				l[other] = p
				out["in another order"+of+", "+strconv.Itoa(other)] = l
			}
		}
	}
	if len(list) > 0 {
		out["nothing"] = nil
		out["twice as long"] = append(slices.Clone(list), list...)
	}
	return out
}

// samePairs holds what is told of two lists, in both orders.
func samePairs(t *testing.T, name string, a, b []impl.Pair, want bool) {
	t.Helper()
	if impl.SamePairs(a, b) != want || impl.SamePairs(b, a) != want {
		t.Errorf("%s: of %d and %d: not %v", name, len(a), len(b), want)
	}
}

// Every list of up to four pairs of a few, against every other.
func TestSamePairs(t *testing.T) {
	few := []impl.Pair{pair("", ""), pair("a", ""), pair("", "a"), pair("a", "b"), pair("b", "a")}
	lists := [][]impl.Pair{nil}
	for from, size := 0, 0; size < 4; size++ {
		end := len(lists)
		for ; from < end; from++ {
			for _, p := range few {
				lists = append(lists, append(slices.Clone(lists[from]), p))
			}
		}
	}
	if len(lists) != 1+5+25+125+625 {
		t.Fatalf("there are %d lists", len(lists))
	}
	for one, a := range lists {
		for other, b := range lists[:one+1] {
			if impl.SamePairs(a, b) != (one == other) || impl.SamePairs(b, a) != (one == other) {
				t.Fatalf("%q, %q: not %v", a, b, one == other)
			}
		}
	}
	samePairs(t, "nothing", nil, []impl.Pair{}, true)
	samePairs(t, "nothing twice", []impl.Pair{}, []impl.Pair{}, true)
	samePairs(t, "nil twice", nil, nil, true)
	samePairs(t, "nothing and an empty pair", nil, []impl.Pair{{}}, false)
}

// Lists of any length and order, with a Key twice: each against one that is another by one thing.
func TestSamePairsButOne(t *testing.T) {
	backward := pairsOf(5)
	slices.Reverse(backward)
	for name, list := range map[string][]impl.Pair{
		"nothing": nil, "one": pairsOf(1), "nine": pairsOf(9), "they descend": backward, "one Key twice": {pair("a", "1"), pair("a", "2"), pair("b", "1")}, "one pair twice": {pair("a", "1"), pair("a", "1")},
		"any bytes": {pair("\x00", "\xff"), pair("\xff\xfe", "\n"), pair("", " "), pair("ä", "")}, "long texts": {pair(long(1000), long(999)), pair(long(999), long(1000))},
	} {
		own := []impl.Pair{}
		for _, p := range list {
			own = append(own, pair(strings.Clone(p.Key), strings.Clone(p.Val)))
		}
		samePairs(t, name, list, own, true)
		samePairs(t, name, list, list, true)
		for of, other := range otherLists(list) {
			samePairs(t, name+", "+of, list, other, false)
		}
	}
	many := slices.Repeat(pairsOf(40), 500)
	last := slices.Clone(many)
	samePairs(t, "many", many, last, true)
	last[len(last)-1].Val += "!"
	samePairs(t, "the last one", many, last, false)
	samePairs(t, "one more", many, many[:len(many)-1], false)
	samePairs(t, "one list, a part of the other", many[:40], many[40:80], true)
}

// Behind each event of a life all is true.
func staysTrue(t *testing.T, name string, pages int, events []impl.Event) impl.World {
	t.Helper()
	var w impl.World
	for at := range len(events) + 1 {
		w = lived(t, pages, events[:at])
		truthsAre(t, name+", behind event "+strconv.Itoa(at), w, allTrue)
		if t.Failed() {
			t.FailNow()
		}
	}
	return w
}

func TestTruthsOfEachKind(t *testing.T) {
	some := commitOf("a1", "c2", "e3", "g4", "i5", "k6")
	for name, c := range map[string]struct {
		pages  int
		events []impl.Event
	}{
		"nothing":              {4, nil},
		"written":              {12, slices.Concat(some, []impl.Event{happenBegin(), happenPut("b", "1"), happenPut("b", "2"), happenDrop("a"), happenDrop("z"), happenPut(long(25), ""), happenEnd()})},
		"stopped":              {12, slices.Concat(some, []impl.Event{happenBegin(), happenPut("b", "1"), happenStop(), happenBegin(), happenDrop("a"), happenStop(), happenStop()})},
		"packed":               {20, slices.Concat(some, []impl.Event{happenPack(), happenRead(1), happenBegin(), happenPack(), happenPut("x", ""), happenPack(), happenEnd(), happenGet(1, "a")})},
		"read":                 {20, slices.Concat([]impl.Event{happenRead(4)}, some, []impl.Event{happenRead(1), happenRead(1), happenRead(9), happenRead(2), happenGet(4, "a"), happenGet(9, "a"), happenClose(1), happenClose(1), happenRead(2)})},
		"full":                 {4, slices.Concat(commitOf("a1", "b2", "c3", "d4"), []impl.Event{happenRead(8), happenBegin(), happenPut("e", "5"), happenPut("a", "6"), happenPack(), happenEnd(), happenBegin(), happenDrop("a"), happenEnd(), happenBegin(), happenDrop("b"), happenStop()})},
		"taken":                {9, slices.Concat(commitOf("a1", "b2"), []impl.Event{happenBegin(), happenDrop("a"), happenDrop("b"), happenEnd(), happenRead(1), happenBegin(), happenPack(), happenPut("a", "1"), happenDrop("a"), happenEnd()})},
		"begun and fallen":     {9, []impl.Event{happenBegin(), happenFall(1, -1, true), happenBegin(), happenEnd(), happenBegin(), happenBegin(), happenFall(0, 0)}},
		"of nobody":            {9, []impl.Event{happenEnd(), happenStop(), happenPut("a", ""), happenDrop("a"), happenPack(), happenGet(1, "a"), happenClose(1), happenFall(0, -1)}},
		"fallen while it's so": {20, slices.Concat(some, []impl.Event{happenRead(3), happenBegin(), happenPut("b", "2"), happenFall(0, -1, true, true), happenRead(3), happenBegin(), happenPut("b", "3"), happenFall(1, -1, true), happenGet(3, "b"), happenRead(3), happenGet(3, "b"), happenBegin(), happenDrop("a"), happenPack(), happenFall(1, 0, true), happenEnd()})},
	} {
		staysTrue(t, name, c.pages, c.events)
	}
}

// The promise: in drawn lives all is true behind each event, and no page is lost; what was committed last is there behind a fall, or what was just being committed; whoever reads sees the same till they end.
func TestTruthsOfDrawnLives(t *testing.T) {
	falls, reads := map[string]int{}, 0
	for seed := range 200 {
		pages, events := drawLife(seed + 1000)
		name := "seed " + strconv.Itoa(seed)
		was := lived(t, pages)
		for at, e := range events {
			w := lived(t, pages, events[:at+1])
			truthsAre(t, name, w, allTrue)
			if e.Kind == impl.EvFall {
				falls[fallsWhole(t, name, was, w)]++
			} else {
				reads += seesTheSame(t, name, was, w, e)
			}
			if t.Failed() {
				t.Fatalf("%s: event %d, %+v", name, at, e)
			}
			was = w
		}
	}
	if falls["the old one"] < 50 || falls["the new one"] < 15 || reads < 2000 {
		t.Errorf("%v, %d times somebody reads", falls, reads)
	}
}

// fallsWhole tells what is there behind a fall: what was committed, or what was being committed, as a whole.
func fallsWhole(t *testing.T, name string, was, now impl.World) string {
	t.Helper()
	next := was.Next
	if was.Store.Failed {
		// What was put and taken till then is what the change tells.
		next, _ = impl.AllPairs(was.Store.Txn.Work.Disk, was.Store.Txn.Root)
	}
	if now.Store.Writing || now.Store.Failed || len(now.Store.Readers)+len(now.Seens)+len(now.Next) > 0 {
		t.Errorf("%s: behind a fall somebody reads or writes", name)
	}
	if plainSame(now.Model, was.Model) {
		return "the old one"
	}
	if !was.Store.Writing || !plainSame(now.Model, next) {
		t.Errorf("%s: behind a fall there is %q, and not %q or %q", name, now.Model, was.Model, next)
	}
	return "the new one"
}

// seesTheSame holds that whoever went on reading sees what they saw, and answers how many these are.
func seesTheSame(t *testing.T, name string, was, now impl.World, e impl.Event) int {
	t.Helper()
	saw := map[int][]impl.Pair{}
	for _, s := range was.Seens {
		saw[s.Id] = s.Pairs
	}
	if e.Kind == impl.EvClose {
		delete(saw, e.Id)
	}
	for _, id := range idsOf(now.Store) {
		pairs, there := saw[id]
		if delete(saw, id); !there {
			pairs = was.Model
		}
		for _, p := range pairs {
			if val, code := impl.ReaderGet(now.Store, id, p.Key); val != p.Val || code != 0 {
				t.Errorf("%s: reader %d gets %q of %q, not %q; the code is %d", name, id, val, p.Key, p.Val, code)
			}
		}
		for _, p := range slices.Concat(now.Model, now.Next) {
			_, code := impl.ReaderGet(now.Store, id, p.Key)
			if there := slices.ContainsFunc(pairs, func(q impl.Pair) bool { return q.Key == p.Key }); there != (code == 0) {
				t.Errorf("%s: reader %d gets %q: the code is %d", name, id, p.Key, code)
			}
		}
	}
	if len(saw) > 0 {
		t.Errorf("%s: %d readers are gone that did not end", name, len(saw))
	}
	return len(now.Store.Readers)
}

// Lives that go on and on, with readers of elder trees: all is true behind each step.
func TestTruthsOfLongLives(t *testing.T) {
	for seed := range 30 {
		next, name := drawn(seed+77), "seed "+strconv.Itoa(seed)
		l := newLife(t, 4+seed%10*4)
		for range 250 {
			l, _ = l.do(t, drawEvent(next))
			truthsAre(t, name, worldOf(l), allTrue)
			if next(40) == 0 {
				l.store, l.seen = opened(t, impl.FallDisk(l.store.Disk, bits(next(1<<15), 60), next(60)-1)), map[int][]impl.Pair{}
				truthsAre(t, name+", fallen", worldOf(l), allTrue)
			}
		}
		if t.Failed() {
			t.FailNow()
		}
	}
}

// Many commits one behind the other while nobody reads: pages are given again, so that few are enough, and none is lost.
func TestManyCommits(t *testing.T) {
	for pages, keys := range map[int]int{4: 1, 5: 4, 9: 9, 16: 20, 40: 40} {
		l := newLife(t, pages)
		for at := range 400 {
			for _, e := range []event{{what: "begin"}, {what: "put", key: "k" + strconv.Itoa(100+at*7%keys), val: strconv.Itoa(at)}, {what: "end"}} {
				code := 0
				if l, code = l.do(t, e); code != 0 && pages < 9 {
					t.Fatalf("%d pages, commit %d: the code of %s is %d", pages, at, e.what, code)
				}
				truthsAre(t, "many commits", worldOf(l), allTrue)
			}
			if t.Failed() {
				t.Fatalf("%d pages, commit %d", pages, at)
			}
		}
		if l.store.Meta.Tx < 100 || l.store.Meta.Next > pages || len(l.model) == 0 {
			t.Errorf("%d pages: %d commits, Next %d, %d pairs", pages, l.store.Meta.Tx, l.store.Meta.Next, len(l.model))
		}
	}
	for pages := 4; pages <= 12; pages += 4 {
		events := []impl.Event{}
		for at := range 23 {
			events = append(events, commitOf("k"+strconv.Itoa(at))...)
		}
		if w := staysTrue(t, "commits", pages, events); shown(w.Model) != "k22" || w.Store.Meta.Tx != 23 {
			t.Errorf("%d pages: Model %q", pages, w.Model)
		}
	}
}

// A store that falls twice, and once more, with nothing written meanwhile: behind the second fall it is as behind the first.
func TestFallsWithNothingBetween(t *testing.T) {
	ahead := slices.Concat(commitOf("a1", "c2", "e3"), []impl.Event{happenRead(4)}, commitOf("g4", "i5", "a6"))
	for _, writes := range [][]impl.Event{
		nil, {happenBegin()}, {happenBegin(), happenPut("z", "9"), happenDrop("a")}, {happenBegin(), happenDrop("c"), happenPack()}, {happenBegin(), happenPut("z", "9"), happenStop()}, commitOf("z9"),
	} {
		for _, fall := range fallsOf(1) {
			events := slices.Concat(ahead, writes, []impl.Event{fall})
			once := lived(t, 20, events)
			truthsAre(t, "fallen", once, allTrue)
			for _, again := range []impl.Event{fall, happenFall(0, -1), happenFall(1, -1, true, true), happenFall(0, 0, true), happenFall(1, 3)} {
				twice := lived(t, 20, events, []impl.Event{again})
				truthsAre(t, "fallen twice", twice, allTrue)
				thrice := lived(t, 20, events, []impl.Event{again, fall, again})
				if !sameStore(once.Store, twice.Store) || !sameStore(once.Store, thrice.Store) || !plainSame(once.Model, twice.Model) || !plainSame(once.Model, thrice.Model) {
					t.Fatalf("%+v, %+v: fallen again there is another store", fall, again)
				}
			}
			on := lived(t, 20, events, commitOf("x0"))
			if truthsAre(t, "gone on", on, allTrue); !plainSame(on.Model, withKey(once.Model, "x", "0")) {
				t.Fatalf("%+v: behind it %q is committed on %q", fall, on.Model, once.Model)
			}
		}
	}
}

func TestTruthsOfSoundWorlds(t *testing.T) {
	for name, w := range soundWorlds(t) {
		truthsAre(t, name, w, allTrue)
	}
}

// Model is another: Kept is false, and nothing else but what asks for it.
func TestKeptOfOtherModels(t *testing.T) {
	for name, w := range soundWorlds(t) {
		for of, list := range otherLists(w.Model) {
			truthsAre(t, name+", "+of, changed(w, func(w *impl.World) { w.Model = list }), truths{false, true, true, false})
		}
	}
}

// The Pairs of one Seen are others, of each.
func TestSeenStillOfOtherPairs(t *testing.T) {
	seens := 0
	for name, w := range soundWorlds(t) {
		for at, s := range w.Seens {
			for of, list := range otherLists(s.Pairs) {
				truthsAre(t, name+", "+of, changed(w, func(w *impl.World) { w.Seens[at].Pairs = list }), truths{true, false, true, false})
			}
			seens++
		}
	}
	if seens < 10 {
		t.Errorf("there are %d Seens alone", seens)
	}
}

// Next is another: that is asked while it is Writing alone, and not of a change that is Failed.
func TestWrittenOfOtherNexts(t *testing.T) {
	met := map[truths]int{}
	for name, w := range soundWorlds(t) {
		want := allTrue
		if w.Store.Writing && !w.Store.Failed {
			want = truths{true, true, false, false}
		}
		for of, list := range otherLists(w.Next) {
			truthsAre(t, name+", "+of, changed(w, func(w *impl.World) { w.Next = list }), want)
			met[want]++
		}
		truthsAre(t, name+", not Writing", changed(w, func(w *impl.World) { w.Store.Writing, w.Next = false, pairsOf(3) }), allTrue)
		truthsAre(t, name+", failed", changed(w, func(w *impl.World) { w.Store.Writing, w.Store.Failed, w.Next = true, true, pairsOf(3) }), allTrue)
		truthsAre(t, name+", failed without a change", changed(w, func(w *impl.World) { w.Store.Writing, w.Store.Failed, w.Next = false, true, pairsOf(3) }), allTrue)
		truthsAre(t, name+", no change, but Writing", changed(w, func(w *impl.World) {
			w.Store.Writing, w.Store.Failed, w.Store.Txn, w.Next = true, false, impl.Txn{}, pairsOf(3)
		}), truths{true, true, false, false})
		truthsAre(t, name+", nothing is written", changed(w, func(w *impl.World) {
			w.Store.Writing, w.Store.Failed, w.Store.Txn, w.Next = true, false, impl.Txn{}, nil
		}), allTrue)
	}
	if len(met) != 2 {
		t.Errorf("met is %v", met)
	}
}

// Who reads, and what they saw: each reader has a Seen of the Id, wherever it is; one that no reader has does not count.
func TestReadersAndSeens(t *testing.T) {
	w := tallWorld(t)
	none := truths{true, false, true, false}
	elder, later := w.Seens[0].Pairs, w.Seens[1].Pairs
	if w.Seens[0].Id != 5 || w.Seens[1].Id != 2 || plainSame(elder, later) || w.Store.Readers[0].Id != 2 {
		t.Fatalf("the tall world has %q", shownSeens(w.Seens))
	}
	for name, c := range map[string]struct {
		seens []impl.Seen
		want  truths
	}{
		"as they are":                 {[]impl.Seen{{Id: 5, Pairs: elder}, {Id: 2, Pairs: later}}, allTrue},
		"in the other order":          {[]impl.Seen{{Id: 2, Pairs: later}, {Id: 5, Pairs: elder}}, allTrue},
		"the Ids changed about":       {[]impl.Seen{{Id: 2, Pairs: elder}, {Id: 5, Pairs: later}}, none},
		"changed about, other order":  {[]impl.Seen{{Id: 5, Pairs: later}, {Id: 2, Pairs: elder}}, none},
		"none":                        {nil, none},
		"the first one alone":         {[]impl.Seen{{Id: 5, Pairs: elder}}, none},
		"the last one alone":          {[]impl.Seen{{Id: 2, Pairs: later}}, none},
		"the first one of another Id": {[]impl.Seen{{Id: 4, Pairs: elder}, {Id: 2, Pairs: later}}, none},
		"the last one of another Id":  {[]impl.Seen{{Id: 5, Pairs: elder}, {Id: 3, Pairs: later}}, none},
		"of the Id 0":                 {[]impl.Seen{{Id: 5, Pairs: elder}, {Pairs: later}}, none},
		"one more ahead":              {[]impl.Seen{{Id: 1, Pairs: later}, {Id: 5, Pairs: elder}, {Id: 2, Pairs: later}}, allTrue},
		"one more in the midst":       {[]impl.Seen{{Id: 5, Pairs: elder}, {Id: 9}, {Id: 2, Pairs: later}}, allTrue},
		"one more behind":             {[]impl.Seen{{Id: 5, Pairs: elder}, {Id: 2, Pairs: later}, {Id: 7, Pairs: pairsOf(3)}}, allTrue},
		"many more of odd Ids":        {[]impl.Seen{{Id: math.MinInt}, {Id: 5, Pairs: elder}, {Id: -5}, {Id: 0, Pairs: elder}, {Id: 2, Pairs: later}, {Id: math.MaxInt}}, allTrue},
		"one of them twice":           {[]impl.Seen{{Id: 5, Pairs: elder}, {Id: 2, Pairs: later}, {Id: 2, Pairs: later}}, allTrue},
		"both of one tree":            {[]impl.Seen{{Id: 5, Pairs: elder}, {Id: 2, Pairs: elder}}, none},
		"what counts now":             {[]impl.Seen{{Id: 5, Pairs: w.Model}, {Id: 2, Pairs: w.Model}}, none},
		"what is written":             {[]impl.Seen{{Id: 5, Pairs: elder}, {Id: 2, Pairs: w.Next}}, none},
	} {
		truthsAre(t, name, changed(w, func(w *impl.World) { w.Seens = c.seens }), c.want)
	}
	for name, c := range map[string]struct {
		change func(s *impl.Store)
		want   truths
	}{
		"nobody reads":           {func(s *impl.Store) { s.Readers = nil }, allTrue},
		"one of them left":       {func(s *impl.Store) { s.Readers = s.Readers[1:] }, allTrue},
		"the other one left":     {func(s *impl.Store) { s.Readers = s.Readers[:1] }, allTrue},
		"one came":               {func(s *impl.Store) { s.Readers = append(s.Readers, reader(7, s.Meta)) }, none},
		"one came ahead":         {func(s *impl.Store) { s.Readers = slices.Insert(s.Readers, 0, reader(1, s.Meta)) }, none},
		"one came, of nothing":   {func(s *impl.Store) { s.Readers = append(s.Readers, reader(7, impl.Meta{})) }, none},
		"of another Id":          {func(s *impl.Store) { s.Readers[1].Id = 6 }, none},
		"of the Id 0":            {func(s *impl.Store) { s.Readers[0].Id = 0 }, none},
		"in the other order":     {func(s *impl.Store) { slices.Reverse(s.Readers) }, allTrue},
		"one of them twice":      {func(s *impl.Store) { s.Readers = append(s.Readers, s.Readers[0]) }, allTrue},
		"twice, of another tree": {func(s *impl.Store) { s.Readers = append(s.Readers, reader(2, s.Meta)) }, none},
		"twenty times":           {func(s *impl.Store) { s.Readers = slices.Repeat(s.Readers, 10) }, allTrue},
		"trees changed about":    {func(s *impl.Store) { s.Readers[0].Meta, s.Readers[1].Meta = s.Readers[1].Meta, s.Readers[0].Meta }, none},
		"the tree that counts":   {func(s *impl.Store) { s.Readers[0].Meta = s.Meta }, none},
		"only Root is asked for": {func(s *impl.Store) {
			s.Readers[0].Meta = impl.Meta{Tx: -1, Root: s.Readers[0].Meta.Root, Next: math.MaxInt, Frees: []impl.Free{free(-1, -1)}}
		}, allTrue},
	} {
		truthsAre(t, name, changed(w, func(w *impl.World) { c.change(&w.Store) }), c.want)
	}
	nobody := changed(w, func(w *impl.World) { w.Store.Readers = nil })
	for name, seens := range map[string][]impl.Seen{"no Seens": nil, "one of odd pairs": {{Id: 5, Pairs: pairsOf(9)}}, "of no Id": {{}}} {
		truthsAre(t, "nobody reads, "+name, changed(nobody, func(w *impl.World) { w.Seens = seens }), allTrue)
	}
}

// Each one of many readers is asked for.
func TestEachReaderIsAskedFor(t *testing.T) {
	w := lived(t, 20, commitOf("a1", "b2"), []impl.Event{happenRead(8), happenRead(1), happenRead(4)}, commitOf("c3"))
	for at := range w.Seens {
		truthsAre(t, "a pair fewer", changed(w, func(w *impl.World) { w.Seens[at].Pairs = w.Seens[at].Pairs[:1] }), truths{true, false, true, false})
		truthsAre(t, "a Seen fewer", changed(w, func(w *impl.World) { w.Seens = slices.Delete(w.Seens, at, at+1) }), truths{true, false, true, false})
		truthsAre(t, "another Root", changed(w, func(w *impl.World) { w.Store.Readers[at].Meta.Root = w.Store.Meta.Root }), truths{true, false, true, false})
	}
}

// badRoots are roots of no tree, on a disk of 30 pages that gets ten more: no node, no page, a way back, a page twice.
func badRoots(t *testing.T, d impl.Disk) (impl.Disk, map[string]int) {
	t.Helper()
	out := ownDisk(d)
	if len(d.Pages) != 30 {
		t.Fatalf("the disk has %d pages", len(d.Pages))
	}
	out.Pages = append(out.Pages, make([]string, 10)...)
	for page, n := range map[int]impl.Node{
		31: branch([]string{"a"}, 31), 32: branch([]string{"a", "b"}, 33, 34), 33: branch([]string{"a"}, 32), 34: oneOf("b"), 35: branch([]string{"a", "b"}, 34, 37), 37: branch([]string{"b"}, 34), 36: branch([]string{"a", "b"}, 34, 30),
	} {
		out.Pages[page] = nodeText(t, n)
	}
	return out, map[string]int{
		"no node": 30, "a meta": 1, "itself": 31, "back to the root": 32, "a page twice": 35, "a Kid that is no node": 36, "past all pages": 40, "far past": 1000, "below 0": -1, "the least": math.MinInt, "the greatest": math.MaxInt,
	}
}

// A Root of 0, and a Root that is none, of the store, of who reads and of the change: each is asked for alone, and no tree is not a tree without anything.
func TestTruthsOfRootsThatAreNone(t *testing.T) {
	w := tallWorld(t)
	d, bad := badRoots(t, w.Store.Disk)
	w.Store.Disk.Pages = d.Pages
	w.Store.Txn.Work.Disk.Pages = slices.Concat(w.Store.Txn.Work.Disk.Pages, d.Pages[30:])
	truthsAre(t, "with more pages", w, allTrue)
	for name, root := range bad {
		for _, empty := range []bool{false, true} {
			of := name + ", the store"
			truthsAre(t, of, changed(w, func(w *impl.World) {
				if w.Store.Meta.Root = root; empty {
					w.Model = nil
				}
			}), truths{false, true, true, false})
			for at := range w.Store.Readers {
				truthsAre(t, name+", who reads", changed(w, func(w *impl.World) {
					if w.Store.Readers[at].Meta.Root = root; empty {
						w.Seens[1-at].Pairs = nil
					}
				}), truths{true, false, true, false})
			}
			none := changed(w, func(w *impl.World) {
				if w.Store.Txn.Root = root; empty {
					w.Next = nil
				}
			})
			truthsAre(t, name+", the change", none, truths{true, true, false, false})
			none.Store.Failed = true
			truthsAre(t, name+", a failed change", none, allTrue)
			none.Store.Failed, none.Store.Writing = false, false
			truthsAre(t, name+", a change that nobody writes", none, allTrue)
		}
	}
	truthsAre(t, "0, the store", changed(w, func(w *impl.World) { w.Store.Meta.Root = 0 }), truths{false, true, true, false})
	truthsAre(t, "0 and nothing, the store", changed(w, func(w *impl.World) { w.Store.Meta.Root, w.Model = 0, nil }), truths{true, true, true, false})
	truthsAre(t, "0, who reads", changed(w, func(w *impl.World) { w.Store.Readers[0].Meta.Root = 0 }), truths{true, false, true, false})
	truthsAre(t, "0 and nothing, who reads", changed(w, func(w *impl.World) { w.Store.Readers[0].Meta.Root, w.Seens[1].Pairs = 0, nil }), allTrue)
	truthsAre(t, "0, the change", changed(w, func(w *impl.World) { w.Store.Txn.Root = 0 }), truths{true, true, false, false})
	truthsAre(t, "0 and nothing, the change", changed(w, func(w *impl.World) { w.Store.Txn.Root, w.Next = 0, nil }), allTrue)
}

// Trees as deep as they may be, and one deeper, of the store, of who reads, and of the change.
func TestDeepTruths(t *testing.T) {
	for levels := 1; levels <= impl.MaxDeep+2; levels++ {
		d, root := chain(t, levels)
		m, pairs, right := meta(1, root, root+1), []impl.Pair{pair("k", "k")}, levels <= impl.MaxDeep
		nobody := impl.World{Store: impl.Store{Disk: d, Meta: m}, Model: pairs}
		truthsAre(t, "the store", nobody, truths{right, true, true, right})
		free := meta(1, 0, 2)
		reads := impl.World{Store: impl.Store{Disk: d, Meta: free, Readers: []impl.Reader{reader(3, m)}}, Seens: []impl.Seen{{Id: 3, Pairs: pairs}}}
		truthsAre(t, "who reads", reads, truths{true, right, true, right})
		writes := impl.World{Store: impl.Store{Disk: newDisk(t, 14), Meta: free, Txn: txn(free, work(d, 2, nil, nil, nil), root), Writing: true}, Next: pairs}
		truthsAre(t, "the change", writes, truths{true, true, right, right})
	}
}

// What counts and what is read is on the store's disk, what is written on the disk of the Work.
func TestWhichDiskIsAsked(t *testing.T) {
	w := tallWorld(t)
	s := w.Store
	blank := newDisk(t, 30)
	truthsAre(t, "the store's disk is blank", changed(w, func(w *impl.World) { w.Store.Disk = blank }), truths{false, false, true, false})
	truthsAre(t, "the Work's disk is blank", changed(w, func(w *impl.World) { w.Store.Txn.Work.Disk = blank }), truths{true, true, false, false})
	truthsAre(t, "the Work's disk is the store's", changed(w, func(w *impl.World) { w.Store.Txn.Work.Disk = s.Disk }), truths{true, true, false, false})
	truthsAre(t, "the store's disk is the Work's", changed(w, func(w *impl.World) { w.Store.Disk = s.Txn.Work.Disk }), allTrue)
	truthsAre(t, "what is Late is kept", changed(w, func(w *impl.World) { w.Store.Txn.Work.Disk = impl.SyncDisk(s.Txn.Work.Disk) }), allTrue)
	root := func(page int, of func(w *impl.World) *impl.Disk) impl.World {
		return changed(w, func(w *impl.World) { of(w).Pages[page] = "no node" })
	}
	kept := func(w *impl.World) *impl.Disk { return &w.Store.Disk }
	written := func(w *impl.World) *impl.Disk { return &w.Store.Txn.Work.Disk }
	truthsAre(t, "the root that counts", root(s.Meta.Root, kept), truths{false, true, true, false})
	truthsAre(t, "the root that counts, of the Work's disk", root(s.Meta.Root, written), allTrue)
	for at, r := range s.Readers {
		truthsAre(t, "the root of reader "+strconv.Itoa(at), root(r.Meta.Root, kept), truths{true, false, true, false})
		truthsAre(t, "that of the Work's disk", root(r.Meta.Root, written), allTrue)
	}
	late := changed(w, func(w *impl.World) { w.Store.Disk = write(t, w.Store.Disk, s.Meta.Root, "no node") })
	truthsAre(t, "the root that counts, Late", late, truths{false, true, true, false})
	late.Store.Disk = write(t, late.Store.Disk, s.Meta.Root, impl.ReadPage(s.Disk, s.Meta.Root))
	truthsAre(t, "written again", late, allTrue)
	truthsAre(t, "the change's root", changed(w, func(w *impl.World) {
		w.Store.Txn.Work.Disk = write(t, w.Store.Txn.Work.Disk, s.Txn.Root, "no node")
	}), truths{true, true, false, false})
}

// storeFaults are worlds of which one thing of the store alone is not right, from one of which all is true.
func storeFaults(w impl.World) map[string]impl.World {
	out := map[string]impl.World{}
	m, pages := w.Store.Meta, []int{}
	if m.Root != 0 {
		pages, _ = impl.PagesOf(w.Store.Disk, m.Root)
	}
	add := func(name string, change func(m *impl.Meta)) {
		out[name] = changed(w, func(w *impl.World) { change(&w.Store.Meta) })
	}
	add("meta: Tx past all", func(m *impl.Meta) { m.Tx = maxTx + 1 })
	add("meta: the greatest Tx", func(m *impl.Meta) { m.Tx = math.MaxInt })
	add("meta: Tx below 0", func(m *impl.Meta) { m.Tx = -1 })
	add("meta: a Free without pages", func(m *impl.Meta) { m.Frees, m.Tx = append(m.Frees, free(m.Tx+1)), m.Tx+1 })
	add("meta: a Free of Tx 0", func(m *impl.Meta) { m.Frees, m.Next = slices.Insert(m.Frees, 0, free(0, m.Next)), m.Next+1 })
	add("meta: a Free that is later", func(m *impl.Meta) { m.Frees, m.Next = append(m.Frees, free(m.Tx+1, m.Next)), m.Next+1 })
	add("meta: Next past all pages", func(m *impl.Meta) {
		m.Tx++
		m.Frees, m.Next = append(m.Frees, free(m.Tx, span(m.Next, impl.MaxPages)...)), impl.MaxPages+1
	})
	add("pages: Next one more", func(m *impl.Meta) { m.Next++ })
	add("pages: Next one less", func(m *impl.Meta) { m.Next-- })
	add("pages: the most Next", func(m *impl.Meta) { m.Next = impl.MaxPages })
	add("pages: one that was never used", func(m *impl.Meta) { m.Tx, m.Frees = m.Tx+1, append(m.Frees, free(m.Tx+1, m.Next)) })
	for at, f := range m.Frees {
		add("pages: a Free fewer", func(m *impl.Meta) { m.Frees = slices.Delete(m.Frees, at, at+1) })
		for place, page := range f.Pages {
			of := strconv.Itoa(page)
			add("pages: lost "+of, func(m *impl.Meta) { m.Frees[at].Pages = slices.Delete(m.Frees[at].Pages, place, place+1) })
			add("pages: twice in a Free "+of, func(m *impl.Meta) { m.Frees[at].Pages = slices.Insert(m.Frees[at].Pages, place, page) })
			add("pages: twice in two "+of, func(m *impl.Meta) { m.Tx, m.Frees = m.Tx+1, append(m.Frees, free(m.Tx+1, page)) })
		}
	}
	for _, page := range pages {
		add("pages: free and in the tree "+strconv.Itoa(page), func(m *impl.Meta) { m.Tx, m.Frees = m.Tx+1, append(m.Frees, free(m.Tx+1, page)) })
	}
	return out
}

// Each truth that is asked of the store is false for itself alone: then no world is sound, whoever reads or writes.
func TestSoundWorldOfStoreFaults(t *testing.T) {
	faults := 0
	for name, w := range soundWorlds(t) {
		for fault, wrong := range storeFaults(w) {
			truthsAre(t, name+", "+fault, wrong, truths{true, true, true, false})
			m := wrong.Store.Meta
			metaOk, pages := impl.MetaOk(m), impl.PagesRight(wrong.Store.Disk, m)
			if strings.HasPrefix(fault, "meta: ") && (metaOk || !pages) {
				t.Errorf("%s, %s is not that alone: %+v", name, fault, m)
			}
			if strings.HasPrefix(fault, "pages: ") && pages && m.Next >= 2 {
				t.Errorf("%s, %s: %+v", name, fault, m)
			}
			if metaOk && !pages {
				faults++
			}
		}
	}
	if faults < 100 {
		t.Errorf("%d times alone just the pages are wrong", faults)
	}
	// More Frees than there may be.
	list := []impl.Free{}
	for at := range 21 {
		list = append(list, free(at+1, at+2))
	}
	for frees := 19; frees <= 21; frees++ {
		w := impl.World{Store: impl.Store{Disk: newDisk(t, 40), Meta: meta(21, 0, frees+2, list[:frees]...)}}
		truthsAre(t, "Frees: "+strconv.Itoa(frees), w, truths{true, true, true, frees <= 20})
	}
}

// Trees that tell their pairs, but are not right: the Keys do not ascend, a Key above does not fit, leaves are at several depths.
func TestSoundWorldOfWrongTrees(t *testing.T) {
	ab, cd := leaf([]string{"a", "b"}, []string{"1", "2"}), leaf([]string{"c", "d"}, []string{"3", "4"})
	for name, c := range map[string]struct {
		nodes map[int]impl.Node
		right bool
	}{
		"right":                   {map[int]impl.Node{2: ab, 3: cd, 4: branch([]string{"a", "c"}, 2, 3)}, true},
		"a Key above that is low": {map[int]impl.Node{2: ab, 3: cd, 4: branch([]string{"", "bb"}, 2, 3)}, true},
		"leaves changed about":    {map[int]impl.Node{2: ab, 3: cd, 4: branch([]string{"a", "c"}, 3, 2)}, false},
		"a Key above too great":   {map[int]impl.Node{2: ab, 3: cd, 4: branch([]string{"a", "d"}, 2, 3)}, false},
		"the first one too great": {map[int]impl.Node{2: ab, 3: cd, 4: branch([]string{"b", "c"}, 2, 3)}, false},
		"a Key above too low":     {map[int]impl.Node{2: ab, 3: cd, 4: branch([]string{"a", "b"}, 2, 3)}, false},
		"one Key twice":           {map[int]impl.Node{2: ab, 3: ab, 4: branch([]string{"a", "b"}, 2, 3)}, false},
		"uneven":                  {map[int]impl.Node{2: ab, 3: cd, 4: branch([]string{"a", "c"}, 2, 5), 5: branch([]string{"c"}, 3)}, false},
		"even again":              {map[int]impl.Node{2: ab, 3: cd, 4: branch([]string{"a", "c"}, 6, 5), 5: branch([]string{"c"}, 3), 6: branch([]string{"a"}, 2)}, true},
	} {
		asksForItsTree(t, name, c.nodes, 4, c.right)
		asksForItsTree(t, name+", the root ahead", rootAhead(c.nodes), 2, c.right)
	}
}

// rootAhead are the same nodes, those of the pages 2 and 4 in each other's place.
func rootAhead(nodes map[int]impl.Node) map[int]impl.Node {
	place := func(page int) int {
		if page == 2 || page == 4 {
			return 6 - page
		}
		return page
	}
	out := map[int]impl.Node{}
	for page, n := range nodes {
		kids := slices.Clone(n.Kids)
		for at, kid := range kids {
			kids[at] = place(kid)
		}
		n.Kids = kids
		out[place(page)] = n
	}
	return out
}

// asksForItsTree holds that a tree must be right where it counts; of those that are read and written the document asks for the pairs alone.
func asksForItsTree(t *testing.T, name string, nodes map[int]impl.Node, root int, right bool) {
	t.Helper()
	d := pagesWith(t, nodes)
	stops, _ := plainStops(d, root, 0)
	pairs, m := plainPairs(stops), meta(1, root, 2+len(nodes))
	s := impl.Store{Disk: d, Meta: m}
	truthsAre(t, name, impl.World{Store: s, Model: pairs}, truths{true, true, true, right})
	s.Meta, s.Readers = meta(0, 0, 2), []impl.Reader{reader(1, m)}
	truthsAre(t, name+", read", impl.World{Store: s, Seens: []impl.Seen{{Id: 1, Pairs: pairs}}}, allTrue)
	s.Readers, s.Writing, s.Txn = nil, true, txn(s.Meta, work(d, 2, nil, nil, nil), root)
	truthsAre(t, name+", written", impl.World{Store: s, Next: pairs}, allTrue)
	s.Meta, s.Readers = m, []impl.Reader{reader(1, m)}
	truthsAre(t, name+", all of them", impl.World{Store: s, Next: pairs, Model: pairs, Seens: []impl.Seen{{Id: 1, Pairs: pairs}}}, truths{true, true, true, right})
}

// Two of the truths false, or more: it is not sound, either.
func TestSoundWorldOfManyFaults(t *testing.T) {
	w := tallWorld(t)
	faults := []func(w *impl.World){
		func(w *impl.World) { w.Model = w.Model[1:] },
		func(w *impl.World) { w.Seens[1].Pairs = nil },
		func(w *impl.World) { w.Next = append(w.Next, pair("zz", "")) },
		func(w *impl.World) { w.Store.Meta.Tx = maxTx + 1 },
		func(w *impl.World) { w.Store.Meta.Next++ },
		func(w *impl.World) { w.Store.Meta.Frees = w.Store.Meta.Frees[1:] },
	}
	for set := range 1 << len(faults) {
		out := ownWorld(w)
		for at, fault := range faults {
			if set&(1<<at) != 0 {
				fault(&out)
			}
		}
		truthsAre(t, "faults "+strconv.Itoa(set), out, truths{set&1 == 0, set&2 == 0, set&4 == 0, set == 0})
	}
}

// Neither index keys, nor codes, nor what was told, nor the disk's own meta are asked for.
func TestTruthsAskForNothingElse(t *testing.T) {
	for name, w := range soundWorlds(t) {
		truthsAre(t, name+", other codes", changed(w, func(w *impl.World) { w.Codes, w.Told = []int{-1, 9, math.MaxInt}, []string{"x"} }), allTrue)
		truthsAre(t, name+", no codes", changed(w, func(w *impl.World) { w.Codes, w.Told = nil, nil }), allTrue)
		truthsAre(t, name+", no meta on the disk", changed(w, func(w *impl.World) { w.Store.Disk.Pages[0], w.Store.Disk.Pages[1] = "", "" }), allTrue)
		truthsAre(t, name+", another change's Base", changed(w, func(w *impl.World) {
			w.Store.Txn.Base, w.Store.Txn.Work.Gone, w.Store.Txn.Work.Usable, w.Store.Txn.Work.Next = meta(-1, -1, -1), []int{-1}, []int{2, 2}, math.MinInt
		}), allTrue)
	}
	w := staysTrue(t, "odd keys", 9, slices.Concat(commitOf("i1", "o2", "s3"), []impl.Event{happenBegin(), happenPut("ip\x00age\x00", "x"), happenPut("op\x00x", "no thing"), happenEnd()}))
	if impl.StoreRight(w.Store) {
		t.Error("the index keys of this store are right")
	}
}

// The zero value of the World: nothing is committed, nobody reads or writes, but its meta is not right.
func TestTruthsOfTheZeroWorld(t *testing.T) {
	truthsAre(t, "zero", impl.World{}, truths{true, true, true, false})
	truthsAre(t, "zero, with a Next", impl.World{Store: impl.Store{Meta: meta(0, 0, 2)}}, allTrue)
	truthsAre(t, "zero, with a pair", impl.World{Model: []impl.Pair{{}}}, truths{false, true, true, false})
	truthsAre(t, "zero, with a reader", impl.World{Store: impl.Store{Readers: []impl.Reader{{}}}}, truths{true, false, true, false})
	truthsAre(t, "zero, with a reader and a Seen", impl.World{Store: impl.Store{Readers: []impl.Reader{{}}}, Seens: []impl.Seen{{}}}, truths{true, true, true, false})
	truthsAre(t, "zero, writing", impl.World{Store: impl.Store{Writing: true}}, truths{true, true, true, false})
	truthsAre(t, "zero, writing a pair", impl.World{Store: impl.Store{Writing: true}, Next: []impl.Pair{{}}}, truths{true, true, false, false})
	truthsAre(t, "zero, a failed pair", impl.World{Store: impl.Store{Writing: true, Failed: true}, Next: []impl.Pair{{}}}, truths{true, true, true, false})
}

// wrongLists are lists that do not ascend, or have a Key twice, or odd texts, beside what a tree tells.
func wrongLists(right []impl.Pair) [][]impl.Pair {
	backward := slices.Clone(right)
	slices.Reverse(backward)
	return [][]impl.Pair{nil, right, backward, slices.Repeat(right, 2), {pair("b", ""), pair("a", "")}, {pair("a", "1"), pair("a", "1")}, {pair(long(1000), "\x00")}, slices.Repeat(pairsOf(10), 100)}
}

// Disks and stores that are not right in any way, with such lists: what the document's words tell, and an end.
func TestTruthsOfWrongStores(t *testing.T) {
	met := map[truths]int{}
	stores := wrongStores(t)
	for name, s := range someStores(t) {
		stores["right: "+name] = s
	}
	for name, s := range stores {
		counting, _ := impl.AllPairs(s.Disk, s.Meta.Root)
		written, _ := impl.AllPairs(s.Txn.Work.Disk, s.Txn.Root)
		w := impl.World{Store: s, Model: counting, Next: written}
		for _, r := range s.Readers {
			seen, _ := impl.AllPairs(s.Disk, r.Meta.Root)
			w.Seens = append(w.Seens, impl.Seen{Id: r.Id, Pairs: seen})
		}
		met[truthsArePlain(t, name, w)]++
		for at, list := range wrongLists(counting) {
			other := ownWorld(w)
			switch at % 3 {
			case 0:
				other.Model = list
			case 1:
				other.Next = list
			case 2:
				if len(other.Seens) > 0 {
					other.Seens[0].Pairs = list
				}
			}
			met[truthsArePlain(t, name, other)]++
			other.Model, other.Next = list, list
			met[truthsArePlain(t, name, other)]++
		}
	}
	if len(met) < 6 {
		t.Errorf("met is %v", met)
	}
}

// Pages that lead to each other without end, and numbers at the least and the greatest that there is.
func TestTruthsEnd(t *testing.T) {
	nodes := map[int]impl.Node{}
	for page := 2; page < 14; page++ {
		nodes[page] = branch([]string{"a", "b", "c", "d"}, 2+(page-1)%12, 2+page%12, 2+(page+1)%12, 2+(page+2)%12)
	}
	d := pagesWith(t, nodes)
	for _, n := range []int{math.MinInt, -1, 0, 1, 2, 13, 14, 40, math.MaxInt - 1, math.MaxInt} {
		m := impl.Meta{Tx: n, Root: n, Next: n, Frees: []impl.Free{{Tx: n, Pages: []int{n, n, -n}}, {Tx: -n, Pages: []int{math.MinInt, math.MaxInt}}}}
		w := impl.World{Store: impl.Store{Disk: d, Meta: m, Readers: []impl.Reader{reader(n, m), reader(-n, m)}, Txn: txn(m, work(d, n, []int{n}, []int{n}, []int{n}), n), Writing: true}, Seens: []impl.Seen{{Id: n}, {Id: -n}}}
		want := n == 0
		truthsAre(t, strconv.Itoa(n), w, truths{want, want, want, false})
		w.Store.Failed, w.Codes = true, []int{n}
		truthsAre(t, strconv.Itoa(n)+", failed", w, truths{want, want, true, false})
	}
	// Far more of all than there may be.
	many := impl.World{Store: impl.Store{Disk: named(3000), Meta: meta(1, 0, 2), Readers: slices.Repeat([]impl.Reader{reader(1, meta(0, 0, 2))}, 3000)}, Seens: slices.Repeat([]impl.Seen{{Id: 2, Pairs: pairsOf(40)}}, 3000)}
	truthsAre(t, "many readers", many, truths{true, false, true, false})
	many.Seens[2999] = impl.Seen{Id: 1}
	truthsAre(t, "many readers, one Seen", many, allTrue)
	late := impl.World{Store: impl.Store{Disk: impl.Disk{Pages: make([]string, 9), Late: slices.Repeat([]impl.Put{{Page: 2, Text: nodeText(t, oneOf("a"))}}, 5000)}, Meta: meta(1, 2, 3)}, Model: []impl.Pair{pair("a", "a")}}
	truthsAre(t, "many Late", late, allTrue)
}

// Worlds of which some things are drawn anew: what the document's words tell.
func TestTruthsOfDrawnWorlds(t *testing.T) {
	base := []impl.World{}
	all := soundWorlds(t)
	for _, name := range slices.Sorted(maps.Keys(all)) {
		base = append(base, all[name])
	}
	met := map[truths]int{}
	for seed := range 6000 {
		next := drawn(seed)
		w := ownWorld(base[next(len(base))])
		other := base[next(len(base))]
		for range 1 + next(3) {
			drawFault(next, &w, ownWorld(other))
		}
		met[truthsArePlain(t, "seed "+strconv.Itoa(seed), w)]++
	}
	for set := range 8 {
		want := truths{kept: set&1 != 0, seen: set&2 != 0, written: set&4 != 0}
		if met[want] < 10 {
			t.Errorf("%+v: %d times alone", want, met[want])
		}
	}
	if met[allTrue] < 100 {
		t.Errorf("all is true %d times alone", met[allTrue])
	}
}

// drawFault makes one drawn thing of a world another one, as another world has it or odd.
func drawFault(next func(n int) int, w *impl.World, other impl.World) {
	s := &w.Store
	switch next(16) {
	case 0:
		w.Model = other.Model
	case 1:
		w.Next = other.Next
	case 2:
		w.Seens = other.Seens
	case 3:
		s.Readers = other.Store.Readers
	case 4:
		s.Meta = other.Store.Meta
	case 5:
		s.Disk = other.Store.Disk
	case 6:
		s.Txn = other.Store.Txn
	case 7:
		s.Writing = !s.Writing
	case 8:
		s.Failed = !s.Failed
	case 9:
		s.Meta.Root = oddNumber(next)
	case 10:
		s.Txn.Root = oddNumber(next)
	case 11:
		s.Meta.Next, s.Meta.Tx = oddNumber(next), oddNumber(next)
	case 12:
		s.Meta.Frees = append(s.Meta.Frees, free(oddNumber(next), oddList(next, 4)...))
	case 13:
		for at := range s.Readers {
			s.Readers[at] = reader(oddNumber(next), s.Meta)
		}
	case 14:
		s.Disk.Pages[next(len(s.Disk.Pages))] = s.Disk.Pages[next(len(s.Disk.Pages))]
	case 15:
		s.Txn.Work.Disk, w.Next = s.Disk, w.Model
	}
}

// roomyWorld is the same world with spare room behind its lists, which is filled.
func roomyWorld(w impl.World) impl.World {
	spare := func(list []impl.Pair) []impl.Pair {
		return append(slices.Clone(list), pair("spare", "room"), pair("a", "1"))[:len(list)]
	}
	out := impl.World{Store: roomyStore(w.Store), Model: spare(w.Model), Next: spare(w.Next)}
	for _, s := range w.Seens {
		out.Seens = append(out.Seens, impl.Seen{Id: s.Id, Pairs: spare(s.Pairs)})
	}
	out.Seens = append(out.Seens, impl.Seen{Id: 1, Pairs: pairsOf(2)}, impl.Seen{Id: 5})[:len(w.Seens)]
	out.Codes, out.Told = append(slices.Clone(w.Codes), 7)[:len(w.Codes)], append(slices.Clone(w.Told), "spare")[:len(w.Told)]
	return out
}

// wholeWorld is a copy of the world with all that is in the room behind its lists.
func wholeWorld(w impl.World) impl.World {
	whole := func(list []impl.Pair) []impl.Pair { return slices.Clone(list[:cap(list)]) }
	out := impl.World{Store: wholeStore(w.Store), Model: whole(w.Model), Next: whole(w.Next), Codes: slices.Clone(w.Codes[:cap(w.Codes)]), Told: slices.Clone(w.Told[:cap(w.Told)])}
	for _, s := range w.Seens[:cap(w.Seens)] {
		out.Seens = append(out.Seens, impl.Seen{Id: s.Id, Pairs: whole(s.Pairs)})
	}
	return out
}

// anyWorlds are worlds of many kinds, right and wrong.
func anyWorlds(t *testing.T) map[string]impl.World {
	t.Helper()
	list := soundWorlds(t)
	for name, s := range anyStores(t) {
		pairs, _ := impl.AllPairs(s.Disk, s.Meta.Root)
		list["store: "+name] = impl.World{Store: s, Model: pairs, Next: pairsOf(2), Seens: []impl.Seen{{Id: 5, Pairs: pairs}, {Id: 2, Pairs: pairs}}}
	}
	return list
}

func TestTruthArgumentsStay(t *testing.T) {
	for name, plain := range anyWorlds(t) {
		w := roomyWorld(plain)
		want := wholeWorld(w)
		if truthsOf(w) != truthsOf(plain) {
			t.Errorf("%s: with room behind its lists another thing is answered", name)
		}
		if !sameWorld(wholeWorld(w), want) || !sameWorld(w, plain) {
			t.Errorf("%s: an argument is written into", name)
		}
	}
	for n := range 7 {
		one, other := roomyPairs()[:n], roomyPairs()[:6-n]
		want := slices.Clone(one[:cap(one)])
		samePairs(t, "with room behind", one, other, n == 3)
		if !slices.Equal(one[:cap(one)], want) || !slices.Equal(other[:cap(other)], want) {
			t.Errorf("%d pairs: a list is written into", n)
		}
	}
}

// An empty list and nil are the same value.
func TestTruthsOfEmptyAndNil(t *testing.T) {
	pairs := func(list []impl.Pair, none bool) []impl.Pair {
		if len(list) > 0 {
			return list
		}
		return map[bool][]impl.Pair{true: nil, false: {}}[none]
	}
	for name, plain := range anyWorlds(t) {
		for _, none := range []bool{true, false} {
			w := ownWorld(plain)
			w.Model, w.Next = pairs(w.Model, none), pairs(w.Next, none)
			for at := range w.Seens {
				w.Seens[at].Pairs = pairs(w.Seens[at].Pairs, none)
			}
			if len(w.Seens) == 0 {
				w.Seens = map[bool][]impl.Seen{true: nil, false: {}}[none]
			}
			if len(w.Store.Readers) == 0 {
				w.Store.Readers = map[bool][]impl.Reader{true: nil, false: {}}[none]
			}
			if len(w.Store.Meta.Frees) == 0 {
				w.Store.Meta.Frees = map[bool][]impl.Free{true: nil, false: {}}[none]
			}
			if truthsOf(w) != truthsOf(plain) {
				t.Errorf("%s: an empty list is not nil", name)
			}
		}
	}
}

// No function keeps anything: the same is answered whatever was asked between, and by whomever at once.
func TestTruthsKeepNothing(t *testing.T) {
	list, first := anyWorlds(t), map[string]truths{}
	for name, w := range list {
		first[name] = truthsOf(w)
	}
	var every sync.WaitGroup
	for range 4 {
		every.Go(func() {
			for name, w := range list {
				if truthsOf(w) != first[name] {
					t.Errorf("%s answers something else the second time", name)
				}
			}
		})
	}
	every.Wait()
}
