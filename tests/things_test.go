package tests

import (
	"maps"
	"math"
	"slices"
	"strconv"
	"strings"
	"sync"
	"testing"

	"loop.example/g00240/impl"
)

// hold is what collections there are, and their things, by their keys: what the document tells of a tree by its words alone.
type hold struct {
	schemas map[string][]impl.Field
	things  map[string]map[string][]impl.Value
}

func newHold() hold {
	return hold{schemas: map[string][]impl.Field{}, things: map[string]map[string][]impl.Value{}}
}

// own is the same in memory of its own, so that one may go on from it in several ways.
func (h hold) own() hold {
	out := hold{schemas: maps.Clone(h.schemas), things: map[string]map[string][]impl.Value{}}
	for coll, things := range h.things {
		out.things[coll] = maps.Clone(things)
	}
	return out
}

func (h hold) withColl(coll string, list []impl.Field) hold {
	out := h.own()
	out.schemas[coll], out.things[coll] = list, map[string][]impl.Value{}
	return out
}

func (h hold) withThing(coll, key string, v []impl.Value) hold {
	out := h.own()
	out.things[coll][key] = v
	return out
}

func (h hold) withoutThing(coll, key string) hold {
	out := h.own()
	delete(out.things[coll], key)
	return out
}

// plainOrder is the order of a value: three bytes of a number, or a text and the byte 0.
func plainOrder(kind int, v impl.Value) string {
	if kind == impl.KindText {
		return v.Text + "\x00"
	}
	return string([]byte{byte(v.Num / 65536), byte(v.Num / 256 % 256), byte(v.Num % 256)})
}

func plainIndexKey(coll, field, order, key string) string {
	return "i" + coll + "\x00" + field + "\x00" + order + key
}

// plainIndexKeys are those of all fields of a thing.
func plainIndexKeys(coll, key string, list []impl.Field, v []impl.Value) []string {
	keys := []string{}
	for at, field := range list {
		keys = append(keys, plainIndexKey(coll, field.Name, plainOrder(field.Kind, v[at]), key))
	}
	return keys
}

// pairs are all that a tree of it has.
func (h hold) pairs(t *testing.T) []impl.Pair {
	t.Helper()
	list := []impl.Pair{}
	for coll, fields := range h.schemas {
		list = append(list, pair("s"+coll, schemaText(t, fields)))
		for key, v := range h.things[coll] {
			list = append(list, pair("o"+coll+"\x00"+key, thingText(t, fields, v)))
			for _, index := range plainIndexKeys(coll, key, fields, v) {
				list = append(list, pair(index, ""))
			}
		}
	}
	slices.SortFunc(list, func(a, b impl.Pair) int { return strings.Compare(a.Key, b.Key) })
	return list
}

// find is the keys of the things of which the field at this place is v.
func (h hold) find(coll string, at int, v impl.Value) []string {
	keys := []string{}
	for key, values := range h.things[coll] {
		if values[at] == v {
			keys = append(keys, key)
		}
	}
	slices.Sort(keys)
	return keys
}

// order is the keys of all things, by the field at this place, then by keys.
func (h hold) order(coll string, at int) []string {
	things := h.things[coll]
	return slices.SortedFunc(maps.Keys(things), func(a, b string) int {
		one, other := things[a][at], things[b][at]
		if one.Num != other.Num {
			return one.Num - other.Num
		}
		if one.Text != other.Text {
			return strings.Compare(one.Text, other.Text)
		}
		return strings.Compare(a, b)
	})
}

// isList holds a list of keys against what is told of it.
func isList(t *testing.T, name string, got, want []string) {
	t.Helper()
	if !slices.Equal(got, want) {
		t.Errorf("%s: %q, not %q", name, got, want)
	}
}

// holds holds that a tree has just what is told, and that all of it is found, by every function that looks.
func (h hold) holds(t *testing.T, name string, d impl.Disk, root int) {
	t.Helper()
	if got, ok := impl.AllPairs(d, root); !ok || !slices.Equal(got, h.pairs(t)) || !impl.TreeOk(d, root) {
		t.Fatalf("%s: AllPairs = %q, %v, not %q", name, got, ok, h.pairs(t))
	}
	for coll, fields := range h.schemas {
		if got, ok := impl.SchemaIn(d, root, coll); !ok || !slices.Equal(got, fields) {
			t.Fatalf("%s: SchemaIn(%q) = %v, %v, not %v", name, coll, got, ok, fields)
		}
		for key, want := range h.things[coll] {
			if got, ok := impl.GetThing(d, root, coll, key); !ok || !slices.Equal(got, want) {
				t.Fatalf("%s: GetThing(%q, %q) = %v, %v, not %v", name, coll, key, got, ok, want)
			}
		}
		for at, field := range fields {
			isList(t, name+": OrderOf "+coll+"."+field.Name, impl.OrderOf(d, root, coll, field.Name), h.order(coll, at))
			for _, v := range h.valuesNear(coll, at) {
				isList(t, name+": FindThings "+coll+"."+field.Name, impl.FindThings(d, root, coll, field.Name, v), h.find(coll, at, v))
			}
		}
	}
	h.lacks(t, name, d, root)
	if t.Failed() {
		t.FailNow()
	}
}

// valuesNear are the values of a field that there are, and some that no thing has.
func (h hold) valuesNear(coll string, at int) []impl.Value {
	list := []impl.Value{num(0), text(""), num(77), text("q")}
	for _, v := range h.things[coll] {
		list = append(list, v[at])
		if h.schemas[coll][at].Kind == impl.KindText {
			list = append(list, text((v[at].Text + "a")[:min(len(v[at].Text)+1, maxValueText)]), text(v[at].Text[:len(v[at].Text)/2]))
		} else {
			list = append(list, num(min(v[at].Num+1, maxNum)), num(v[at].Num/256))
		}
	}
	right := []impl.Value{}
	for _, v := range list {
		if impl.ThingOk(h.schemas[coll][at:at+1], []impl.Value{v}) {
			right = append(right, v)
		}
	}
	return right
}

// lacks holds that what is not told is not there.
func (h hold) lacks(t *testing.T, name string, d impl.Disk, root int) {
	t.Helper()
	for _, coll := range []string{"p", "pq", "q", "zzz", "", "p\x00", "P"} {
		if _, there := h.schemas[coll]; !there {
			if list, ok := impl.SchemaIn(d, root, coll); ok || len(list) != 0 {
				t.Errorf("%s: SchemaIn(%q) = %v, %v", name, coll, list, ok)
			}
			if list := impl.OrderOf(d, root, coll, "age"); len(list) != 0 {
				t.Errorf("%s: OrderOf(%q) = %q", name, coll, list)
			}
		}
		for _, key := range []string{"x", "xx", "y", "z", "", "x\x00"} {
			if _, there := h.things[coll][key]; there {
				continue
			}
			if v, ok := impl.GetThing(d, root, coll, key); ok || len(v) != 0 {
				t.Errorf("%s: GetThing(%q, %q) = %v, %v", name, coll, key, v, ok)
			}
		}
	}
}

// begun is a change of a new disk of so many pages.
func begun(t *testing.T, pages int) impl.Txn {
	t.Helper()
	s := newStore(t, pages)
	return impl.Begin(s.Disk, s.Meta, 0)
}

// went takes what a call answered, which must be this code.
func went(t *testing.T, code int) func(x impl.Txn, got int) impl.Txn {
	t.Helper()
	return func(x impl.Txn, got int) impl.Txn {
		t.Helper()
		if got != code {
			t.Fatalf("the code is %d, not %d", got, code)
		}
		return x
	}
}

// stays holds that a call is refused by this code, and the change is as it is.
func stays(t *testing.T, name string, x impl.Txn, code int, got impl.Txn, gotCode int) {
	t.Helper()
	if gotCode != code {
		t.Errorf("%s: the code is %d, not %d", name, gotCode, code)
	}
	isTxn(t, name, got, x)
}

// CollOk is 1 to 3 letters, NameKey 1 to 4 letters and figures: each byte at each place of each length.
func TestNames(t *testing.T) {
	const letters, figures = "abcdefghijklmnopqrstuvwxyz", "0123456789"
	for size := range 7 {
		for at := range max(size, 1) {
			for b := range 256 {
				name := []byte(strings.Repeat("m", size))
				if size > 0 {
					name[at] = byte(b)
				}
				plain := size == 0 || strings.IndexByte(letters, byte(b)) >= 0
				sign := plain || strings.IndexByte(figures, byte(b)) >= 0
				if got, want := impl.CollOk(string(name)), plain && size >= 1 && size <= 3; got != want {
					t.Errorf("CollOk(%q) is %v", name, got)
				}
				if got, want := impl.NameKey(string(name)), sign && size >= 1 && size <= 4; got != want {
					t.Errorf("NameKey(%q) is %v", name, got)
				}
			}
		}
	}
	for name, want := range map[string][2]bool{
		"": {}, "a": {true, true}, "z": {true, true}, "abc": {true, true}, "abcd": {false, true}, "abcde": {}, "0": {false, true}, "0000": {false, true}, "9z9z": {false, true}, "00000": {},
		"A": {}, "aB": {}, "a b": {}, "a\x00": {}, "\x00": {}, "ab\n": {}, "é": {}, "a_b": {}, "-1": {}, "abc ": {}, "１": {}, long(impl.MaxText + 1): {},
	} {
		if got := [2]bool{impl.CollOk(name), impl.NameKey(name)}; got != want {
			t.Errorf("CollOk and NameKey of %.20q are %v", name, got)
		}
	}
}

// Keys are told by their parts, whatever these are.
func TestKeyBytesOfThings(t *testing.T) {
	for got, want := range map[string]string{
		impl.SchemaKey("p"):                              "sp",
		impl.SchemaKey(""):                               "s",
		impl.SchemaKey("abc"):                            "sabc",
		impl.ThingKey("p", "x"):                          "op\x00x",
		impl.ThingKey("abc", "a1b2"):                     "oabc\x00a1b2",
		impl.ThingKey("", ""):                            "o\x00",
		impl.IndexKey("p", "f", "o", "k"):                "ip\x00f\x00ok",
		impl.IndexKey("", "", "", ""):                    "i\x00\x00",
		impl.IndexKey("abc", "name", "abcdef\x00", "zz"): "iabc\x00name\x00abcdef\x00zz",
		impl.IndexKey("p", "age", "\x00\x01\x02", "x"):   "ip\x00age\x00\x00\x01\x02x",
	} {
		if got != want {
			t.Errorf("a key is %q, not %q", got, want)
		}
	}
	parts := []string{"", "a", "zz", "\x00", "a\x00b", "\xff\xfe", "A 1", long(30), long(impl.MaxText + 1)}
	for _, a := range parts {
		if got := impl.SchemaKey(a); got != "s"+a {
			t.Errorf("SchemaKey(%.20q) = %.20q", a, got)
		}
		for _, b := range parts {
			if got := impl.ThingKey(a, b); got != "o"+a+"\x00"+b {
				t.Errorf("ThingKey(%.20q, %.20q) = %.20q", a, b, got)
			}
			for _, c := range parts {
				for _, e := range parts {
					if got := impl.IndexKey(a, b, c, e); got != plainIndexKey(a, b, c, e) {
						t.Errorf("IndexKey(%.20q, %.20q, %.20q, %.20q) = %.20q", a, b, c, e, got)
					}
				}
			}
		}
	}
}

// people is a change with a collection of people, and one whose name goes on behind it.
func people(t *testing.T, pages int) (impl.Txn, hold) {
	t.Helper()
	fields, more := schema("nt", "age", "name"), schema("t", "age")
	x := went(t, 0)(impl.MakeColl(begun(t, pages), "p", fields))
	x = went(t, 0)(impl.MakeColl(x, "pq", more))
	h := newHold().withColl("p", fields).withColl("pq", more)
	for _, thing := range []struct {
		coll, key string
		v         []impl.Value
	}{
		{"p", "x", []impl.Value{num(9), text("bob")}}, {"p", "y", []impl.Value{num(3), text("bobby")}}, {"p", "xx", []impl.Value{num(9), text("")}}, {"pq", "x", []impl.Value{text("bob")}},
	} {
		x = went(t, 0)(impl.PutThing(x, thing.coll, thing.key, thing.v))
		h = h.withThing(thing.coll, thing.key, thing.v)
	}
	return x, h
}

// What is put is got and found by each of its fields, and no other is found there; what is put anew is found by its new fields alone; what is dropped is not there.
func TestThingsAreFound(t *testing.T) {
	x, h := people(t, impl.MaxPages)
	h.holds(t, "people", x.Work.Disk, x.Root)
	x = commits(t, x)
	find := func(x impl.Txn, field string, v impl.Value, want ...string) {
		t.Helper()
		isList(t, "FindThings by "+field, impl.FindThings(x.Work.Disk, x.Root, "p", field, v), want)
	}
	order := func(x impl.Txn, field string, want ...string) {
		t.Helper()
		isList(t, "OrderOf "+field, impl.OrderOf(x.Work.Disk, x.Root, "p", field), want)
	}
	find(x, "age", num(9), "x", "xx")
	find(x, "age", num(3), "y")
	find(x, "age", num(4))
	find(x, "name", text("bob"), "x")
	find(x, "name", text(""), "xx")
	find(x, "name", text("bo"))
	order(x, "age", "y", "x", "xx")
	order(x, "name", "xx", "x", "y")
	anew := went(t, 0)(impl.PutThing(x, "p", "x", []impl.Value{num(1), text("al")}))
	h.withThing("p", "x", []impl.Value{num(1), text("al")}).holds(t, "put anew", anew.Work.Disk, anew.Root)
	find(anew, "age", num(9), "xx")
	find(anew, "age", num(1), "x")
	find(anew, "name", text("bob"))
	order(anew, "age", "x", "y", "xx")
	order(anew, "name", "xx", "x", "y")
	gone := went(t, 0)(impl.DropThing(x, "p", "x"))
	h.withoutThing("p", "x").holds(t, "dropped", gone.Work.Disk, gone.Root)
	find(gone, "age", num(9), "xx")
	order(gone, "age", "y", "xx")
	// The tree that was committed stays as it was.
	h.holds(t, "as it was", anew.Work.Disk, x.Root)
	h.holds(t, "as it was", gone.Work.Disk, x.Root)
}

// The bytes of a tree with one thing.
func TestThingPairs(t *testing.T) {
	x := went(t, 0)(impl.MakeColl(begun(t, 10), "ab", schema("tn", "b", "a")))
	x = went(t, 0)(impl.PutThing(x, "ab", "k9", []impl.Value{text("z"), num(66051)}))
	want := []impl.Pair{pair("iab\x00a\x00\x01\x02\x03k9", ""), pair("iab\x00b\x00z\x00k9", ""), pair("oab\x00k9", "\x01z\x83\x84\x04"), pair("sab", "\x02\x01b\x01\x01a")}
	if got, ok := impl.AllPairs(x.Work.Disk, x.Root); !ok || !slices.Equal(got, want) {
		t.Errorf("the pairs are %q, %v", got, ok)
	}
	x = went(t, 0)(impl.DropThing(x, "ab", "k9"))
	if got, ok := impl.AllPairs(x.Work.Disk, x.Root); !ok || !slices.Equal(got, want[3:]) {
		t.Errorf("behind DropThing the pairs are %q, %v", got, ok)
	}
}

// Each right schema is made, and had, once.
func TestMakeColl(t *testing.T) {
	for at, list := range rightSchemas() {
		coll := []string{"a", "zz", "abc", "pq"}[at%4]
		x := went(t, 0)(impl.MakeColl(begun(t, 8), coll, list))
		h := newHold().withColl(coll, list)
		h.holds(t, "made", x.Work.Disk, x.Root)
		got, code := impl.MakeColl(x, coll, list)
		stays(t, "made twice", x, 1, got, code)
		got, code = impl.MakeColl(x, coll, schema("t", "z"))
		stays(t, "made again with another schema", x, 1, got, code)
		other := went(t, 0)(impl.MakeColl(x, "q", list))
		h.withColl("q", list).holds(t, "made beside", other.Work.Disk, other.Root)
	}
}

// fullOf are changes in which nothing more is put: no page, or too many Late.
func fullOf(x impl.Txn) map[string]impl.Txn {
	pages, late := ownTxn(x), ownTxn(x)
	pages.Work.Next, pages.Work.Usable = len(pages.Work.Disk.Pages), nil
	late.Work.Disk = lateUp(impl.SyncDisk(late.Work.Disk), maxLate)
	return map[string]impl.Txn{"no page": pages, "200 Late": late}
}

// wrongColls are no names of collections.
func wrongColls() []string {
	return []string{"", "abcd", "A", "a1", "1", "a b", "p\x00", "\x00", "é", "ab-", long(25)}
}

// The codes of MakeColl, each ahead of the next one where several apply.
func TestMakeCollCodes(t *testing.T) {
	x, _ := people(t, impl.MaxPages)
	good := schema("n", "age")
	changes := fullOf(x)
	changes["room"] = x
	for name, x := range changes {
		for _, coll := range wrongColls() {
			got, code := impl.MakeColl(x, coll, good)
			stays(t, name+", a wrong name "+coll, x, 4, got, code)
			got, code = impl.MakeColl(x, coll, nil)
			stays(t, name+", a wrong name and schema", x, 4, got, code)
		}
		for wrong, list := range wrongSchemas() {
			for _, coll := range []string{"p", "n"} {
				got, code := impl.MakeColl(x, coll, list)
				stays(t, name+", schema: "+wrong, x, 4, got, code)
			}
		}
		got, code := impl.MakeColl(x, "p", good)
		stays(t, name+", there", x, 1, got, code)
		if name != "room" {
			got, code = impl.MakeColl(x, "n", good)
			stays(t, name, x, 3, got, code)
		}
	}
	for wrong, d := range wrongDisks() {
		x := txn(meta(3, 0, 5), work(d, 2, nil, nil, nil), 0)
		got, code := impl.MakeColl(x, "p", good)
		stays(t, wrong, x, 3, got, code)
		got, code = impl.MakeColl(x, "P", good)
		stays(t, wrong, x, 4, got, code)
	}
}

// wrongThings are no things of a schema.
func wrongThings(list []impl.Field) map[string][]impl.Value {
	v := thingOf(list, 3)
	wrong := map[string][]impl.Value{"no values": nil, "a value too many": append(slices.Clone(v), num(0)), "a value too few": v[1:], "zero values": make([]impl.Value, len(list)+1)}
	for at, field := range list {
		values := wrongNums()
		if field.Kind == impl.KindText {
			values = wrongTexts()
		}
		for name, value := range values {
			wrong[field.Name+" "+name] = slices.Concat(v[:at], []impl.Value{value}, v[at+1:])
		}
	}
	return wrong
}

// wrongKeys are no keys of things.
func wrongKeys() []string {
	return []string{"", "abcde", "A", "x y", "x\x00", "\x00", "é", "x-", "00000", long(25)}
}

// The codes of PutThing, each ahead of the next one where several apply.
func TestPutThingCodes(t *testing.T) {
	x, h := people(t, impl.MaxPages)
	good := []impl.Value{num(5), text("al")}
	changes := fullOf(x)
	changes["room"] = x
	for name, x := range changes {
		for _, coll := range append(wrongColls(), "n", "q", "pp", "pqr") {
			for _, key := range []string{"x", "", "abcde"} {
				for _, v := range [][]impl.Value{good, nil} {
					got, code := impl.PutThing(x, coll, key, v)
					stays(t, name+", no collection "+coll, x, 2, got, code)
				}
			}
		}
		for _, key := range wrongKeys() {
			for _, v := range [][]impl.Value{good, nil} {
				got, code := impl.PutThing(x, "p", key, v)
				stays(t, name+", a wrong key "+key, x, 4, got, code)
			}
		}
		for coll, list := range h.schemas {
			for wrong, v := range wrongThings(list) {
				for _, key := range []string{"x", "n"} {
					got, code := impl.PutThing(x, coll, key, v)
					stays(t, name+", a thing with "+wrong, x, 4, got, code)
				}
			}
		}
		if name == "room" {
			continue
		}
		for _, key := range []string{"x", "n"} {
			got, code := impl.PutThing(x, "p", key, good)
			stays(t, name, x, 3, got, code)
			got, code = impl.PutThing(x, "p", key, h.things["p"]["x"])
			stays(t, name+", the same", x, 3, got, code)
		}
	}
}

// The codes of DropThing.
func TestDropThingCodes(t *testing.T) {
	x, _ := people(t, impl.MaxPages)
	changes := fullOf(x)
	changes["room"] = x
	for name, x := range changes {
		for _, coll := range append(wrongColls(), "n", "q", "pp") {
			got, code := impl.DropThing(x, coll, "x")
			stays(t, name+", no collection "+coll, x, 2, got, code)
		}
		for _, key := range append(wrongKeys(), "n", "xy", "bob", "age") {
			got, code := impl.DropThing(x, "p", key)
			stays(t, name+", no thing "+key, x, 2, got, code)
		}
		got, code := impl.DropThing(x, "pq", "y")
		stays(t, name+", a thing of another collection", x, 2, got, code)
		if name != "room" {
			got, code = impl.DropThing(x, "p", "x")
			stays(t, name, x, 3, got, code)
		}
	}
	x = went(t, 0)(impl.DropThing(x, "p", "x"))
	got, code := impl.DropThing(x, "p", "x")
	stays(t, "dropped twice", x, 2, got, code)
}

// Nothing is found without such a collection or field, or of a value that is no such value.
func TestNothingIsFound(t *testing.T) {
	x, _ := people(t, impl.MaxPages)
	d := x.Work.Disk
	none := func(name string, list []string) {
		t.Helper()
		if len(list) != 0 {
			t.Errorf("%s: %q", name, list)
		}
	}
	for _, coll := range append(wrongColls(), "n", "q", "pp", "pqr") {
		none("collection "+coll, impl.FindThings(d, x.Root, coll, "age", num(9)))
		none("collection "+coll, impl.FindThings(d, x.Root, coll, "age", text("bob")))
		none("collection "+coll, impl.OrderOf(d, x.Root, coll, "age"))
	}
	for _, field := range []string{"", "a", "ag", "agee", "AGE", "nam", "age\x00", "\x00", "b", "ageo", long(30)} {
		none("field "+field, impl.FindThings(d, x.Root, "p", field, num(9)))
		none("field "+field, impl.FindThings(d, x.Root, "p", field, text("bob")))
		none("field "+field, impl.OrderOf(d, x.Root, "p", field))
	}
	none("field name of pq", impl.OrderOf(d, x.Root, "pq", "name"))
	for wrong, v := range wrongNums() {
		none("age: "+wrong, impl.FindThings(d, x.Root, "p", "age", v))
	}
	for wrong, v := range wrongTexts() {
		none("name: "+wrong, impl.FindThings(d, x.Root, "p", "name", v))
	}
	for _, root := range []int{0, 1, -1, 39, 40, math.MaxInt, math.MinInt} {
		none("another root", impl.FindThings(d, root, "p", "age", num(9)))
		none("another root", impl.OrderOf(d, root, "p", "age"))
		newHold().lacks(t, "root "+strconv.Itoa(root), d, root)
	}
	for wrong, d := range wrongDisks() {
		none(wrong, impl.FindThings(d, 2, "p", "age", num(9)))
		none(wrong, impl.OrderOf(d, 2, "p", "age"))
		newHold().lacks(t, wrong, d, 2)
	}
}

// commits commits a change, opens what is kept again, and begins a new change of it.
func commits(t *testing.T, x impl.Txn) impl.Txn {
	t.Helper()
	d, _, ok := impl.Commit(x)
	if !ok {
		t.Fatal("Commit is refused")
	}
	s := opened(t, d)
	return impl.Begin(s.Disk, s.Meta, s.Meta.Tx)
}

// Things in the order of a field: numbers by what they tell, not by their figures; a text ahead of those that go on behind it; those with one value in the order of their keys.
func TestOrders(t *testing.T) {
	nums, texts := []int{0, 1, 9, 10, 127, 128, 255, 256, 257, 65535, 65536, 500000, maxNum - 1, maxNum}, []string{"", "\x01", "\x01\xff", "a", "a\x01", "a b", "aa", "aaaaaa", "ab", "abcdef", "b", "\x7f", "\x80", "\xff", "\xff\xff\xff\xff\xff\xff"}
	for _, list := range [][]impl.Field{schema("n", "f"), schema("t", "f")} {
		x := went(t, 0)(impl.MakeColl(begun(t, impl.MaxPages), "c", list))
		h := newHold().withColl("c", list)
		size := len(nums)
		if list[0].Kind == impl.KindText {
			size = len(texts)
		}
		for at := range size {
			// Put in another order than theirs, with keys that descend.
			at = at * 11 % size
			v := []impl.Value{num(nums[at%len(nums)])}
			if list[0].Kind == impl.KindText {
				v = []impl.Value{text(texts[at])}
			}
			key := "k" + strconv.Itoa(99-at)
			x = commits(t, went(t, 0)(impl.PutThing(x, "c", key, v)))
			h = h.withThing("c", key, v)
		}
		h.holds(t, "orders", x.Work.Disk, x.Root)
		want := []string{}
		for at := range size {
			want = append(want, "k"+strconv.Itoa(99-at))
		}
		isList(t, "OrderOf", impl.OrderOf(x.Work.Disk, x.Root, "c", "f"), want)
	}
	// All of one value: by their keys.
	x := went(t, 0)(impl.MakeColl(begun(t, impl.MaxPages), "c", schema("t", "f")))
	for _, key := range []string{"b", "a", "zzzz", "0", "aa", "9", "a0", "z"} {
		x = commits(t, went(t, 0)(impl.PutThing(x, "c", key, []impl.Value{text("one")})))
	}
	want := []string{"0", "9", "a", "a0", "aa", "b", "z", "zzzz"}
	isList(t, "OrderOf one value", impl.OrderOf(x.Work.Disk, x.Root, "c", "f"), want)
	isList(t, "FindThings of one value", impl.FindThings(x.Work.Disk, x.Root, "c", "f", text("one")), want)
}

// Fields whose names go on behind others', and whose values are alike; collections likewise: none meets another.
func TestNamesThatGoOn(t *testing.T) {
	list := schema("ttt", "a", "aa", "aaa")
	x, h := begun(t, impl.MaxPages), newHold()
	for _, coll := range []string{"a", "aa", "aaa"} {
		x, h = went(t, 0)(impl.MakeColl(x, coll, list)), h.withColl(coll, list)
	}
	put := func(coll, key string, texts ...string) {
		t.Helper()
		v := []impl.Value{text(texts[0]), text(texts[1]), text(texts[2])}
		x, h = commits(t, went(t, 0)(impl.PutThing(x, coll, key, v))), h.withThing(coll, key, v)
		h.holds(t, coll+"."+key, x.Work.Disk, x.Root)
	}
	put("a", "a", "a", "a", "a")
	put("aa", "a", "a", "aa", "aaa")
	put("aaa", "a", "aaa", "aa", "a")
	put("a", "aa", "", "a", "")
	put("a", "aaa", "aa", "", "a")
	put("a", "a", "aa", "aa", "a")
	put("aa", "aa", "a", "a", "a")
	put("a", "aa", "", "", "")
	for _, coll := range []string{"aa", "a", "aaa"} {
		x, h = commits(t, went(t, 0)(impl.DropThing(x, coll, "a"))), h.withoutThing(coll, "a")
		h.holds(t, "without "+coll, x.Work.Disk, x.Root)
	}
}

// The longest keys and texts that there may be.
func TestLongestThings(t *testing.T) {
	list := schema("ttt", "zzzy", "zzzz", "aaaa")
	x := went(t, 0)(impl.MakeColl(begun(t, impl.MaxPages), "zzz", list))
	h := newHold().withColl("zzz", list)
	for at, b := range []string{"\xff", "\x01", "a", "z"} {
		full := text(strings.Repeat(b, maxValueText))
		v, key := []impl.Value{full, full, full}, "zzz"+strconv.Itoa(at)
		if size := len(impl.IndexKey("zzz", "zzzz", keyText(t, impl.KindText, full), key)); size != 21 {
			t.Errorf("the longest IndexKey has %d bytes", size)
		}
		x, h = commits(t, went(t, 0)(impl.PutThing(x, "zzz", key, v))), h.withThing("zzz", key, v)
		h.holds(t, "the longest", x.Work.Disk, x.Root)
	}
	for at := range 4 {
		key := "zzz" + strconv.Itoa(at)
		x, h = commits(t, went(t, 0)(impl.DropThing(x, "zzz", key))), h.withoutThing("zzz", key)
		h.holds(t, "the longest, dropped", x.Work.Disk, x.Root)
	}
}

// Each right schema with things of many values, put, put anew and dropped.
func TestThingsOfEachSchema(t *testing.T) {
	for at, list := range rightSchemas() {
		x := went(t, 0)(impl.MakeColl(begun(t, impl.MaxPages), "c", list))
		h := newHold().withColl("c", list)
		for turn := range 9 {
			key, v := "k"+strconv.Itoa(turn%5), thingOf(list, at+turn*7)
			if turn == 7 {
				v = h.things["c"][key]
			}
			x, h = commits(t, went(t, 0)(impl.PutThing(x, "c", key, v))), h.withThing("c", key, v)
			h.holds(t, "put", x.Work.Disk, x.Root)
		}
		for turn := range 5 {
			key := "k" + strconv.Itoa((turn*3+at)%5)
			x, h = commits(t, went(t, 0)(impl.DropThing(x, "c", key))), h.withoutThing("c", key)
			h.holds(t, "dropped", x.Work.Disk, x.Root)
		}
	}
}

// deed is one call of a change: a collection that is made, a thing that is put, or one that is dropped.
type deed struct {
	what, coll, key string
	fields          []impl.Field
	v               []impl.Value
}

func (e deed) do(x impl.Txn) (impl.Txn, int) {
	switch e.what {
	case "make":
		return impl.MakeColl(x, e.coll, e.fields)
	case "put":
		return impl.PutThing(x, e.coll, e.key, e.v)
	}
	return impl.DropThing(x, e.coll, e.key)
}

// codeIn is the code that the document tells of a deed where there is room.
func (e deed) codeIn(h hold) int {
	list, known := h.schemas[e.coll]
	_, there := h.things[e.coll][e.key]
	switch {
	case e.what == "make" && (!impl.SchemaOk(e.fields) || !slices.Contains([]string{"p", "pq", "q"}, e.coll)):
		return 4
	case e.what == "make" && known:
		return 1
	case e.what == "put" && !known:
		return 2
	case e.what == "put" && (len(e.key) < 1 || len(e.key) > 4 || !impl.ThingOk(list, e.v)):
		return 4
	case e.what == "drop" && !there:
		return 2
	}
	return 0
}

func (e deed) in(h hold) hold {
	switch e.what {
	case "make":
		return h.withColl(e.coll, e.fields)
	case "put":
		return h.withThing(e.coll, e.key, e.v)
	}
	return h.withoutThing(e.coll, e.key)
}

// isRoomy tells whether a change has room enough for any one deed.
func isRoomy(x impl.Txn) bool {
	d := x.Work.Disk
	return len(x.Work.Usable)+len(d.Pages)-x.Work.Next >= 20 && len(d.Late) <= maxLate-60
}

// done does a deed, and holds it against the document's words: the code, and the tree behind it.
func (e deed) done(t *testing.T, name string, x impl.Txn, h hold) (impl.Txn, hold, int) {
	t.Helper()
	got, code := e.do(x)
	want := e.codeIn(h)
	if want == 0 && code == 3 && !isRoomy(x) {
		want = 3
	}
	if code != want {
		t.Fatalf("%s: %+v has the code %d, not %d", name, e, code, want)
	}
	if code != 0 {
		if !sameTxn(got, x) {
			t.Fatalf("%s: %+v has the code %d, and changes something", name, e, code)
		}
		return got, h, code
	}
	now := e.in(h)
	if pairs, ok := impl.AllPairs(got.Work.Disk, got.Root); !ok || !slices.Equal(pairs, now.pairs(t)) {
		t.Fatalf("%s: behind %+v there is %q, not %q", name, e, pairs, now.pairs(t))
	}
	return got, now, 0
}

// Every row of four calls of few names, from nothing on.
func TestEachRowOfDeeds(t *testing.T) {
	list := schema("nt", "a", "b")
	deeds := []deed{
		{what: "make", coll: "p", fields: list}, {what: "make", coll: "pq", fields: list},
		{what: "put", coll: "p", key: "x", v: []impl.Value{num(1), text("q")}}, {what: "put", coll: "p", key: "x", v: []impl.Value{num(2), text("q")}},
		{what: "put", coll: "p", key: "xx", v: []impl.Value{num(1), text("")}}, {what: "put", coll: "pq", key: "x", v: []impl.Value{num(1), text("q")}},
		{what: "drop", coll: "p", key: "x"}, {what: "drop", coll: "p", key: "xx"}, {what: "drop", coll: "pq", key: "x"},
	}
	met := map[string]int{}
	var rows func(x impl.Txn, h hold, left int)
	rows = func(x impl.Txn, h hold, left int) {
		if left == 0 {
			h.holds(t, "a row", x.Work.Disk, x.Root)
			return
		}
		for _, e := range deeds {
			next, now, code := e.done(t, "a row", x, h)
			met[e.what+" "+strconv.Itoa(code)]++
			if code == 0 {
				rows(next, now, left-1)
			}
		}
	}
	x := went(t, 0)(impl.MakeColl(begun(t, 30), "p", list))
	rows(begun(t, 30), newHold(), 4)
	rows(x, newHold().withColl("p", list), 5)
	for _, want := range []string{"make 0", "make 1", "put 0", "put 2", "drop 0", "drop 2"} {
		if met[want] == 0 {
			t.Errorf("%s is not met", want)
		}
	}
}

// drawDeed is a drawn call; names and values are some of few, so that they meet.
func drawDeed(next func(n int) int, h hold) deed {
	e := deed{coll: []string{"p", "pq", "q"}[next(3)], key: []string{"x", "xx", "y", "z1", "z2", "zzzz"}[next(6)]}
	e.what = []string{"put", "put", "put", "drop", "make"}[next(5)]
	schemas := [][]impl.Field{schema("n", "age"), schema("tn", "a", "aa"), schema("ttt", "b", "bb", "bbb"), schema("nnt", "x", "y", "z")}
	e.fields = schemas[next(len(schemas))]
	list, known := h.schemas[e.coll]
	if !known {
		list = e.fields
	}
	for _, field := range list {
		v := num([]int{0, 1, 2, 255, 256, 65536, maxNum}[next(7)])
		if field.Kind == impl.KindText {
			v = text([]string{"", "a", "aa", "ab", "b", "zzzzzz"}[next(6)])
		}
		e.v = append(e.v, v)
	}
	switch next(40) {
	case 0:
		e.key = []string{"", "abcde"}[next(2)]
	case 1:
		e.v = append(e.v, num(0))
	case 2:
		e.v[next(len(e.v))] = impl.Value{Num: -1, Text: "abcdefg"}
	case 3:
		e.fields = append(slices.Clone(e.fields), e.fields[0])
	case 4:
		e.coll = "Pq"
	}
	return e
}

// Long lives of a store, drawn by a rule: collections and things come and go, changes are committed or given up, and who reads finds what was when they began.
func TestLivesOfThings(t *testing.T) {
	met := map[string]int{}
	for seed := range 32 {
		next, name := drawn(seed), "seed "+strconv.Itoa(seed)
		s, h := newStore(t, 25+seed%4*5), newHold()
		seen := newHold()
		s = step(t, 0)(impl.StartRead(s, 1))
		for range 30 {
			s = step(t, 0)(impl.StartWrite(s))
			now := h
			for range 1 + next(6) {
				e, code := drawDeed(next, now), 0
				s.Txn, now, code = e.done(t, name, s.Txn, now)
				met[e.what+" "+strconv.Itoa(code)]++
			}
			now.holds(t, name+", writing", s.Txn.Work.Disk, s.Txn.Root)
			code := 0
			if next(5) == 0 {
				s = step(t, 0)(impl.StopWrite(s))
			} else if s, code = impl.EndWrite(s); code == 0 {
				h = now
			}
			met["end "+strconv.Itoa(code)]++
			again := opened(t, s.Disk)
			h.holds(t, name+", opened again", again.Disk, again.Meta.Root)
			seen.holds(t, name+", who reads", s.Disk, s.Readers[0].Meta.Root)
			if next(3) == 0 {
				s = step(t, 0)(impl.StartRead(step(t, 0)(impl.EndRead(s, 1)), 1))
				seen = h
			}
		}
	}
	for _, want := range []string{"make 0", "make 1", "make 4", "put 0", "put 2", "put 3", "put 4", "drop 0", "drop 2", "end 0"} {
		if met[want] < 5 {
			t.Errorf("%s: %d times alone", want, met[want])
		}
	}
}

// The power goes in the midst of a commit: all of a thing and its fields is there, or nothing of it.
func TestThingsAndFalls(t *testing.T) {
	x, h := people(t, impl.MaxPages)
	x = commits(t, x)
	for name, e := range map[string]deed{
		"made":     {what: "make", coll: "q", fields: schema("n", "n")},
		"put":      {what: "put", coll: "p", key: "z", v: []impl.Value{num(4), text("z")}},
		"put anew": {what: "put", coll: "p", key: "x", v: []impl.Value{num(4), text("z")}},
		"dropped":  {what: "drop", coll: "p", key: "x"},
	} {
		changed, now, _ := e.done(t, name, x, h)
		late := len(changed.Work.Disk.Late)
		for seed := range 60 {
			next := drawn(seed)
			s := opened(t, impl.CommitCut(changed, 0, bits(next(1<<15), late), next(late+1)-1))
			h.holds(t, name+", ahead of the tree", s.Disk, s.Meta.Root)
		}
		for _, torn := range []int{-1, 0} {
			s := opened(t, impl.CommitCut(changed, 1, []bool{true}, torn))
			want := now
			if torn == 0 {
				want = h
			}
			want.holds(t, name+", ahead of the meta", s.Disk, s.Meta.Root)
		}
	}
}

// One page after another is free: from some number on it is enough, and below it the change is as it is.
func TestThingsWithTooFewPages(t *testing.T) {
	x, h := people(t, impl.MaxPages)
	x = commits(t, x)
	for name, e := range map[string]deed{
		"made":     {what: "make", coll: "q", fields: schema("n", "n")},
		"put":      {what: "put", coll: "p", key: "z", v: []impl.Value{num(4), text("z")}},
		"put anew": {what: "put", coll: "p", key: "x", v: []impl.Value{num(4), text("z")}},
		"the same": {what: "put", coll: "p", key: "x", v: h.things["p"]["x"]},
		"dropped":  {what: "drop", coll: "p", key: "x"},
	} {
		codes := []int{}
		for free := range 16 {
			small := ownTxn(x)
			small.Work.Usable, small.Work.Next = nil, impl.MaxPages-free
			got, code := e.do(small)
			codes = append(codes, code)
			if code == 0 {
				e.in(h).holds(t, name, got.Work.Disk, got.Root)
			} else {
				stays(t, name, small, 3, got, code)
			}
		}
		if codes[0] != 3 || codes[15] != 0 || !slices.IsSortedFunc(codes, func(a, b int) int { return b - a }) {
			t.Errorf("%s: the codes of 0 .. 15 free pages are %v", name, codes)
		}
		codes = codes[:0]
		for more := range maxLate + 1 {
			small := ownTxn(x)
			small.Work.Disk = lateUp(small.Work.Disk, maxLate-more)
			got, code := e.do(small)
			codes = append(codes, code)
			if code != 0 {
				stays(t, name, small, 3, got, code)
			}
		}
		if codes[0] != 3 || codes[60] != 0 || !slices.IsSortedFunc(codes, func(a, b int) int { return b - a }) {
			t.Errorf("%s: the codes of 0 .. 200 that may still be Late are %v", name, codes)
		}
	}
}

// plainVal and those below are what the document tells of a tree of these pairs, whatever they are.
func plainVal(pairs []impl.Pair, key string) (string, bool) {
	for _, p := range pairs {
		if p.Key == key {
			return p.Val, true
		}
	}
	return "", false
}

func plainSchemaIn(pairs []impl.Pair, coll string) ([]impl.Field, bool) {
	s, there := plainVal(pairs, "s"+coll)
	if !there {
		return nil, false
	}
	return impl.ReadSchema(s)
}

func plainGetThing(pairs []impl.Pair, coll, key string) ([]impl.Value, bool) {
	list, known := plainSchemaIn(pairs, coll)
	s, there := plainVal(pairs, "o"+coll+"\x00"+key)
	if !known || !there {
		return nil, false
	}
	return impl.ReadThing(list, s)
}

func plainFind(pairs []impl.Pair, coll, field string, v impl.Value) []string {
	list, _ := plainSchemaIn(pairs, coll)
	keys := []string{}
	for at, f := range list {
		if f.Name != field || !impl.ThingOk(list[at:at+1], []impl.Value{v}) {
			continue
		}
		ahead := plainIndexKey(coll, field, plainOrder(f.Kind, v), "")
		for _, p := range pairs {
			if strings.HasPrefix(p.Key, ahead) {
				keys = append(keys, p.Key[len(ahead):])
			}
		}
	}
	slices.Sort(keys)
	return slices.Compact(keys)
}

// plainRank is the value that stands at the beginning of a text, and what is behind it.
func plainRank(kind int, s string) (impl.Value, string, bool) {
	if kind == impl.KindText {
		at := strings.IndexByte(s, 0)
		if at < 0 || at > maxValueText {
			return impl.Value{}, "", false
		}
		return text(s[:at]), s[at+1:], true
	}
	if len(s) < 3 {
		return impl.Value{}, "", false
	}
	n := int(s[0])*65536 + int(s[1])*256 + int(s[2])
	return num(n), s[3:], n <= maxNum
}

func plainOrderOf(pairs []impl.Pair, coll, field string) []string {
	type rank struct {
		v   impl.Value
		key string
	}
	list, _ := plainSchemaIn(pairs, coll)
	ranks := []rank{}
	for _, f := range list {
		ahead := plainIndexKey(coll, field, "", "")
		for _, p := range pairs {
			if f.Name != field || !strings.HasPrefix(p.Key, ahead) {
				continue
			}
			if v, key, ok := plainRank(f.Kind, p.Key[len(ahead):]); ok {
				ranks = append(ranks, rank{v, key})
			}
		}
	}
	slices.SortFunc(ranks, func(a, b rank) int {
		if a.v.Num != b.v.Num {
			return a.v.Num - b.v.Num
		}
		if a.v.Text != b.v.Text {
			return strings.Compare(a.v.Text, b.v.Text)
		}
		return strings.Compare(a.key, b.key)
	})
	keys := []string{}
	for _, r := range slices.Compact(ranks) {
		keys = append(keys, r.key)
	}
	return keys
}

// plainDeed is the pairs behind a deed, and its code, where there is room.
func plainDeed(t *testing.T, pairs []impl.Pair, e deed) ([]impl.Pair, int) {
	t.Helper()
	list, known := plainSchemaIn(pairs, e.coll)
	old, there := plainGetThing(pairs, e.coll, e.key)
	switch {
	case e.what == "make" && (!impl.CollOk(e.coll) || !impl.SchemaOk(e.fields)), e.what == "put" && known && (!impl.NameKey(e.key) || !impl.ThingOk(list, e.v)):
		return pairs, 4
	case e.what == "make" && known:
		return pairs, 1
	case e.what == "make":
		return withKey(pairs, "s"+e.coll, schemaText(t, e.fields)), 0
	case e.what == "put" && !known, e.what == "drop" && !there:
		return pairs, 2
	}
	out := pairs
	if there {
		for _, index := range plainIndexKeys(e.coll, e.key, list, old) {
			// A TxnDrop of what is not there is false; what is put anew does not ask for one.
			if _, found := plainVal(out, index); !found && e.what == "drop" {
				return pairs, 3
			}
			out = withoutKey(out, index)
		}
	}
	if e.what == "drop" {
		return withoutKey(out, "o"+e.coll+"\x00"+e.key), 0
	}
	adds := []impl.Pair{pair("o"+e.coll+"\x00"+e.key, thingText(t, list, e.v))}
	for _, index := range plainIndexKeys(e.coll, e.key, list, e.v) {
		adds = append(adds, pair(index, ""))
	}
	for _, add := range adds {
		if len(add.Key) > impl.MaxKey {
			return pairs, 3
		}
		out = withKey(out, add.Key, add.Val)
	}
	return out, 0
}

// oddColls, oddFields, oddKeys and oddValues are asked of trees that are not right.
func oddColls() []string {
	return []string{"p", "pq", "q", "abcd", "", "p\x00", "abcdefghij", "p\x00name"}
}

func oddFields() []string {
	return []string{"age", "name", "a", "", "ag", "age\x00", "nam", "name\x00a"}
}

func oddKeys() []string {
	return []string{"x", "y", "xx", "z", "", "x\x00", "X", "abcde", "\x00", "\xff", "xyz12"}
}

func oddValues() []impl.Value {
	return []impl.Value{num(0), num(3), num(9), num(256), num(maxNum), num(maxNum + 1), num(-1), text(""), text("b"), text("bob"), text("bobby"), text("abcdef"), text("abcdefg"), text("a\x00"), {Num: 9, Text: "bob"}}
}

// looksAt holds all functions that look into a tree against what the document tells of its pairs.
func looksAt(t *testing.T, name string, d impl.Disk, root int, pairs []impl.Pair) {
	t.Helper()
	for _, coll := range oddColls() {
		want, known := plainSchemaIn(pairs, coll)
		if got, ok := impl.SchemaIn(d, root, coll); ok != known || !slices.Equal(got, want) {
			t.Errorf("%s: SchemaIn(%q) = %v, %v, not %v, %v", name, coll, got, ok, want, known)
		}
		for _, key := range oddKeys() {
			want, there := plainGetThing(pairs, coll, key)
			if got, ok := impl.GetThing(d, root, coll, key); ok != there || !slices.Equal(got, want) {
				t.Errorf("%s: GetThing(%q, %q) = %v, %v, not %v, %v", name, coll, key, got, ok, want, there)
			}
		}
		for _, field := range oddFields() {
			of := name + ": " + strconv.Quote(coll) + ", " + strconv.Quote(field)
			isList(t, "OrderOf of "+of, impl.OrderOf(d, root, coll, field), plainOrderOf(pairs, coll, field))
			for _, v := range oddValues() {
				isList(t, "FindThings of "+of, impl.FindThings(d, root, coll, field, v), plainFind(pairs, coll, field, v))
			}
		}
	}
	if t.Failed() {
		t.FailNow()
	}
}

// oddDeeds are deeds that meet what is there, and what is not.
func oddDeeds() []deed {
	list := []deed{}
	for _, coll := range oddColls() {
		list = append(list, deed{what: "make", coll: coll, fields: schema("nt", "age", "name")})
		for _, key := range oddKeys() {
			list = append(list, deed{what: "drop", coll: coll, key: key})
		}
		for _, key := range []string{"x", "z", "", "abcde"} {
			for _, v := range [][]impl.Value{{num(9), text("bob")}, {num(256), text("abcdef")}, {text("bob")}, {num(-1), text("")}, {num(1)}, nil} {
				list = append(list, deed{what: "put", coll: coll, key: key, v: v})
			}
		}
	}
	return list
}

// actsIn holds all deeds in a tree of pairs, whatever they are, against the document's words.
func actsIn(t *testing.T, name string, x impl.Txn, pairs []impl.Pair) {
	t.Helper()
	for _, e := range oddDeeds() {
		want, wantCode := plainDeed(t, pairs, e)
		got, code := e.do(x)
		if code != wantCode {
			t.Fatalf("%s: %+v has the code %d, not %d", name, e, code, wantCode)
		}
		if code != 0 && !sameTxn(got, x) {
			t.Fatalf("%s: %+v has the code %d, and changes something", name, e, code)
		}
		if all, ok := impl.AllPairs(got.Work.Disk, got.Root); !ok || !slices.Equal(all, want) {
			t.Fatalf("%s: behind %+v there is %q, not %q", name, e, all, want)
		}
	}
}

// treeOf is a change of a tree of these pairs.
func treeOf(t *testing.T, pairs []impl.Pair) impl.Txn {
	t.Helper()
	g := grow(t, pairs, impl.Fan, span(2, impl.MaxPages-1))
	m := meta(3, g.root, 2+len(g.pages))
	return impl.Begin(impl.SyncDisk(g.disk), m, 3)
}

// oddPairs are pairs that no calls of this layer put, by what is wrong with them: a tree may have some of them in the place of its own ones.
func oddPairs() map[string][]impl.Pair {
	index := func(rests ...string) []impl.Pair {
		list := []impl.Pair{}
		for _, rest := range rests {
			list = append(list, pair("ip\x00"+rest, ""))
		}
		return list
	}
	return map[string][]impl.Pair{
		"no schema, empty":             {pair("sp", "")},
		"no schema, a kind alone":      {pair("sp", "\x01")},
		"no schema, kind 3":            {pair("sp", "\x03\x03age")},
		"no schema, kind 0":            {pair("sp", "\x00\x03age\x02\x04name")},
		"no schema, one name twice":    {pair("sp", "\x01\x03age\x02\x03age")},
		"no schema, four fields":       {pair("sp", "\x01\x01a\x01\x01b\x01\x01c\x01\x01d")},
		"no schema, more behind":       {pair("sp", "\x01\x03age\x02\x04name\x00")},
		"no schema, capitals":          {pair("sp", "\x01\x03AGE")},
		"another schema, one field":    {pair("sp", "\x01\x03age")},
		"another schema, kinds turned": {pair("sp", "\x02\x03age\x01\x04name")},
		"another schema, fields moved": {pair("sp", "\x02\x04name\x01\x03age")},
		"a schema of 4 letters":        {pair("sabcd", "\x01\x03age")},
		"a schema of no name":          {pair("s", "\x01\x03age")},
		"a schema of a name with 0":    {pair("sp\x00", "\x01\x03age"), pair("op\x00\x00x", "\x09"), pair("ip\x00\x00age\x00\x00\x00\x09x", "")},
		"a schema of a long name":      {pair("sabcdefghij", "\x01\x03age\x02\x04name"), pair("oabcdefghij\x00x", "\x09\x03bob")},
		"a schema of a field's name":   {pair("sp\x00name", "\x02\x01a"), pair("ip\x00name\x00a\x00b\x00x", "")},
		"no thing, empty":              {pair("op\x00x", "")},
		"no thing, a value too few":    {pair("op\x00x", "\x09")},
		"no thing, more behind":        {pair("op\x00x", "\x09\x03bob\x00")},
		"no thing, a longer form":      {pair("op\x00x", "\x89\x00\x03bob")},
		"no thing, too great":          {pair("op\x00x", "\xc0\x84\x3d\x03bob")},
		"no thing, the byte 0":         {pair("op\x00x", "\x09\x03b\x00b")},
		"no thing, 7 bytes":            {pair("op\x00x", "\x09\x07abcdefg")},
		"another thing, no index":      {pair("op\x00x", "\x08\x02al")},
		"a thing without an index":     {pair("op\x00z", "\x08\x02al")},
		"things of odd keys":           {pair("op\x00", "\x09\x03bob"), pair("op\x00X", "\x09\x03bob"), pair("op\x00abcde", "\x09\x03bob"), pair("op\x00x\x00", "\x09\x03bob")},
		"odd keys with an index":       append(index("age\x00\x00\x00\x09X", "name\x00bob\x00X"), pair("op\x00X", "\x09\x03bob")),
		"index without a thing":        index("age\x00\x00\x00\x09z", "name\x00bob\x00z", "age\x00\x00\x00\x04z"),
		"index of one thing twice":     index("age\x00\x00\x00\x01x", "age\x00\x00\x01\x00x", "name\x00al\x00x"),
		"index without a key":          index("age\x00\x00\x00\x09", "name\x00bob\x00", "name\x00\x00"),
		"index of odd keys":            index("age\x00\x00\x00\x09abcde", "age\x00\x00\x00\x09\xff", "age\x00\x00\x00\x09\x00", "name\x00bob\x00x\x00", "name\x00bob\x00\xff", "name\x00bob\x00\x00"),
		"index too short":              index("", "a", "age", "age\x00", "age\x00\x00", "age\x00\x00\x00", "age\x00\x00\x09", "name", "name\x00", "name\x00bob", "name\x00abcdef"),
		"index above all numbers":      index("age\x00\xff\xff\xffx", "age\x00\x0f\x42\x40x", "age\x00\x0f\x42\x3fz"),
		"index of long texts":          index("name\x00abcdefg\x00x", "name\x00abcdef\x00z", "name\x00abcdefx", "name\x00abcdefg"),
		"index with no field":          index("\x00\x00\x00\x09x", "agf\x00\x00\x00\x09x", "ag\x00\x00\x00\x09x", "agee\x00\x00\x00\x09x", "age\x01\x00\x00\x08w", "name\x01bob\x00w"),
		"index of other collections":   {pair("i", ""), pair("ip", ""), pair("i\x00age\x00\x00\x00\x09x", ""), pair("iq\x00age\x00\x00\x00\x09x", ""), pair("ip\x01age\x00\x00\x00\x09x", ""), pair("io\x00age\x00\x00\x00\x09x", "")},
		"index with texts":             {pair("ip\x00age\x00\x00\x00\x09x", "text"), pair("ip\x00name\x00bob\x00x", "\x00"), pair("ip\x00age\x00\x00\x00\x07z", "z")},
		"other keys":                   {pair("", "v"), pair("a", "v"), pair("h", "v"), pair("j", "v"), pair("o", ""), pair("op", "\x09\x03bob"), pair("o\x00x", "\x09"), pair("t", ""), pair("\xff", "")},
	}
}

// peoplePairs are the pairs of a right tree.
func peoplePairs(t *testing.T) []impl.Pair {
	t.Helper()
	_, h := people(t, impl.MaxPages)
	return h.pairs(t)
}

// Trees with pairs that are not right: too many, too few, and others than there should be.
func TestThingsOfOddTrees(t *testing.T) {
	base := peoplePairs(t)
	trees := map[string][]impl.Pair{"right": base, "the schemas alone": {pair("sp", "\x01\x03age\x02\x04name"), pair("spq", "\x02\x03age")}}
	for name, odd := range oddPairs() {
		pairs := base
		for _, p := range odd {
			pairs = withKey(pairs, p.Key, p.Val)
		}
		trees[name] = pairs
	}
	for _, p := range base {
		trees["without "+p.Key] = withoutKey(base, p.Key)
	}
	trees["without any index"] = slices.DeleteFunc(slices.Clone(base), func(p impl.Pair) bool { return p.Key[0] == 'i' })
	trees["without any thing"] = slices.DeleteFunc(slices.Clone(base), func(p impl.Pair) bool { return p.Key[0] == 'o' })
	trees["without any schema"] = slices.DeleteFunc(slices.Clone(base), func(p impl.Pair) bool { return p.Key[0] == 's' })
	for name, pairs := range trees {
		x := treeOf(t, pairs)
		looksAt(t, name, x.Work.Disk, x.Root, pairs)
		actsIn(t, name, x, pairs)
	}
}

// drawOdd is base with some of the odd pairs, of at most so many kinds of them, and without some of its own ones.
func drawOdd(next func(n int) int, base []impl.Pair, most int) []impl.Pair {
	odd := oddPairs()
	names := slices.Sorted(maps.Keys(odd))
	pairs := slices.Clone(base)
	for range 1 + next(most) {
		for _, p := range odd[names[next(len(names))]] {
			if next(4) > 0 {
				pairs = withKey(pairs, p.Key, p.Val)
			}
		}
	}
	for range next(3) {
		pairs = withoutKey(pairs, pairs[next(len(pairs))].Key)
	}
	return pairs
}

// Trees with several of those at once, drawn.
func TestThingsOfDrawnTrees(t *testing.T) {
	base := peoplePairs(t)
	for seed := range 60 {
		pairs := drawOdd(drawn(seed), base, 4)
		x := treeOf(t, pairs)
		looksAt(t, "seed "+strconv.Itoa(seed), x.Work.Disk, x.Root, pairs)
		if seed%3 == 0 {
			actsIn(t, "seed "+strconv.Itoa(seed), x, pairs)
		}
	}
}

// In a tree whose Keys do not ascend what is found still does, no key twice; where there is no tree as a whole nothing is found, but a thing is got.
func TestThingsOfBrokenTrees(t *testing.T) {
	index := func(n byte, key string) string { return "ip\x00age\x00\x00\x00" + string([]byte{n}) + key }
	of := func(keys ...string) impl.Node { return leaf(keys, make([]string, len(keys))) }
	nodes := map[int]impl.Node{
		2: of(index(9, "x"), index(9, "z")),
		3: of(index(3, "y"), index(9, "a"), index(9, "x")),
		4: leaf([]string{"op\x00x", "sp"}, []string{"\x09", "\x01\x03age"}),
		5: branch([]string{"", "i", "op"}, 2, 3, 4),
		6: branch([]string{"", "i", "op"}, 2, 13, 4),
		7: branch([]string{"", "op"}, 7, 4),
		8: branch([]string{"", "a", "o"}, 4, 3, 4),
	}
	nodes[8].Kids[0] = 9
	nodes[9] = branch([]string{""}, 4)
	d := pagesWith(t, nodes)
	isList(t, "FindThings", impl.FindThings(d, 5, "p", "age", num(9)), []string{"a", "x", "z"})
	isList(t, "FindThings", impl.FindThings(d, 5, "p", "age", num(3)), []string{"y"})
	isList(t, "OrderOf", impl.OrderOf(d, 5, "p", "age"), []string{"y", "a", "x", "z"})
	for root, what := range map[int]string{6: "a page that is no node", 7: "a page below itself", 8: "a page twice"} {
		isList(t, what, impl.FindThings(d, root, "p", "age", num(9)), nil)
		isList(t, what, impl.OrderOf(d, root, "p", "age"), nil)
		if v, ok := impl.GetThing(d, root, "p", "x"); !ok || !slices.Equal(v, []impl.Value{num(9)}) {
			t.Errorf("%s: GetThing = %v, %v", what, v, ok)
		}
		if list, ok := impl.SchemaIn(d, root, "p"); !ok || !slices.Equal(list, schema("n", "age")) {
			t.Errorf("%s: SchemaIn = %v, %v", what, list, ok)
		}
	}
	deep, root := chain(t, impl.MaxDeep+1)
	deep.Pages[2] = nodeText(t, nodes[4])
	newHold().lacks(t, "too deep", deep, root)
	isList(t, "too deep", impl.OrderOf(deep, root, "p", "age"), nil)
	if v, ok := impl.GetThing(deep, root-1, "p", "x"); !ok || !slices.Equal(v, []impl.Value{num(9)}) {
		t.Errorf("just as deep as may be: GetThing = %v, %v", v, ok)
	}
}

// oddTxns are changes with collections whose parts do not belong together.
func oddTxns(t *testing.T) map[string]impl.Txn {
	t.Helper()
	right, _ := people(t, impl.MaxPages)
	kept := commits(t, right)
	list := map[string]impl.Txn{"nothing": {}, "right": right, "kept": kept}
	add := func(name string, change func(x *impl.Txn)) {
		for was, from := range map[string]impl.Txn{"": right, "kept, ": kept} {
			x := ownTxn(from)
			change(&x)
			list[was+name] = x
		}
	}
	for _, root := range []int{0, 1, 2, 3, 5, -1, 39, 40, math.MaxInt, math.MinInt} {
		add("root "+strconv.Itoa(root), func(x *impl.Txn) { x.Root = root })
	}
	for _, next := range []int{0, 1, 2, 5, -1, 39, 40, 41, math.MaxInt, math.MinInt} {
		add("next "+strconv.Itoa(next), func(x *impl.Txn) { x.Work.Next, x.Work.Usable = next, nil })
	}
	add("all are usable", func(x *impl.Txn) { x.Work.Usable = span(2, 39) })
	add("odd ones are usable", func(x *impl.Txn) { x.Work.Usable = []int{-1, 0, 1, 40, math.MaxInt} })
	add("its root is usable", func(x *impl.Txn) { x.Work.Usable = []int{x.Root, x.Root, 38} })
	add("all are fresh", func(x *impl.Txn) { x.Work.Fresh = span(0, 39) })
	add("all are gone", func(x *impl.Txn) { x.Work.Gone = span(-3, 50) })
	add("no base", func(x *impl.Txn) { x.Base = impl.Meta{} })
	add("the greatest base", func(x *impl.Txn) { x.Base = meta(math.MaxInt, math.MaxInt, math.MaxInt) })
	add("the least base", func(x *impl.Txn) { x.Base = meta(math.MinInt, math.MinInt, math.MinInt) })
	add("no disk", func(x *impl.Txn) { x.Work.Disk = impl.Disk{} })
	add("pages too few", func(x *impl.Txn) { x.Work.Disk = impl.SyncDisk(x.Work.Disk); x.Work.Disk.Pages = x.Work.Disk.Pages[:9] })
	add("pages too many", func(x *impl.Txn) { x.Work.Disk.Pages = append(x.Work.Disk.Pages, "") })
	add("200 Late", func(x *impl.Txn) { x.Work.Disk = lateUp(impl.SyncDisk(x.Work.Disk), maxLate) })
	add("some more Late", func(x *impl.Txn) { x.Work.Disk = lateUp(impl.SyncDisk(x.Work.Disk), maxLate-9) })
	add("201 Late", func(x *impl.Txn) { x.Work.Disk = lateUp(impl.SyncDisk(x.Work.Disk), maxLate+1) })
	for name, m := range wrongMetas() {
		add("base: "+name, func(x *impl.Txn) { x.Base = m })
	}
	for name, d := range wrongDisks() {
		add("disk: "+name, func(x *impl.Txn) { x.Work.Disk = d })
	}
	for name, x := range anyTxns(t) {
		list["change: "+name] = x
	}
	return list
}

// plainSteps is a change behind several steps: as it is, and CodeFull, when one is false.
func plainSteps(x impl.Txn, acts ...act) (impl.Txn, int) {
	out, ok := x, true
	for _, a := range acts {
		if a.take {
			out, ok = impl.TxnDrop(out, a.pair.Key)
		} else {
			out, ok = impl.TxnPut(out, a.pair.Key, a.pair.Val)
		}
		if !ok {
			return x, 3
		}
	}
	return out, 0
}

// plainTxnDeed is what the document tells of a deed by TxnPut and TxnDrop, in the order of its words; nothing (false) of a thing that is put in the place of one with other values, where it tells no order.
func plainTxnDeed(t *testing.T, x impl.Txn, e deed) (impl.Txn, int, bool) {
	t.Helper()
	d := x.Work.Disk
	list, known := impl.SchemaIn(d, x.Root, e.coll)
	old, there := impl.GetThing(d, x.Root, e.coll, e.key)
	acts := []act{}
	switch {
	case e.what == "make" && (!impl.CollOk(e.coll) || !impl.SchemaOk(e.fields)), e.what == "put" && known && (!impl.NameKey(e.key) || !impl.ThingOk(list, e.v)):
		return x, 4, true
	case e.what == "make" && known:
		return x, 1, true
	case e.what == "put" && !known, e.what == "drop" && !there:
		return x, 2, true
	case e.what == "make":
		acts = append(acts, putAct("s"+e.coll, schemaText(t, e.fields)))
	case e.what == "drop":
		acts = append(acts, takeAct("o"+e.coll+"\x00"+e.key))
		for _, index := range plainIndexKeys(e.coll, e.key, list, old) {
			acts = append(acts, takeAct(index))
		}
	case there && !slices.Equal(old, e.v):
		return impl.Txn{}, 0, false
	default:
		acts = append(acts, putAct("o"+e.coll+"\x00"+e.key, thingText(t, list, e.v)))
		for _, index := range plainIndexKeys(e.coll, e.key, list, e.v) {
			acts = append(acts, putAct(index, ""))
		}
	}
	out, code := plainSteps(x, acts...)
	return out, code, true
}

// Changes whose parts do not belong together: each call is answered, by the document's words.
func TestThingsOfOddTxns(t *testing.T) {
	codes := map[string]int{}
	for name, x := range oddTxns(t) {
		d := x.Work.Disk
		if pairs, ok := impl.AllPairs(d, x.Root); ok && impl.TreeOk(d, x.Root) {
			looksAt(t, name, d, x.Root, pairs)
		}
		for _, e := range oddDeeds() {
			got, code := e.do(x)
			codes[e.what+" "+strconv.Itoa(code)]++
			want, wantCode, told := plainTxnDeed(t, x, e)
			if !told && code != 0 {
				want, wantCode, told = x, 3, true
			}
			if told && (code != wantCode || !sameTxn(got, want)) {
				isTxn(t, name, got, want)
				t.Fatalf("%s: %+v has the code %d, not %d, or is another change", name, e, code, wantCode)
			}
		}
	}
	for _, want := range []string{"make 0", "make 1", "make 3", "make 4", "put 0", "put 2", "put 3", "put 4", "drop 0", "drop 2", "drop 3"} {
		if codes[want] == 0 {
			t.Errorf("%s is not met", want)
		}
	}
}

// thingAnswer is what a call of this layer answers, whatever it is.
type thingAnswer struct {
	x      impl.Txn
	code   int
	ok     bool
	fields []impl.Field
	values []impl.Value
	keys   []string
}

func sameThingAnswer(a, b thingAnswer) bool {
	return sameTxn(a.x, b.x) && a.code == b.code && a.ok == b.ok && slices.Equal(a.fields, b.fields) && slices.Equal(a.values, b.values) && slices.Equal(a.keys, b.keys)
}

func ownThingAnswer(a thingAnswer) thingAnswer {
	return thingAnswer{x: ownTxn(a.x), code: a.code, ok: a.ok, fields: slices.Clone(a.fields), values: slices.Clone(a.values), keys: slices.Clone(a.keys)}
}

func scribbleThingAnswer(a thingAnswer) {
	scribbleTxn(a.x)
	clear(a.fields[:cap(a.fields)])
	clear(a.values[:cap(a.values)])
	for at := range a.keys[:cap(a.keys)] {
		a.keys[:cap(a.keys)][at] = "scribbled"
	}
}

// thingTexts are all texts of an answer.
func thingTexts(a thingAnswer) []string {
	list := append(textsOf(a.x.Work.Disk), a.keys...)
	for _, f := range a.fields {
		list = append(list, f.Name)
	}
	for _, v := range a.values {
		list = append(list, v.Text)
	}
	return list
}

// thingArgs are what is handed to a call beside the change.
type thingArgs struct {
	fields []impl.Field
	values []impl.Value
}

func someThingArgs() thingArgs {
	return thingArgs{fields: schema("nt", strings.Clone("age"), strings.Clone("name")), values: []impl.Value{num(4), text(strings.Clone("carl"))}}
}

// thingCalls are calls of all functions of this layer that take a tree, right ones and such as are refused.
func thingCalls() map[string]func(x impl.Txn, a thingArgs) thingAnswer {
	calls := map[string]func(x impl.Txn, a thingArgs) thingAnswer{}
	for _, coll := range []string{"p", "pq", "n", "P"} {
		calls["MakeColl "+coll] = func(x impl.Txn, a thingArgs) thingAnswer {
			out, code := impl.MakeColl(x, coll, a.fields)
			return thingAnswer{x: out, code: code}
		}
		calls["SchemaIn "+coll] = func(x impl.Txn, a thingArgs) thingAnswer {
			list, ok := impl.SchemaIn(x.Work.Disk, x.Root, coll)
			return thingAnswer{fields: list, ok: ok}
		}
		calls["OrderOf "+coll] = func(x impl.Txn, a thingArgs) thingAnswer {
			return thingAnswer{keys: impl.OrderOf(x.Work.Disk, x.Root, coll, "age")}
		}
		for _, v := range []impl.Value{num(9), text("bob"), num(-1)} {
			calls["FindThings "+coll+v.Text+strconv.Itoa(v.Num)] = func(x impl.Txn, a thingArgs) thingAnswer {
				return thingAnswer{keys: impl.FindThings(x.Work.Disk, x.Root, coll, "age", v)}
			}
		}
		for _, key := range []string{"x", "z", "Z"} {
			calls["GetThing "+coll+"."+key] = func(x impl.Txn, a thingArgs) thingAnswer {
				v, ok := impl.GetThing(x.Work.Disk, x.Root, coll, key)
				return thingAnswer{values: v, ok: ok}
			}
			calls["PutThing "+coll+"."+key] = func(x impl.Txn, a thingArgs) thingAnswer {
				out, code := impl.PutThing(x, coll, key, a.values)
				return thingAnswer{x: out, code: code}
			}
			calls["DropThing "+coll+"."+key] = func(x impl.Txn, a thingArgs) thingAnswer {
				out, code := impl.DropThing(x, coll, key)
				return thingAnswer{x: out, code: code}
			}
		}
	}
	return calls
}

// fewTxns are some of the odd changes, of each kind one.
func fewTxns(t *testing.T) map[string]impl.Txn {
	t.Helper()
	list := oddTxns(t)
	maps.DeleteFunc(list, func(name string, x impl.Txn) bool {
		return strings.Contains(name, "base: ") || strings.Contains(name, "next ") || strings.Contains(name, "root ")
	})
	return list
}

func TestThingCallsArgumentsStay(t *testing.T) {
	for name, plain := range fewTxns(t) {
		x, a := roomyTxn(plain), someThingArgs()
		a.fields, a.values = roomyFields(a.fields), roomyValues(a.values)
		want, fields, values := wholeTxn(x), slices.Clone(a.fields[:cap(a.fields)]), slices.Clone(a.values[:cap(a.values)])
		for call, do := range thingCalls() {
			do(x, a)
			if !sameTxn(wholeTxn(x), want) || !sameTxn(x, plain) {
				t.Fatalf("%s of %s writes into its change", call, name)
			}
			if !slices.Equal(a.fields[:cap(a.fields)], fields) || !slices.Equal(a.values[:cap(a.values)], values) {
				t.Fatalf("%s of %s writes into its lists", call, name)
			}
		}
	}
}

// txnStretches are the memory of all lists of a change.
func txnStretches(x impl.Txn) []stretch {
	return stretchesOf(impl.Store{Txn: x})
}

func TestThingAnswersAreNewMemory(t *testing.T) {
	for name, plain := range fewTxns(t) {
		for call, do := range thingCalls() {
			x, a := roomyTxn(plain), someThingArgs()
			got, other := do(x, a), do(x, a)
			lists := slices.Concat(txnStretches(x), txnStretches(got.x), txnStretches(other.x))
			for _, answer := range []thingAnswer{got, other} {
				for _, s := range []stretch{stretchOf(answer.fields), stretchOf(answer.values), stretchOf(answer.keys)} {
					if s.from != s.to {
						lists = append(lists, s)
					}
				}
			}
			if !apart(append(lists, stretchOf(a.fields), stretchOf(a.values))) {
				t.Fatalf("%s of %s: lists share memory", call, name)
			}
			want := ownThingAnswer(got)
			scribbleTxn(x)
			clear(a.fields)
			clear(a.values)
			scribbleThingAnswer(other)
			if !sameThingAnswer(got, want) {
				t.Fatalf("%s of %s: what is changed elsewhere changes the answer", call, name)
			}
		}
	}
}

func TestThingAnswersTextsAreNewMemory(t *testing.T) {
	shared := func(list []string, held []string) bool {
		return slices.ContainsFunc(list, func(text string) bool {
			return slices.ContainsFunc(held, func(other string) bool { return sharesMemory(text, other) })
		})
	}
	for name, plain := range fewTxns(t) {
		x, a := ownTxn(plain), someThingArgs()
		held := append(textsOf(x.Work.Disk), a.fields[0].Name, a.fields[1].Name, a.values[1].Text)
		for call, do := range thingCalls() {
			if shared(thingTexts(do(x, a)), held) {
				t.Fatalf("%s of %s hands out a text of its argument", call, name)
			}
		}
	}
	coll, field, order, key := strings.Clone("abc"), strings.Clone("name"), strings.Clone("bob\x00"), strings.Clone("x1")
	if shared([]string{impl.SchemaKey(coll), impl.ThingKey(coll, key), impl.ThingKey(coll, ""), impl.ThingKey("", key), impl.IndexKey(coll, field, order, key), impl.IndexKey("", "", order, ""), impl.IndexKey("", "", "", key)}, []string{coll, field, order, key}) {
		t.Error("a key is a text of an argument")
	}
}

// An empty list and nil are the same value.
func TestThingsEmptyAndNil(t *testing.T) {
	right, _ := people(t, impl.MaxPages)
	right = commits(t, right)
	none, empty := ownTxn(right), ownTxn(right)
	none.Base.Frees, none.Work.Usable, none.Work.Gone, none.Work.Fresh, none.Work.Disk.Late = nil, nil, nil, nil, nil
	empty.Base.Frees, empty.Work.Usable, empty.Work.Gone, empty.Work.Fresh, empty.Work.Disk.Late = []impl.Free{}, []int{}, []int{}, []int{}, []impl.Put{}
	for call, do := range thingCalls() {
		for _, a := range []thingArgs{someThingArgs(), {}} {
			if !sameThingAnswer(do(none, a), do(empty, a)) {
				t.Errorf("%s: an empty list is not nil", call)
			}
		}
		if !sameThingAnswer(do(right, thingArgs{}), do(right, thingArgs{fields: []impl.Field{}, values: []impl.Value{}})) {
			t.Errorf("%s: an empty argument is not nil", call)
		}
	}
}

// No function keeps anything: the same is answered whatever was asked between, and by whomever at once.
func TestThingsKeepNothing(t *testing.T) {
	right, _ := people(t, impl.MaxPages)
	small, _ := people(t, 25)
	changes := map[string]impl.Txn{"right": right, "small": small, "kept": commits(t, right), "nothing": {}}
	calls, a := thingCalls(), someThingArgs()
	first := map[string]thingAnswer{}
	for name, x := range changes {
		for call, do := range calls {
			first[name+", "+call] = do(x, a)
		}
	}
	var all sync.WaitGroup
	for range 4 {
		all.Go(func() {
			for name, x := range changes {
				for call, do := range calls {
					if !sameThingAnswer(do(x, a), first[name+", "+call]) {
						t.Errorf("%s of %s answers something else the second time", call, name)
					}
				}
			}
		})
	}
	all.Wait()
}
