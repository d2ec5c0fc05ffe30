package tests

import (
	"math"
	"regexp"
	"slices"
	"strings"
	"testing"

	"loop.example/g00240/impl"
)

// The greatest Num and the longest Text that the document lets a value have.
const (
	maxNum       = 999999
	maxValueText = 6
)

func num(n int) impl.Value { return impl.Value{Num: n} }

func text(s string) impl.Value { return impl.Value{Text: s} }

// schema is the fields of these names, the kinds told by a letter each: n or t.
func schema(kinds string, names ...string) []impl.Field {
	list := []impl.Field{}
	for at, name := range names {
		kind := impl.KindNum
		if kinds[at] == 't' {
			kind = impl.KindText
		}
		list = append(list, impl.Field{Name: name, Kind: kind})
	}
	return list
}

// rightSchemas have every row of kinds, with names of every length.
func rightSchemas() [][]impl.Field {
	rows := [][]string{{"a"}, {"zz"}, {"age"}, {"name"}, {"a", "z"}, {"a", "aa"}, {"name", "nam"}, {"c", "b", "a"}, {"abcd", "abce", "abc"}, {"zzzz", "aaaa", "mmmm"}, {"x", "xx", "xxx"}}
	list := [][]impl.Field{}
	for _, names := range rows {
		for mask := range 1 << len(names) {
			kinds := ""
			for at := range names {
				kinds += string("nt"[mask>>at&1])
			}
			list = append(list, schema(kinds, names...))
		}
	}
	return list
}

func wrongSchemas() map[string][]impl.Field {
	kind := func(k int) []impl.Field { return []impl.Field{{Name: "a", Kind: impl.KindNum}, {Name: "b", Kind: k}} }
	wrong := map[string][]impl.Field{
		"nil":                     nil,
		"no fields":               {},
		"a field too many":        schema("ntnt", "a", "b", "c", "d"),
		"many fields":             schema("nnnnnn", "a", "b", "c", "d", "e", "f"),
		"no name":                 schema("n", ""),
		"no name at the end":      schema("ntn", "a", "b", ""),
		"a name of 5":             schema("t", "abcde"),
		"a name of 5 at the end":  schema("ntn", "a", "b", "abcde"),
		"a long name":             schema("t", strings.Repeat("a", impl.MaxText+1)),
		"a name twice":            schema("nn", "a", "a"),
		"a name twice, two kinds": schema("nt", "a", "a"),
		"first and last name":     schema("nnn", "a", "b", "a"),
		"the last two names":      schema("ntt", "a", "b", "b"),
		"all one name":            schema("nnn", "ab", "ab", "ab"),
		"the zero field":          {{}},
		"kind 0":                  kind(0),
		"kind 3":                  kind(3),
		"kind -1":                 kind(-1),
		"kind 255":                kind(255),
		"kind 256":                kind(256),
		"kind 257":                kind(257),
		"kind 258":                kind(258),
		"the greatest kind":       kind(math.MaxInt),
		"the least kind":          kind(math.MinInt),
		"kind 0 at the beginning": {{Name: "a"}, {Name: "b", Kind: impl.KindText}},
	}
	for at := range 256 {
		if b := string([]byte{byte(at)}); b < "a" || b > "z" {
			wrong["name "+b] = schema("n", b)
			wrong["name a"+b] = schema("t", "a"+b)
			wrong["name "+b+"zz"] = schema("nt", "a", b+"zz")
		}
	}
	return wrong
}

// rightTexts are texts of every length, with the least and the greatest bytes that they may have.
func rightTexts() []string {
	list := []string{"", "ab c", "h\u00e9", "\xff\xfe\xfd", "\x01\x02\x03", "\x80\x7f", "abcdef"}
	for size := 1; size <= maxValueText; size++ {
		for _, b := range []string{"\x01", "a", "\xff"} {
			list = append(list, strings.Repeat(b, size))
		}
	}
	for b := 1; b < 256; b++ {
		list = append(list, string([]byte{byte(b)}), string([]byte{'a', byte(b), 'a'}), string([]byte{'a', 'b', 'c', 'd', 'e', byte(b)}))
	}
	return list
}

func rightNums() []int {
	return []int{0, 1, 2, 9, 126, 127, 128, 129, 254, 255, 256, 257, 258, 16383, 16384, 16385, 65535, 65536, 65537, 131071, 131072, 500000, maxNum - 1, maxNum}
}

// wrongNums are no values of KindNum, wrongTexts none of KindText.
func wrongNums() map[string]impl.Value {
	return map[string]impl.Value{
		"one below":         num(-1),
		"one above":         num(maxNum + 1),
		"the least int":     num(math.MinInt),
		"the greatest int":  num(math.MaxInt),
		"three whole bytes": num(1 << 24),
		"MaxNumber":         num(impl.MaxNumber),
		"a text":            text("a"),
		"a text of byte 0":  text("\x00"),
		"Num and Text":      {Num: 5, Text: "a"},
		"greatest and Text": {Num: maxNum, Text: "abcdef"},
		"below 0 and Text":  {Num: -1, Text: "a"},
	}
}

func wrongTexts() map[string]impl.Value {
	wrong := map[string]impl.Value{
		"7 bytes":           text("abcdefg"),
		"7 bytes 255":       text(strings.Repeat("\xff", 7)),
		"a long text":       text(strings.Repeat("a", impl.MaxText+1)),
		"a number":          num(1),
		"a number below 0":  num(-1),
		"the greatest int":  num(math.MaxInt),
		"Num and Text":      {Num: 5, Text: "a"},
		"-1 and Text":       {Num: -1, Text: "abcdef"},
		"byte 0 and Num":    {Num: 1, Text: "\x00"},
		"byte 0 of 7 bytes": text("abcdef\x00"),
	}
	for size := 1; size <= maxValueText; size++ {
		for at := range size {
			b := []byte(strings.Repeat("a", size))
			b[at] = 0
			wrong["byte 0 in "+string(b)] = text(string(b))
		}
	}
	return wrong
}

// valueOf is some right value for the field, another one for each turn.
func valueOf(field impl.Field, turn int) impl.Value {
	if field.Kind == impl.KindNum {
		return num(rightNums()[turn%len(rightNums())])
	}
	return text(rightTexts()[turn%len(rightTexts())])
}

func thingOf(list []impl.Field, turn int) []impl.Value {
	v := []impl.Value{}
	for at, field := range list {
		v = append(v, valueOf(field, turn+5*at))
	}
	return v
}

func schemaText(t *testing.T, list []impl.Field) string {
	t.Helper()
	s, ok := impl.SchemaText(list)
	if !ok {
		t.Fatalf("SchemaText(%#v) is refused", list)
	}
	return s
}

func thingText(t *testing.T, list []impl.Field, v []impl.Value) string {
	t.Helper()
	s, ok := impl.ThingText(list, v)
	if !ok {
		t.Fatalf("ThingText(%#v, %#v) is refused", list, v)
	}
	return s
}

func noThing(t *testing.T, list []impl.Field, s string) {
	t.Helper()
	if v, ok := impl.ReadThing(list, s); len(v) != 0 || ok {
		t.Errorf("ReadThing(%#v, %.20q) = %#v, %v", list, s, v, ok)
	}
}

func TestThingConstants(t *testing.T) {
	if impl.KindNum != 1 || impl.KindText != 2 || impl.MaxFields != 3 {
		t.Errorf("KindNum %d, KindText %d, MaxFields %d", impl.KindNum, impl.KindText, impl.MaxFields)
	}
}

func TestSchemaBytes(t *testing.T) {
	for want, list := range map[string][]impl.Field{
		"\x01\x01a":                           schema("n", "a"),
		"\x02\x01z":                           schema("t", "z"),
		"\x02\x04name":                        schema("t", "name"),
		"\x01\x03age\x02\x04name":             schema("nt", "age", "name"),
		"\x02\x04name\x01\x03age":             schema("tn", "name", "age"),
		"\x02\x01b\x02\x02bb\x01\x03bbb":      schema("ttn", "b", "bb", "bbb"),
		"\x01\x04zzzz\x01\x04zzzy\x02\x04zzz": nil,
		"\x01\x04zzzz\x01\x04zzzy\x02\x03zzz": schema("nnt", "zzzz", "zzzy", "zzz"),
	} {
		got, ok := impl.ReadSchema(want)
		if ok != (list != nil) || !slices.Equal(got, list) {
			t.Errorf("ReadSchema(%q) = %#v, %v", want, got, ok)
		}
		if list != nil && schemaText(t, list) != want {
			t.Errorf("SchemaText(%#v) = %q", list, schemaText(t, list))
		}
	}
}

func TestSchemaIsReadBack(t *testing.T) {
	seen := map[string]bool{}
	for _, list := range rightSchemas() {
		if !impl.SchemaOk(list) {
			t.Errorf("SchemaOk(%#v) is false", list)
		}
		s := schemaText(t, list)
		if seen[s] {
			t.Errorf("SchemaText(%#v) is that of another one", list)
		}
		seen[s] = true
		if got, ok := impl.ReadSchema(s); !ok || !slices.Equal(got, list) {
			t.Errorf("ReadSchema(%q) = %#v, %v", s, got, ok)
		}
	}
}

func TestSchemaRefuses(t *testing.T) {
	for name, list := range wrongSchemas() {
		if impl.SchemaOk(list) {
			t.Errorf("SchemaOk of %q", name)
		}
		if s, ok := impl.SchemaText(list); s != "" || ok {
			t.Errorf("SchemaText of %q = %q, %v", name, s, ok)
		}
	}
}

// oneSchema is the form that the document tells of a schema's text, but for names that are there twice.
var oneSchema = regexp.MustCompile(`^(?:[\x01\x02](?:\x01[a-z]|\x02[a-z]{2}|\x03[a-z]{3}|\x04[a-z]{4})){1,3}\z`)

// checkSchema holds ReadSchema of any bytes against that form.
func checkSchema(t *testing.T, s string) {
	t.Helper()
	want := oneSchema.MatchString(s)
	names := []string{}
	for at := 0; want && at < len(s); at += 2 + int(s[at+1]) {
		names = append(names, s[at+2:at+2+int(s[at+1])])
	}
	slices.Sort(names)
	want = want && len(slices.Compact(names)) == len(names)
	list, ok := impl.ReadSchema(s)
	if ok != want || ok != (len(list) > 0) {
		t.Fatalf("ReadSchema(%q) = %#v, %v", s, list, ok)
	}
	if ok && schemaText(t, list) != s {
		t.Fatalf("ReadSchema(%q) is written %q", s, schemaText(t, list))
	}
}

// nearTexts hands on s with each byte turned in every way, each byte gone, every byte put in at each place, and its beginnings and ends.
func nearTexts(s string, on func(string)) {
	for at := range len(s) + 1 {
		on(s[:at])
		on(s[at:])
		for b := range 256 {
			on(s[:at] + string([]byte{byte(b)}) + s[at:])
			if at < len(s) {
				on(s[:at] + string([]byte{byte(b)}) + s[at+1:])
			}
		}
		if at < len(s) {
			on(s[:at] + s[at+1:])
		}
	}
	on(s + s)
}

// textsOver hands on every text of at most size of these bytes.
func textsOver(bytes string, size int, on func(string)) {
	var more func(s string)
	more = func(s string) {
		on(s)
		if len(s) == size {
			return
		}
		for at := range len(bytes) {
			more(s + bytes[at:at+1])
		}
	}
	more("")
}

func TestReadSchemaOfAnyBytes(t *testing.T) {
	for _, list := range rightSchemas() {
		s := schemaText(t, list)
		nearTexts(s, func(near string) { checkSchema(t, near) })
		for _, other := range []string{"\x01\x01q", "\x02\x01q", "\x02\x04quiz", "\x01\x01a", "\x02\x03age"} {
			checkSchema(t, s+other)
			checkSchema(t, other+s)
			checkSchema(t, other+s+other)
		}
	}
	textsOver("\x00\x01\x02\x03az`{\x80", 6, func(s string) { checkSchema(t, s) })
}

func TestReadSchemaRefuses(t *testing.T) {
	for name, s := range map[string]string{
		"nothing":                  "",
		"a kind alone":             "\x01",
		"no name":                  "\x01\x00",
		"a length without a name":  "\x01\x01",
		"a name cut":               "\x01\x04nam",
		"a byte too many":          "\x01\x01ab",
		"a kind behind":            "\x01\x01a\x02",
		"a name of 5":              "\x01\x05abcde",
		"kind 0":                   "\x00\x01a",
		"kind 3":                   "\x03\x01a",
		"kind 255":                 "\xff\x01a",
		"kind 1 as a longer form":  "\x81\x00\x01a",
		"a longer form":            "\x01\x81\x00a",
		"a still longer form":      "\x01\x81\x80\x00a",
		"a longer form behind":     "\x01\x01a\x02\x82\x00bb",
		"a capital letter":         "\x01\x01A",
		"a figure":                 "\x01\x01" + "1",
		"a byte 0":                 "\x01\x01\x00",
		"a name twice":             "\x01\x01a\x02\x01a",
		"first and last name":      "\x01\x01a\x02\x01b\x02\x01a",
		"a field too many":         "\x01\x01a\x01\x01b\x01\x01c\x01\x01d",
		"many fields":              strings.Repeat("\x01\x01a", 5000),
		"a number that is too big": "\x01\xff\xff\xff\xff\xff\xff\xff\xff\xff\xffa",
		"a length past the end":    "\x01\x80\x94\xeb\xdc\x03a",
		"a long name":              "\x01\xa0\x9c\x01" + strings.Repeat("a", impl.MaxText),
	} {
		if list, ok := impl.ReadSchema(s); len(list) != 0 || ok {
			t.Errorf("ReadSchema of %q = %#v, %v", name, list, ok)
		}
	}
}

func TestThingBytes(t *testing.T) {
	both := schema("nt", "age", "name")
	for _, c := range []struct {
		list []impl.Field
		v    []impl.Value
		want string
	}{
		{both, []impl.Value{num(258), text("bob")}, "\x82\x02\x03bob"},
		{both, []impl.Value{num(0), text("")}, "\x00\x00"},
		{both, []impl.Value{num(maxNum), text("abcdef")}, "\xbf\x84\x3d\x06abcdef"},
		{both, []impl.Value{num(127), text("\x01")}, "\x7f\x01\x01"},
		{schema("tn", "name", "age"), []impl.Value{text("\xff\xff"), num(128)}, "\x02\xff\xff\x80\x01"},
		{schema("n", "a"), []impl.Value{num(0)}, "\x00"},
		{schema("t", "a"), []impl.Value{text("")}, "\x00"},
		{schema("ttt", "a", "b", "c"), []impl.Value{text("a"), text(""), text("bc")}, "\x01a\x00\x02bc"},
		{schema("nnn", "a", "b", "c"), []impl.Value{num(1), num(300), num(2)}, "\x01\xac\x02\x02"},
	} {
		if got := thingText(t, c.list, c.v); got != c.want {
			t.Errorf("ThingText(%#v, %#v) = %q", c.list, c.v, got)
		}
		if got, ok := impl.ReadThing(c.list, c.want); !ok || !slices.Equal(got, c.v) {
			t.Errorf("ReadThing(%#v, %q) = %#v, %v", c.list, c.want, got, ok)
		}
	}
}

func TestThingIsReadBack(t *testing.T) {
	for _, list := range rightSchemas() {
		seen := map[string][]impl.Value{}
		for turn := range 800 {
			v := thingOf(list, turn)
			if !impl.ThingOk(list, v) {
				t.Fatalf("ThingOk(%#v, %#v) is false", list, v)
			}
			s := thingText(t, list, v)
			if was, there := seen[s]; there && !slices.Equal(was, v) {
				t.Fatalf("by %#v %#v and %#v have one text", list, was, v)
			}
			seen[s] = v
			if got, ok := impl.ReadThing(list, s); !ok || !slices.Equal(got, v) {
				t.Fatalf("ReadThing(%#v, %q) = %#v, %v", list, s, got, ok)
			}
		}
	}
}

func TestEachNumIsReadBack(t *testing.T) {
	list := schema("n", "a")
	for n := 0; n <= maxNum; n += 7 {
		s := thingText(t, list, []impl.Value{num(n)})
		if got, ok := impl.ReadThing(list, s); !ok || len(got) != 1 || got[0] != num(n) {
			t.Fatalf("ReadThing of %d = %#v, %v", n, got, ok)
		}
	}
}

func TestThingRefuses(t *testing.T) {
	refused := func(name string, list []impl.Field, v []impl.Value) {
		t.Helper()
		if impl.ThingOk(list, v) {
			t.Errorf("ThingOk of %q", name)
		}
		if s, ok := impl.ThingText(list, v); s != "" || ok {
			t.Errorf("ThingText of %q = %q, %v", name, s, ok)
		}
	}
	for name, list := range wrongSchemas() {
		refused(name, list, thingOf(list, 3))
		refused(name+", zero values", list, make([]impl.Value, len(list)))
		for _, s := range []string{"", "\x00", "\x00\x00", "\x00\x00\x00", "\x00\x00\x00\x00"} {
			noThing(t, list, s)
		}
	}
	for _, list := range rightSchemas() {
		v := thingOf(list, 4)
		refused("fewer values", list, v[:len(v)-1])
		refused("more values", list, append(slices.Clone(v), impl.Value{}))
		refused("nil", list, nil)
		for at, field := range list {
			wrong := wrongNums()
			if field.Kind == impl.KindText {
				wrong = wrongTexts()
			}
			for name, value := range wrong {
				bad := slices.Clone(v)
				bad[at] = value
				refused(name, list, bad)
			}
		}
	}
}

// plainThing reads a thing as the document tells it, a byte at a time; false where no right one has this text.
func plainThing(list []impl.Field, s string) ([]impl.Value, bool) {
	out := []impl.Value{}
	for _, field := range list {
		n, weight, size := 0, 1, 0
		for size < len(s) && s[size] > 127 && size < 5 {
			n, weight, size = n+int(s[size]-128)*weight, weight*128, size+1
		}
		if size == len(s) || s[size] > 127 || size > 0 && s[size] == 0 {
			return nil, false
		}
		n, s = n+int(s[size])*weight, s[size+1:]
		if field.Kind == impl.KindNum {
			if n > maxNum {
				return nil, false
			}
			out = append(out, num(n))
			continue
		}
		if n > maxValueText || n > len(s) || strings.Contains(s[:n], "\x00") {
			return nil, false
		}
		out, s = append(out, text(s[:n])), s[n:]
	}
	return out, s == ""
}

func checkThing(t *testing.T, list []impl.Field, s string) {
	t.Helper()
	want, right := plainThing(list, s)
	if !right {
		want = nil
	}
	got, ok := impl.ReadThing(list, s)
	if ok != right || !slices.Equal(got, want) {
		t.Fatalf("ReadThing(%#v, %q) = %#v, %v", list, s, got, ok)
	}
	if ok && thingText(t, list, got) != s {
		t.Fatalf("by %#v %q is written %q", list, s, thingText(t, list, got))
	}
}

func TestReadThingOfAnyBytes(t *testing.T) {
	for _, list := range rightSchemas() {
		for turn := range 12 {
			nearTexts(thingText(t, list, thingOf(list, 2*turn)), func(near string) { checkThing(t, list, near) })
		}
	}
	for _, list := range [][]impl.Field{schema("n", "a"), schema("t", "a"), schema("nt", "a", "b"), schema("tn", "a", "b"), schema("tnt", "a", "b", "c")} {
		textsOver("\x00\x01\x02\x06a\x7f\x80\xff", 5, func(s string) { checkThing(t, list, s) })
	}
}

// What one schema writes, another one reads only when it would write it, too.
func TestThingOfAnotherSchema(t *testing.T) {
	for _, list := range rightSchemas() {
		for turn := range 20 {
			s := thingText(t, list, thingOf(list, turn))
			for _, other := range rightSchemas() {
				checkThing(t, other, s)
			}
		}
	}
}

func TestReadThingRefuses(t *testing.T) {
	n, s, both := schema("n", "a"), schema("t", "a"), schema("nt", "a", "b")
	for _, c := range []struct {
		list []impl.Field
		text string
	}{
		{n, ""}, {s, ""}, {both, ""},
		{n, "\x80"}, {n, "\x80\x00"}, {n, "\x81\x80\x00"}, {n, "\x81\x80\x80\x00"}, {n, "\x00\x00"}, {n, "\x01\x01"},
		{n, "\xc0\x84\x3d"}, {n, "\x80\x94\xeb\xdc\x03"}, {n, "\xff\xff\xff\xff\xff\xff\xff\xff\xff\x01"},
		{s, "\x01"}, {s, "\x02a"}, {s, "\x01ab"}, {s, "\x07abcdefg"}, {s, "\x81\x00a"}, {s, "\x80\x00"},
		{s, "\x01\x00"}, {s, "\x03\x00ab"}, {s, "\x03a\x00b"}, {s, "\x03ab\x00"}, {s, "\x06abcde\x00"}, {s, "\x07abcdef\x00"},
		{s, "\xa0\x9c\x01" + strings.Repeat("a", impl.MaxText)}, {s, "\xa1\x9c\x01" + strings.Repeat("a", impl.MaxText+1)},
		{both, "\x05"}, {both, "\x05\x01"}, {both, "\x05\x01a\x00"}, {both, "\x05\x02a\x00"}, {both, "\x85\x00\x01a"}, {both, "\x05\x81\x00a"},
	} {
		noThing(t, c.list, c.text)
	}
}

func TestKeyBytes(t *testing.T) {
	for _, c := range []struct {
		kind int
		v    impl.Value
		want string
	}{
		{impl.KindNum, num(0), "\x00\x00\x00"},
		{impl.KindNum, num(1), "\x00\x00\x01"},
		{impl.KindNum, num(255), "\x00\x00\xff"},
		{impl.KindNum, num(256), "\x00\x01\x00"},
		{impl.KindNum, num(65536), "\x01\x00\x00"},
		{impl.KindNum, num(maxNum), "\x0f\x42\x3f"},
		{impl.KindText, text(""), "\x00"},
		{impl.KindText, text("a"), "a\x00"},
		{impl.KindText, text("\x01"), "\x01\x00"},
		{impl.KindText, text("\xff\xff\xff\xff\xff\xff"), "\xff\xff\xff\xff\xff\xff\x00"},
		{impl.KindText, text("abcdef"), "abcdef\x00"},
		{impl.KindText, impl.Value{}, "\x00"},
		{impl.KindNum, impl.Value{}, "\x00\x00\x00"},
	} {
		if got, ok := impl.KeyText(c.kind, c.v); !ok || got != c.want {
			t.Errorf("KeyText(%d, %#v) = %q, %v", c.kind, c.v, got, ok)
		}
	}
}

func TestKeyTextRefuses(t *testing.T) {
	refused := func(name string, kind int, v impl.Value) {
		t.Helper()
		if s, ok := impl.KeyText(kind, v); s != "" || ok {
			t.Errorf("KeyText of kind %d, %q = %q, %v", kind, name, s, ok)
		}
	}
	for name, v := range wrongNums() {
		refused(name, impl.KindNum, v)
	}
	for name, v := range wrongTexts() {
		refused(name, impl.KindText, v)
	}
	for _, kind := range []int{0, 3, -1, -2, 255, 257, 258, math.MaxInt, math.MinInt} {
		for _, v := range []impl.Value{{}, num(5), text("a"), {Num: 5, Text: "a"}} {
			refused("no kind", kind, v)
		}
	}
}

func keyText(t *testing.T, kind int, v impl.Value) string {
	t.Helper()
	s, ok := impl.KeyText(kind, v)
	if !ok {
		t.Fatalf("KeyText(%d, %#v) is refused", kind, v)
	}
	return s
}

// Each number's key is above that of the number ahead of it; so all of them ascend.
func TestNumKeysAscend(t *testing.T) {
	last := ""
	for n := range maxNum + 1 {
		key := keyText(t, impl.KindNum, num(n))
		if key <= last || len(key) != 3 {
			t.Fatalf("KeyText of %d = %q, behind %q", n, key, last)
		}
		last = key
	}
}

func TestTextKeysAscend(t *testing.T) {
	list := rightTexts()
	textsOver("\x01a\xff", 4, func(s string) { list = append(list, s) })
	for _, s := range []string{"abcdef", "\x01\x01\x01\x01\x01\x01", "\xff\xff\xff\xff\xff\xff"} {
		for size := range len(s) {
			list = append(list, s[:size], s[:size]+"\x01", s[:size]+"b", s[:size]+"\xff")
		}
	}
	slices.Sort(list)
	for at, s := range list[1:] {
		last, key := keyText(t, impl.KindText, text(list[at])), keyText(t, impl.KindText, text(s))
		if strings.Compare(last, key) != strings.Compare(list[at], s) {
			t.Errorf("keys %q and %q of %q and %q", last, key, list[at], s)
		}
	}
}

// What stands behind a key does not move it past another one's.
func TestTextKeysWithMoreBehind(t *testing.T) {
	list := []string{}
	textsOver("\x01a\xff", 3, func(s string) { list = append(list, s) })
	for _, a := range list {
		for _, b := range list {
			if a < b && keyText(t, impl.KindText, text(a))+"\xff\xff" >= keyText(t, impl.KindText, text(b)) {
				t.Errorf("%q with more behind is not ahead of %q", a, b)
			}
		}
	}
}

func TestFieldAt(t *testing.T) {
	for _, list := range rightSchemas() {
		for at, field := range list {
			if got := impl.FieldAt(list, strings.Clone(field.Name)); got != at {
				t.Errorf("FieldAt(%#v, %q) = %d", list, field.Name, got)
			}
		}
		for _, name := range []string{"", "q", "quit", "A", "Age", "age ", "\x00", "a\x00", "\x00a", "agenam", strings.Repeat("a", 5), strings.Repeat("a", impl.MaxText+1)} {
			if got := impl.FieldAt(list, name); got != -1 {
				t.Errorf("FieldAt(%#v, %q) = %d", list, name, got)
			}
		}
	}
	for _, list := range [][]impl.Field{nil, {}} {
		for _, name := range []string{"", "a"} {
			if got := impl.FieldAt(list, name); got != -1 {
				t.Errorf("FieldAt of no fields, %q = %d", name, got)
			}
		}
	}
}

// roomyFields and roomyValues are the same lists with spare room behind them, which is filled.
func roomyFields(list []impl.Field) []impl.Field {
	spare := impl.Field{Name: "more", Kind: impl.KindText}
	return append(slices.Clone(list), spare, spare, spare)[:len(list)]
}

func roomyValues(v []impl.Value) []impl.Value {
	return append(slices.Clone(v), num(7), num(7), num(7))[:len(v)]
}

func TestThingArgumentsStay(t *testing.T) {
	for _, wrong := range wrongSchemas() {
		checkThingArguments(t, wrong, thingOf(wrong, 1))
	}
	for _, list := range rightSchemas() {
		v := thingOf(list, 9)
		checkThingArguments(t, list, v)
		checkThingArguments(t, list, v[:len(v)-1])
		checkThingArguments(t, list, []impl.Value{{Num: 5, Text: "\x00"}, {Num: -1}, {Num: -1}}[:len(v)])
	}
}

func checkThingArguments(t *testing.T, plain []impl.Field, values []impl.Value) {
	t.Helper()
	list, v := roomyFields(plain), roomyValues(values)
	wantList, wantV := slices.Clone(list[:cap(list)]), slices.Clone(v[:cap(v)])
	impl.SchemaOk(list)
	impl.SchemaText(list)
	impl.ThingOk(list, v)
	s, _ := impl.ThingText(list, v)
	impl.ReadThing(list, s)
	impl.ReadThing(list, "\x01\x01\x01")
	impl.FieldAt(list, "a")
	if !slices.Equal(list[:cap(list)], wantList) || !slices.Equal(v[:cap(v)], wantV) {
		t.Errorf("something is written into %#v or %#v", plain, values)
	}
}

func TestThingsAreNewMemory(t *testing.T) {
	list := schema("tnt", strings.Clone("name"), strings.Clone("age"), strings.Clone("b"))
	v := []impl.Value{text(strings.Clone("abc")), num(5), text(strings.Clone("defghi"))}
	s, x := schemaText(t, list), thingText(t, list, v)
	for _, field := range list {
		if sharesMemory(field.Name, s) {
			t.Errorf("SchemaText hands out %q", field.Name)
		}
	}
	got, _ := impl.ReadSchema(s)
	for _, field := range got {
		if sharesMemory(field.Name, s) {
			t.Errorf("ReadSchema hands out %q of its argument", field.Name)
		}
	}
	values, _ := impl.ReadThing(list, x)
	for at, value := range values {
		if sharesMemory(value.Text, x) || sharesMemory(v[at].Text, x) {
			t.Errorf("a thing's text %q is handed out", value.Text)
		}
	}
	for _, value := range []impl.Value{v[0], v[2]} {
		if sharesMemory(keyText(t, impl.KindText, value), value.Text) {
			t.Errorf("KeyText hands out %q", value.Text)
		}
	}
	again, _ := impl.ReadSchema(s)
	more, _ := impl.ReadThing(list, x)
	clear(got[:cap(got)])
	clear(values[:cap(values)])
	if !slices.Equal(again, list) || !slices.Equal(more, v) {
		t.Error("two answers share memory")
	}
}
