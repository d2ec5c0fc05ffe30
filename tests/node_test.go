package tests

import (
	"math"
	"slices"
	"strings"
	"testing"

	"loop.example/g00240/impl"
)

func leaf(keys, vals []string) impl.Node {
	return impl.Node{Leaf: true, Keys: keys, Vals: vals}
}

func branch(keys []string, kids ...int) impl.Node {
	return impl.Node{Keys: keys, Kids: kids}
}

func sameNode(a, b impl.Node) bool {
	return a.Leaf == b.Leaf && slices.Equal(a.Keys, b.Keys) && slices.Equal(a.Vals, b.Vals) && slices.Equal(a.Kids, b.Kids)
}

// rightKeys are rows of every length that a node may have, with keys at their limits.
func rightKeys() [][]string {
	low, high := strings.Repeat("\x00", impl.MaxKey), strings.Repeat("\xff", impl.MaxKey)
	return [][]string{
		{""}, {"a"}, {"\x00"}, {low}, {high},
		{"", "\x00"}, {"a", "b"}, {"a", "aa"}, {"\x7f", "\x80"}, {low[1:], low},
		{"", "m", high}, {"key", "key\x00", "key\x01"}, {"A", "a", "b"},
		{"a", "b", "c", "d"}, {"", low, high[1:], high}, {"ob\x00k", "oc\x00k", "sb", "sc"}, {"\x00", "\x00\x00", "\x00\x01", "\x01"},
		{high[:21] + "a", high[:21] + "aaa", high[:21] + "aab", high},
	}
}

func rightVals() []string {
	return []string{"", "1", "\x00", "\xff", "val", "l\x01\x01a", strings.Repeat("v", impl.MaxVal-1), strings.Repeat("v", impl.MaxVal), strings.Repeat("\x00", impl.MaxVal)}
}

// rightKids are rows of Fan pages each, of which a node takes as many as it has keys.
func rightKids() [][]int {
	last := impl.MaxPages - 1
	return [][]int{{2, 3, 4, 5}, {5, 4, 3, 2}, {last, 2, last - 1, 3}, {2, last, 20, 21}, {17, 9, 38, 10}}
}

func rightNodes() []impl.Node {
	list := []impl.Node{}
	for _, keys := range rightKeys() {
		for turn := range rightVals() {
			vals := []string{}
			for at := range keys {
				vals = append(vals, rightVals()[(turn+2*at)%len(rightVals())])
			}
			list = append(list, leaf(keys, vals))
		}
		list = append(list, leaf(keys, slices.Repeat([]string{strings.Repeat("\xff", impl.MaxVal)}, len(keys))))
		for _, kids := range rightKids() {
			list = append(list, branch(keys, kids[:len(keys)]...))
		}
	}
	return list
}

// wrongNodes are nodes that are not right, each by one thing.
func wrongNodes() map[string]impl.Node {
	two, four, five := []string{"a", "b"}, []string{"a", "b", "c", "d"}, []string{"a", "b", "c", "d", "e"}
	long := strings.Repeat("a", impl.MaxKey+1)
	last := impl.MaxPages - 1
	return map[string]impl.Node{
		"nothing":                          {},
		"a leaf of nothing":                {Leaf: true},
		"empty lists":                      {Leaf: true, Keys: []string{}, Vals: []string{}, Kids: []int{}},
		"no key, a val":                    leaf(nil, []string{"1"}),
		"no key, a kid":                    branch(nil, 2),
		"one more key in a leaf":           leaf(five, five),
		"one more key in another one":      branch(five, 2, 3, 4, 5, 6),
		"many keys":                        leaf(slices.Repeat(five, 100), slices.Repeat(five, 100)),
		"the same keys in a leaf":          leaf([]string{"a", "a"}, two),
		"the same keys in another one":     branch([]string{"a", "a"}, 2, 3),
		"the same empty keys":              leaf([]string{"", ""}, two),
		"the last keys the same":           leaf([]string{"a", "b", "c", "c"}, four),
		"keys that descend":                leaf([]string{"b", "a"}, two),
		"keys that descend in another one": branch([]string{"b", "a"}, 2, 3),
		"the last keys descend":            branch([]string{"a", "b", "d", "c"}, 2, 3, 4, 5),
		"a beginning behind":               leaf([]string{"aa", "a"}, two),
		"an empty key behind":              leaf([]string{"a", ""}, two),
		"keys by signed bytes":             leaf([]string{"\x80", "\x7f"}, two),
		"a key too long":                   leaf([]string{long}, []string{""}),
		"the last key too long":            leaf([]string{"", "a", long}, []string{"", "", ""}),
		"a key too long in another one":    branch([]string{"", long}, 2, 3),
		"a key far too long":               leaf([]string{strings.Repeat("a", impl.MaxText+1)}, []string{""}),
		"a val too long":                   leaf(two, []string{strings.Repeat("v", impl.MaxVal+1), ""}),
		"the last val too long":            leaf(four, []string{"", "", "", strings.Repeat("v", impl.MaxVal+1)}),
		"a val far too long":               leaf(two, []string{"", strings.Repeat("v", impl.MaxText+1)}),
		"a leaf with kids":                 {Leaf: true, Keys: two, Vals: two, Kids: []int{2, 3}},
		"a leaf with one kid":              {Leaf: true, Keys: two, Vals: two, Kids: []int{0}},
		"a leaf with kids alone":           {Leaf: true, Keys: two, Kids: []int{2, 3}},
		"another one with vals":            {Keys: two, Vals: two, Kids: []int{2, 3}},
		"another one with one val":         {Keys: two, Vals: []string{""}, Kids: []int{2, 3}},
		"another one with vals alone":      {Keys: two, Vals: two},
		"fewer vals":                       leaf(two, []string{"1"}),
		"no vals":                          leaf(two, nil),
		"more vals":                        leaf(two, []string{"1", "2", "3"}),
		"fewer kids":                       branch(two, 2),
		"no kids":                          branch(two),
		"more kids":                        branch(two, 2, 3, 4),
		"kid 1":                            branch(two, 1, 2),
		"kid 0":                            branch(two, 2, 0),
		"kid -1":                           branch(two, -1, 2),
		"kid -2":                           branch(two, 2, -2),
		"the least kid":                    branch(two, 2, math.MinInt),
		"kid MaxPages":                     branch(two, 2, impl.MaxPages),
		"the last kid MaxPages":            branch(four, 2, 3, last, impl.MaxPages),
		"the greatest kid":                 branch(two, math.MaxInt, 2),
		"kids twice, side by side":         branch(two, 2, 2),
		"the first two kids":               branch(four, last, last, 2, 3),
		"the kids in the midst":            branch(four, 2, 3, 3, 4),
		"the last two kids":                branch(four, 2, 3, last, last),
		"kids twice, one between":          branch([]string{"a", "b", "c"}, 2, 3, 2),
		"the second and the last kid":      branch(four, 2, 3, 4, 3),
		"the first and the last kid":       branch(four, last, 3, 4, last),
		"all kids one":                     branch(four, 9, 9, 9, 9),
	}
}

func nodeText(t *testing.T, n impl.Node) string {
	t.Helper()
	s, ok := impl.NodeText(n)
	if !ok {
		t.Fatalf("NodeText(%#v) is refused", n)
	}
	return s
}

func noNode(t *testing.T, name, s string) {
	t.Helper()
	if n, ok := impl.ReadNode(s); ok || !sameNode(n, impl.Node{}) {
		t.Errorf("ReadNode of %q (%.20q ..) = %#v, %v", name, s, n, ok)
	}
}

func TestNodeConstants(t *testing.T) {
	if impl.Fan != 4 || impl.MaxKey != 24 || impl.MaxVal != 24 {
		t.Errorf("Fan %d, MaxKey %d, MaxVal %d", impl.Fan, impl.MaxKey, impl.MaxVal)
	}
}

func TestNodeBytes(t *testing.T) {
	long := strings.Repeat("k", impl.MaxKey)
	for want, n := range map[string]impl.Node{
		"l\x02\x01a\x011\x01c\x00":                               leaf([]string{"a", "c"}, []string{"1", ""}),
		"l\x01\x00\x00":                                          leaf([]string{""}, []string{""}),
		"l\x01\x18" + long + "\x18" + long:                       leaf([]string{long}, []string{long}),
		"l\x04\x00\x01d\x01a\x01c\x01b\x01b\x01c\x01a":           leaf([]string{"", "a", "b", "c"}, []string{"d", "c", "b", "a"}),
		"b\x01\x00\x02":                                          branch([]string{""}, 2),
		"b\x02\x01a\x27\x02bb\x02":                               branch([]string{"a", "bb"}, impl.MaxPages-1, 2),
		"b\x04\x01a\x05\x01b\x04\x01c\x03\x18" + long + "\x02":   branch([]string{"a", "b", "c", long}, 5, 4, 3, 2),
		"b\x03\x00\x0a\x01\x00\x0b\x02\x00\x00\x0c":              branch([]string{"", "\x00", "\x00\x00"}, 10, 11, 12),
		"l\x02\x03l\x01a\x02b\x01\x05\xff\x80\x00lb\x03\x00\x01": {},
		"l\x02\x03l\x01a\x02b\x01\x05\xff\x80\x00lb\x02\x00\x01": leaf([]string{"l\x01a", "\xff\x80\x00lb"}, []string{"b\x01", "\x00\x01"}),
	} {
		got, ok := impl.ReadNode(seal(t, want))
		if ok != (len(n.Keys) > 0) || !sameNode(got, n) {
			t.Errorf("ReadNode of sealed %q = %#v, %v", want, got, ok)
		}
		if len(n.Keys) > 0 && nodeText(t, n) != seal(t, want) {
			t.Errorf("NodeText(%#v) = %q", n, nodeText(t, n))
		}
	}
}

func TestNodeIsReadBack(t *testing.T) {
	seen := map[string]impl.Node{}
	for _, n := range rightNodes() {
		if !impl.NodeOk(n) {
			t.Errorf("NodeOk(%#v) is false", n)
		}
		s := nodeText(t, n)
		if was, there := seen[s]; there && !sameNode(was, n) {
			t.Errorf("%#v and %#v have one text", was, n)
		}
		seen[s] = n
		if len(s) > impl.PageSize {
			t.Errorf("NodeText(%#v) has %d bytes: no page holds it", n, len(s))
		}
		if got, ok := impl.ReadNode(s); !ok || !sameNode(got, n) {
			t.Errorf("ReadNode(%q) = %#v, %v", s, got, ok)
		}
	}
}

func TestNodeRefuses(t *testing.T) {
	for name, n := range wrongNodes() {
		if impl.NodeOk(n) {
			t.Errorf("NodeOk of %q", name)
		}
		if s, ok := impl.NodeText(n); s != "" || ok {
			t.Errorf("NodeText of %q = %q, %v", name, s, ok)
		}
	}
}

// Every row of four kids of a few pages, at the edges and within: it is right when none is twice and all are pages of nodes.
func TestEveryRowOfKids(t *testing.T) {
	pages := []int{1, 2, 3, impl.MaxPages - 1, impl.MaxPages}
	for row := range 5 * 5 * 5 * 5 {
		kids := []int{pages[row%5], pages[row/5%5], pages[row/25%5], pages[row/125]}
		for size := 1; size <= impl.Fan; size++ {
			sorted := slices.Sorted(slices.Values(kids[:size]))
			want := sorted[0] >= 2 && sorted[size-1] <= 39 && len(slices.Compact(sorted)) == size
			n := branch([]string{"a", "b", "c", "d"}[:size], kids[:size]...)
			if impl.NodeOk(n) != want {
				t.Fatalf("NodeOk(%#v) = %v", n, !want)
			}
			inner := "b" + string([]byte{byte(size)})
			for at, kid := range kids[:size] {
				inner += "\x01" + "abcd"[at:at+1] + string([]byte{byte(kid)})
			}
			if got, ok := impl.ReadNode(seal(t, inner)); ok != want || ok && !sameNode(got, n) {
				t.Fatalf("ReadNode of sealed %q = %#v, %v", inner, got, ok)
			}
		}
	}
}

// Every row of keys over a few: it is right when they ascend.
func TestEveryRowOfKeys(t *testing.T) {
	some := []string{"", "\x00", "a", "aa", "b", "\xff"}
	for row := range 6 * 6 * 6 * 6 {
		keys := []string{some[row%6], some[row/6%6], some[row/36%6], some[row/216]}
		for size := 1; size <= impl.Fan; size++ {
			want := true
			for at := 1; at < size; at++ {
				want = want && strings.Compare(keys[at-1], keys[at]) < 0
			}
			for _, n := range []impl.Node{leaf(keys[:size], make([]string, size)), branch(keys[:size], rightKids()[0][:size]...)} {
				if impl.NodeOk(n) != want {
					t.Fatalf("NodeOk(%#v) = %v", n, !want)
				}
			}
		}
	}
}

// With one byte turned into any other no node is read.
func TestNodeWithOneByteTurned(t *testing.T) {
	for _, n := range rightNodes() {
		s := nodeText(t, n)
		for at := range len(s) {
			for turn := 1; turn < 256; turn++ {
				noNode(t, "a byte turned", turned(s, at, byte(turn)))
			}
		}
	}
}

// plainVar reads a number of the shortest form as the document tells it.
func plainVar(s string) (int, string, bool) {
	n, weight := 0, 1
	for at := 0; at < len(s) && at < 5; at++ {
		if s[at] < 128 {
			return n + int(s[at])*weight, s[at+1:], at == 0 || s[at] > 0
		}
		n, weight = n+int(s[at]-128)*weight, weight*128
	}
	return 0, "", false
}

func plainShort(s string, limit int) (string, string, bool) {
	size, s, ok := plainVar(s)
	if !ok || size > limit || size > len(s) {
		return "", "", false
	}
	return s[:size], s[size:], true
}

// plainNode reads what is sealed in a node's text as the document tells it; false where no right node has it.
func plainNode(s string) (impl.Node, bool) {
	if s == "" || s[0] != 'l' && s[0] != 'b' {
		return impl.Node{}, false
	}
	n := impl.Node{Leaf: s[0] == 'l'}
	size, s, ok := plainVar(s[1:])
	if !ok || size < 1 || size > 4 {
		return impl.Node{}, false
	}
	for at := range size {
		key, rest, ok := plainShort(s, 24)
		if !ok || at > 0 && n.Keys[at-1] >= key {
			return impl.Node{}, false
		}
		n.Keys = append(n.Keys, key)
		if n.Leaf {
			val, behind, ok := plainShort(rest, 24)
			if !ok {
				return impl.Node{}, false
			}
			n.Vals, s = append(n.Vals, val), behind
			continue
		}
		kid, behind, ok := plainVar(rest)
		if !ok || kid < 2 || kid > 39 || slices.Contains(n.Kids, kid) {
			return impl.Node{}, false
		}
		n.Kids, s = append(n.Kids, kid), behind
	}
	return n, s == ""
}

// checkNode holds ReadNode of these bytes, sealed, against the document's words.
func checkNode(t *testing.T, inner string) {
	t.Helper()
	want, right := plainNode(inner)
	if !right {
		want = impl.Node{}
	}
	s := seal(t, inner)
	got, ok := impl.ReadNode(s)
	if ok != right || !sameNode(got, want) {
		t.Fatalf("ReadNode of sealed %q = %#v, %v", inner, got, ok)
	}
	if ok && nodeText(t, got) != s {
		t.Fatalf("sealed %q is written %q", inner, nodeText(t, got))
	}
}

func TestReadNodeOfAnyBytes(t *testing.T) {
	for at, n := range rightNodes() {
		s := nodeText(t, n)
		inner := s[:len(s)-4]
		checkNode(t, inner)
		if at%7 == 0 || len(inner) < 40 {
			nearTexts(inner, func(near string) { checkNode(t, near) })
		}
		for size := range 256 {
			checkNode(t, inner[:1]+string([]byte{byte(size)})+inner[2:])
		}
	}
	textsOver("lb\x00\x01\x02\x03a", 6, func(s string) { checkNode(t, s) })
	textsOver("\x00\x01\x02\x03\x27\x28a\x80", 5, func(s string) { checkNode(t, "l\x01"+s); checkNode(t, "b\x02\x00"+s) })
}

func TestReadNodeRefuses(t *testing.T) {
	good := "l\x02\x01a\x011\x01c\x00"
	for name, inner := range map[string]string{
		"nothing sealed":               "",
		"a mark alone":                 "l",
		"the other mark alone":         "b",
		"no count":                     "\x02",
		"another mark":                 "m\x02\x01a\x011\x01c\x00",
		"a capital mark":               "L\x02\x01a\x011\x01c\x00",
		"no mark":                      good[1:],
		"count 0":                      "l\x00",
		"count 0 of another one":       "b\x00",
		"count 0 with more":            "l\x00\x01a\x011\x01c\x00",
		"a count too low":              "l\x01\x01a\x011\x01c\x00",
		"a count too high":             "l\x03\x01a\x011\x01c\x00",
		"a count beyond Fan":           "l\x05\x00\x00\x01a\x00\x01b\x00\x01c\x00\x01d\x00",
		"a count beyond Fan of kids":   "b\x05\x00\x02\x01a\x03\x01b\x04\x01c\x05\x01d\x06",
		"the greatest count":           "l\x80\x94\xeb\xdc\x03\x01a\x011",
		"a count past the greatest":    "l\x81\x94\xeb\xdc\x03\x01a\x011",
		"a longer form of the count":   "l\x82\x00\x01a\x011\x01c\x00",
		"a longer form of a length":    "l\x02\x81\x00a\x011\x01c\x00",
		"a longer form of a val's":     "l\x02\x01a\x81\x001\x01c\x00",
		"a longer form of no length":   "l\x02\x01a\x011\x01c\x80\x00",
		"a longer form of a kid":       "b\x01\x01a\x82\x00",
		"a still longer form of a kid": "b\x01\x01a\x82\x80\x80\x00",
		"a byte too many":              good + "\x00",
		"a byte too few":               good[:len(good)-1],
		"an entry too many":            good + "\x01d\x00",
		"a val too few":                "l\x01\x01a",
		"a kid too few":                "b\x01\x01a",
		"a kid's byte too many":        "b\x01\x01a\x02\x02",
		"no key":                       "l\x01",
		"a key cut":                    "l\x01\x02a",
		"a val cut":                    "l\x01\x01a\x021",
		"a length past the end":        "l\x01\x80\x94\xeb\xdc\x03a\x00",
		"a key too long":               "l\x01\x19" + strings.Repeat("a", 25) + "\x00",
		"a key too long for a kid":     "b\x01\x19" + strings.Repeat("a", 25) + "\x02",
		"a val too long":               "l\x01\x00\x19" + strings.Repeat("a", 25),
		"a val far too long":           "l\x01\x00\x98\x9c\x01" + strings.Repeat("a", impl.MaxText-8),
		"keys that are the same":       "l\x02\x01a\x00\x01a\x00",
		"keys that descend":            "l\x02\x01b\x00\x01a\x00",
		"kids' keys the same":          "b\x02\x01a\x02\x01a\x03",
		"kids' keys descend":           "b\x02\x01b\x02\x01a\x03",
		"kid 0":                        "b\x01\x01a\x00",
		"kid 1":                        "b\x01\x01a\x01",
		"kid MaxPages":                 "b\x01\x01a\x28",
		"a kid of two bytes":           "b\x01\x01a\x82\x01",
		"the greatest kid":             "b\x01\x01a\x80\x94\xeb\xdc\x03",
		"kids twice, side by side":     "b\x02\x01a\x02\x01b\x02",
		"kids twice, apart":            "b\x03\x01a\x02\x01b\x03\x01c\x02",
		"first and last kid of four":   "b\x04\x01a\x27\x01b\x03\x01c\x02\x01d\x27",
		"sealed twice":                 seal(t, good),
	} {
		noNode(t, name, seal(t, inner))
	}
	if n, ok := impl.ReadNode(seal(t, good)); !ok || len(n.Keys) != 2 {
		t.Errorf("ReadNode of sealed %q = %#v, %v", good, n, ok)
	}
}

func TestReadNodeOfUnsealed(t *testing.T) {
	good := "b\x02\x00\x02\x01a\x03"
	sealed := seal(t, good)
	for name, s := range map[string]string{
		"nothing":               "",
		"not sealed":            good,
		"a seal alone":          sealed[len(good):],
		"the seal ahead":        sealed[len(good):] + good,
		"no sum":                good + "\x00\x00\x00\x00",
		"another one's sum":     good + seal(t, good+"x")[len(good)+1:],
		"the sum the other way": good + string([]byte{sealed[len(sealed)-1], sealed[len(sealed)-2], sealed[len(sealed)-3], sealed[len(sealed)-4]}),
		"many bytes":            strings.Repeat("l", impl.MaxText+5),
	} {
		noNode(t, name, s)
	}
	nearTexts(sealed, func(near string) {
		if near != sealed {
			noNode(t, "near", near)
		}
	})
}

func TestPlaceOf(t *testing.T) {
	four := leaf([]string{"b", "d", "dd", "f"}, make([]string, 4))
	for key, want := range map[string]int{
		"": -1, "\x00": -1, "a": -1, "azzz": -1, "B": -1,
		"b": 0, "b\x00": 0, "c": 0, "cz": 0,
		"d": 1, "d\x00": 1, "dc\xff": 1,
		"dd": 2, "dd\x00": 2, "e\xff": 2,
		"f": 3, "f\x00": 3, "g": 3, "\xff": 3, strings.Repeat("z", impl.MaxText): 3,
	} {
		if got := impl.PlaceOf(four, key); got != want {
			t.Errorf("PlaceOf(%q) in %q = %d, not %d", key, four.Keys, got, want)
		}
		if got := impl.PlaceOf(branch(four.Keys, 2, 3, 4, 5), key); got != want {
			t.Errorf("PlaceOf(%q) of kids in %q = %d, not %d", key, four.Keys, got, want)
		}
	}
	if got := impl.PlaceOf(leaf([]string{""}, []string{""}), ""); got != 0 {
		t.Errorf("PlaceOf of the empty key = %d", got)
	}
}

func TestPlaceOfEachNode(t *testing.T) {
	for _, n := range rightNodes() {
		for _, keys := range rightKeys() {
			for _, key := range keys {
				want := -1
				for at, other := range n.Keys {
					if strings.Compare(other, key) <= 0 {
						want = at
					}
				}
				if got := impl.PlaceOf(n, key); got != want {
					t.Fatalf("PlaceOf(%#v, %q) = %d, not %d", n, key, got, want)
				}
			}
		}
	}
}

// The document names no node that PlaceOf refuses: the last place counts, in whatever order the Keys are.
func TestPlaceOfWrongNodes(t *testing.T) {
	for _, c := range []struct {
		keys []string
		key  string
		want int
	}{
		{nil, "", -1}, {nil, "a", -1}, {[]string{}, "a", -1},
		{[]string{"c", "a", "b"}, "a", 1}, {[]string{"a", "c", "b"}, "b", 2}, {[]string{"a", "c", "d"}, "b", 0},
		{[]string{"a", "c", "a", "d"}, "b", 2}, {[]string{"a", "a", "a"}, "a", 2},
		{[]string{"a", "b", "c", "d", "e", "f", "g"}, "f", 5}, {[]string{strings.Repeat("b", 100), "z"}, "c", 0},
	} {
		if got := impl.PlaceOf(impl.Node{Keys: c.keys}, c.key); got != c.want {
			t.Errorf("PlaceOf(%q, %q) = %d, not %d", c.keys, c.key, got, c.want)
		}
	}
	for name, n := range wrongNodes() {
		if got := impl.PlaceOf(n, "\xff"); got != len(n.Keys)-1 {
			t.Errorf("PlaceOf of %q = %d", name, got)
		}
	}
}

// An empty list and nil are the same value.
func TestNodeEmptyLists(t *testing.T) {
	for _, n := range rightNodes() {
		other := n
		if n.Leaf {
			other.Kids = []int{}
		} else {
			other.Vals = []string{}
		}
		if !impl.NodeOk(other) || nodeText(t, other) != nodeText(t, n) {
			t.Errorf("%#v is another one with an empty list", n)
		}
	}
}

// roomyNode is the same node with spare room behind its lists, which is filled.
func roomyNode(n impl.Node) impl.Node {
	return impl.Node{
		Leaf: n.Leaf,
		Keys: append(slices.Clone(n.Keys), "spare", "spare", "spare")[:len(n.Keys)],
		Vals: append(slices.Clone(n.Vals), "spare", "spare", "spare")[:len(n.Vals)],
		Kids: append(slices.Clone(n.Kids), 7, 7, 7)[:len(n.Kids)],
	}
}

func wholeNode(n impl.Node) impl.Node {
	return impl.Node{Leaf: n.Leaf, Keys: slices.Clone(n.Keys[:cap(n.Keys)]), Vals: slices.Clone(n.Vals[:cap(n.Vals)]), Kids: slices.Clone(n.Kids[:cap(n.Kids)])}
}

func TestNodeArgumentsStay(t *testing.T) {
	list := rightNodes()
	for _, n := range wrongNodes() {
		list = append(list, n)
	}
	for _, plain := range list {
		n := roomyNode(plain)
		want := wholeNode(n)
		impl.NodeOk(n)
		impl.NodeText(n)
		impl.PlaceOf(n, "b")
		if !sameNode(wholeNode(n), want) || !sameNode(n, plain) {
			t.Errorf("something is written into %#v", plain)
		}
	}
}

func TestNodesAreNewMemory(t *testing.T) {
	for _, n := range rightNodes() {
		s := nodeText(t, n)
		got, ok := impl.ReadNode(s)
		if !ok {
			t.Fatalf("ReadNode(%q) is refused", s)
		}
		for at, text := range append(slices.Clone(got.Keys), got.Vals...) {
			if sharesMemory(text, s) {
				t.Errorf("ReadNode hands out %q of its argument", text)
			}
			if own := append(slices.Clone(n.Keys), n.Vals...)[at]; sharesMemory(own, s) {
				t.Errorf("NodeText hands out %q of its argument", own)
			}
		}
		again, _ := impl.ReadNode(s)
		if n.Leaf {
			// The lists of one answer are apart, in their spare room, too.
			clear(got.Keys[:cap(got.Keys)])
			if !slices.Equal(got.Vals, n.Vals) {
				t.Errorf("Keys and Vals of %q share memory", s)
			}
		}
		clear(got.Keys[:cap(got.Keys)])
		clear(got.Vals[:cap(got.Vals)])
		clear(got.Kids[:cap(got.Kids)])
		if !sameNode(again, n) {
			t.Errorf("two answers share memory: %#v", again)
		}
	}
}
