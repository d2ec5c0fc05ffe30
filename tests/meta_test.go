package tests

import (
	"math"
	"slices"
	"strings"
	"testing"

	"loop.example/g00240/impl"
)

// The limits that the document gives no name.
const (
	maxTx    = 100000
	maxFrees = 20
)

func free(tx int, pages ...int) impl.Free {
	return impl.Free{Tx: tx, Pages: pages}
}

func meta(tx, root, next int, frees ...impl.Free) impl.Meta {
	return impl.Meta{Tx: tx, Root: root, Next: next, Frees: frees}
}

func sameFree(a, b impl.Free) bool {
	return a.Tx == b.Tx && slices.Equal(a.Pages, b.Pages)
}

func sameMeta(a, b impl.Meta) bool {
	return a.Tx == b.Tx && a.Root == b.Root && a.Next == b.Next && slices.EqualFunc(a.Frees, b.Frees, sameFree)
}

// span are the numbers from first to last.
func span(first, last int) []int {
	list := []int{}
	for n := first; n <= last; n++ {
		list = append(list, n)
	}
	return list
}

// freesOfOne are so many Frees of one page each, from page 2 on, the last of them of this Tx.
func freesOfOne(n, lastTx int) []impl.Free {
	list := []impl.Free{}
	for at := range n {
		list = append(list, free(lastTx-n+1+at, 2+at))
	}
	return list
}

// longestMeta has the longest text that a right meta can have: 20 Frees of the greatest numbers, and all pages in them.
func longestMeta() impl.Meta {
	frees := freesOfOne(maxFrees, maxTx)
	frees[maxFrees-1].Pages = span(21, impl.MaxPages-1)
	return meta(maxTx, 0, impl.MaxPages, frees...)
}

func rightMetas() []impl.Meta {
	last := impl.MaxPages - 1
	list := []impl.Meta{
		meta(0, 0, 2), meta(0, 0, impl.MaxPages), meta(maxTx, 0, 2), meta(maxTx, 0, impl.MaxPages),
		meta(0, 2, 3), meta(1, 2, 3), meta(0, 2, impl.MaxPages), meta(maxTx, last, impl.MaxPages), meta(7, last-1, last),
		meta(3, 2, 5, free(3, 3, 4)), meta(3, 0, 5, free(1, 2), free(2, 3), free(3, 4)), meta(3, 3, 5, free(1, 4), free(3, 2)),
		meta(1, 0, 3, free(1, 2)), meta(1, 0, impl.MaxPages, free(1, last)), meta(maxTx, 0, impl.MaxPages, free(1, 2), free(maxTx, last)),
		meta(1, 0, impl.MaxPages, free(1, span(2, last)...)), meta(1, 2, impl.MaxPages, free(1, span(3, last)...)),
		meta(1, last, impl.MaxPages, free(1, span(2, last-1)...)), meta(5, 20, impl.MaxPages, free(2, span(2, 19)...), free(5, span(21, last)...)),
		meta(9, 4, 10, free(2, 3, 5, 9), free(3, 2), free(9, 6, 8)), meta(9, 4, 10, free(2, 9), free(3, 8), free(4, 7), free(5, 2, 6)),
		meta(300, 2, 12, free(127, 3), free(128, 4), free(300, 5, 11)), meta(16384, 0, 9, free(16383, 3), free(16384, 2)),
		meta(maxFrees, 0, impl.MaxPages, freesOfOne(maxFrees, maxFrees)...), meta(maxFrees-1, 30, impl.MaxPages, freesOfOne(maxFrees-1, maxFrees-1)...),
		meta(maxTx, 22, 23, freesOfOne(maxFrees, maxTx)...), meta(maxTx, 39, impl.MaxPages, freesOfOne(maxFrees, 150)...),
		longestMeta(),
	}
	return list
}

// wrongMetas are metas that are not right, each by one thing.
func wrongMetas() map[string]impl.Meta {
	return map[string]impl.Meta{
		"nothing":                          {},
		"Tx -1":                            meta(-1, 0, 2),
		"the least Tx":                     meta(math.MinInt, 0, 2),
		"one Tx more":                      meta(maxTx+1, 0, 2),
		"the greatest Tx":                  meta(math.MaxInt, 0, 2),
		"Next 1":                           meta(0, 0, 1),
		"Next 0":                           meta(5, 0, 0),
		"Next -1":                          meta(5, 0, -1),
		"the least Next":                   meta(5, 0, math.MinInt),
		"Next past MaxPages":               meta(0, 0, impl.MaxPages+1),
		"the greatest Next":                meta(0, 0, math.MaxInt),
		"Root 1":                           meta(0, 1, 2),
		"Root 1, more pages":               meta(0, 1, impl.MaxPages),
		"Root -1":                          meta(0, -1, 9),
		"the least Root":                   meta(0, math.MinInt, 9),
		"Root 2 of Next 2":                 meta(0, 2, 2),
		"Root Next":                        meta(0, 9, 9),
		"Root past Next":                   meta(0, 10, 9),
		"Root MaxPages":                    meta(0, impl.MaxPages, impl.MaxPages),
		"the greatest Root":                meta(0, math.MaxInt, impl.MaxPages),
		"21 Frees":                         meta(maxTx, 0, impl.MaxPages, freesOfOne(maxFrees+1, maxTx)...),
		"many Frees":                       meta(maxTx, 0, impl.MaxPages, freesOfOne(1000, maxTx)...),
		"a Free of Tx 0":                   meta(5, 0, 5, free(0, 2)),
		"a Free of Tx 0 of a meta of 0":    meta(0, 0, 5, free(0, 2)),
		"a Free in a meta of 0":            meta(0, 0, 5, free(1, 2)),
		"a Free of Tx -1":                  meta(5, 0, 5, free(-1, 2)),
		"a Free of the least Tx":           meta(5, 0, 5, free(math.MinInt, 2)),
		"a Free past the meta's Tx":        meta(5, 0, 5, free(6, 2)),
		"the last Free past it":            meta(5, 0, 5, free(1, 3), free(6, 2)),
		"a Free past the greatest Tx":      meta(maxTx, 0, 5, free(maxTx+1, 2)),
		"a Free of the greatest number":    meta(maxTx, 0, 5, free(math.MaxInt, 2)),
		"Frees of one Tx":                  meta(5, 0, 5, free(3, 2), free(3, 3)),
		"Frees of one Tx, the meta's":      meta(5, 0, 5, free(5, 2), free(5, 3)),
		"the last Frees of one Tx":         meta(5, 0, 8, free(1, 2), free(2, 3), free(2, 4)),
		"Frees that descend":               meta(5, 0, 5, free(3, 2), free(2, 3)),
		"the last Frees descend":           meta(5, 0, 8, free(1, 2), free(3, 3), free(2, 4)),
		"a Free with no page":              meta(5, 0, 5, free(3)),
		"a Free with an empty list":        meta(5, 0, 5, free(3, []int{}...)),
		"the last Free with no page":       meta(5, 0, 5, free(1, 2), free(3)),
		"a Free with no page ahead":        meta(5, 0, 5, free(1), free(3, 2)),
		"more pages than there are":        meta(5, 0, impl.MaxPages, free(3, slices.Repeat([]int{2}, impl.MaxPages+1)...)),
		"as many pages as MaxPages":        meta(5, 0, impl.MaxPages, free(3, span(0, impl.MaxPages-1)...)),
		"ever so many pages":               meta(5, 0, impl.MaxPages, free(3, span(2, 1000)...)),
		"page 0":                           meta(5, 0, 5, free(3, 0)),
		"page 1":                           meta(5, 0, 5, free(3, 1)),
		"page 1 ahead of others":           meta(5, 0, 5, free(3, 1, 2)),
		"page -1":                          meta(5, 0, 5, free(3, -1)),
		"the least page":                   meta(5, 0, 5, free(3, math.MinInt, 2)),
		"page Next":                        meta(5, 0, 5, free(3, 5)),
		"page Next behind others":          meta(5, 0, 5, free(3, 2, 4, 5)),
		"page MaxPages":                    meta(5, 0, impl.MaxPages, free(3, impl.MaxPages)),
		"the greatest page":                meta(5, 0, impl.MaxPages, free(3, 2, math.MaxInt)),
		"pages that are the same":          meta(5, 0, 5, free(3, 2, 2)),
		"the last pages the same":          meta(5, 0, 9, free(3, 2, 3, 3)),
		"pages that descend":               meta(5, 0, 5, free(3, 3, 2)),
		"the last pages descend":           meta(5, 0, 9, free(3, 2, 4, 3)),
		"pages that descend in the second": meta(5, 0, 9, free(2, 7), free(3, 4, 3)),
		"a page in two Frees":              meta(5, 0, 5, free(2, 2), free(3, 2)),
		"a page in two Frees, apart":       meta(5, 0, 9, free(2, 3, 4), free(3, 5), free(4, 2, 4, 6)),
		"the last page in two Frees":       meta(5, 0, impl.MaxPages, free(2, impl.MaxPages-1), free(3, 2, impl.MaxPages-1)),
		"Root among the pages":             meta(5, 2, 5, free(3, 2)),
		"Root among the last pages":        meta(5, 4, 9, free(2, 2, 3), free(3, 4, 5)),
		"the last page is Root":            meta(5, impl.MaxPages-1, impl.MaxPages, free(2, 2, impl.MaxPages-1)),
	}
}

func metaText(t *testing.T, m impl.Meta) string {
	t.Helper()
	s, ok := impl.MetaText(m)
	if !ok {
		t.Fatalf("MetaText(%#v) is refused", m)
	}
	return s
}

func noMeta(t *testing.T, name, s string) {
	t.Helper()
	if m, ok := impl.ReadMeta(s); ok || !sameMeta(m, impl.Meta{}) {
		t.Errorf("ReadMeta of %q (%.20q ..) = %#v, %v", name, s, m, ok)
	}
}

func TestMetaBytes(t *testing.T) {
	for want, m := range map[string]impl.Meta{
		"\x00\x00\x02\x00":                                                     meta(0, 0, 2),
		"\xa0\x8d\x06\x27\x28\x00":                                             meta(100000, 39, 40),
		"\x03\x02\x05\x01\x03\x02\x03\x04":                                     meta(3, 2, 5, free(3, 3, 4)),
		"\x03\x00\x05\x03\x01\x01\x02\x02\x01\x03\x03\x01\x04":                 meta(3, 0, 5, free(1, 2), free(2, 3), free(3, 4)),
		"\xac\x02\x02\x0c\x03\x7f\x01\x03\x80\x01\x01\x04\xac\x02\x02\x05\x0b": meta(300, 2, 12, free(127, 3), free(128, 4), free(300, 5, 11)),
	} {
		if got := metaText(t, m); got != seal(t, want) {
			t.Errorf("MetaText(%#v) = %q", m, got)
		}
		if got, ok := impl.ReadMeta(seal(t, want)); !ok || !sameMeta(got, m) {
			t.Errorf("ReadMeta of sealed %q = %#v, %v", want, got, ok)
		}
	}
}

func TestMetaIsReadBack(t *testing.T) {
	seen := map[string]impl.Meta{}
	for _, m := range rightMetas() {
		if !impl.MetaOk(m) {
			t.Errorf("MetaOk(%#v) is false", m)
		}
		s := metaText(t, m)
		if was, there := seen[s]; there {
			t.Errorf("%#v and %#v have one text", was, m)
		}
		seen[s] = m
		if got, ok := impl.ReadMeta(s); !ok || !sameMeta(got, m) {
			t.Errorf("ReadMeta(%q) = %#v, %v", s, got, ok)
		}
	}
}

// No right meta is too long for a page; the longest one is read back, too.
func TestLongestMeta(t *testing.T) {
	s := metaText(t, longestMeta())
	if len(s) != 3+1+1+1+maxFrees*(3+1)+38+4 || len(s) > impl.PageSize {
		t.Errorf("the longest text has %d bytes", len(s))
	}
}

func TestMetaOfEachTx(t *testing.T) {
	for tx := -2; tx <= maxTx+2; tx++ {
		m := meta(tx, 2, 4)
		if tx >= 1 {
			m.Frees = []impl.Free{free(tx, 3)}
		}
		right := tx >= 0 && tx <= maxTx
		s, ok := impl.MetaText(m)
		if impl.MetaOk(m) != right || ok != right {
			t.Fatalf("Tx %d: MetaOk %v, MetaText %v", tx, impl.MetaOk(m), ok)
		}
		if got, ok := impl.ReadMeta(s); ok != right || ok && !sameMeta(got, m) {
			t.Fatalf("Tx %d: ReadMeta = %#v, %v", tx, got, ok)
		}
	}
}

func TestMetaRefuses(t *testing.T) {
	for name, m := range wrongMetas() {
		if impl.MetaOk(m) {
			t.Errorf("MetaOk of %q", name)
		}
		if s, ok := impl.MetaText(m); s != "" || ok {
			t.Errorf("MetaText of %q = %q, %v", name, s, ok)
		}
	}
}

// plainMetaOk is the document's rule, word by word.
func plainMetaOk(m impl.Meta) bool {
	if m.Tx < 0 || m.Tx > 100000 || m.Next < 2 || m.Next > 40 || m.Root != 0 && (m.Root < 2 || m.Root > m.Next-1) || len(m.Frees) > 20 {
		return false
	}
	every := []int{m.Root}
	for at, f := range m.Frees {
		if f.Tx < 1 || f.Tx > m.Tx || at > 0 && m.Frees[at-1].Tx >= f.Tx {
			return false
		}
		if len(f.Pages) < 1 || len(f.Pages) > 40 || !slices.IsSorted(f.Pages) || f.Pages[0] < 2 || f.Pages[len(f.Pages)-1] > m.Next-1 {
			return false
		}
		every = append(every, f.Pages...)
	}
	size := len(every)
	slices.Sort(every)
	return len(slices.Compact(every)) == size
}

// numbersText is VarText of each, in order, or nothing when one has none.
func numbersText(list ...int) (string, bool) {
	s := ""
	for _, n := range list {
		part, ok := impl.VarText(n)
		if !ok {
			return "", false
		}
		s += part
	}
	return s, true
}

// plainMetaText is what the document's form makes of any meta, right or not, ahead of the seal.
func plainMetaText(m impl.Meta) (string, bool) {
	list := []int{m.Tx, m.Root, m.Next, len(m.Frees)}
	for _, f := range m.Frees {
		list = append(append(list, f.Tx, len(f.Pages)), f.Pages...)
	}
	return numbersText(list...)
}

// checkMeta holds all that is answered of a meta, and of its bytes, against the document's words.
func checkMeta(t *testing.T, m impl.Meta) {
	t.Helper()
	right := plainMetaOk(m)
	inner, has := plainMetaText(m)
	s, ok := impl.MetaText(m)
	if impl.MetaOk(m) != right || ok != right || ok && s != seal(t, inner) || !ok && s != "" {
		t.Fatalf("%#v: MetaOk %v, MetaText %q, %v", m, impl.MetaOk(m), s, ok)
	}
	if !has || len(inner) > impl.MaxText {
		return
	}
	got, ok := impl.ReadMeta(seal(t, inner))
	if ok != right || ok && !sameMeta(got, m) || !ok && !sameMeta(got, impl.Meta{}) {
		t.Fatalf("ReadMeta of sealed %q = %#v, %v", inner, got, ok)
	}
}

func TestMetaNamedOnes(t *testing.T) {
	for _, m := range rightMetas() {
		checkMeta(t, m)
	}
	for _, m := range wrongMetas() {
		checkMeta(t, m)
	}
}

// Every Root with every Next, around all their edges.
func TestMetaOfEachRoot(t *testing.T) {
	for next := -1; next <= impl.MaxPages+2; next++ {
		for root := -1; root <= impl.MaxPages+2; root++ {
			checkMeta(t, meta(4, root, next))
			for _, page := range []int{1, 2, 3, next - 1, next} {
				checkMeta(t, meta(4, root, next, free(4, page)))
			}
		}
	}
}

// Every three pages, around the edges, in one Free, two and three, with several Roots.
func TestMetaOfEachRowOfPages(t *testing.T) {
	pages := []int{1, 2, 3, 4, 8, 9}
	for row := range 6 * 6 * 6 {
		a, b, c := pages[row%6], pages[row/6%6], pages[row/36]
		for _, root := range []int{0, 2, 4, 8} {
			checkMeta(t, meta(5, root, 9, free(5, a, b, c)))
			checkMeta(t, meta(5, root, 9, free(4, a), free(5, b, c)))
			checkMeta(t, meta(5, root, 9, free(4, a, b), free(5, c)))
			checkMeta(t, meta(5, root, 9, free(1, a), free(2, b), free(3, c)))
		}
	}
}

// Every three numbers of Frees, around the edges.
func TestMetaOfEachRowOfFrees(t *testing.T) {
	for row := range 8 * 8 * 8 {
		a, b, c := row%8-1, row/8%8-1, row/64-1
		for tx := range 6 {
			checkMeta(t, meta(tx, 0, 9, free(a, 3)))
			checkMeta(t, meta(tx, 0, 9, free(a, 3), free(b, 2)))
			checkMeta(t, meta(tx, 0, 9, free(a, 3), free(b, 2), free(c, 4, 5)))
		}
	}
}

// Every number of Frees and of Pages, past their limits.
func TestMetaOfEachCount(t *testing.T) {
	for n := range maxFrees + 5 {
		checkMeta(t, meta(maxTx, 0, impl.MaxPages, freesOfOne(n, maxTx)...))
	}
	for n := range impl.MaxPages + 5 {
		checkMeta(t, meta(1, 0, impl.MaxPages, free(1, span(2, n)...)))
		checkMeta(t, meta(1, 0, impl.MaxPages, free(1, span(impl.MaxPages-n, impl.MaxPages-1)...)))
		checkMeta(t, meta(1, 0, impl.MaxPages, free(1, slices.Repeat([]int{2}, n)...)))
	}
}

// With one byte turned into any other no meta is read.
func TestMetaWithOneByteTurned(t *testing.T) {
	for _, m := range rightMetas() {
		s := metaText(t, m)
		for at := range len(s) {
			for turn := 1; turn < 256; turn++ {
				noMeta(t, "a byte turned", turned(s, at, byte(turn)))
			}
		}
	}
}

// plainMeta reads what is sealed in a meta's text as the document tells it; false where no right meta has it.
func plainMeta(s string) (impl.Meta, bool) {
	list := []int{}
	for s != "" {
		n, rest, ok := plainVar(s)
		if !ok || n > impl.MaxNumber {
			return impl.Meta{}, false
		}
		list, s = append(list, n), rest
	}
	if len(list) < 4 {
		return impl.Meta{}, false
	}
	m, count := meta(list[0], list[1], list[2]), list[3]
	list = list[4:]
	for len(m.Frees) < count {
		if len(list) < 2 || list[1] > len(list)-2 {
			return impl.Meta{}, false
		}
		m.Frees = append(m.Frees, free(list[0], list[2:2+list[1]]...))
		list = list[2+list[1]:]
	}
	return m, len(list) == 0 && plainMetaOk(m)
}

// checkMetaBytes holds ReadMeta of these bytes, sealed, against the document's words.
func checkMetaBytes(t *testing.T, inner string) {
	t.Helper()
	want, right := plainMeta(inner)
	if !right {
		want = impl.Meta{}
	}
	s := seal(t, inner)
	got, ok := impl.ReadMeta(s)
	if ok != right || !sameMeta(got, want) {
		t.Fatalf("ReadMeta of sealed %q = %#v, %v", inner, got, ok)
	}
	if ok && metaText(t, got) != s {
		t.Fatalf("sealed %q is written %q", inner, metaText(t, got))
	}
}

func TestReadMetaOfAnyBytes(t *testing.T) {
	for _, m := range rightMetas() {
		s := metaText(t, m)
		nearTexts(s[:len(s)-4], func(near string) { checkMetaBytes(t, near) })
	}
	textsOver("\x00\x01\x02\x03\x04", 7, func(s string) { checkMetaBytes(t, s) })
	textsOver("\x00\x01\x02\x03\x05\x80", 6, func(s string) { checkMetaBytes(t, "\x02\x00\x06"+s) })
	textsOver("\x00\x01\x02\x03\x27\x28", 5, func(s string) { checkMetaBytes(t, "\x02\x00\x28\x01"+s) })
}

func TestReadMetaRefuses(t *testing.T) {
	good := "\x05\x02\x08\x02\x01\x02\x03\x04\x05\x01\x05"
	for name, inner := range map[string]string{
		"nothing sealed":                  "",
		"a Tx alone":                      "\x05",
		"no Next":                         "\x05\x02",
		"no count":                        "\x05\x02\x08",
		"no Frees":                        "\x05\x02\x08\x02",
		"a count too low":                 "\x05\x02\x08\x01\x01\x02\x03\x04\x05\x01\x05",
		"count 0 with more":               "\x05\x02\x08\x00\x01\x02\x03\x04\x05\x01\x05",
		"a count too high":                "\x05\x02\x08\x03\x01\x02\x03\x04\x05\x01\x05",
		"the greatest count":              "\x05\x02\x08\x80\x94\xeb\xdc\x03\x01\x02\x03\x04\x05\x01\x05",
		"a count past the greatest":       "\x05\x02\x08\x81\x94\xeb\xdc\x03\x01\x02\x03\x04\x05\x01\x05",
		"fewer pages than told":           "\x05\x02\x08\x02\x01\x02\x03\x04\x05\x02\x05",
		"more pages than told":            "\x05\x02\x08\x02\x01\x01\x03\x04\x05\x01\x05",
		"no pages":                        "\x05\x02\x08\x02\x01\x02\x03\x04\x05\x00",
		"no number of pages":              "\x05\x02\x08\x02\x01\x02\x03\x04\x05",
		"the greatest number of pages":    "\x05\x02\x08\x01\x01\x80\x94\xeb\xdc\x03\x03",
		"a byte too many":                 good + "\x00",
		"a page too many":                 good + "\x06",
		"a Free too many":                 good + "\x05\x01\x07",
		"a byte too few":                  good[:len(good)-1],
		"the first byte gone":             good[1:],
		"a longer form of Tx":             "\x85\x00" + good[1:],
		"a longer form of Root":           "\x05\x82\x00" + good[2:],
		"a longer form of Next":           "\x05\x02\x88\x00" + good[3:],
		"a longer form of the count":      "\x05\x02\x08\x82\x00" + good[4:],
		"a longer form of a Free's Tx":    "\x05\x02\x08\x02\x81\x00" + good[5:],
		"a longer form of how many pages": "\x05\x02\x08\x02\x01\x82\x00" + good[6:],
		"a longer form of a page":         good[:len(good)-1] + "\x85\x00",
		"a still longer form of a page":   good[:len(good)-1] + "\x85\x80\x80\x00",
		"a longer form of Root 0":         "\x05\x80\x00\x08\x00",
		"a longer form of no Frees":       "\x05\x02\x08\x80\x00",
		"one Tx more":                     "\xa1\x8d\x06\x00\x02\x00",
		"the greatest Tx":                 "\x80\x94\xeb\xdc\x03\x00\x02\x00",
		"Next 1":                          "\x05\x00\x01\x00",
		"Next past MaxPages":              "\x05\x00\x29\x00",
		"Root 1":                          "\x05\x01\x08\x00",
		"Root Next":                       "\x05\x08\x08\x00",
		"a Free of Tx 0":                  "\x05\x02\x08\x01\x00\x01\x03",
		"a Free past the meta's Tx":       "\x05\x02\x08\x01\x06\x01\x03",
		"Frees of one Tx":                 "\x05\x02\x08\x02\x01\x01\x03\x01\x01\x04",
		"Frees that descend":              "\x05\x02\x08\x02\x02\x01\x03\x01\x01\x04",
		"pages that are the same":         "\x05\x02\x08\x01\x01\x02\x03\x03",
		"pages that descend":              "\x05\x02\x08\x01\x01\x02\x04\x03",
		"page 1":                          "\x05\x02\x08\x01\x01\x01\x01",
		"page Next":                       "\x05\x02\x08\x01\x01\x01\x08",
		"a page in two Frees":             "\x05\x02\x08\x02\x01\x01\x03\x02\x01\x03",
		"Root among the pages":            "\x05\x02\x08\x01\x01\x01\x02",
		"a node":                          "l\x01\x01a\x00",
		"sealed twice":                    seal(t, good),
		"as long as a page":               good + strings.Repeat("\x00", impl.PageSize-4-len(good)),
		"longer than a page":              good + strings.Repeat("\x00", impl.PageSize-3-len(good)),
		"many bytes":                      good + strings.Repeat("\x00", impl.MaxText-len(good)),
	} {
		noMeta(t, name, seal(t, inner))
	}
	if m, ok := impl.ReadMeta(seal(t, good)); !ok || !sameMeta(m, meta(5, 2, 8, free(1, 3, 4), free(5, 5))) {
		t.Errorf("ReadMeta of sealed %q = %#v, %v", good, m, ok)
	}
}

func TestReadMetaOfUnsealed(t *testing.T) {
	good := "\x05\x02\x08\x01\x03\x02\x03\x04"
	sealed := seal(t, good)
	for name, s := range map[string]string{
		"nothing":               "",
		"not sealed":            good,
		"a seal alone":          sealed[len(good):],
		"the seal ahead":        sealed[len(good):] + good,
		"no sum":                good + "\x00\x00\x00\x00",
		"another one's sum":     good + seal(t, good+"x")[len(good)+1:],
		"the sum the other way": good + string([]byte{sealed[len(sealed)-1], sealed[len(sealed)-2], sealed[len(sealed)-3], sealed[len(sealed)-4]}),
		"a page of noughts":     strings.Repeat("\x00", impl.PageSize),
		"many bytes":            strings.Repeat("\x00", impl.MaxText+5),
	} {
		noMeta(t, name, s)
	}
	nearTexts(sealed, func(near string) {
		if near != sealed {
			noMeta(t, "near", near)
		}
	})
}

// bestOf holds BestMeta of a disk with these texts kept at pages 0 and 1, and of one where they are Late, against what is wanted.
func bestOf(t *testing.T, name, first, second string, want impl.Meta, right bool) {
	t.Helper()
	kept := named(6)
	kept.Pages[0], kept.Pages[1] = first, second
	late := named(6)
	late.Late = []impl.Put{{Page: 1, Text: second}, {Page: 0, Text: first}, {Page: 2, Text: "page 2"}}
	half := named(6)
	half.Pages[0] = first
	half.Late = []impl.Put{{Page: 1, Text: "was"}, {Page: 1, Text: second}}
	for _, d := range []impl.Disk{kept, late, half} {
		if got, ok := impl.BestMeta(d); ok != right || !sameMeta(got, want) {
			t.Errorf("BestMeta of %s, %#v = %#v, %v", name, d, got, ok)
		}
	}
}

func TestBestMeta(t *testing.T) {
	low, high := meta(3, 2, 5, free(3, 3, 4)), meta(4, 0, 7, free(4, 2))
	a, b := metaText(t, low), metaText(t, high)
	bad := turned(b, 0, 1)
	bestOf(t, "page 0 alone", a, "", low, true)
	bestOf(t, "page 1 alone", "", a, low, true)
	bestOf(t, "the greater at 0", b, a, high, true)
	bestOf(t, "the greater at 1", a, b, high, true)
	bestOf(t, "the greater at 1 turned", a, bad, low, true)
	bestOf(t, "the greater at 0 turned", bad, a, low, true)
	bestOf(t, "a node at 1", a, nodeText(t, leaf([]string{"a"}, []string{"1"})), low, true)
	bestOf(t, "half of it at 0", b[:len(b)/2], a, low, true)
	bestOf(t, "neither", "", "", impl.Meta{}, false)
	bestOf(t, "both turned", bad, turned(a, 2, 9), impl.Meta{}, false)
	bestOf(t, "not sealed", a[:len(a)-4], b[:len(b)-4], impl.Meta{}, false)
}

// Of one Tx that of page 0 counts, whatever else is greater.
func TestBestMetaOfOneTx(t *testing.T) {
	same := []impl.Meta{meta(5, 0, 2), meta(5, 2, 3), meta(5, 39, 40), meta(5, 2, 40, free(1, 3), free(5, 4)), meta(5, 0, 3, free(5, 2))}
	for _, first := range same {
		for _, second := range same {
			bestOf(t, "one Tx", metaText(t, first), metaText(t, second), first, true)
		}
	}
}

// Every two numbers: the greater one counts by its number, not by its bytes.
func TestBestMetaOfEachTwo(t *testing.T) {
	numbers := []int{0, 1, 2, 3, 100, 127, 128, 129, 255, 256, 300, 16383, 16384, 16385, 65536, maxTx - 1, maxTx}
	for _, a := range numbers {
		for _, b := range numbers {
			first, second := meta(a, 0, 2), meta(b, 2, 3)
			want := first
			if b > a {
				want = second
			}
			bestOf(t, "two", metaText(t, first), metaText(t, second), want, true)
		}
	}
}

// Pages behind the first two count nothing, whatever they tell; a meta need not be at the page of its number.
func TestBestMetaLooksAtTwoPages(t *testing.T) {
	d := named(6)
	d.Pages[2], d.Pages[5] = metaText(t, meta(9, 0, 2)), metaText(t, meta(8, 0, 2))
	d.Late = []impl.Put{{Page: 3, Text: metaText(t, meta(10, 0, 2))}}
	if m, ok := impl.BestMeta(d); ok || !sameMeta(m, impl.Meta{}) {
		t.Errorf("BestMeta of neither = %#v, %v", m, ok)
	}
	d.Pages[0] = metaText(t, meta(7, 0, 2))
	if m, ok := impl.BestMeta(d); !ok || m.Tx != 7 {
		t.Errorf("BestMeta of an odd one at page 0 = %#v, %v", m, ok)
	}
	d.Late = append(d.Late, impl.Put{Page: 0, Text: ""}, impl.Put{Page: 1, Text: metaText(t, meta(6, 0, 2))})
	if m, ok := impl.BestMeta(d); !ok || m.Tx != 6 {
		t.Errorf("BestMeta of an even one at page 1 = %#v, %v", m, ok)
	}
}

// The document names no disk that BestMeta refuses: what ReadPage reads counts.
func TestBestMetaOfWrongDisks(t *testing.T) {
	for name, d := range wrongDisks() {
		if m, ok := impl.BestMeta(d); ok || !sameMeta(m, impl.Meta{}) {
			t.Errorf("BestMeta of %q = %#v, %v", name, m, ok)
		}
	}
	want := meta(3, 2, 5, free(3, 3, 4))
	one := impl.Disk{Pages: []string{metaText(t, want)}}
	past := impl.Disk{Pages: []string{metaText(t, want)}, Late: []impl.Put{{Page: 1, Text: metaText(t, meta(4, 0, 2))}}}
	for _, d := range []impl.Disk{one, past} {
		if m, ok := impl.BestMeta(d); !ok || !sameMeta(m, want) {
			t.Errorf("BestMeta of %#v = %#v, %v", d, m, ok)
		}
	}
}

func TestMetaPage(t *testing.T) {
	for tx := 0; tx <= maxTx+2; tx += 2 {
		if impl.MetaPage(tx) != 0 || impl.MetaPage(tx+1) != 1 {
			t.Fatalf("MetaPage of %d and the next one = %d, %d", tx, impl.MetaPage(tx), impl.MetaPage(tx+1))
		}
	}
	// Of any number it is one of the two pages.
	for tx, want := range map[int]int{-1: 1, -2: 0, -3: 1, -100000: 0, math.MaxInt: 1, math.MaxInt - 1: 0, math.MinInt: 0, math.MinInt + 1: 1} {
		if got := impl.MetaPage(tx); got != want {
			t.Errorf("MetaPage(%d) = %d", tx, got)
		}
	}
}

// An empty list and nil are the same value.
func TestMetaEmptyLists(t *testing.T) {
	for _, m := range []impl.Meta{meta(0, 0, 2), meta(3, 2, 9)} {
		other := m
		m.Frees, other.Frees = nil, []impl.Free{}
		if !impl.MetaOk(m) || !impl.MetaOk(other) || metaText(t, m) != metaText(t, other) {
			t.Errorf("%#v is another one with an empty list", m)
		}
	}
}

// roomyMeta is the same meta with spare room behind its lists, which is filled.
func roomyMeta(m impl.Meta) impl.Meta {
	frees := []impl.Free{}
	for _, f := range m.Frees {
		frees = append(frees, free(f.Tx, append(slices.Clone(f.Pages), 7, 7, 7)[:len(f.Pages)]...))
	}
	size := len(frees)
	frees = append(frees, free(7, 7, 8), free(8), free(9))
	return meta(m.Tx, m.Root, m.Next, frees[:size]...)
}

// wholeMeta is a copy of the meta with all that is in the room behind its lists.
func wholeMeta(m impl.Meta) impl.Meta {
	frees := []impl.Free{}
	for _, f := range m.Frees[:cap(m.Frees)] {
		frees = append(frees, free(f.Tx, slices.Clone(f.Pages[:cap(f.Pages)])...))
	}
	return meta(m.Tx, m.Root, m.Next, frees...)
}

func TestMetaArgumentsStay(t *testing.T) {
	list := rightMetas()
	for _, m := range wrongMetas() {
		list = append(list, m)
	}
	for _, plain := range list {
		m := roomyMeta(plain)
		want := wholeMeta(m)
		impl.MetaOk(m)
		impl.MetaText(m)
		if !sameMeta(wholeMeta(m), want) || !sameMeta(m, plain) {
			t.Errorf("something is written into %#v", plain)
		}
	}
	d := withLate()
	d.Pages[0] = metaText(t, longestMeta())
	d.Late = append(d.Late, impl.Put{Page: 1, Text: metaText(t, meta(3, 2, 5, free(3, 3, 4)))})
	d = roomy(d)
	whole := impl.Disk{Pages: slices.Clone(d.Pages[:cap(d.Pages)]), Late: slices.Clone(d.Late[:cap(d.Late)])}
	impl.BestMeta(d)
	if !sameDisk(impl.Disk{Pages: d.Pages[:cap(d.Pages)], Late: d.Late[:cap(d.Late)]}, whole) {
		t.Errorf("BestMeta writes into its argument")
	}
}

// scribbleMeta changes all that a meta's lists reach, the spare room too.
func scribbleMeta(m impl.Meta) {
	for _, f := range m.Frees {
		for at := range f.Pages[:cap(f.Pages)] {
			f.Pages[:cap(f.Pages)][at] = -7
		}
	}
	clear(m.Frees[:cap(m.Frees)])
}

func TestMetasAreNewMemory(t *testing.T) {
	for _, m := range rightMetas() {
		s := metaText(t, m)
		d := named(4)
		d.Pages[1] = s
		first, _ := impl.ReadMeta(s)
		best, _ := impl.BestMeta(d)
		for at := range first.Frees {
			// The lists of one answer are apart, in their spare room, too.
			pages := first.Frees[at].Pages
			for place := range pages[:cap(pages)] {
				pages[:cap(pages)][place] = -7
			}
			copy(pages, m.Frees[at].Pages)
			if !sameMeta(first, m) {
				t.Fatalf("two lists of ReadMeta(%q) share memory", s)
			}
		}
		scribbleMeta(first)
		again, ok := impl.ReadMeta(s)
		if !ok || !sameMeta(again, m) || !sameMeta(best, m) {
			t.Errorf("two answers share memory: %#v, %#v", again, best)
		}
		scribbleMeta(best)
		if !sameMeta(again, m) {
			t.Errorf("two answers share memory: %#v", again)
		}
	}
}
