package tests

import (
	"math"
	"slices"
	"strconv"
	"strings"
	"testing"

	"loop.example/g00240/impl"
)

// maxLate is how many the document lets be Late.
const maxLate = 200

func newDisk(t *testing.T, n int) impl.Disk {
	t.Helper()
	d, ok := impl.DiskNew(n)
	if !ok {
		t.Fatalf("DiskNew(%d) is refused", n)
	}
	return d
}

func write(t *testing.T, d impl.Disk, page int, text string) impl.Disk {
	t.Helper()
	out, ok := impl.WritePage(d, page, text)
	if !ok {
		t.Fatalf("WritePage of %d bytes to page %d, with %d Late, is refused", len(text), page, len(d.Late))
	}
	return out
}

func sameDisk(a, b impl.Disk) bool {
	return slices.Equal(a.Pages, b.Pages) && slices.Equal(a.Late, b.Late)
}

// ownDisk is the same disk in memory of its own, down to the bytes.
func ownDisk(d impl.Disk) impl.Disk {
	var out impl.Disk
	for _, text := range d.Pages {
		out.Pages = append(out.Pages, strings.Clone(text))
	}
	for _, put := range d.Late {
		out.Late = append(out.Late, impl.Put{Page: put.Page, Text: strings.Clone(put.Text)})
	}
	return out
}

// named is a disk of n pages, each with a text of its own, nothing Late.
func named(n int) impl.Disk {
	var d impl.Disk
	for page := range n {
		d.Pages = append(d.Pages, "kept "+strconv.Itoa(page))
	}
	return d
}

// withLate is a disk of 5 named pages: several Late to pages 1 and 3, one to page 0, none to page 2, and texts of odd and even lengths, of one byte and of none.
func withLate() impl.Disk {
	d := named(5)
	d.Late = []impl.Put{{Page: 1, Text: "first"}, {Page: 3, Text: "x"}, {Page: 1, Text: "second"}, {Page: 0, Text: "begin"}, {Page: 3, Text: ""}, {Page: 1, Text: "the third"}, {Page: 4, Text: "no"}}
	return d
}

// pageAfterFall is what the document tells of one page, looked for from the end: the last one that is left, else what was kept.
func pageAfterFall(d impl.Disk, left []bool, torn, page int) string {
	for at := min(len(d.Late), len(left)) - 1; at >= 0; at-- {
		if put := d.Late[at]; left[at] && put.Page == page {
			if at == torn {
				return put.Text[:(len(put.Text)-len(put.Text)%2)/2]
			}
			return put.Text
		}
	}
	return d.Pages[page]
}

func checkFall(t *testing.T, d impl.Disk, left []bool, torn int) {
	t.Helper()
	got := impl.FallDisk(d, left, torn)
	if len(got.Pages) != len(d.Pages) || len(got.Late) != 0 || !impl.DiskOk(got) {
		t.Fatalf("FallDisk(%v, %d) leaves %d pages of %d, %d Late", left, torn, len(got.Pages), len(d.Pages), len(got.Late))
	}
	for page := range d.Pages {
		want := pageAfterFall(d, left, torn, page)
		if got.Pages[page] != want {
			t.Fatalf("FallDisk(%v, %d): page %d is %q, not %q", left, torn, page, got.Pages[page], want)
		}
	}
}

// bits is the list that tells, for each of n places, whether its bit is set (of 62, which come again).
func bits(mask, n int) []bool {
	list := make([]bool, n)
	for at := range list {
		list[at] = mask>>(at%62)&1 == 1
	}
	return list
}

func all(n int) []bool {
	return slices.Repeat([]bool{true}, n)
}

// wrongDisks are disks that are not right, each by one thing.
func wrongDisks() map[string]impl.Disk {
	with := func(change func(d *impl.Disk)) impl.Disk {
		d := withLate()
		change(&d)
		return d
	}
	long := strings.Repeat("a", impl.PageSize+1)
	return map[string]impl.Disk{
		"nothing":           {},
		"Late alone":        {Late: []impl.Put{{Page: 0, Text: "a"}}},
		"one page":          named(1),
		"three pages":       named(3),
		"one page too many": named(impl.MaxPages + 1),
		"many pages":        named(1000),
		"first page long":   with(func(d *impl.Disk) { d.Pages[0] = long }),
		"last page long":    with(func(d *impl.Disk) { d.Pages[4] = long }),
		"first Late long":   with(func(d *impl.Disk) { d.Late[0].Text = long }),
		"last Late long":    with(func(d *impl.Disk) { d.Late[6].Text = long }),
		"Late to page -1":   with(func(d *impl.Disk) { d.Late[0].Page = -1 }),
		"Late past the end": with(func(d *impl.Disk) { d.Late[6].Page = 5 }),
		"Late far below":    with(func(d *impl.Disk) { d.Late[3].Page = math.MinInt }),
		"Late far past":     with(func(d *impl.Disk) { d.Late[3].Page = math.MaxInt }),
		"201 Late":          with(func(d *impl.Disk) { d.Late = slices.Repeat([]impl.Put{{Page: 2, Text: "a"}}, maxLate+1) }),
	}
}

// rightDisks are disks at the edges of what is right.
func rightDisks() map[string]impl.Disk {
	full := strings.Repeat("\xff", impl.PageSize)
	return map[string]impl.Disk{
		"four pages":      {Pages: make([]string, 4)},
		"all pages":       named(impl.MaxPages),
		"full pages":      {Pages: []string{full, full, full, full}, Late: []impl.Put{{Page: 0, Text: full}, {Page: 3, Text: full}}},
		"200 Late":        {Pages: make([]string, impl.MaxPages), Late: slices.Repeat([]impl.Put{{Page: impl.MaxPages - 1, Text: full}}, maxLate)},
		"several to one":  withLate(),
		"empty texts":     {Pages: []string{"a", "", "b", ""}, Late: []impl.Put{{Page: 0, Text: ""}, {Page: 1, Text: ""}}},
		"any bytes":       {Pages: []string{"\x00", "\n", "h\u00e9", "\x80\xff"}, Late: []impl.Put{{Page: 2, Text: "\x00\xff"}}},
		"an empty Late":   {Pages: named(4).Pages, Late: []impl.Put{}},
		"without a Late":  {Pages: named(4).Pages, Late: nil},
		"Late to the end": {Pages: named(7).Pages, Late: []impl.Put{{Page: 6, Text: "z"}, {Page: 0, Text: "a"}, {Page: 6, Text: "y"}}},
	}
}

func TestDiskNew(t *testing.T) {
	for n := 4; n <= impl.MaxPages; n++ {
		d := newDisk(t, n)
		if len(d.Pages) != n || len(d.Late) != 0 || strings.Join(d.Pages, "") != "" || !impl.DiskOk(d) {
			t.Errorf("DiskNew(%d) has %d pages, %d Late", n, len(d.Pages), len(d.Late))
		}
	}
	for _, n := range []int{3, 2, 1, 0, -1, -4, -impl.MaxPages, math.MinInt, impl.MaxPages + 1, 2 * impl.MaxPages, math.MaxInt32, math.MaxInt} {
		if d, ok := impl.DiskNew(n); len(d.Pages) != 0 || len(d.Late) != 0 || ok {
			t.Errorf("DiskNew(%d) has %d pages, %d Late, %v", n, len(d.Pages), len(d.Late), ok)
		}
	}
}

func TestDiskOk(t *testing.T) {
	for name, d := range rightDisks() {
		if !impl.DiskOk(d) {
			t.Errorf("%s: is not right", name)
		}
	}
	for name, d := range wrongDisks() {
		if impl.DiskOk(d) {
			t.Errorf("%s: is right", name)
		}
	}
}

func TestWrittenIsRead(t *testing.T) {
	for _, text := range []string{"abcd", "", "a", "\x00", "\xff\xff", allBytes()[:impl.PageSize], strings.Repeat("a", impl.PageSize)} {
		for page := range 5 {
			d := withLate()
			got := write(t, d, page, text)
			if !slices.Equal(got.Pages, d.Pages) || !slices.Equal(got.Late, append(slices.Clone(d.Late), impl.Put{Page: page, Text: text})) {
				t.Fatalf("WritePage to %d: it is not behind Late alone: %v", page, got)
			}
			kept := impl.SyncDisk(got)
			for other := range 5 {
				want := impl.ReadPage(d, other)
				if other == page {
					want = text
				}
				if read := impl.ReadPage(got, other); read != want {
					t.Errorf("written to %d: page %d reads %q, not %q", page, other, read, want)
				}
				if read := impl.ReadPage(kept, other); read != want || kept.Pages[other] != want {
					t.Errorf("written to %d and kept: page %d reads %q, not %q", page, other, read, want)
				}
			}
		}
	}
}

func TestReadPage(t *testing.T) {
	d := withLate()
	for page, want := range []string{"begin", "the third", "kept 2", "", "no"} {
		if got := impl.ReadPage(d, page); got != want {
			t.Errorf("ReadPage(%d) = %q, not %q", page, got, want)
		}
	}
	for _, page := range []int{-1, -2, math.MinInt, 5, 6, impl.MaxPages, math.MaxInt} {
		if got := impl.ReadPage(d, page); got != "" {
			t.Errorf("ReadPage(%d) = %q", page, got)
		}
		// A text that is Late to it does not make a page of it.
		d := withLate()
		d.Late = append(d.Late, impl.Put{Page: page, Text: "nowhere"})
		if got := impl.ReadPage(d, page); got != "" {
			t.Errorf("ReadPage(%d) = %q, to which there is one Late", page, got)
		}
	}
	if got := impl.ReadPage(impl.Disk{}, 0); got != "" {
		t.Errorf("ReadPage of nothing = %q", got)
	}
}

func TestWritePageRefuses(t *testing.T) {
	refused := func(name string, d impl.Disk, page int, text string) {
		t.Helper()
		if got, ok := impl.WritePage(ownDisk(d), page, text); ok || !sameDisk(got, d) {
			t.Errorf("%s: WritePage of %d bytes to %d = %v, not as it was", name, len(text), page, ok)
		}
	}
	for _, page := range []int{-1, -5, math.MinInt, 5, 6, impl.MaxPages, math.MaxInt} {
		refused("no such page", withLate(), page, "a")
		refused("no such page", withLate(), page, "")
	}
	for _, size := range []int{impl.PageSize + 1, impl.PageSize + 2, 2 * impl.PageSize, 100000} {
		refused("too long", withLate(), 2, strings.Repeat("a", size))
	}
	for name, d := range wrongDisks() {
		for page := -1; page < 6; page++ {
			refused(name, d, page, "a")
		}
	}
	for _, n := range []int{4, impl.MaxPages} {
		d := newDisk(t, n)
		for at := range maxLate {
			d = write(t, d, at%n, strconv.Itoa(at))
		}
		refused("200 Late", d, 0, "a")
		refused("200 Late", d, n-1, "")
		kept := impl.SyncDisk(d)
		if got := write(t, kept, n-1, "again"); impl.ReadPage(got, n-1) != "again" {
			t.Errorf("of %d pages: what is kept leaves no room", n)
		}
	}
}

func TestEdgesOfPages(t *testing.T) {
	for _, n := range []int{4, 5, impl.MaxPages - 1, impl.MaxPages} {
		d := newDisk(t, n)
		for page := range n {
			d = write(t, d, page, strings.Repeat(string(rune('a'+page%26)), impl.PageSize))
		}
		for _, page := range []int{-1, n} {
			if _, ok := impl.WritePage(d, page, "a"); ok {
				t.Errorf("of %d pages: page %d is written", n, page)
			}
		}
		for _, d := range []impl.Disk{d, impl.SyncDisk(d), impl.FallDisk(d, all(n), -1)} {
			for page := range n {
				if got := impl.ReadPage(d, page); got != strings.Repeat(string(rune('a'+page%26)), impl.PageSize) {
					t.Errorf("of %d pages: page %d reads %d bytes (%.3q ..)", n, page, len(got), got)
				}
			}
		}
	}
}

func TestSyncDisk(t *testing.T) {
	for name, d := range rightDisks() {
		got := impl.SyncDisk(d)
		if len(got.Late) != 0 || len(got.Pages) != len(d.Pages) || !impl.DiskOk(got) {
			t.Fatalf("%s: %d pages, %d Late", name, len(got.Pages), len(got.Late))
		}
		for page := range d.Pages {
			if want := pageAfterFall(d, all(len(d.Late)), -1, page); got.Pages[page] != want || impl.ReadPage(got, page) != want {
				t.Errorf("%s: page %d is %q, not %q", name, page, got.Pages[page], want)
			}
		}
		if again := impl.SyncDisk(got); !sameDisk(again, got) {
			t.Errorf("%s: kept twice is not kept once", name)
		}
		// What is kept is never lost, whatever falls.
		if again := impl.FallDisk(got, all(maxLate), 0); !sameDisk(again, got) {
			t.Errorf("%s: what was kept falls", name)
		}
	}
}

// The document names no disk that SyncDisk refuses: what has a page is kept there.
func TestSyncDiskOfWrong(t *testing.T) {
	for name, d := range wrongDisks() {
		got := impl.SyncDisk(d)
		if len(got.Late) != 0 || len(got.Pages) != len(d.Pages) {
			t.Fatalf("%s: %d pages, %d Late", name, len(got.Pages), len(got.Late))
		}
		for page := range d.Pages {
			if want := pageAfterFall(d, all(len(d.Late)), -1, page); got.Pages[page] != want || impl.ReadPage(d, page) != want {
				t.Errorf("%s: page %d is %q, not %q", name, page, got.Pages[page], want)
			}
		}
	}
}

func TestFallDiskNamed(t *testing.T) {
	late := withLate()
	keptPages := func(change map[int]string) []string {
		pages := slices.Clone(late.Pages)
		for page, text := range change {
			pages[page] = text
		}
		return pages
	}
	for name, c := range map[string]struct {
		left []bool
		torn int
		want map[int]string
	}{
		"nothing told":              {nil, -1, nil},
		"nothing told, torn":        {[]bool{}, 0, nil},
		"all lost":                  {make([]bool, 7), 2, nil},
		"all left":                  {all(7), -1, map[int]string{0: "begin", 1: "the third", 3: "", 4: "no"}},
		"left longer":               {all(500), -1, map[int]string{0: "begin", 1: "the third", 3: "", 4: "no"}},
		"left longer, torn past":    {all(500), 7, map[int]string{0: "begin", 1: "the third", 3: "", 4: "no"}},
		"left shorter":              {all(2), -1, map[int]string{1: "first", 3: "x"}},
		"torn, odd":                 {all(1), 0, map[int]string{1: "fi"}},
		"torn, even":                {all(7), 6, map[int]string{0: "begin", 1: "the third", 3: "", 4: "n"}},
		"torn, one byte":            {all(2), 1, map[int]string{1: "first", 3: ""}},
		"torn, no byte":             {all(5), 4, map[int]string{0: "begin", 1: "second", 3: ""}},
		"torn and written over":     {all(7), 2, map[int]string{0: "begin", 1: "the third", 3: "", 4: "no"}},
		"torn at the last left":     {[]bool{true, false, true, false, false, false}, 2, map[int]string{1: "sec"}},
		"torn at a lost one":        {[]bool{true, false, false}, 2, map[int]string{1: "first"}},
		"torn at one not told":      {[]bool{true}, 2, map[int]string{1: "first"}},
		"torn below 0":              {[]bool{true}, -5, map[int]string{1: "first"}},
		"torn far below 0":          {[]bool{true}, math.MinInt, map[int]string{1: "first"}},
		"torn far past the end":     {[]bool{true}, math.MaxInt, map[int]string{1: "first"}},
		"torn at its place in Late": {[]bool{false, false, true}, 0, map[int]string{1: "second"}},
		"the midst lost":            {[]bool{true, true, false, true, true, false, true}, 3, map[int]string{0: "be", 1: "first", 3: "", 4: "no"}},
	} {
		got := impl.FallDisk(late, c.left, c.torn)
		if !slices.Equal(got.Pages, keptPages(c.want)) || len(got.Late) != 0 {
			t.Errorf("%s: %q, %v, not %q", name, got.Pages, got.Late, keptPages(c.want))
		}
	}
}

// Every way in which the power can leave and tear what is Late, with left shorter and longer than it.
func TestFallDiskEveryWay(t *testing.T) {
	d := withLate()
	for size := range len(d.Late) + 3 {
		for mask := range 1 << size {
			for torn := -2; torn < len(d.Late)+3; torn++ {
				checkFall(t, d, bits(mask, size), torn)
			}
		}
	}
}

func TestFallDiskEdges(t *testing.T) {
	for _, d := range rightDisks() {
		for _, size := range []int{0, 1, len(d.Late) / 2, max(len(d.Late)-1, 0), len(d.Late), len(d.Late) + 1, 300} {
			for _, torn := range []int{math.MinInt, -1, 0, 1, len(d.Late) - 1, len(d.Late), maxLate - 1, maxLate, math.MaxInt} {
				checkFall(t, d, make([]bool, size), torn)
				checkFall(t, d, all(size), torn)
				checkFall(t, d, bits(0x5555555555555555, size), torn)
				checkFall(t, d, bits(0x2aaaaaaaaaaaaaaa, size), torn)
			}
		}
	}
}

// Texts of each length are torn in the midst, down.
func TestFallDiskHalves(t *testing.T) {
	text := allBytes()[:impl.PageSize]
	for size := range impl.PageSize + 1 {
		d := write(t, named(4), 2, text[:size])
		got := impl.FallDisk(d, all(1), 0)
		if got.Pages[2] != text[:size/2] || got.Pages[0] != "kept 0" || got.Pages[1] != "kept 1" || got.Pages[3] != "kept 3" {
			t.Errorf("of %d bytes %d are left", size, len(got.Pages[2]))
		}
	}
}

func TestFallDiskOfWrong(t *testing.T) {
	for name, d := range wrongDisks() {
		for _, left := range [][]bool{nil, all(1), all(7), all(300)} {
			for _, torn := range []int{-1, 0, 6, maxLate} {
				if got := impl.FallDisk(ownDisk(d), left, torn); !sameDisk(got, d) {
					t.Errorf("%s: FallDisk(%d left, %d) is not as it was", name, len(left), torn)
				}
			}
		}
	}
}

// A long row of writes, some kept and some fallen, beside a plain model of each page.
func TestDiskRow(t *testing.T) {
	state := uint32(1)
	next := func(n int) int {
		state = state*1664525 + 1013904223
		return int(state>>8) % n
	}
	for _, n := range []int{4, 7, impl.MaxPages} {
		d := newDisk(t, n)
		now, safe := make([]string, n), make([]string, n)
		for range 3000 {
			switch what := next(100); {
			case what < 2:
				d = impl.SyncDisk(d)
				copy(safe, now)
			case what < 4:
				left, torn := make([]bool, next(64)), next(64)-1
				for at := range left {
					left[at] = next(2) == 1
				}
				for page := range n {
					now[page] = pageAfterFall(d, left, torn, page)
				}
				d = impl.FallDisk(d, left, torn)
				copy(safe, now)
			case len(d.Late) < maxLate:
				page := next(n)
				now[page] = strings.Repeat(string([]byte{byte(what)}), next(impl.PageSize+1))
				d = write(t, d, page, now[page])
			}
			for page := range n {
				if got := impl.ReadPage(d, page); got != now[page] || d.Pages[page] != safe[page] {
					t.Fatalf("of %d pages: page %d reads %.5q, keeps %.5q, not %.5q, %.5q", n, page, got, d.Pages[page], now[page], safe[page])
				}
			}
		}
	}
}

// roomy is the same disk with spare room behind its lists, which is filled.
func roomy(d impl.Disk) impl.Disk {
	pages := append(slices.Clone(d.Pages), "spare", "spare", "spare")
	late := append(slices.Clone(d.Late), impl.Put{Page: 9, Text: "spare"}, impl.Put{Page: 9, Text: "spare"}, impl.Put{Page: 9, Text: "spare"})
	return impl.Disk{Pages: pages[:len(d.Pages)], Late: late[:len(d.Late)]}
}

// diskCalls are calls of all functions that take a disk and answer one.
func diskCalls() map[string]func(d impl.Disk) impl.Disk {
	return map[string]func(d impl.Disk) impl.Disk{
		"WritePage":         func(d impl.Disk) impl.Disk { out, _ := impl.WritePage(d, 2, "more"); return out },
		"WritePage refused": func(d impl.Disk) impl.Disk { out, _ := impl.WritePage(d, -1, "more"); return out },
		"SyncDisk":          func(d impl.Disk) impl.Disk { return impl.SyncDisk(d) },
		"FallDisk":          func(d impl.Disk) impl.Disk { return impl.FallDisk(d, all(7), 2) },
		"FallDisk of none":  func(d impl.Disk) impl.Disk { return impl.FallDisk(d, nil, -1) },
	}
}

func TestDiskArgumentsStay(t *testing.T) {
	disks := wrongDisks()
	for name, d := range rightDisks() {
		disks[name] = d
	}
	for name, plain := range disks {
		for call, do := range diskCalls() {
			d := roomy(plain)
			want := ownDisk(impl.Disk{Pages: d.Pages[:cap(d.Pages)], Late: d.Late[:cap(d.Late)]})
			do(d)
			impl.DiskOk(d)
			impl.ReadPage(d, 0)
			if got := (impl.Disk{Pages: d.Pages[:cap(d.Pages)], Late: d.Late[:cap(d.Late)]}); !sameDisk(got, want) {
				t.Errorf("%s of %s writes into its argument", call, name)
			}
		}
	}
	left := bits(5, 9)
	impl.FallDisk(withLate(), left[:7], 2)
	if !slices.Equal(left, bits(5, 9)) {
		t.Error("FallDisk writes into left")
	}
}

// scribble changes all that a disk's lists reach, the spare room too.
func scribble(d impl.Disk) {
	for at := range d.Pages[:cap(d.Pages)] {
		d.Pages[:cap(d.Pages)][at] = "changed"
	}
	for at := range d.Late[:cap(d.Late)] {
		d.Late[:cap(d.Late)][at] = impl.Put{Page: -7, Text: "changed"}
	}
}

func TestDisksAreNewMemory(t *testing.T) {
	disks := wrongDisks()
	for name, d := range rightDisks() {
		disks[name] = d
	}
	for name, plain := range disks {
		for call, do := range diskCalls() {
			d := roomy(plain)
			got := do(d)
			want := ownDisk(got)
			scribble(d)
			if !sameDisk(got, want) {
				t.Errorf("%s of %s: an argument that is changed changes the answer", call, name)
			}
			d = roomy(plain)
			want = ownDisk(impl.Disk{Pages: d.Pages[:cap(d.Pages)], Late: d.Late[:cap(d.Late)]})
			scribble(do(d))
			if !sameDisk(impl.Disk{Pages: d.Pages[:cap(d.Pages)], Late: d.Late[:cap(d.Late)]}, want) {
				t.Errorf("%s of %s: an answer that is changed changes the argument", call, name)
			}
		}
	}
	a, b := newDisk(t, 4), newDisk(t, 4)
	scribble(a)
	if !sameDisk(b, impl.Disk{Pages: make([]string, 4)}) {
		t.Error("two answers of DiskNew share memory")
	}
	// Two writes behind one disk do not meet in its spare room.
	d := roomy(withLate())
	first, second := write(t, d, 0, "first"), write(t, d, 0, "second")
	if impl.ReadPage(first, 0) != "first" || impl.ReadPage(second, 0) != "second" {
		t.Error("two answers of WritePage share memory")
	}
}

func TestDiskTextsAreNewMemory(t *testing.T) {
	texts := func(d impl.Disk) []string {
		list := slices.Clone(d.Pages)
		for _, put := range d.Late {
			list = append(list, put.Text)
		}
		return list
	}
	share := func(list, others []string) bool {
		return slices.ContainsFunc(list, func(text string) bool {
			return slices.ContainsFunc(others, func(other string) bool { return sharesMemory(text, other) })
		})
	}
	for call, do := range diskCalls() {
		d := ownDisk(withLate())
		if share(texts(do(d)), texts(d)) {
			t.Errorf("%s hands out texts of its argument", call)
		}
	}
	d, text := ownDisk(withLate()), strings.Clone("some words")
	if share(texts(write(t, d, 2, text)), []string{text}) {
		t.Error("WritePage hands out its text")
	}
	for page := range d.Pages {
		if share([]string{impl.ReadPage(d, page)}, texts(d)) {
			t.Errorf("ReadPage(%d) hands out a text of its argument", page)
		}
	}
}

// An empty list and nil are the same value, for each function.
func TestDiskEmptyAndNil(t *testing.T) {
	for _, pages := range [][]string{nil, {}, named(4).Pages} {
		empty, none := impl.Disk{Pages: pages, Late: []impl.Put{}}, impl.Disk{Pages: pages}
		if len(pages) == 0 {
			empty.Pages, none.Pages = []string{}, nil
		}
		if impl.DiskOk(empty) != impl.DiskOk(none) || impl.ReadPage(empty, 0) != impl.ReadPage(none, 0) {
			t.Errorf("of %d pages: an empty list is not nil", len(pages))
		}
		for call, do := range diskCalls() {
			if !sameDisk(do(empty), do(none)) {
				t.Errorf("%s of %d pages: an empty list is not nil", call, len(pages))
			}
		}
	}
	if !sameDisk(impl.FallDisk(withLate(), nil, 0), impl.FallDisk(withLate(), []bool{}, 0)) {
		t.Error("FallDisk: an empty left is not nil")
	}
}
