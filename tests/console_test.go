package tests

import (
	"regexp"
	"slices"
	"strconv"
	"strings"
	"sync"
	"testing"

	"loop.example/g00240/impl"
)

// wordForms are the lines of events by the document's words, their parts with one blank between, right ones alone.
var wordForms = map[int]*regexp.Regexp{
	impl.EvBegin: regexp.MustCompile(`^begin$`),
	impl.EvPut:   regexp.MustCompile(`^put (?P<key>[^ ]{1,30}) (?P<val>[^ ]{1,30})$`),
	impl.EvDrop:  regexp.MustCompile(`^drop (?P<key>[^ ]{1,30})$`),
	impl.EvEnd:   regexp.MustCompile(`^end$`),
	impl.EvStop:  regexp.MustCompile(`^stop$`),
	impl.EvRead:  regexp.MustCompile(`^read (?P<id>[1-9])$`),
	impl.EvGet:   regexp.MustCompile(`^get (?P<id>[1-9]) (?P<key>[^ ]{1,30})$`),
	impl.EvClose: regexp.MustCompile(`^close (?P<id>[1-9])$`),
	impl.EvPack:  regexp.MustCompile(`^pack$`),
	impl.EvFall:  regexp.MustCompile(`^fall (?P<stage>[01]) (?P<bits>-|[01]{1,60})$`),
}

var (
	pagesForm = regexp.MustCompile(`^pages ([4-9]|[1-3][0-9]|40)$`)
	partForm  = regexp.MustCompile(`[^ ]+`)
	oddBytes  = regexp.MustCompile(`[^ -~]`)
)

func plainEvent(line string) (impl.Event, bool) {
	for kind, form := range wordForms {
		found := form.FindStringSubmatch(line)
		if found == nil {
			continue
		}
		e := happen(kind)
		for at, name := range form.SubexpNames() {
			switch name {
			case "key":
				e.Key = found[at]
			case "val":
				e.Val = found[at]
			case "id":
				e.Id = int(found[at][0] - '0')
			case "stage":
				e.Stage = int(found[at][0] - '0')
			case "bits":
				for _, bit := range strings.Trim(found[at], "-") {
					e.Left = append(e.Left, bit == '1')
				}
			}
		}
		return e, true
	}
	return impl.Event{}, false
}

// plainScript is what a script tells by the document's words.
func plainScript(text string) (int, []impl.Event, int) {
	lines := strings.Split(text, "\n")
	if lines[len(lines)-1] == "" {
		lines = lines[:len(lines)-1]
	}
	if len(text) > 3000 || len(lines) > 90 {
		return 0, nil, -1
	}
	pages, events := 0, []impl.Event{}
	for at, line := range lines {
		parts := partForm.FindAllString(line, -1)
		if len(line) > 600 || len(parts) > 10 || oddBytes.MatchString(line) {
			return 0, nil, at + 1
		}
		if len(parts) == 0 || parts[0][0] == '#' {
			continue
		}
		line = strings.Join(parts, " ")
		if pages == 0 {
			found := pagesForm.FindStringSubmatch(line)
			if found == nil {
				return 0, nil, at + 1
			}
			pages, _ = strconv.Atoi(found[1])
			continue
		}
		e, ok := plainEvent(line)
		if !ok || len(events) == 70 {
			return 0, nil, at + 1
		}
		events = append(events, e)
	}
	if pages == 0 {
		return 0, nil, 1
	}
	return pages, events, 0
}

func plainShow(list []impl.Pair) string {
	out := ""
	for _, p := range list {
		out += p.Key + " " + p.Val + "\n"
	}
	return out
}

// plainConsole is what the console tells by the document's words: of a script, and of the world behind its life.
func plainConsole(fault int, w impl.World) string {
	if fault != 0 {
		return "fault " + strconv.Itoa(fault) + "\n"
	}
	out := ""
	for at, code := range w.Codes {
		out += strings.TrimSuffix(strconv.Itoa(code)+" "+w.Told[at], " ") + "\n"
	}
	pairs, _ := impl.AllPairs(w.Store.Disk, w.Store.Meta.Root)
	return out + plainShow(pairs)
}

// short is a text of which no more is shown than can be looked at.
func short(text string) string {
	if len(text) > 300 {
		return strconv.Quote(text[:300]) + ".."
	}
	return strconv.Quote(text)
}

// readsScript holds what ReadScript answers, by hand and by the document's words, and that the console tells of a life of it.
func readsScript(t *testing.T, name, text string, pages int, events ...impl.Event) {
	t.Helper()
	for by, read := range map[string]func(string) (int, []impl.Event, int){"": impl.ReadScript, " by the document's words": plainScript} {
		n, list, fault := read(text)
		if n != pages || fault != 0 || !slices.EqualFunc(list, events, sameEvent) {
			t.Fatalf("%s: %s is read%s as %d, %+v, %d, not %d, %+v", name, short(text), by, n, list, fault, pages, events)
		}
	}
	w, ok := impl.RunLife(pages, events)
	if !ok {
		t.Fatalf("%s: a script is read that tells no life", name)
	}
	tellsScript(t, name, text, plainConsole(0, w))
}

// faultIs holds the line of the first fault, by hand and by the document's words, and that nothing else is told.
func faultIs(t *testing.T, name, text string, line int) {
	t.Helper()
	for by, read := range map[string]func(string) (int, []impl.Event, int){"": impl.ReadScript, " by the document's words": plainScript} {
		if n, list, fault := read(text); n != 0 || len(list) != 0 || fault != line {
			t.Fatalf("%s: %s is read%s as %d, %+v, %d, and its fault is %d", name, short(text), by, n, list, fault, line)
		}
	}
	tellsScript(t, name, text, "fault "+strconv.Itoa(line)+"\n")
}

func tellsScript(t *testing.T, name, text, want string) {
	t.Helper()
	if got := impl.Console(text); got != want {
		t.Fatalf("%s: %s tells %s, not %s", name, short(text), short(got), short(want))
	}
}

// lineWords is the line that tells an event.
func lineWords(e impl.Event) string {
	id, left := strconv.Itoa(e.Id), ""
	for _, is := range e.Left {
		if is {
			left += "1"
		} else {
			left += "0"
		}
	}
	if left == "" {
		left = "-"
	}
	return map[int]string{
		impl.EvBegin: "begin", impl.EvPut: "put " + e.Key + " " + e.Val, impl.EvDrop: "drop " + e.Key, impl.EvEnd: "end", impl.EvStop: "stop",
		impl.EvRead: "read " + id, impl.EvGet: "get " + id + " " + e.Key, impl.EvClose: "close " + id, impl.EvPack: "pack",
		impl.EvFall: "fall " + strconv.Itoa(e.Stage) + " " + left,
	}[e.Kind]
}

// linesOf are the lines of a script that tells these events.
func linesOf(pages int, events []impl.Event) []string {
	lines := []string{"pages " + strconv.Itoa(pages)}
	for _, e := range events {
		lines = append(lines, lineWords(e))
	}
	return lines
}

func scriptOf(lines ...string) string {
	return strings.Join(lines, "\n") + "\n"
}

// onlyTold is the event of which just that is set which its line tells.
func onlyTold(e impl.Event) impl.Event {
	return map[int]impl.Event{
		impl.EvBegin: happenBegin(), impl.EvPut: happenPut(e.Key, e.Val), impl.EvDrop: happenDrop(e.Key), impl.EvEnd: happenEnd(), impl.EvStop: happenStop(),
		impl.EvRead: happenRead(e.Id), impl.EvGet: happenGet(e.Id, e.Key), impl.EvClose: happenClose(e.Id), impl.EvPack: happenPack(),
		impl.EvFall: happenFall(e.Stage, -1, e.Left...),
	}[e.Kind]
}

// drawScript are the pages and events of a drawn life that a script can tell.
func drawScript(seed int) (int, []impl.Event) {
	pages, events := drawLife(seed)
	for at, e := range events {
		events[at] = onlyTold(e)
	}
	return pages, events
}

// passedOver are lines that tell nothing.
func passedOver() []string {
	return []string{"", " ", strings.Repeat(" ", 600), "#", "##", "# a remark", "  #put a 1", "#pages 9", "# begin", "#" + strings.Repeat("x", 599), "# 2 3 4 5 6 7 8 9 10", "#!~\"'"}
}

// everyWord is a script with each word, and what the console tells of it, line by line.
func everyWord() (lines []string, events []impl.Event, told []string, pairs string) {
	lines = []string{"pages 16"}
	add := func(line string, e impl.Event, tells string) {
		lines, events, told = append(lines, line), append(events, e), append(told, tells)
	}
	add("end", happenEnd(), "2")
	add("begin", happenBegin(), "0")
	add("put b 2", happenPut("b", "2"), "0")
	add("put a 1", happenPut("a", "1"), "0")
	add("begin", happenBegin(), "1")
	add("read 3", happenRead(3), "0")
	add("end", happenEnd(), "0")
	add("get 3 a", happenGet(3, "a"), "2")
	add("read 5", happenRead(5), "0")
	add("get 5 a", happenGet(5, "a"), "0 1")
	add("begin", happenBegin(), "0")
	add("drop a", happenDrop("a"), "0")
	add("drop a", happenDrop("a"), "2")
	add("put c #3", happenPut("c", "#3"), "0")
	add("put "+long(25)+" v", happenPut(long(25), "v"), "4")
	add("pack", happenPack(), "0")
	add("end", happenEnd(), "0")
	add("get 5 a", happenGet(5, "a"), "0 1")
	add("get 5 c", happenGet(5, "c"), "2")
	add("close 5", happenClose(5), "0")
	add("close 5", happenClose(5), "2")
	add("read 9", happenRead(9), "0")
	add("get 9 c", happenGet(9, "c"), "0 #3")
	add("read 9", happenRead(9), "1")
	add("read 1", happenRead(1), "0")
	add("read 2", happenRead(2), "3")
	add("begin", happenBegin(), "0")
	add("put x 9", happenPut("x", "9"), "0")
	add("stop", happenStop(), "0")
	add("stop", happenStop(), "2")
	add("begin", happenBegin(), "0")
	add("put d 4", happenPut("d", "4"), "0")
	add("fall 1 10", happenFall(1, -1, true, false), "0")
	add("get 9 c", happenGet(9, "c"), "2")
	add("begin", happenBegin(), "0")
	add("put e 5", happenPut("e", "5"), "0")
	add("fall 1 01", happenFall(1, -1, false, true), "0")
	add("begin", happenBegin(), "0")
	add("put f 6", happenPut("f", "6"), "0")
	add("fall 0 -", happenFall(0, -1), "0")
	add("pack", happenPack(), "2")
	return lines, events, told, "b 2\nc #3\nd 4\n"
}

func TestConsoleConstants(t *testing.T) {
	if impl.MaxScript != 3000 || impl.MaxLines != 90 {
		t.Error(impl.MaxScript, impl.MaxLines)
	}
}

// The promise: a script tells what its events do.
func TestEveryWord(t *testing.T) {
	lines, events, told, pairs := everyWord()
	readsScript(t, "every word", scriptOf(lines...), 16, events...)
	tellsScript(t, "every word", scriptOf(lines...), scriptOf(told...)+pairs)
	for n := range len(lines) - 1 {
		part := scriptOf(lines[:n+1]...)
		readsScript(t, "the first lines", part, 16, events[:n]...)
		if got := impl.Console(part); !strings.HasPrefix(got, strings.Join(append(slices.Clone(told[:n]), ""), "\n")) {
			t.Errorf("%d lines tell %q", n, got)
		}
	}
}

func TestEachWordAlone(t *testing.T) {
	for line, e := range map[string]impl.Event{
		"begin":            happenBegin(),
		"put KEY VAL":      happenPut("KEY", "VAL"),
		"put begin 12":     happenPut("begin", "12"),
		"put # #":          happenPut("#", "#"),
		"put ! ~":          happenPut("!", "~"),
		"put 007 -":        happenPut("007", "-"),
		"drop KEY":         happenDrop("KEY"),
		"drop #":           happenDrop("#"),
		"drop drop":        happenDrop("drop"),
		"end":              happenEnd(),
		"stop":             happenStop(),
		"read 7":           happenRead(7),
		"get 7 KEY":        happenGet(7, "KEY"),
		"get 2 2":          happenGet(2, "2"),
		"get 9 -1":         happenGet(9, "-1"),
		"close 7":          happenClose(7),
		"pack":             happenPack(),
		"fall 0 -":         happenFall(0, -1),
		"fall 1 -":         happenFall(1, -1),
		"fall 0 0":         happenFall(0, -1, false),
		"fall 1 1":         happenFall(1, -1, true),
		"fall 1 01101":     happenFall(1, -1, false, true, true, false, true),
		"fall 0 000":       happenFall(0, -1, false, false, false),
		" fall   1   1 ":   happenFall(1, -1, true),
		"   begin":         happenBegin(),
		"end    ":          happenEnd(),
		"  put   a   1   ": happenPut("a", "1"),
		" get  3    k":     happenGet(3, "k"),
	} {
		readsScript(t, line, scriptOf("pages 9", line), 9, e)
	}
}

func TestConsoleWithoutEvents(t *testing.T) {
	for _, text := range []string{"pages 9", "pages 9\n", "  pages   9  \n", "\n\n#\npages 9\n\n"} {
		readsScript(t, "no events", text, 9)
		tellsScript(t, "no events", text, "")
	}
}

// Bits tell each Left, in order.
func TestBits(t *testing.T) {
	for n := range 7 {
		for mask := range 1 << n {
			e := happenFall(mask%2, -1, bits(mask, n)...)
			readsScript(t, "bits", scriptOf("pages 9", lineWords(e)), 9, e)
		}
	}
	for _, n := range []int{7, 30, 59, 60} {
		readsScript(t, "ones", scriptOf("pages 9", "fall 0 "+strings.Repeat("1", n)), 9, happenFall(0, -1, all(n)...))
		readsScript(t, "noughts", scriptOf("pages 9", "fall 0 "+strings.Repeat("0", n)), 9, happenFall(0, -1, make([]bool, n)...))
	}
	for _, n := range []int{61, 62, 120, 590} {
		faultIs(t, "too many ones", scriptOf("pages 9", "fall 0 "+strings.Repeat("1", n)), 2)
		faultIs(t, "too many noughts", scriptOf("pages 9", "fall 0 "+strings.Repeat("0", n)), 2)
	}
	for _, part := range []string{"--", "-1", "1-", "-0", "0-0", "2", "102", "210", "x", "1x0", "1,0", "O", "l", "1.", "+1", "true", "#", "/", ":", "a", "~", "!", "11a11"} {
		faultIs(t, "no bits", scriptOf("pages 9", "fall 0 "+part), 2)
	}
	for _, line := range []string{"fall 0 1 0", "fall 0 - -", "fall 0 - 1", "fall 0 1 -", "fall 0", "fall -", "fall", "fall 11 0", "fall 0 1 0 1"} {
		faultIs(t, "bits in parts", scriptOf("pages 9", line), 2)
	}
}

// Each byte in the place of a bit.
func TestBytesOfBits(t *testing.T) {
	for c := range 256 {
		b := string([]byte{byte(c)})
		for _, line := range []string{"fall 1 " + b, "fall 1 1" + b + "0", "fall 1 " + b + "1"} {
			checkScript(t, scriptOf("pages 9", line))
		}
	}
}

func TestPagesLine(t *testing.T) {
	for n := range 60 {
		text := scriptOf("pages "+strconv.Itoa(n), "begin", "put a 1", "end")
		if n < 4 || n > 40 {
			faultIs(t, "pages", text, 1)
			continue
		}
		readsScript(t, "pages", text, n, commitOf("a1")...)
		tellsScript(t, "pages", text, "0\n0\n0\na 1\n")
	}
	for _, line := range []string{"pages", "pages 9 9", "pages 9 begin", "pages 9 #", "page 9", "Pages 9", "PAGES 9", "pages9", "9", "9 pages", "pages nine", "pages -9", "pages +9", "pages 09", "pages 9.0", "pages 0x9", "pages 9,", "pages ''", "pages #9",
		"pages 1000000000", "pages 1000000001", "pages 9223372036854775807", "pages 9223372036854775808", "pages 18446744073709551625", "pages 4294967305", "pages 99999999999999999999999", "pages -1", "pages 0", "pages \t9", "pages\t9", "begin", "put a 1", "fall 0 -", "read 1", "x"} {
		faultIs(t, line, scriptOf(line), 1)
		faultIs(t, line, scriptOf(line, "pages 9", "begin"), 1)
		faultIs(t, line, scriptOf("", "#", line, "pages 9"), 3)
		faultIs(t, line, scriptOf("pages 9", "begin", line+" and more"), 3)
	}
}

// Behind the first one a line of pages is no event.
func TestPagesTwice(t *testing.T) {
	for _, more := range []string{"pages 9", "pages 4", "pages 40", "pages 0", "pages", " pages  9 "} {
		faultIs(t, "pages twice", scriptOf("pages 9", more), 2)
		faultIs(t, "pages twice", scriptOf("#", "pages 9", "", more, "begin"), 4)
		faultIs(t, "pages at the end", scriptOf("pages 9", "begin", "put a 1", "end", more), 5)
		readsScript(t, "pages in a remark", scriptOf("# "+more, "pages 9", "#"+more), 9)
	}
}

// 1, when there is no line at all that is not passed over.
func TestScriptsOfNothing(t *testing.T) {
	for _, text := range []string{"", "\n", "\n\n\n", " ", " \n", "#", "#\n", "# pages 9", "# pages 9\n", "\n\n  #pages 9\n \n", "#begin\n#end\n", strings.Repeat("\n", 90), strings.Repeat("#\n", 90), strings.Repeat(" ", 600), strings.Repeat(" \n", 89) + "#"} {
		faultIs(t, "nothing", text, 1)
	}
	faultIs(t, "a fault behind remarks", "#\n\n#\nbegin\n", 4)
	faultIs(t, "a fault among remarks", "#\n\n\x01\n#\n", 3)
}

// passes holds that these lines tell just what they tell with each line that is passed over at each place.
func passes(t *testing.T, name string, lines []string) {
	t.Helper()
	pages, events, fault := impl.ReadScript(scriptOf(lines...))
	told := impl.Console(scriptOf(lines...))
	if fault != 0 {
		t.Fatalf("%s: a script has the fault %d", name, fault)
	}
	check := func(lines []string) {
		t.Helper()
		for _, text := range []string{scriptOf(lines...), strings.Join(lines, "\n")} {
			n, list, fault := impl.ReadScript(text)
			if n != pages || fault != 0 || !slices.EqualFunc(list, events, sameEvent) {
				t.Fatalf("%s: %s is read as %d, %+v, %d", name, short(text), n, list, fault)
			}
			tellsScript(t, name, text, told)
		}
	}
	check(lines)
	for at := range len(lines) + 1 {
		for _, more := range passedOver() {
			check(slices.Insert(slices.Clone(lines), at, more))
		}
	}
	behindEach := []string{"# ahead"}
	for at, line := range lines {
		behindEach = append(behindEach, line, []string{"", "#", "   ", " # x"}[at%4])
	}
	check(behindEach)
	check(slices.Concat(passedOver()[3:6], lines, passedOver()[:2]))
}

// The promise: lines that are passed over change nothing.
func TestPassedOver(t *testing.T) {
	lines, _, _, _ := everyWord()
	passes(t, "every word", lines[:len(lines)-1])
	passes(t, "no events", []string{"pages 40"})
	passes(t, "one commit", linesOf(9, commitOf("a1", "b2", "c3")))
	for seed := range 6 {
		pages, events := drawScript(seed)
		passes(t, "seed "+strconv.Itoa(seed), linesOf(pages, events[:30+seed]))
	}
}

// A remark is one by its first part alone.
func TestRemarks(t *testing.T) {
	for _, line := range []string{"#", " #", "#x", "#pages 9", "###", "  #  a  b", "# 2 3 4 5 6 7 8 9 10", "#" + strings.Repeat("y", 599), strings.Repeat(" ", 599) + "#"} {
		readsScript(t, "a remark", scriptOf(line, "pages 9", line, "begin", line), 9, happenBegin())
	}
	for line, at := range map[string]int{"x #": 2, "begin #": 2, "begin # x": 2, "pack #x": 2, "read 1 #": 2, "put a 1 # x": 2, "//": 2, ";": 2, "-- x": 2, "\"#\"": 2, "!#": 2} {
		faultIs(t, line, scriptOf("pages 9", line), at)
	}
	for _, line := range []string{"# 2 3 4 5 6 7 8 9 10 11", "#" + strings.Repeat("y", 600), strings.Repeat(" ", 600) + "#", strings.Repeat(" ", 601), "#\x7f", "#\x1f", "#\t", "\t#", "# caf\u00e9", "#\xff", "#\r", "\r", " \x00"} {
		faultIs(t, "no remark", scriptOf(line, "pages 9"), 1)
		faultIs(t, "no remark", scriptOf("#", line, "pages 9", "begin"), 2)
		faultIs(t, "no remark", scriptOf("pages 9", "begin", line, "end"), 3)
		faultIs(t, "no remark", scriptOf("pages 9", "begin", "end")+line, 4)
		faultIs(t, "no remark", scriptOf("#", "", line), 3)
	}
}

// The last line may go without its end.
func TestLastLine(t *testing.T) {
	lines, events, _, _ := everyWord()
	for n := 1; n <= len(lines); n++ {
		text := scriptOf(lines[:n]...)
		readsScript(t, "with its end", text, 16, events[:n-1]...)
		readsScript(t, "without its end", strings.TrimSuffix(text, "\n"), 16, events[:n-1]...)
		readsScript(t, "with one more end", text+"\n", 16, events[:n-1]...)
		faultIs(t, "with a fault", text+"x", n+1)
		faultIs(t, "with a fault", text+"x\n", n+1)
		faultIs(t, "with a fault behind one more end", text+"\nx", n+2)
	}
	faultIs(t, "another end of a line", "pages 9\r\nbegin\r\n", 1)
	faultIs(t, "another end of a line", "pages 9\rbegin", 1)
	faultIs(t, "another end of a line", "pages 9\nbegin\r\n", 2)
	faultIs(t, "another end of a line", "pages 9\nbegin\r", 2)
	faultIs(t, "two bytes that are no end", "pages 9\\nbegin", 1)
	faultIs(t, "an end of another kind", "pages 9\u2028begin", 1)
	faultIs(t, "an end of another kind", "pages 9\u0085begin", 1)
	faultIs(t, "an end of another kind", "pages 9\x0bbegin\x0c", 1)
}

// filled is a script of so many bytes: the lines, and remarks behind them.
func filled(size int, lines ...string) string {
	text := scriptOf(lines...)
	for len(text) < size {
		text += "#" + strings.Repeat("-", min(598, max(0, size-len(text)-2))) + "\n"
	}
	return text[:size]
}

func TestLongestScripts(t *testing.T) {
	for size := 2990; size <= 3000; size++ {
		readsScript(t, "long", filled(size, linesOf(9, commitOf("a1"))...), 9, commitOf("a1")...)
		faultIs(t, "long, with a fault", filled(size, "pages 9", "x"), 2)
	}
	for _, size := range []int{3001, 3002, 3100, 6000, 100000} {
		faultIs(t, "too long", filled(size, linesOf(9, commitOf("a1"))...), -1)
		faultIs(t, "too long, with a fault", filled(size, "x"), -1)
		faultIs(t, "too long, of one line", strings.Repeat("x", size), -1)
		faultIs(t, "too long, of blanks", strings.Repeat(" ", size), -1)
		faultIs(t, "too long, of ends", strings.Repeat("\n", size), -1)
		faultIs(t, "too long, of no UTF-8", strings.Repeat("\xff", size), -1)
	}
	faultIs(t, "just one line", strings.Repeat("x", 3000), 1)
	faultIs(t, "just as long, but no UTF-8", strings.Repeat("\xff", 3000), 1)
	faultIs(t, "just as long by bytes, not by runes", strings.Repeat("\u00e9", 1500), 1)
	faultIs(t, "too long by bytes, not by runes", strings.Repeat("\u00e9", 1501), -1)
	full := slices.Repeat([]string{"put " + long(24) + " " + strings.Repeat("v", 20)}, 60)
	exact := filled(3000, slices.Concat([]string{"pages 40", "begin"}, full[:58], []string{"end"})...)
	if n, list, fault := impl.ReadScript(exact); n != 40 || len(list) != 60 || fault != 0 {
		t.Errorf("a long script of events: %d, %d events, %d", n, len(list), fault)
	}
	faultIs(t, "one byte more", exact+"\n", -1)
}

func TestMostLines(t *testing.T) {
	events := commitOf("a1")
	for n := 5; n <= 90; n++ {
		lines := slices.Concat(linesOf(9, events), slices.Repeat([]string{"#"}, n-4))[:n]
		readsScript(t, "lines", scriptOf(lines...), 9, events...)
		readsScript(t, "lines", strings.Join(lines, "\n"), 9, events...)
		readsScript(t, "lines of nothing", strings.Join(lines[:4], "\n")+strings.Repeat("\n", n-3), 9, events...)
	}
	lines := append(slices.Repeat([]string{""}, 86), linesOf(9, events)...)
	readsScript(t, "lines ahead", scriptOf(lines...), 9, events...)
	readsScript(t, "lines ahead", strings.Join(lines, "\n"), 9, events...)
	for _, more := range []string{"#", "\n", " ", "x", "#\n", " \n", "end\n", "pages 9", "\x00", "\xff\n"} {
		faultIs(t, "a line too many", scriptOf(lines...)+more, -1)
		faultIs(t, "a line too many", more+"\n"+scriptOf(lines...), -1)
		faultIs(t, "a line too many behind a fault", scriptOf(append([]string{"x"}, lines[1:]...)...)+more, -1)
	}
	for _, n := range []int{91, 92, 200, 2999, 3000} {
		faultIs(t, "far too many lines", strings.Repeat("\n", n), -1)
	}
	faultIs(t, "the last line", scriptOf(lines[1:]...)+"x", 90)
	faultIs(t, "the last line", scriptOf(lines[1:]...)+"x\n", 90)
}

func TestMostEvents(t *testing.T) {
	for n := range 76 {
		events := slices.Repeat([]impl.Event{happenRead(1)}, n)
		for _, behind := range []string{"", "#\n", "\n \n#\n"} {
			text := scriptOf(linesOf(9, events)...) + behind
			if n <= 70 {
				readsScript(t, "events", text, 9, events...)
			} else {
				faultIs(t, "events", text, 72)
			}
		}
	}
	events := slices.Repeat(commitOf("a1", "b2", "c3", "d4", "e5"), 10)
	readsScript(t, "just as many", scriptOf(linesOf(20, events)...), 20, events...)
	for _, more := range []string{"begin", "put a 1", "read 1", "fall 0 -", "pages 9", "x", "read 0", "\x00"} {
		faultIs(t, "one more", scriptOf(linesOf(20, events)...)+more, 72)
		faultIs(t, "one more behind remarks", "#\n"+scriptOf(linesOf(20, events)...)+"\n#\n"+more+"\n", 75)
	}
	faultIs(t, "a fault ahead of one more", scriptOf(linesOf(20, append([]impl.Event{happenRead(0)}, events...))...), 2)
}

func TestNumbersInScripts(t *testing.T) {
	for id := -1; id < 12; id++ {
		for _, e := range []impl.Event{happenRead(id), happenGet(id, "k"), happenClose(id)} {
			if text := scriptOf("pages 9", lineWords(e)); id >= 1 && id <= 9 {
				readsScript(t, "an Id", text, 9, e)
			} else {
				faultIs(t, "an Id", text, 2)
			}
		}
	}
	for stage := -1; stage < 4; stage++ {
		e := happenFall(stage, -1, true)
		if text := scriptOf("pages 9", lineWords(e)); stage == 0 || stage == 1 {
			readsScript(t, "a Stage", text, 9, e)
		} else {
			faultIs(t, "a Stage", text, 2)
		}
	}
	for _, number := range []string{"01", "001", "00", "+1", "-1", "-0", "1.", "1.0", "1e0", "0x1", "0b1", "0o1", "1_", "1_0", "one", "x", "'1'", "\"1\"", "1,", "#1", "-", "1000000000", "1000000001", "4294967297", "9223372036854775807", "9223372036854775808", "18446744073709551617", "-9223372036854775808", strings.Repeat("1", 40), strings.Repeat("0", 300) + "1", "1\x00", "\u0661", "\uff11"} {
		for _, line := range []string{"read " + number, "get " + number + " k", "close " + number, "fall " + number + " -", "fall " + number + " 1"} {
			faultIs(t, line, scriptOf("pages 9", line), 2)
		}
	}
}

func TestTextsInScripts(t *testing.T) {
	for n := 1; n <= 35; n++ {
		for line, e := range map[string]impl.Event{
			"put " + long(n) + " v": happenPut(long(n), "v"), "put k " + long(n): happenPut("k", long(n)), "put " + long(n) + " " + long(n): happenPut(long(n), long(n)),
			"drop " + long(n): happenDrop(long(n)), "get 1 " + long(n): happenGet(1, long(n)),
		} {
			if text := scriptOf("pages 9", "begin", line); n <= 30 {
				readsScript(t, "a text", text, 9, happenBegin(), e)
			} else {
				faultIs(t, "a text", text, 3)
			}
		}
	}
	faultIs(t, "a very long text", scriptOf("pages 9", "put k "+long(594)), 2)
	faultIs(t, "a very long text", scriptOf("pages 9", "drop "+long(595)), 2)
	for c := 33; c <= 126; c++ {
		key := string([]byte{byte(c)})
		readsScript(t, "each byte", scriptOf("pages 9", "begin", "put "+key+" "+key+key, "end", "read 2", "get 2 "+key, "begin", "drop "+key), 9,
			happenBegin(), happenPut(key, key+key), happenEnd(), happenRead(2), happenGet(2, key), happenBegin(), happenDrop(key))
		tellsScript(t, "each byte", scriptOf("pages 9", "begin", "put "+key+" "+key+key, "end", "read 2", "get 2 "+key), "0\n0\n0\n0\n0 "+key+key+"\n"+key+" "+key+key+"\n")
	}
}

// Each word has just so many parts behind it.
func TestPartsOfWords(t *testing.T) {
	for word, parts := range map[string][]string{"pages": {"9"}, "begin": {}, "put": {"1", "1"}, "drop": {"1"}, "end": {}, "stop": {}, "read": {"1"}, "get": {"1", "1"}, "close": {"1"}, "pack": {}, "fall": {"1", "1"}} {
		for n := range 12 {
			line := strings.Join(append([]string{word}, slices.Repeat([]string{"1"}, n)...), " ")
			text, at := scriptOf("pages 9", line, "begin"), 2
			if word == "pages" {
				text, at = scriptOf(strings.ReplaceAll(line, "1", "9"), "begin"), 1
			}
			if n != len(parts) {
				faultIs(t, line, text, at)
				continue
			}
			if _, _, fault := impl.ReadScript(text); fault != 0 {
				t.Errorf("%q has the fault %d", line, fault)
			}
		}
	}
}

func TestWordsThatAreNone(t *testing.T) {
	words := []string{"x", "open", "write", "sync", "gets", "putt", "fal", "falls", "beg", "begin:", "quit", "exit", "model", "-", "0", "1", "7", "pages", "page", "commit", "take", "add", "torn", "!", "~", "1#", "beginend", "e", "en", "", "endd", "EvPut"}
	for _, word := range []string{"begin", "put", "drop", "end", "stop", "read", "get", "close", "pack", "fall"} {
		words = append(words, strings.ToUpper(word), strings.ToUpper(word[:1])+word[1:], word+"s", word[1:], word[:len(word)-1], "."+word, word+"\x00", word+";")
	}
	for _, word := range words {
		for _, rest := range []string{"", " 1", " 1 1", " 1 -", " a", " a 1"} {
			if word != "" {
				faultIs(t, word, scriptOf("pages 9", "begin", word+rest, "end"), 3)
			}
		}
	}
}

// A line may be of MaxWords bytes, and have MaxParts parts.
func TestLongLines(t *testing.T) {
	for _, line := range []string{"begin", "put k v", "read 1", "fall 1 101", "pack"} {
		e, _ := plainEvent(line)
		ahead, behind := strings.Repeat(" ", 600-len(line))+line, line+strings.Repeat(" ", 600-len(line))
		readsScript(t, "blanks", scriptOf("pages 9", ahead, behind), 9, e, e)
		faultIs(t, "a blank too many ahead", scriptOf("pages 9", ahead, " "+ahead), 3)
		faultIs(t, "a blank too many behind", scriptOf("pages 9", behind, behind+" "), 3)
	}
	pages := strings.Repeat(" ", 593) + "pages 9"
	readsScript(t, "long pages", scriptOf(pages, "begin"), 9, happenBegin())
	faultIs(t, "longer pages", scriptOf(" "+pages, "begin"), 1)
	for _, ahead := range []string{"#", "begin"} {
		for n := range 14 {
			checkScript(t, scriptOf("pages 9", ahead+strings.Repeat(" x", n), "end"))
		}
	}
}

// The first fault counts, and each line is counted.
func TestFirstFault(t *testing.T) {
	lines, _, _, _ := everyWord()
	for _, wrong := range []string{"x", "begin 1", "read 0", "put a", "\x00", "\xff", "a b c d e f g h i j k", "pages 9", "fall 2 -", "put " + long(31) + " v", strings.Repeat("-", 601)} {
		for at := 1; at <= len(lines); at++ {
			one := slices.Insert(slices.Clone(lines), at, wrong)
			faultIs(t, wrong, scriptOf(one...), at+1)
			faultIs(t, wrong, scriptOf(append(one, "y", "\x01")...), at+1)
			faultIs(t, wrong, scriptOf(slices.Concat([]string{"", "# r"}, one, []string{wrong})...), at+3)
			faultIs(t, wrong, scriptOf(slices.Insert(one, 1, "# r", " ")...), at+3)
		}
	}
	for _, wrong := range []string{"x", "begin", "\x00", "a b c d e f g h i j k", "pages", "pages 3", "pages 41"} {
		for n := range 20 {
			faultIs(t, wrong, strings.Repeat("#\n", n)+wrong+"\n"+scriptOf(lines...), n+1)
		}
	}
}

// checkScript holds what a script tells by the document's words; it answers whether it tells a life.
func checkScript(t *testing.T, text string) bool {
	t.Helper()
	pages, events, fault := plainScript(text)
	if fault != 0 {
		faultIs(t, "a script", text, fault)
		return false
	}
	readsScript(t, "a script", text, pages, events...)
	return true
}

// A script with any one byte turned into any other, put ahead, or taken away.
func TestEachByteOfAScript(t *testing.T) {
	for _, text := range []string{"pages 9\n#r\nbegin\nput a 1\n\nget 1 a\nfall 1 1", "# x\n pages 12\nread 2\n"} {
		met := map[bool]int{}
		for at := range len(text) + 1 {
			for c := range 256 {
				b := string([]byte{byte(c)})
				met[checkScript(t, text[:at]+b+text[at:])]++
				if at < len(text) {
					met[checkScript(t, text[:at]+b+text[at+1:])]++
				}
			}
			if at < len(text) {
				met[checkScript(t, text[:at]+text[at+1:])]++
			}
		}
		if met[true] < 100 || met[false] < 100 {
			t.Errorf("%d tell a life, %d do not", met[true], met[false])
		}
	}
}

// Bytes that are no UTF-8 stand for themselves, and take no end of a line with them.
func TestScriptsOfNoUTF8(t *testing.T) {
	for _, odd := range []string{"\xc3", "\xe2\x82", "\xf0\x9f\x98", "\xff", "\xfe\xff", "\x80", "\xc0\x8a", "\xe0\x80\x8a", "\xed\xa0\x80", "\xef\xbf\xbd", "\xef\xbb\xbf", "\u00e9", "\u4e16", "\U0001f600", "\xf8\x88\x80\x80\x8a", "\x00"} {
		faultIs(t, "ahead", odd+scriptOf("pages 9", "begin"), 1)
		faultIs(t, "in a line of its own", odd+"\n"+scriptOf("pages 9", "begin"), 1)
		faultIs(t, "at the end of a line", "pages 9"+odd+"\nbegin\n", 1)
		faultIs(t, "in the second line", "pages 9\nbegin"+odd+"\nend\n", 2)
		faultIs(t, "in a remark", "pages 9\nbegin\n# "+odd+"\nx\n", 3)
		faultIs(t, "at the end", scriptOf("pages 9", "begin")+odd, 3)
		faultIs(t, "behind a fault", scriptOf("pages 9", "x")+odd, 2)
		faultIs(t, "in a text", scriptOf("pages 9", "begin", "put a"+odd+" 1"), 3)
		faultIs(t, "in a number", scriptOf("pages 9", "begin", "read 1"+odd), 3)
		faultIs(t, "in bits", scriptOf("pages 9", "begin", "fall 1 1"+odd), 3)
	}
	for n := range 90 {
		faultIs(t, "behind lines", strings.Repeat("\n", n)+"\xe2\x82\n", n+1)
	}
	faultIs(t, "behind too many lines", strings.Repeat("\n", 90)+"\xe2\x82\n", -1)
}

// drawLine is a line drawn of parts that may stand on one.
func drawLine(next func(n int) int) string {
	words := []string{"begin", "put", "drop", "end", "stop", "read", "get", "close", "pack", "fall", "pages", "#", "#x", "End", "puts", "", "\x7f"}
	parts := []string{"1", "2", "9", "0", "10", "01", "-", "a", "b", "key", "1", "11", "0101", "12", long(30), long(31), strings.Repeat("1", 60), strings.Repeat("0", 61), "1000000001", "\xff"}
	line := strings.Repeat(" ", next(3)/2) + words[next(len(words)-next(2)*6)]
	for range next(8) / 2 {
		line += strings.Repeat(" ", 1+next(3)/2) + parts[next(len(parts)-next(2)*10)]
	}
	return line + strings.Repeat(" ", next(3)/2)
}

// Scripts of drawn lines, and drawn lives in which some lines are drawn ones: each is read as the document tells.
func TestAnyScripts(t *testing.T) {
	met := map[bool]int{}
	for seed := range 6000 {
		next := drawn(seed)
		pages, events := drawScript(seed)
		lines := linesOf(pages, events[:next(40)])
		for range next(4) {
			lines = slices.Insert(lines, next(len(lines)+1), drawLine(next))
		}
		text := strings.Join(lines, "\n") + strings.Repeat("\n", next(3))
		if next(10) == 0 {
			text += strings.Repeat("#\n", next(60))
		}
		if next(20) == 0 {
			at := next(len(text) + 1)
			text = text[:at] + string([]byte{byte(next(256))}) + text[at:]
		}
		met[checkScript(t, text)]++
	}
	if met[true] < 1000 || met[false] < 1000 {
		t.Errorf("%d tell a life, %d do not", met[true], met[false])
	}
	for seed := range 2000 {
		next, lines := drawn(seed), []string{"pages 9"}
		for range 1 + next(3) {
			lines = append(lines, drawLine(next))
		}
		checkScript(t, scriptOf(lines...))
	}
}

// Any bytes at all, mostly ones that stand in scripts: something is told of all.
func TestScriptsOfAnyBytes(t *testing.T) {
	const usual = "\n\n # 019-abegindputropstackfl"
	for seed := range 3000 {
		next, text := drawn(seed), []byte{}
		if seed%3 > 0 {
			text = []byte("pages 9\n")
		}
		for range []int{next(12), next(60), next(3100)}[next(200)/99] {
			if next(40) == 0 {
				text = append(text, byte(next(256)))
			} else {
				text = append(text, usual[next(len(usual))])
			}
		}
		checkScript(t, string(text))
	}
}

// The promise, of drawn lives: codes, what is told and the pairs are those of an account kept by the document's words.
func TestConsoleOfDrawnLives(t *testing.T) {
	met := map[string]int{}
	for seed := range 300 {
		pages, events := drawScript(seed)
		name, lines := "seed "+strconv.Itoa(seed), linesOf(pages, events)
		a, want := newAccount(t, pages), ""
		for _, e := range events {
			met[kindName(e.Kind, a.take(t, e))]++
		}
		for at, code := range a.codes {
			want += strconv.Itoa(code)
			if a.told[at] != "" {
				want += " " + a.told[at]
				met["told"]++
			}
			want += "\n"
		}
		want += plainShow(inOrder(a.model))
		readsScript(t, name, scriptOf(lines...), pages, events...)
		tellsScript(t, name, scriptOf(lines...), want)
		next := drawn(seed)
		for range 90 - len(lines) {
			lines = slices.Insert(lines, next(len(lines)+1), []string{"", " ", "#", "# put a 1"}[next(4)])
		}
		tellsScript(t, name+" with remarks", strings.Join(lines, "\n"), want)
	}
	for _, want := range []string{"told", "begin 0", "begin 1", "put 0", "put 2", "put 3", "put 4", "drop 0", "drop 2", "end 0", "end 2", "end 3", "stop 0", "stop 2", "read 0", "read 1", "read 3", "get 0", "get 2", "close 0", "close 2", "pack 0", "pack 2", "pack 3", "fall 0"} {
		if met[want] < 5 {
			t.Errorf("%s: %d times alone", want, met[want])
		}
	}
}

func TestShowPairs(t *testing.T) {
	for want, list := range map[string][]impl.Pair{
		"":                    {},
		"k v\n":               {pair("k", "v")},
		" \n":                 {pair("", "")},
		"k \n":                {pair("k", "")},
		" v\n":                {pair("", "v")},
		"b 2\na 1\nb 2\n":     {pair("b", "2"), pair("a", "1"), pair("b", "2")},
		"a b c d\n":           {pair("a b", "c d")},
		"a\n \nb\n":           {pair("a\n", "\nb")},
		"\x00\xff \xc3\x80\n": {pair("\x00\xff", "\xc3\x80")},
		"# %s\n":              {pair("#", "%s")},
		long(5000) + " " + long(30000) + "\nz \n": {pair(long(5000), long(30000)), pair("z", "")},
	} {
		if got := impl.ShowPairs(list); got != want {
			t.Errorf("%q is shown as %s", list, short(got))
		}
	}
	for n := range 30 {
		if got := impl.ShowPairs(pairsOf(n)); got != plainShow(pairsOf(n)) {
			t.Errorf("%d pairs are shown as %q", n, got)
		}
	}
	many := slices.Repeat(pairsOf(10), 1000)
	if impl.ShowPairs(many) != strings.Repeat(plainShow(pairsOf(10)), 1000) {
		t.Error("many pairs")
	}
}

// What is told behind the codes are the pairs that count: not what is being written, nor what was given up.
func TestConsoleShowsWhatCounts(t *testing.T) {
	commit := []string{"pages 12", "begin", "put b 2", "put a 1", "end"}
	for _, c := range []struct {
		more []string
		want string
	}{
		{nil, "a 1\nb 2\n"},
		{[]string{"begin", "put c 3"}, "0\n0\na 1\nb 2\n"},
		{[]string{"begin", "drop a"}, "0\n0\na 1\nb 2\n"},
		{[]string{"begin", "drop a", "end"}, "0\n0\n0\nb 2\n"},
		{[]string{"begin", "drop a", "drop b", "end"}, "0\n0\n0\n0\n"},
		{[]string{"begin", "drop a", "stop"}, "0\n0\n0\na 1\nb 2\n"},
		{[]string{"begin", "put a 9", "pack", "end"}, "0\n0\n0\n0\na 9\nb 2\n"},
		{[]string{"begin", "put a 9", "fall 0 1111"}, "0\n0\n0\na 1\nb 2\n"},
		{[]string{"begin", "put a 9", "fall 1 0"}, "0\n0\n0\na 1\nb 2\n"},
		{[]string{"begin", "put a 9", "fall 1 -"}, "0\n0\n0\na 1\nb 2\n"},
		{[]string{"begin", "put a 9", "fall 1 1"}, "0\n0\n0\na 9\nb 2\n"},
		{[]string{"fall 1 1"}, "0\na 1\nb 2\n"},
		{[]string{"read 4", "begin", "drop a", "end", "get 4 a", "get 4 b"}, "0\n0\n0\n0\n0 1\n0 2\nb 2\n"},
	} {
		tellsScript(t, strings.Join(c.more, ", "), scriptOf(append(slices.Clone(commit), c.more...)...), "0\n0\n0\n0\n"+c.want)
	}
	full := []string{"pages 4", "begin", "put a 1", "end", "begin", "put b 2", "end", "begin", "put c 3", "put d 4", "put e 5", "end", "stop"}
	tellsScript(t, "a full store", scriptOf(full...), "0\n0\n0\n0\n0\n0\n0\n0\n3\n3\n3\n2\na 1\nb 2\n")
}

// oddScripts are scripts of many kinds, such as have a fault among them.
func oddScripts() []string {
	lines, _, _, _ := everyWord()
	list := []string{"", "\n", "#", "pages 9", "pages 9\n", "x", "pages 9\nx", "\xff\xfe\n", strings.Repeat("\n", 91), strings.Repeat("x", 3001), scriptOf(lines...), "pages 9\nfall 0 -\nfall 1 0110\nfall 0 " + strings.Repeat("10", 30)}
	for seed := range 12 {
		pages, events := drawScript(seed)
		list = append(list, scriptOf(linesOf(pages, events[:70-seed])...))
	}
	return list
}

func TestScriptsAreNewMemory(t *testing.T) {
	for _, text := range oddScripts() {
		held := strings.Clone(text)
		_, events, _ := impl.ReadScript(held)
		_, again, _ := impl.ReadScript(held)
		if !apart(append(eventStretches(events), eventStretches(again)...)) {
			t.Fatalf("%s: lists share memory", short(text))
		}
		for _, e := range events {
			if sharesMemory(e.Key, held) || sharesMemory(e.Val, held) {
				t.Fatalf("%s: a text of the argument is handed out", short(text))
			}
		}
		if told := impl.Console(held); sharesMemory(told, held) {
			t.Fatalf("%s: the console hands out its argument", short(text))
		}
		want := slices.Clone(events)
		for at, e := range want {
			want[at].Left = slices.Clone(e.Left)
		}
		scribbleEvents(again)
		if !slices.EqualFunc(events, want, sameEvent) || held != text {
			t.Fatalf("%s: what is changed elsewhere changes the answer", short(text))
		}
	}
}

func TestShowPairsLeavesItsArgument(t *testing.T) {
	for n := range 8 {
		list := roomyPairs()[:min(n, 7)]
		want := slices.Clone(list[:cap(list)])
		shown := impl.ShowPairs(list)
		if !slices.Equal(list[:cap(list)], want) {
			t.Errorf("%d pairs: the list is written into", n)
		}
		for _, text := range pairTexts(list) {
			if sharesMemory(text, shown) {
				t.Errorf("%d pairs: a text of the argument is handed out", n)
			}
		}
		kept := strings.Clone(shown)
		scribblePairs(list)
		if shown != kept {
			t.Errorf("%d pairs: what is changed elsewhere changes the answer", n)
		}
	}
	if impl.ShowPairs(nil) != "" || impl.ShowPairs([]impl.Pair{}) != "" {
		t.Error("an empty list is not nil")
	}
}

// No function keeps anything: the same is answered whatever was asked between, and by whomever at once.
func TestConsolesKeepNothing(t *testing.T) {
	list := oddScripts()
	first := []string{}
	for _, text := range list {
		first = append(first, impl.Console(text))
	}
	var all sync.WaitGroup
	for range 4 {
		all.Go(func() {
			for at, text := range list {
				pages, events, fault := plainScript(text)
				if n, got, bad := impl.ReadScript(text); n != pages || bad != fault || !slices.EqualFunc(got, events, sameEvent) {
					t.Errorf("%s is read otherwise the second time", short(text))
				}
				if impl.Console(text) != first[at] {
					t.Errorf("%s tells something else the second time", short(text))
				}
			}
		})
	}
	all.Wait()
}
