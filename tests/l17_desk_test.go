package tests

import (
	"fmt"
	"math/rand"
	"reflect"
	"runtime"
	"slices"
	"strconv"
	"strings"
	"testing"

	"loop.example/g00281/impl"
)

// A deskThen is what DeskLine answers, a sessionThen what Session does.
type deskThen struct {
	Flock impl.Flock
	Told  string
}

type sessionThen struct {
	Told  string
	Count int
}

func desked(f impl.Flock, line string) deskThen {
	g, told := impl.DeskLine(f, line)
	return deskThen{g, told}
}

func inSession(size int, text, lines string) sessionThen {
	told, count := impl.Session(size, text, lines)
	return sessionThen{told, count}
}

func sameDesk(a, b deskThen) bool { return a.Told == b.Told && sameFlock(a.Flock, b.Flock) }

// wantDesk asks for all that holds of each line, too.
func wantDesk(t *testing.T, f impl.Flock, line string, want impl.Flock, told string) {
	t.Helper()
	given := roomy(f)
	before := whole(given)
	one, two := desked(given, line), desked(given, line)
	if then := (deskThen{want, told}); !sameDesk(one, then) || !sameDesk(two, then) {
		t.Errorf("DeskLine(%v, %q) is\n%v and\n%v, not\n%v", f, line, one, two, then)
	}
	if impl.FlockOk(one.Flock) != impl.FlockOk(f) {
		t.Errorf("DeskLine(%v, %q) is %v: FlockOk turned", f, line, one)
	}
	wantNew(t, []deskThen{one, two}, given)
	wantUnwritten(t, given, before)
}

// wantAsItWas asks that a line turns nothing, field by field.
func wantAsItWas(t *testing.T, f impl.Flock, line string, told string) {
	t.Helper()
	wantDesk(t, f, line, f, told)
	if g, _ := impl.DeskLine(f, line); !reflect.DeepEqual(cloneOf(g), cloneOf(f)) {
		t.Errorf("%q turned\n%v to\n%v", line, f, g)
	}
}

// wantTold asks for no more than what is answered: it is much faster.
func wantTold(t *testing.T, f impl.Flock, line string, want deskThen) {
	t.Helper()
	if got := desked(f, line); !sameDesk(got, want) {
		t.Errorf("DeskLine(%v, %q) is\n%v, not\n%v", f, line, got, want)
	}
}

func wantSession(t *testing.T, size int, text, lines, told string, count int) {
	t.Helper()
	for range 2 {
		if got := inSession(size, text, lines); got != (sessionThen{told, count}) {
			t.Errorf("Session(%d, %q, %q) is %q, %d, not %q, %d", size, text, lines, got.Told, got.Count, told, count)
		}
	}
}

// A deskWord is the word of a line, how many numbers it has, and the deed that it is.
type deskWord struct {
	word  string
	count int
	kind  int
}

var deskWords = []deskWord{
	{"send", 3, impl.DoSend}, {"ack", 2, impl.DoAck}, {"give", 1, impl.DoGive}, {"lose", 1, impl.DoLose}, {"copy", 1, impl.DoCopy}, {"want", 3, impl.DoWant}, {"run", 1, impl.DoRun},
	{"calm", 0, 0}, {"rounds", 1, 0}, {"hart", 1, 0}, {"page", 1, 0}, {"sane", 0, 0},
}

// codeWords are what the codes of deeds tell.
var codeWords = [...]string{impl.WdDone: "ok", impl.WdBad: "bad", impl.WdNone: "none", impl.WdIdle: "idle", impl.WdFull: "full"}

// deskNumbers are all numbers that a line may have, in order.
var deskNumbers = func() []string {
	var list []string
	for n := range 100 {
		list = append(list, fmt.Sprint(n))
	}
	return list
}()

// deskByWords is DeskLine as the document's words go.
func deskByWords(f impl.Flock, line string) deskThen {
	if !impl.FlockOk(f) {
		return deskThen{f, "bad"}
	}
	if line == "" || strings.HasPrefix(line, ";") {
		return deskThen{f, ""}
	}
	parts := strings.Split(line, " ")
	var n [3]int
	for _, w := range deskWords {
		if w.word != parts[0] || w.count != len(parts)-1 {
			continue
		}
		for i, digits := range parts[1:] {
			if n[i] = slices.Index(deskNumbers, digits); n[i] < 0 {
				return deskThen{f, "what"}
			}
		}
		if w.kind > 0 {
			g, code := impl.FlockDo(f, deed(w.kind, n[0], n[1], n[2]))
			return deskThen{g, codeWords[code]}
		}
		return otherByWords(f, w.word, n[0])
	}
	return deskThen{f, "what"}
}

// otherByWords is the same of a line that is no deed.
func otherByWords(f impl.Flock, word string, n int) deskThen {
	switch {
	case word == "calm":
		return deskThen{impl.Calm(f), "ok"}
	case word == "rounds":
		return deskThen{rounded(f, n).Flock, "ok"}
	case word == "hart" && n < f.World.Size:
		return deskThen{f, hartByWords(f.Cores[n].Hart)}
	case word == "page" && n < 6:
		list, _ := truthByWords(f.World, n)
		return deskThen{f, strings.Trim(fmt.Sprint(list), "[]")}
	case word == "sane":
		if sane, _ := saneByWords(f.World); sane {
			return deskThen{f, "yes"}
		}
		return deskThen{f, "no"}
	}
	return deskThen{f, "none"}
}

func hartByWords(h impl.Hart) string {
	return fmt.Sprintf("%s %d %d %d %d %d", []string{"run", "halt", "fault"}[h.State], h.Pc, h.Regs[0], h.Regs[1], h.Regs[2], h.Regs[3])
}

// sessionByWords is Session as the document's words go: its lines, one by one, by
// DeskLine itself.
func sessionByWords(size int, text, lines string) sessionThen {
	mem, assembled := impl.Assemble(text)
	f, ok := impl.FlockNew(size, mem, nil)
	if !assembled || !ok {
		return sessionThen{"", -1}
	}
	then := sessionThen{}
	for lines != "" {
		line, rest, _ := strings.Cut(lines, "\n")
		lines = rest
		next := desked(f, line)
		f = next.Flock
		if then.Count++; next.Told != "" {
			then.Told += next.Told + "\n"
		}
	}
	if then.Count > 60 {
		return sessionThen{"", -2}
	}
	return then
}

// lineOfDeed is the line of a deed whose numbers a line may have.
func lineOfDeed(d impl.Deed) string {
	for _, w := range deskWords {
		if w.kind == d.Kind {
			line := w.word
			for _, n := range []int{d.A, d.B, d.C}[:w.count] {
				line += fmt.Sprint(" ", n)
			}
			return line
		}
	}
	return "nothing"
}

// plainLines are right ones of each word.
func plainLines() []string {
	return []string{"send 0 0 0", "send 1 0 12", "ack 0 0", "ack 1 0", "give 0", "give 10", "lose 3", "copy 1", "want 0 2 1", "want 1 5 0", "run 0", "run 1", "calm", "rounds 0", "rounds 2", "hart 0", "hart 1", "page 0", "page 5", "sane"}
}

// busyFlock is one in which each line of plainLines does or finds something.
func busyFlock(t *testing.T) impl.Flock {
	t.Helper()
	f := newFlock(2, endless(), hartAt(0, 0, 0, 0, 0), hartAt(2, 1, 20, 300, 65535))
	for page := range 4 {
		f = byDo(t, f, []impl.Deed{deed(impl.DoWant, 1, page, page%2)})
	}
	// Two are queued on that line already.
	f.World.Nodes[1].Out[0].Queue = append(f.World.Nodes[1].Out[0].Queue, slices.Repeat([]impl.Msg{{Kind: impl.MgShare}}, 12)...)
	for at := range 12 {
		f = byDo(t, f, []impl.Deed{deed(impl.DoSend, 1, 0, at)})
	}
	f = byRun(t, f, []impl.Deed{deed(impl.DoGive, 0, 0, 0), deed(impl.DoWant, 0, 3, 1), run(0)})
	wantFlockOk(t, f, true)
	return f
}

// deskFlocks are right ones of all sorts.
func deskFlocks(t *testing.T, size int) []impl.Flock {
	t.Helper()
	r := rand.New(rand.NewSource(int64(1700 + size)))
	full := fullFlock(size)
	halted := withCore(full, size-1, coreOf(inState(hartAt(7, 1, 2, 3, 4), impl.HtHalt), full.Cores[size-1].Cache...))
	faulty := withCore(bareFlock(size), 0, coreOf(inState(hartAt(7, 1, 2, 3, 4), impl.HtFault)))
	list := []impl.Flock{bareFlock(size), full, overWorld(full, crowded(full.World)), runner(size), halted, faulty}
	for range 3 {
		list = append(list, drawnFlock(r, size), talkingFlock(r, size), briskRow(t, r, size, endless(), nil, 60).f)
	}
	return list
}

func TestDeskConstants(t *testing.T) {
	if impl.MaxLines != 60 {
		t.Error("MaxLines", impl.MaxLines)
	}
}

// The flock as it is, and `bad`, whatever the line is.
func TestLinesToWrongFlocks(t *testing.T) {
	t.Parallel()
	lines := append(plainLines(), "", ";", "; x", ";sane", "help", "sane ", "hart 9", "page 9", "run 9", "what", "bad", "send 0 0", "give 00", " ", "\n", "rounds 99")
	for size := 1; size <= impl.MaxNodes; size++ {
		for i, f := range append(fewWrongFlocks(size, 3), impl.Flock{}, impl.Flock{Cores: coresFor(size)}) {
			wantAsItWas(t, f, lines[i%len(lines)], "bad")
		}
		for i, f := range wrongFlocks(size) {
			for _, line := range []string{"", "; x", "sane", "hart 0", "run 0", lines[i%len(lines)]} {
				wantTold(t, f, line, deskThen{f, "bad"})
			}
		}
	}
	for _, line := range lines {
		wantAsItWas(t, impl.Flock{}, line, "bad")
		wantAsItWas(t, withCore(fullFlock(3), 2, impl.Core{}), line, "bad")
		wantAsItWas(t, inFlock(bareFlock(2), func(f *impl.Flock) { f.World.Nodes[1].Homes[3].Acks = 3 }), line, "bad")
	}
}

func TestRemarks(t *testing.T) {
	for size := 1; size <= impl.MaxNodes; size++ {
		for _, f := range []impl.Flock{bareFlock(size), fullFlock(size)} {
			for _, line := range []string{"", ";", ";;", "; ", "; x", ";x", ";run 0", "; run 0", ";calm", ";\n", ";\nrun 0", ";\x00", ";\xff", ";é", ";" + strings.Repeat(" ", 1000), "; " + strings.Repeat("run 0\n", 1000)} {
				wantAsItWas(t, f, line, "")
			}
			// One that stands behind anything else begins no remark.
			for _, line := range []string{" ;", " ; x", "  ;", "\t;", "\n;", "\x00;", "\ufeff;", "x;", "run 0;", "run 0 ;", "run 0 ; x", "calm;", "calm ;", "sane;", "sane ; x", "hart 0;", "; x"[1:], "#", "# x", "//", "-- x", ":", ": x", "：", "；", ";"[:0] + " ", "\u037e"} {
				wantAsItWas(t, f, line, "what")
			}
		}
	}
}

// Each word with as many numbers as it has, and with each other count.
func TestLinesByHowManyNumbers(t *testing.T) {
	t.Parallel()
	busy := busyFlock(t)
	for _, f := range []impl.Flock{busy, bareFlock(1), fullFlock(4)} {
		for _, w := range deskWords {
			for count := range 8 {
				for _, digits := range []string{"0", "1", "2", "10", "99"} {
					line := w.word + strings.Repeat(" "+digits, count)
					if count == w.count {
						then := deskByWords(f, line)
						if then.Told == "what" || then.Told == "bad" {
							t.Fatal("that is a line:", line, then.Told)
						}
						wantDesk(t, f, line, then.Flock, then.Told)
					} else {
						wantAsItWas(t, f, line, "what")
					}
				}
			}
		}
	}
	for _, w := range deskWords {
		for _, count := range []int{100, 10000, 300000} {
			wantTold(t, busy, w.word+strings.Repeat(" 0", count), deskThen{busy, "what"})
		}
	}
}

// Every number of one digit and of two, in each place of each line.
func TestEveryNumberInEachPlace(t *testing.T) {
	t.Parallel()
	busy := busyFlock(t)
	told := map[string]int{}
	for _, w := range deskWords {
		for place := range w.count {
			for _, digits := range deskNumbers {
				parts := append([]string{w.word}, slices.Repeat([]string{"0"}, w.count)...)
				if w.word == "send" {
					parts[1] = "1"
				}
				parts[place+1] = digits
				line := strings.Join(parts, " ")
				then := deskByWords(busy, line)
				wantTold(t, busy, line, then)
				told[w.word+" "+then.Told]++
			}
		}
	}
	for what, count := range map[string]int{"send ok": 2 + 2 + 14, "give ok": 11, "lose ok": 11, "copy ok": 11, "run ok": 2, "rounds ok": 100, "hart none": 98, "page none": 94, "run none": 98, "give none": 89} {
		if told[what] != count {
			t.Error(what, told[what], "and not", count)
		}
	}
}

// noDeskNumbers are words that stand where a number should.
var noDeskNumbers = []string{
	"00", "01", "02", "05", "09", "000", "001", "010", "012", "100", "101", "110", "119", "123", "199", "255", "256", "257", "300", "999", "1000", "65535", "65536", "65537", "4294967296", "4294967297", "18446744073709551616", "18446744073709551617",
	"-0", "-1", "-5", "-10", "+0", "+1", "+5", "--1", "0-", "1.", "1.0", ".1", "0.", "0x0", "0x1", "0b1", "1e0", "1_0", "0_1", "1,", "1;", ";1", "1:", ":", "/", "a", "A", "x", "r0", "r1", "0r", "one", "null", "nobody", "*", "?",
	"\x00", "0\x00", "\x000", "1\x00", "0\n", "\n0", "0\r", "0\t", "\t0", "\v0", "\u00a00", "0\u00a0", "٠", "٣", "０", "１", "²", "\xb1", "\xff", "0\xff", "\xff0", "1\xb2", "", strings.Repeat("9", 500), strings.Repeat("0", 500), strings.Repeat("0", 500) + "1",
}

func TestNumbersThatAreNone(t *testing.T) {
	busy := busyFlock(t)
	for _, line := range plainLines() {
		parts := strings.Split(line, " ")
		for at := 1; at < len(parts); at++ {
			for _, bad := range noDeskNumbers {
				other := slices.Clone(parts)
				other[at] = bad
				wantTold(t, busy, strings.Join(other, " "), deskThen{busy, "what"})
			}
			for _, ahead := range []string{"0", "00", "-", "+", " ", "x", "10", ";"} {
				other := slices.Clone(parts)
				other[at] = ahead + parts[at]
				if line := strings.Join(other, " "); !slices.Contains(deskNumbers, other[at]) {
					wantAsItWas(t, busy, line, "what")
				}
			}
		}
	}
}

// Something else than one blank ahead of each number, and something ahead of the
// line or behind it.
func TestLinesWithOtherBlanks(t *testing.T) {
	busy := busyFlock(t)
	for _, line := range plainLines() {
		for _, more := range []string{" ", "  ", "\t", "\n", "\r", "\r\n", "\x00", "\v", "\u00a0", "\u2003", "\u200b", "\ufeff", "\xa0", "\xff", ".", ",", ";", " ;", " 0", " x", "\\n"} {
			for _, other := range []string{more + line, line + more, more + line + more} {
				if told := deskByWords(busy, other).Told; told == "what" {
					wantTold(t, busy, other, deskThen{busy, "what"})
				} else if told != "" && more != " 0" {
					t.Fatalf("%q is told %q", other, told)
				}
			}
		}
		for at := range line {
			if line[at] != ' ' {
				continue
			}
			for _, between := range []string{"  ", "   ", "", "\t", " \t", "\t ", "\n", "\x00", "\u00a0", "\u2003", "\xa0", ",", ", ", "=", "_", "-", " -", " +", " 0"} {
				other := line[:at] + between + line[at+1:]
				wantAsItWas(t, busy, other, "what")
			}
			wantAsItWas(t, busy, line[:at+1], "what")
		}
	}
}

// Each right line with one byte of it another one, one byte more, one less, or two of
// them the other way round.
func TestDeskLinesThatPartInOneByte(t *testing.T) {
	t.Parallel()
	busy := busyFlock(t)
	count := map[string]int{}
	ask := func(line string) {
		then := deskByWords(busy, line)
		wantTold(t, busy, line, then)
		count[then.Told]++
	}
	for _, line := range plainLines() {
		for at := range len(line) + 1 {
			for c := range 256 {
				ask(line[:at] + string([]byte{byte(c)}) + line[at:])
				if at < len(line) {
					ask(line[:at] + string([]byte{byte(c)}) + line[at+1:])
				}
			}
			ask(line[:at])
			ask(line[at:])
			if at < len(line) {
				ask(line[:at] + line[at+1:])
			}
			if at+1 < len(line) {
				ask(line[:at] + line[at+1:at+2] + line[at:at+1] + line[at+2:])
			}
		}
	}
	if count["what"] < 50000 || count["ok"] < 200 || count["none"] < 100 || count[""] < 20 || count["yes"] < 2 || count["bad"] > 0 {
		t.Error("too few of a kind to tell anything:", count)
	}
}

func TestWordsThatAreNone(t *testing.T) {
	busy := busyFlock(t)
	others := []string{
		"what", "ok", "bad", "none", "idle", "full", "yes", "no", "help", "quit", "exit", "x", "step", "line", "do", "round", "harts", "pages", "sanes", "calms", "runs", "sends", "memory", "judge", "words", "node", "set", "halt", "load", "jump", "fetch", "data", "0", "1", "99", "-1", "r0",
		"ѕend", "ſend", "send\x00", "\x00send", "\xffsend", "sénd", "", "DoSend", "MgShare",
	}
	for _, w := range deskWords {
		for cut := range len(w.word) {
			others = append(others, w.word[:cut], w.word[cut+1:])
		}
		others = append(others, strings.ToUpper(w.word), strings.ToUpper(w.word[:1])+w.word[1:], w.word[:1]+strings.ToUpper(w.word[1:]), w.word+w.word, w.word+"s", w.word+"0", w.word+"1", "0"+w.word, w.word+"-"+w.word)
	}
	for _, w := range deskWords {
		others = slices.DeleteFunc(others, func(other string) bool { return other == w.word })
	}
	for _, other := range others {
		for count := range 5 {
			if line := other + strings.Repeat(" 0", count); line != "" {
				wantTold(t, busy, line, deskThen{busy, "what"})
			}
		}
		if other != "" {
			wantAsItWas(t, busy, other, "what")
		}
	}
	for _, piece := range []string{" ", "0", "run", "run 0", "sane", "\n", "\xff", "é", "\x00", "9 "} {
		wantTold(t, busy, strings.Repeat(piece, 300000), deskThen{busy, "what"})
	}
}

// A deedCase is a line that is a deed, and what it tells, by hand.
type deedCase struct {
	f    impl.Flock
	line string
	d    impl.Deed
	told string
}

// deedCases have each deed done, and refused for each reason there is.
func deedCases(t *testing.T) []deedCase {
	t.Helper()
	bare, busy := bareFlock(2), busyFlock(t)
	three := bareFlock(3)
	three.World = withNet(withLine(three.World, 2, 1, senderOf(40, 30)), packets(39, 3)...)
	full := overWorld(three, crowded(three.World))
	halted := inFlock(bare, func(f *impl.Flock) { f.Cores[1].Hart.State = impl.HtHalt })
	faulty := inFlock(bare, func(f *impl.Flock) { f.Cores[0].Hart.State = impl.HtFault })
	reads := inFlock(bare, func(f *impl.Flock) {
		f.World.Nodes[1].Frames[4] = frameOf(impl.StRead, false, 0, 0, 0, 0)
		f.World.Nodes[0].Frames[4] = frameOf(impl.StWrite, false, 0, 0, 0, 0)
	})
	return []deedCase{
		{three, "send 2 1 0", deed(impl.DoSend, 2, 1, 0), "ok"},
		{three, "send 2 1 9", deed(impl.DoSend, 2, 1, 9), "ok"},
		{three, "send 2 1 12", deed(impl.DoSend, 2, 1, 12), "ok"},
		{three, "send 2 1 21", deed(impl.DoSend, 2, 1, 21), "ok"},
		{three, "send 2 1 29", deed(impl.DoSend, 2, 1, 29), "ok"},
		{three, "send 2 1 30", deed(impl.DoSend, 2, 1, 30), "idle"},
		{three, "send 2 1 99", deed(impl.DoSend, 2, 1, 99), "idle"},
		{three, "send 1 2 0", deed(impl.DoSend, 1, 2, 0), "idle"},
		{three, "send 2 2 0", deed(impl.DoSend, 2, 2, 0), "idle"},
		{three, "send 3 1 0", deed(impl.DoSend, 3, 1, 0), "none"},
		{three, "send 2 3 0", deed(impl.DoSend, 2, 3, 0), "none"},
		{three, "send 99 1 0", deed(impl.DoSend, 99, 1, 0), "none"},
		{three, "send 2 10 0", deed(impl.DoSend, 2, 10, 0), "none"},
		{full, "send 2 1 0", deed(impl.DoSend, 2, 1, 0), "full"},
		{full, "send 2 1 30", deed(impl.DoSend, 2, 1, 30), "idle"},
		{full, "send 2 3 0", deed(impl.DoSend, 2, 3, 0), "none"},
		{three, "ack 1 2", deed(impl.DoAck, 1, 2, 0), "ok"},
		{three, "ack 2 1", deed(impl.DoAck, 2, 1, 0), "ok"},
		{three, "ack 0 0", deed(impl.DoAck, 0, 0, 0), "ok"},
		{three, "ack 3 0", deed(impl.DoAck, 3, 0, 0), "none"},
		{three, "ack 0 3", deed(impl.DoAck, 0, 3, 0), "none"},
		{three, "ack 11 0", deed(impl.DoAck, 11, 0, 0), "none"},
		{full, "ack 1 2", deed(impl.DoAck, 1, 2, 0), "full"},
		{full, "ack 1 3", deed(impl.DoAck, 1, 3, 0), "none"},
		{full, "give 0", deed(impl.DoGive, 0, 0, 0), "ok"},
		{full, "give 39", deed(impl.DoGive, 39, 0, 0), "ok"},
		{full, "give 12", deed(impl.DoGive, 12, 0, 0), "ok"},
		{full, "give 40", deed(impl.DoGive, 40, 0, 0), "none"},
		{bare, "give 0", deed(impl.DoGive, 0, 0, 0), "none"},
		{busy, "give 0", deed(impl.DoGive, 0, 0, 0), "ok"},
		{busy, "give 10", deed(impl.DoGive, 10, 0, 0), "ok"},
		{busy, "give 11", deed(impl.DoGive, 11, 0, 0), "none"},
		{full, "lose 0", deed(impl.DoLose, 0, 0, 0), "ok"},
		{full, "lose 23", deed(impl.DoLose, 23, 0, 0), "ok"},
		{full, "lose 32", deed(impl.DoLose, 32, 0, 0), "ok"},
		{full, "lose 99", deed(impl.DoLose, 99, 0, 0), "none"},
		{three, "lose 39", deed(impl.DoLose, 39, 0, 0), "none"},
		{three, "copy 0", deed(impl.DoCopy, 0, 0, 0), "ok"},
		{three, "copy 38", deed(impl.DoCopy, 38, 0, 0), "ok"},
		{three, "copy 13", deed(impl.DoCopy, 13, 0, 0), "ok"},
		{three, "copy 39", deed(impl.DoCopy, 39, 0, 0), "none"},
		{full, "copy 39", deed(impl.DoCopy, 39, 0, 0), "full"},
		{full, "copy 40", deed(impl.DoCopy, 40, 0, 0), "none"},
		{bare, "want 1 4 0", deed(impl.DoWant, 1, 4, 0), "ok"},
		{bare, "want 1 4 1", deed(impl.DoWant, 1, 4, 1), "ok"},
		{bare, "want 1 4 2", deed(impl.DoWant, 1, 4, 0), "ok"},
		{bare, "want 1 4 10", deed(impl.DoWant, 1, 4, 0), "ok"},
		{bare, "want 1 4 11", deed(impl.DoWant, 1, 4, 0), "ok"},
		{bare, "want 0 5 1", deed(impl.DoWant, 0, 5, 1), "ok"},
		{bare, "want 1 6 0", deed(impl.DoWant, 1, 6, 0), "idle"},
		{bare, "want 1 99 0", deed(impl.DoWant, 1, 99, 0), "idle"},
		{bare, "want 2 4 0", deed(impl.DoWant, 2, 4, 0), "none"},
		{bare, "want 99 4 0", deed(impl.DoWant, 99, 4, 0), "none"},
		{busy, "want 1 2 0", deed(impl.DoWant, 1, 2, 0), "idle"},
		{reads, "want 1 4 0", deed(impl.DoWant, 1, 4, 0), "idle"},
		{reads, "want 1 4 1", deed(impl.DoWant, 1, 4, 1), "ok"},
		{reads, "want 0 4 1", deed(impl.DoWant, 0, 4, 1), "idle"},
		{bare, "run 0", run(0), "ok"},
		{bare, "run 1", run(1), "ok"},
		{bare, "run 2", run(2), "none"},
		{bare, "run 10", run(10), "none"},
		{runner(4), "run 3", run(3), "ok"},
		{runner(4), "run 4", run(4), "none"},
		{halted, "run 1", run(1), "idle"},
		{halted, "run 0", run(0), "ok"},
		{faulty, "run 0", run(0), "idle"},
		{faulty, "run 2", run(2), "none"},
	}
}

func TestDeedsByLines(t *testing.T) {
	count := map[string]int{}
	for _, c := range deedCases(t) {
		wantFlockOk(t, c.f, true)
		word, _, _ := strings.Cut(c.line, " ")
		count[word+" "+c.told]++
		if c.told != "ok" {
			wantAsItWas(t, c.f, c.line, c.told)
			continue
		}
		want, code := impl.FlockDo(c.f, c.d)
		if code != impl.WdDone || sameFlock(want, c.f) {
			t.Errorf("%v is done and turns nothing, or is refused: %d", c.d, code)
		}
		wantDesk(t, c.f, c.line, want, "ok")
	}
	for _, what := range []string{"send ok", "send none", "send idle", "send full", "ack ok", "ack none", "ack full", "give ok", "give none", "lose ok", "lose none", "copy ok", "copy none", "copy full", "want ok", "want none", "want idle", "run ok", "run none", "run idle"} {
		if count[what] == 0 {
			t.Error("not among them:", what)
		}
	}
}

// What becomes of a flock, told without a deed: who is named first sends, what is
// named second is the page, and 1 alone asks to own.
func TestWhatDeedLinesMean(t *testing.T) {
	f := bareFlock(3)
	f, _ = impl.DeskLine(f, "want 2 1 0")
	f, _ = impl.DeskLine(f, "want 2 4 1")
	if line := f.World.Nodes[2].Out[1]; !f.World.Nodes[2].Frames[1].Asked || len(line.Queue) != 2 || line.Queue[0].Kind != impl.MgShare || line.Queue[1].Kind != impl.MgOwn || line.Queue[1].Page != 4 {
		t.Fatal("wanted:", f)
	}
	f, _ = impl.DeskLine(f, "send 2 1 1")
	f, _ = impl.DeskLine(f, "ack 0 2")
	f, _ = impl.DeskLine(f, "copy 0")
	if net := f.World.Net; len(net) != 3 || net[0].From != 2 || net[0].To != 1 || net[0].N != 1 || net[1].From != 0 || net[1].To != 2 || !net[1].Ack || net[2].N != 1 {
		t.Fatal("on their way:", f.World.Net)
	}
	f, _ = impl.DeskLine(f, "lose 2")
	f, _ = impl.DeskLine(f, "send 2 1 0")
	f, _ = impl.DeskLine(f, "give 2")
	if net := f.World.Net; len(net) != 2 || !net[1].Ack || f.World.Nodes[1].In[2].Got != 1 || len(f.World.Nodes[1].Out[2].Queue) != 1 {
		t.Fatal("given:", f)
	}
}

// Every deed with small numbers, in flocks of all sorts: its line does what it does,
// and tells its code.
func TestDeedLinesAreTheirDeeds(t *testing.T) {
	t.Parallel()
	told := map[string]int{}
	for size := 1; size <= impl.MaxNodes; size++ {
		for _, f := range deskFlocks(t, size) {
			for _, w := range deskWords[:7] {
				for n := range 80 {
					d := deed(w.kind, n%5, n/5%4, n/20)
					if w.count == 1 {
						d = deed(w.kind, n, 0, 0)
					} else if w.word == "want" {
						d = deed(w.kind, n%5, n/5%8, n/40)
					}
					want, code := impl.FlockDo(f, d)
					if w.count == 2 {
						d.C = 0
					}
					wantTold(t, f, lineOfDeed(d), deskThen{want, codeWords[code]})
					told[w.word+" "+codeWords[code]]++
				}
			}
		}
	}
	for _, what := range []string{"send ok", "send none", "send idle", "send full", "ack ok", "ack none", "ack full", "give ok", "give none", "lose ok", "lose none", "copy ok", "copy none", "copy full", "want ok", "want none", "want idle", "run ok", "run none", "run idle"} {
		if told[what] < 10 {
			t.Error("too few of", what, told)
		}
	}
}

func TestCalmLines(t *testing.T) {
	t.Parallel()
	for size := 1; size <= impl.MaxNodes; size++ {
		for _, f := range deskFlocks(t, size) {
			wantDesk(t, f, "calm", impl.Calm(f), "ok")
		}
	}
	busy := busyFlock(t)
	if g, _ := impl.DeskLine(busy, "calm"); sameFlock(g, busy) || len(g.World.Net) != 0 || queuedIn(g.World) != 0 {
		t.Error("not calm:", g)
	}
	for _, line := range []string{"calm ", "calm 0", "calm 1", "calm 9", "calm  ", "calm x", "calm calm", "calmly", " calm", "calm\n", "Calm", "CALM", "calm;"} {
		wantAsItWas(t, busy, line, "what")
	}
}

func TestRoundsLines(t *testing.T) {
	t.Parallel()
	for size := 1; size <= impl.MaxNodes; size++ {
		f, _ := impl.FlockNew(size, endless(), []int{0, 2, 5, 1})
		r := rand.New(rand.NewSource(int64(1710 + size)))
		for _, f := range []impl.Flock{f, briskRow(t, r, size, endless(), nil, 70).f, talkingFlock(r, size)} {
			for _, n := range []int{0, 1, 2, 9, 10, 11, 59, 60, 61, 99} {
				wantDesk(t, f, fmt.Sprint("rounds ", n), rounded(f, n).Flock, "ok")
			}
			wantTold(t, f, "rounds 0", deskThen{impl.Calm(f), "ok"})
			for _, line := range []string{"rounds 61", "rounds 75", "rounds 99"} {
				wantTold(t, f, line, desked(f, "rounds 60"))
			}
			for _, line := range []string{"rounds", "rounds ", "rounds 1 1", "rounds 100", "rounds 060", "rounds 00", "rounds -1", "rounds 600", "rounds  1", "round 1", "rounds1", "rounds 1 "} {
				wantAsItWas(t, f, line, "what")
			}
		}
		for n := 1; n < 60; n++ {
			if sameFlock(desked(f, fmt.Sprint("rounds ", n)).Flock, desked(f, fmt.Sprint("rounds ", n+1)).Flock) {
				t.Errorf("%d rounds and %d are the same", n, n+1)
			}
		}
	}
}

func TestHartLines(t *testing.T) {
	f := newFlock(4, endless(), hartAt(0, 0, 0, 0, 0), hartAt(23, 65535, 65535, 65535, 65535), inState(hartAt(9, 1, 20, 300, 4000), impl.HtHalt), inState(hartAt(10, 4, 3, 2, 1), impl.HtFault))
	for line, told := range map[string]string{
		"hart 0": "run 0 0 0 0 0", "hart 1": "run 23 65535 65535 65535 65535", "hart 2": "halt 9 1 20 300 4000", "hart 3": "fault 10 4 3 2 1",
		"hart 4": "none", "hart 5": "none", "hart 9": "none", "hart 10": "none", "hart 99": "none",
		"hart": "what", "hart ": "what", "hart 0 0": "what", "hart 00": "what", "hart 100": "what", "hart -1": "what", "harts 0": "what",
	} {
		wantAsItWas(t, f, line, told)
	}
	for size := 1; size <= impl.MaxNodes; size++ {
		for _, f := range deskFlocks(t, size) {
			for id := range size {
				wantAsItWas(t, f, fmt.Sprint("hart ", id), hartByWords(f.Cores[id].Hart))
				wantAsItWas(t, f, fmt.Sprint("hart ", id), impl.HartText(f.Cores[id].Hart))
			}
			wantAsItWas(t, f, fmt.Sprint("hart ", size), "none")
			wantAsItWas(t, f, fmt.Sprint("hart ", size+1), "none")
			wantAsItWas(t, f, "hart 99", "none")
		}
		for i, h := range append(runningHarts(), idleHarts()...) {
			wantAsItWas(t, withCore(bareFlock(size), i%size, coreOf(h)), fmt.Sprint("hart ", i%size), hartByWords(h))
		}
	}
}

func TestPageLines(t *testing.T) {
	mem := make([]int, 24)
	for at := range mem {
		mem[at] = []int{0, 1, 9, 10, 99, 100, 1000, 54321, 65534, 65535}[(at*7+at/8)%10]
	}
	for size := 1; size <= impl.MaxNodes; size++ {
		f, _ := impl.FlockNew(size, mem, nil)
		for page := range 6 {
			wantAsItWas(t, f, fmt.Sprint("page ", page), fmt.Sprintf("%d %d %d %d", mem[4*page], mem[4*page+1], mem[4*page+2], mem[4*page+3]))
		}
		for _, line := range []string{"page 6", "page 7", "page 10", "page 23", "page 99"} {
			wantAsItWas(t, f, line, "none")
		}
		for _, line := range []string{"page", "page ", "page 0 0", "page 00", "page 05", "page 100", "page -1", "pages 0", "page 0 "} {
			wantAsItWas(t, f, line, "what")
		}
	}
}

// Wherever the words of a page are: at its home, at who may write it, on the way to
// that one and on the way back.
func TestPageLinesAreTruth(t *testing.T) {
	t.Parallel()
	where := map[string]int{}
	r := rand.New(rand.NewSource(1720))
	for i := range 24 {
		size := i%impl.MaxNodes + 1
		p := newRow(t, size, adders(1, 10, 100, 1000), nil)
		for at := range 400 {
			p.do(briskDeed(r, p.f))
			for _, page := range []int{5, at % 5} {
				list, place := truthByWords(p.f.World, page)
				where[place]++
				wantTold(t, p.f, fmt.Sprint("page ", page), deskThen{p.f, fmt.Sprintf("%d %d %d %d", list[0], list[1], list[2], list[3])})
			}
		}
	}
	for _, place := range []string{"home", "frame", "given", "told back"} {
		if where[place] < 20 {
			t.Error("too few of", place, where)
		}
	}
}

// A page that there is, whose words are nowhere: there are none to tell.
func TestPageLinesWhereThereIsNoTruth(t *testing.T) {
	for size := 1; size <= impl.MaxNodes; size++ {
		for page := range 6 {
			f := overWorld(bareFlock(size), lostPages(size, page))
			wantFlockOk(t, f, true)
			wantAsItWas(t, f, fmt.Sprint("page ", page), "")
			other := (page + 1) % 6
			wantAsItWas(t, f, fmt.Sprint("page ", other), strings.Trim(fmt.Sprint(wordsOfPage(other)), "[]"))
			wantAsItWas(t, f, "sane", "no")
		}
	}
}

func TestSaneLines(t *testing.T) {
	t.Parallel()
	for size := 1; size <= impl.MaxNodes; size++ {
		bare := bareFlock(size)
		wantAsItWas(t, bare, "sane", "yes")
		wantAsItWas(t, overWorld(bare, saneWorld(size)), "sane", "yes")
		wantAsItWas(t, overWorld(bare, owning(saneWorld(size), size-1, 2)), "sane", "yes")
		wantAsItWas(t, overWorld(bare, having(saneWorld(size), size-1, 2, impl.StRead)), "sane", "yes")
		for page := range 6 {
			other := inFlock(overWorld(bare, having(saneWorld(size), page%size, page, impl.StRead)), func(f *impl.Flock) { f.World.Nodes[page%size].Frames[page].List[page%4]++ })
			wantAsItWas(t, other, "sane", "no")
			if size > 1 {
				both := overWorld(bare, having(owning(saneWorld(size), 0, page), 1, page, impl.StRead))
				wantAsItWas(t, both, "sane", "no")
			}
		}
		if size > 1 {
			wantAsItWas(t, overWorld(bare, withGot(saneWorld(size), 0, 1, 1)), "sane", "no")
		}
		for _, line := range []string{"sane ", " sane", "sane 0", "sane 1", "sanes", "Sane", "sane?", "insane", "san", "sane\n"} {
			wantAsItWas(t, bare, line, "what")
		}
		told := map[string]int{}
		r := rand.New(rand.NewSource(int64(1730 + size)))
		for range 40 {
			for _, f := range []impl.Flock{talkingFlock(r, size), briskRow(t, r, size, endless(), nil, 20).f} {
				then := deskByWords(f, "sane")
				wantTold(t, f, "sane", then)
				told[then.Told]++
			}
		}
		if told["yes"] < 30 || told["no"] < 20 {
			t.Error("too few of a kind to tell anything:", told)
		}
	}
}

// The promise: what asks, what is none and what is refused turns nothing.
func TestLinesThatTurnNothing(t *testing.T) {
	t.Parallel()
	for size := 1; size <= impl.MaxNodes; size++ {
		for _, f := range deskFlocks(t, size) {
			lines := []string{"", "; x", "sane", "help", "hart", "page x", "sane 0", "run 9", "give 99", "lose 40", "copy 98", "send 9 0 0", "send 0 9 0", "ack 0 4", "ack 4 0", "want 4 0 0", "want 0 6 1", "hart 99", "page 99", "rounds", "calm 0", "give 00", "send 0 0 99"}
			for n := range 7 {
				lines = append(lines, fmt.Sprint("hart ", n), fmt.Sprint("page ", n))
			}
			for _, line := range lines {
				then := deskByWords(f, line)
				if then.Told == "ok" || !sameFlock(then.Flock, f) {
					t.Fatalf("%q is done: %v", line, then)
				}
				wantAsItWas(t, f, line, then.Told)
			}
		}
	}
}

// deskNonsense is a line that is none, or is one by chance.
func deskNonsense(r *rand.Rand) string {
	pieces := []string{" ", " ", " ", "0", "1", "2", "10", "99", "\n", ";", "\xff", "é", "\x00", "-", "00", "100"}
	for _, w := range deskWords {
		pieces = append(pieces, w.word)
	}
	line := deskWords[r.Intn(len(deskWords))].word
	if r.Intn(3) == 0 {
		line = ""
	}
	for range r.Intn(7) {
		line += pieces[r.Intn(len(pieces))]
	}
	return line
}

// drawnLineTo is a line to f: mostly one that moves it on, or asks.
func drawnLineTo(r *rand.Rand, f impl.Flock) string {
	switch n := r.Intn(24); {
	case n < 14:
		return lineOfDeed(briskDeed(r, f))
	case n < 16:
		return lineOfDeed(someDeed(r, f.World))
	case n < 18:
		return []string{"sane", "hart ", "page "}[r.Intn(3)] + []string{"", "0", "1", "5", "9"}[r.Intn(5)]
	case n == 18:
		return fmt.Sprint("hart ", r.Intn(f.World.Size))
	case n == 19:
		return fmt.Sprint("page ", r.Intn(6))
	case n == 20:
		return []string{"", ";", "; x", "sane", "sane"}[r.Intn(5)]
	case n == 21 && r.Intn(3) == 0:
		return []string{"calm", "rounds 1", "rounds 2", "rounds 9"}[r.Intn(4)]
	case n == 22 && r.Intn(2) == 0:
		return fmt.Sprint("want ", r.Intn(f.World.Size), " ", r.Intn(6), " ", r.Intn(3))
	case n == 22:
		return strings.Join([]string{deskWords[r.Intn(12)].word, strconv.Itoa(r.Intn(5)), strconv.Itoa(r.Intn(41)), strconv.Itoa(r.Intn(3))}[:1+r.Intn(4)], " ")
	}
	return deskNonsense(r)
}

// Drawn flocks, most of them such as no run comes to, and drawn lines.
func TestDeskLinesAsTheWordsGo(t *testing.T) {
	t.Parallel()
	r := rand.New(rand.NewSource(17))
	told := map[string]int{}
	for i := range 4000 {
		f := drawnFlock(r, i%impl.MaxNodes+1)
		if i%3 == 0 {
			f = talkingFlock(r, i%impl.MaxNodes+1)
		}
		line := drawnLineTo(r, f)
		then := deskByWords(f, line)
		wantTold(t, f, line, then)
		if !impl.FlockOk(then.Flock) {
			t.Fatalf("%q made what is not FlockOk of %v: %v", line, f, then)
		}
		word, _, _ := strings.Cut(line, " ")
		if slices.ContainsFunc(deskWords, func(w deskWord) bool { return w.word == word }) {
			told[fmt.Sprint(word, " ", then.Told == "ok")]++
		}
		if slices.Contains([]string{"", "ok", "none", "idle", "full", "what", "yes", "no"}, then.Told) {
			told[then.Told]++
		}
	}
	for _, what := range []string{"send true", "ack true", "give true", "lose true", "copy true", "want true", "run true", "calm true", "rounds true", "send false", "run false", "hart false", "page false", "sane false", "", "ok", "none", "idle", "full", "what", "no"} {
		if told[what] < 5 {
			t.Error("too few of", what, told)
		}
	}
}

// A long row of lines, each told what the document's words tell, the flock told field
// by field.
func TestARowOfLines(t *testing.T) {
	t.Parallel()
	told := map[string]int{}
	for seed := range 24 {
		r := rand.New(rand.NewSource(int64(1740 + seed)))
		size := seed%impl.MaxNodes + 1
		f, _ := impl.FlockNew(size, [][]int{endless(), adders(1, 10, 100, 1000), drawnMemory(r)}[seed%3], nil)
		for range 150 {
			line := drawnLineTo(r, f)
			then := deskByWords(f, line)
			wantTold(t, f, line, then)
			if sane, why := saneByWords(then.Flock.World); !sane || !impl.FlockOk(then.Flock) {
				t.Fatalf("behind %q no longer right: %s", line, why)
			}
			told[then.Told]++
			f = then.Flock
		}
	}
	for _, what := range []string{"", "ok", "none", "idle", "what", "yes"} {
		if told[what] < 20 {
			t.Error("too few of", what, told)
		}
	}
	if told["no"] > 0 || told["bad"] > 0 {
		t.Error("told of a flock that a row of lines made:", told)
	}
}

const storeText = "set r1 5\nstore r0 r1 20\nhalt\n"

func TestSessionsOfFewLines(t *testing.T) {
	for _, c := range []struct {
		lines, told string
		count       int
	}{
		{"", "", 0},
		{"\n", "", 1},
		{"\n\n", "", 2},
		{"\n\n\n\n\n", "", 5},
		{"sane", "yes\n", 1},
		{"sane\n", "yes\n", 1},
		{"sane\n\n", "yes\n", 2},
		{"\nsane", "yes\n", 2},
		{"\nsane\n", "yes\n", 2},
		{"sane\n\nsane", "yes\nyes\n", 3},
		{"sane\nsane\n", "yes\nyes\n", 2},
		{";", "", 1},
		{";\n", "", 1},
		{"; x\n;y\n\n;", "", 4},
		{";\nsane\n;", "yes\n", 3},
		{" ", "what\n", 1},
		{" \n", "what\n", 1},
		{"\r\n", "what\n", 1},
		{"sane\r\nsane\r\n", "what\nwhat\n", 2},
		{"sane\rsane", "what\n", 1},
		{"x\ny\nz", "what\nwhat\nwhat\n", 3},
		{"hart 0\nhart 1\nhart 2\nhart 3", "run 0 0 0 0 0\nrun 0 0 0 0 0\nrun 0 0 0 0 0\nnone\n", 4},
		{"page 0\npage 4\npage 5\npage 6\n", "5137 20741 9 0\n0 0 0 0\n0 0 0 0\nnone\n", 4},
		{"run 0\nrun 1\nrun 2\nrun 3", "ok\nok\nok\nnone\n", 4},
		{"give 0\nsend 0 1 0\nack 0 1\nwant 0 6 0\n", "none\nidle\nok\nidle\n", 4},
		{"rounds 1\nhart 2\nrounds 1\nhart 1\npage 5\nrounds 1\nhart 0\nrun 0", "ok\nrun 1 0 5 0 0\nok\nrun 2 0 5 0 0\n5 0 0 0\nok\nhalt 2 0 5 0 0\nidle\n", 8},
		{"calm\nsane\ncalm\n", "ok\nyes\nok\n", 3},
		{"sane\x00", "what\n", 1},
		{"\xff\n\xe2\x82\nsane", "what\nwhat\nyes\n", 3},
	} {
		wantSession(t, 3, storeText, c.lines, c.told, c.count)
	}
}

// As many lines as there may be, and one more, behind the last one a byte 10 and none.
func TestSessionsByHowManyLines(t *testing.T) {
	t.Parallel()
	for _, line := range []string{"", ";", "sane", "hart 1", "x", "calm", "run 0", ";" + strings.Repeat("x", 1000)} {
		told := ""
		f, _ := impl.FlockNew(2, make([]int, 24), nil)
		for count := range 130 {
			lines := strings.Repeat(line+"\n", count)
			if count > 60 {
				wantSession(t, 2, "", lines, "", -2)
				if line != "" {
					wantSession(t, 2, "", strings.TrimSuffix(lines, "\n"), "", -2)
				}
				continue
			}
			wantSession(t, 2, "", lines, told, count)
			if line != "" {
				wantSession(t, 2, "", strings.TrimSuffix(lines, "\n"), told, count)
			}
			next := deskByWords(f, line)
			if f = next.Flock; next.Told != "" {
				told += next.Told + "\n"
			}
		}
	}
	sixty := strings.Repeat("sane\n", 60)
	wantSession(t, 1, "", sixty, strings.Repeat("yes\n", 60), 60)
	for _, more := range []string{"\n", ";", ";\n", "sane", "sane\n", " ", "x", "\x00", "\n\n"} {
		wantSession(t, 1, "", sixty+more, "", -2)
	}
	wantSession(t, 1, "", strings.TrimSuffix(sixty, "\n")+"\n", strings.Repeat("yes\n", 60), 60)
	wantSession(t, 4, storeText, strings.Repeat("\n", 60), "", 60)
	wantSession(t, 4, storeText, strings.Repeat("\n", 61), "", -2)
	wantSession(t, 4, storeText, strings.Repeat("\n", 1000000), "", -2)
	wantSession(t, 4, storeText, strings.Repeat("sane", 1000000), "what\n", 1)
}

func TestSessionsThatThereAreNone(t *testing.T) {
	many := strings.Repeat("sane\n", 61)
	for _, lines := range []string{"", "sane", "sane\n", "\n", "x", strings.Repeat("\n", 60), many, many + "\n", strings.Repeat("\n", 1000)} {
		for _, size := range noNodes {
			for _, text := range []string{"", storeText, "x"} {
				wantSession(t, size, text, lines, "", -1)
			}
		}
		for size := 1; size <= impl.MaxNodes; size++ {
			for _, text := range []string{"x", "\n", "halt\n\n", " halt", "set r1 64", "65536", "00", "halt\r\n", strings.Repeat("0\n", 25), strings.Repeat("0\n", 24) + "\n", "halt;", "; x\nhalt", "sane", "run 0"} {
				wantSession(t, size, text, lines, "", -1)
			}
			if got := inSession(size, strings.Repeat("0\n", 24), lines); got.Count == -1 {
				t.Error("there is a session of 24 words and the lines", lines)
			}
		}
	}
}

// All harts begin at 0, and the words of the text are the memory.
func TestWhereSessionsBegin(t *testing.T) {
	r := rand.New(rand.NewSource(1750))
	for i := range 60 {
		size := i%impl.MaxNodes + 1
		mem := drawnMemory(r)
		lines, told := "", ""
		for id := range size + 1 {
			lines += fmt.Sprint("hart ", id, "\n")
			told += map[bool]string{true: "run 0 0 0 0 0\n", false: "none\n"}[id < size]
		}
		for page := range 6 {
			lines += fmt.Sprint("page ", page, "\n")
			told += fmt.Sprintf("%d %d %d %d\n", mem[4*page], mem[4*page+1], mem[4*page+2], mem[4*page+3])
		}
		wantSession(t, size, listingOf(r, mem), lines+"calm\nsane\ngive 0", told+"ok\nyes\nnone\n", size+1+6+3)
	}
}

// Three harts each add 7 at 20, twice, on a net that loses, doubles and turns round:
// what each line tells is told by hand.
func TestASessionByHand(t *testing.T) {
	text := "set r1 7\nswap r2 r0 r1 20\nswap r3 r0 r1 20\nhalt\n"
	rows := [][2]string{
		{"; each adds 7 at 20, twice", ""},
		{"run 0", "ok"}, {"run 1", "ok"}, {"run 2", "ok"}, // all have asked for page 0, at home at 0
		{"want 1 0 0", "idle"},
		{"send 0 0 0", "ok"}, {"lose 0", "ok"}, {"give 0", "none"},
		{"send 0 0 0", "ok"}, {"copy 0", "ok"}, {"give 1", "ok"}, {"give 0", "ok"}, {"lose 0", "none"},
		{"send 0 0 2", "idle"}, {"send 0 0 1", "ok"}, {"give 0", "ok"}, // node 0 has page 0
		{"send 1 0 0", "ok"}, {"give 0", "ok"}, {"send 0 1 0", "ok"}, {"copy 0", "ok"}, {"give 0", "ok"}, // node 1 has it, and it is on its way to it once more
		{"run 0", "ok"}, {"run 0", "ok"}, {"run 1", "ok"}, {"run 1", "ok"}, // both have set, and asked for page 5, at home at 2
		{"hart 0", "run 1 0 7 0 0"}, {"hart 2", "run 0 0 0 0 0"},
		{"send 1 2 0", "ok"}, {"give 1", "ok"}, {"send 0 2 0", "ok"}, {"give 1", "ok"}, // home gives it to 1, and fetches it for 0
		{"send 2 1 1", "ok"}, {"give 1", "ok"}, // that it is fetched comes too early, and is lost
		{"send 2 1 0", "ok"}, {"give 1", "ok"}, {"page 5", "0 0 0 0"},
		{"run 1", "ok"}, {"page 5", "7 0 0 0"}, {"hart 1", "run 2 0 7 0 0"}, {"sane", "yes"},
		{"send 2 1 1", "ok"}, {"give 1", "ok"}, {"page 5", "7 0 0 0"}, // it is told back
		{"run 1", "ok"}, {"send 1 2 1", "ok"}, {"lose 1", "ok"}, {"page 5", "7 0 0 0"}, {"sane", "yes"},
		{"rounds 9", "ok"},
		{"hart 0", "halt 3 0 7 7 21"}, {"hart 1", "halt 3 0 7 0 14"}, {"hart 2", "halt 3 0 7 28 35"},
		{"page 5", "42 0 0 0"}, {"sane", "yes"}, {"run 2", "idle"}, {"hart 3", "none"}, {"ack 0 3", "none"}, {"end", "what"},
	}
	lines, told := "", ""
	for _, row := range rows {
		lines += row[0] + "\n"
		if row[1] != "" {
			told += row[1] + "\n"
		}
	}
	wantSession(t, 3, text, lines, told, len(rows))
	wantSession(t, 3, text, strings.TrimSuffix(lines, "\n"), told, len(rows))
}

// drawnSession is lines that move a flock on, one of them now and then `sane`, and
// what they tell.
func drawnSession(r *rand.Rand, f impl.Flock, count int) (lines []string, told string, then impl.Flock, did map[string]int) {
	did = map[string]int{}
	for len(lines) < count {
		line := lineOfDeed(briskDeed(r, f))
		if len(lines)%6 == 5 {
			line = "sane"
		}
		if line == "nothing" || strings.Contains(line, "-") {
			continue
		}
		next := deskByWords(f, line)
		word, _, _ := strings.Cut(line, " ")
		if f = next.Flock; next.Told == "ok" {
			did[word]++
		}
		lines, told = append(lines, line), told+next.Told+"\n"
	}
	return lines, told, f, did
}

// Several harts add to one word by swaps, while lines are lost and copied: nothing that
// is added is lost, and it is sane at each line that asks.
func TestNothingThatIsAddedInASessionIsLost(t *testing.T) {
	t.Parallel()
	did := map[string]int{}
	for seed := range 120 {
		r := rand.New(rand.NewSource(int64(17600 + seed)))
		size := seed%impl.MaxNodes + 1
		times, number, first := 1+r.Intn(5), 1+r.Intn(63), r.Intn(65536)
		text := addingText(times, number, 0, 0, first)
		mem, _ := impl.Assemble(text)
		f, _ := impl.FlockNew(size, mem, nil)
		lines, told, _, done := drawnSession(r, f, 50)
		for word, count := range done {
			did[word] += count
		}
		for _, more := range [][2]string{{"rounds 60", "ok"}, {"sane", "yes"}, {"page 5", fmt.Sprintf("%d 0 0 0", (first+size*times*number)%65536)}, {"run 0", "idle"}, {fmt.Sprint("run ", size-1), "idle"}} {
			lines, told = append(lines, more[0]), told+more[1]+"\n"
		}
		got := inSession(size, text, strings.Join(lines, "\n"))
		if got != (sessionThen{told, len(lines)}) || strings.Contains(got.Told, "no\n") || strings.Contains(got.Told, "what") {
			t.Fatalf("of %d, %q, %q: %q, %d, not %q", size, text, lines, got.Told, got.Count, told)
		}
	}
	for _, word := range []string{"run", "send", "give", "lose", "copy", "ack"} {
		if did[word] < 30 {
			t.Error("too few of", word, did)
		}
	}
}

// The promise: what a session tells is what DeskLine tells, line by line.
func TestASessionIsItsLines(t *testing.T) {
	t.Parallel()
	count := map[int]int{}
	for seed := range 300 {
		r := rand.New(rand.NewSource(int64(17700 + seed)))
		size := seed%impl.MaxNodes + 1
		mem := [][]int{endless(), adders(1, 10, 100, 1000), drawnMemory(r), make([]int, 24)}[r.Intn(4)]
		text := listingOf(r, mem)
		f, _ := impl.FlockNew(size, mem, nil)
		var list []string
		told := ""
		for range r.Intn(62) {
			line := strings.ReplaceAll(drawnLineTo(r, f), "\n", "\r")
			next := deskByWords(f, line)
			if f = next.Flock; next.Told != "" {
				told += next.Told + "\n"
			}
			list = append(list, line)
		}
		lines := strings.Join(list, "\n")
		if len(list) > 0 && (list[len(list)-1] == "" || r.Intn(2) == 0) {
			lines += "\n"
		}
		if got, want := inSession(size, text, lines), sessionByWords(size, text, lines); got != want {
			t.Fatalf("Session(%d, %q, %q) is %v, not %v", size, text, lines, got, want)
		}
		if len(list) > 60 {
			wantSession(t, size, text, lines, "", -2)
			count[-2]++
			continue
		}
		wantSession(t, size, text, lines, told, len(list))
		count[len(list)/20]++
	}
	if count[-2] < 1 || count[0] < 30 || count[1] < 30 || count[2] < 30 {
		t.Error("too few of a kind to tell anything:", count)
	}
}

// A session is that of its beginning, and what its end tells from there on.
func TestASessionGoesOn(t *testing.T) {
	t.Parallel()
	r := rand.New(rand.NewSource(1780))
	for size := 1; size <= impl.MaxNodes; size++ {
		f, _ := impl.FlockNew(size, endless(), nil)
		text := listingOf(r, endless())
		lines, told, _, _ := drawnSession(r, f, 60)
		for cut := range 61 {
			beginning := inSession(size, text, strings.Join(lines[:cut], "\n"))
			if !strings.HasPrefix(told, beginning.Told) || beginning.Count != cut || strings.Count(beginning.Told, "\n") != cut {
				t.Fatalf("of %q the first %d tell %v, all %q", lines, cut, beginning, told)
			}
		}
	}
}

// deskAnswers are what the functions of the chapter answer.
type deskAnswers struct {
	Lines   []deskThen
	Session sessionThen
}

func askDesk(f impl.Flock, size int, text string, lines []string) deskAnswers {
	var a deskAnswers
	for _, line := range lines {
		a.Lines = append(a.Lines, desked(f, line))
	}
	a.Session = inSession(size, text, strings.Join(lines, "\n"))
	return a
}

// askedLines are of all sorts.
func askedLines() []string {
	return append(plainLines(), "", "; x", "help", "hart 9", "page 9", "run 9", "give 39", "send 0 0 29", "rounds 9", "want 1 4 1", "give 00")
}

func TestDeskAnswersAreNewMemory(t *testing.T) {
	t.Parallel()
	for size := 1; size <= impl.MaxNodes; size++ {
		for _, f := range append(deskFlocks(t, size), flocksOfAllSorts(size)...) {
			given := roomy(f)
			before := whole(given)
			a, b := askDesk(given, size, storeText, askedLines()), askDesk(given, size, storeText, askedLines())
			wantNew(t, []deskAnswers{a, b}, given)
			wantUnwritten(t, given, before)
		}
	}
}

// A flock whose lists are one list has an answer in which they are not.
func TestDeskListsAreOneEach(t *testing.T) {
	list := []int{setWord, swapWord, sumOf(impl.Ins{Op: impl.InStore, N: 2}), haltWord}
	block := blockAt(0, setPlace, swapPlace, impl.Ins{Op: impl.InStore, N: 2}, haltPlace)
	w := oneList()
	for id := range w.Nodes {
		for page := range w.Nodes[id].Frames {
			w.Nodes[id].Frames[page] = impl.Frame{State: impl.StWrite, List: list}
		}
	}
	core := coreOf(impl.Hart{Regs: list}, block, block)
	right := impl.Flock{World: w, Cores: slices.Repeat([]impl.Core{core}, 4)}
	wrong := impl.Flock{World: w, Cores: slices.Repeat([]impl.Core{core}, 5)}
	wantFlockOk(t, right, true)
	for _, f := range []impl.Flock{right, wrong} {
		before := whole(f)
		for _, line := range askedLines() {
			wantNew(t, desked(f, line), f)
		}
		wantUnwritten(t, f, before)
	}
}

// Whatever becomes of what was handed in, or of an answer, another answer is as it
// was; and nothing is kept from one call to another.
func TestDesksAnswerTheSameAgain(t *testing.T) {
	t.Parallel()
	for size := 1; size <= impl.MaxNodes; size++ {
		flocks := append(deskFlocks(t, size), flocksOfAllSorts(size)...)
		var first []deskAnswers
		for _, f := range flocks {
			first = append(first, askDesk(f, size, storeText, askedLines()))
		}
		kept := cloneOf(first)
		for i := len(flocks) - 1; i >= 0; i-- {
			for range 2 {
				handed := cloneOf(flocks[i])
				again := askDesk(handed, size, storeText, askedLines())
				if !reflect.DeepEqual(cloneOf(again), kept[i]) {
					t.Fatalf("%v is answered by %v, and again by %v", flocks[i], kept[i], again)
				}
				spoilFlock(handed)
				if !reflect.DeepEqual(cloneOf(again), kept[i]) {
					t.Fatalf("an answer turned with what was handed in: %v, before %v", again, kept[i])
				}
				for _, then := range again.Lines {
					spoilFlock(then.Flock)
				}
			}
		}
		if !reflect.DeepEqual(cloneOf(first), kept) {
			t.Error("an answer turned with another one")
		}
	}
}

// What is answered does not hang on how goroutines run: many times over, alone and
// beside others.
func TestSessionsAreTheSameManyTimesOver(t *testing.T) {
	defer runtime.GOMAXPROCS(runtime.GOMAXPROCS(0))
	for size := 1; size <= impl.MaxNodes; size++ {
		r := rand.New(rand.NewSource(int64(1790 + size)))
		text := addingText(5, 7, 9, 60, 1000)
		mem, _ := impl.Assemble(text)
		f, _ := impl.FlockNew(size, mem, nil)
		list, _, then, _ := drawnSession(r, f, 50)
		lines := strings.Join(append(list, "rounds 20", "hart 0", "page 5", "sane"), "\n")
		want, asked := inSession(size, text, lines), desked(then, "rounds 5")
		for i := range 12 {
			runtime.GOMAXPROCS(1 + i%6)
			others := make(chan sessionThen, 3)
			for range 3 {
				go func() { others <- inSession(size, text, lines) }()
			}
			if got := desked(then, "rounds 5"); !sameDesk(got, asked) {
				t.Fatalf("the line is answered by %v, and was by %v", got, asked)
			}
			for range 3 {
				if got := <-others; got != want {
					t.Fatalf("the session is %v, and was %v", got, want)
				}
			}
		}
	}
}

// When a call has answered, none of its goroutines goes on.
func TestNobodyStaysBehindADesk(t *testing.T) {
	before := runtime.NumGoroutine()
	for range 60 {
		for _, f := range []impl.Flock{runner(4), bareFlock(1), {}} {
			for _, line := range []string{"run 0", "run 9", "calm", "rounds 2", "give 0", "sane", "x"} {
				impl.DeskLine(f, line)
			}
		}
		impl.Session(4, storeText, "run 0\nsend 0 0 0\nrun 9\nrounds 2")
		impl.Session(4, storeText, strings.Repeat("run 0\n", 61))
	}
	// One that has told all may still be about to end.
	for range 1000 {
		if runtime.NumGoroutine() <= before {
			return
		}
		runtime.Gosched()
	}
	if now := runtime.NumGoroutine(); now > before+8 {
		t.Error(now, "goroutines, and", before, "before")
	}
}

// Whatever is handed in: an answer, and no panic; of what is not FlockOk the flock as
// it is, and `bad`.
func TestDesksAnswerAtAnyArguments(t *testing.T) {
	t.Parallel()
	r := rand.New(rand.NewSource(1795))
	odd := append([]int{0, 1, 2, 3, 4, 5, 6, 7, 23, 24, 100, 65535, 65536, 100000}, farNumbers...)
	number := func() int { return odd[r.Intn(len(odd))] }
	count := map[string]int{}
	for i := range 1500 {
		f := talkingFlock(r, i%impl.MaxNodes+1)
		line := drawnLineTo(r, f)
		for range r.Intn(3) {
			f = hurtFlock(r, f, number())
		}
		then := deskByWords(f, line)
		wantTold(t, f, line, then)
		count[then.Told]++
		text := listingOf(r, drawnMemory(r))
		if r.Intn(3) == 0 {
			text = noWords[r.Intn(len(noWords))]
		}
		lines := strings.Repeat(line+"\n", r.Intn(64))
		for _, size := range []int{r.Intn(7) - 1, number()} {
			if got, want := inSession(size, text, lines), sessionByWords(size, text, lines); got != want {
				t.Fatalf("Session(%d, %q, %q) is %v, not %v", size, text, lines, got, want)
			}
		}
	}
	if count["bad"] < 200 || count["ok"] < 200 || count["what"] < 20 {
		t.Error("too few of a kind to tell anything:", count)
	}
}
