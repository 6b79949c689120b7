package tests

import (
	"fmt"
	"go/ast"
	"go/parser"
	"go/token"
	"math"
	"math/rand"
	"path/filepath"
	"reflect"
	"slices"
	"strconv"
	"strings"
	"testing"

	"loop.example/g00281/impl"
)

// handTexts are written out here by hand: no rule of the program's is in them.
var handTexts = map[string]impl.Ins{
	"set r0 0":         {Op: impl.InSet},
	"set r3 63":        {Op: impl.InSet, R: 3, N: 63},
	"set r1 9":         {Op: impl.InSet, R: 1, N: 9},
	"set r2 10":        {Op: impl.InSet, R: 2, N: 10},
	"add r1 r2 r3":     {Op: impl.InAdd, R: 1, A: 2, B: 3},
	"more r1 r2 10":    {Op: impl.InMore, R: 1, A: 2, N: 10},
	"load r2 r0 7":     {Op: impl.InLoad, R: 2, N: 7},
	"store r1 r2 20":   {Op: impl.InStore, A: 1, B: 2, N: 20},
	"swap r3 r0 r1 20": {Op: impl.InSwap, R: 3, B: 1, N: 20},
	"swap r1 r2 r3 0":  {Op: impl.InSwap, R: 1, A: 2, B: 3},
	"zero r2 6":        {Op: impl.InZero, A: 2, N: 6},
	"jump 2":           {Op: impl.InJump, N: 2},
	"jump 63":          {Op: impl.InJump, N: 63},
	"halt":             {Op: impl.InHalt},
	"sub r3 r2 r1":     {Op: impl.InSub, R: 3, A: 2, B: 1},
}

// opTexts stand in the order of insOps.
var opTexts = [...]string{"set", "add", "more", "load", "store", "swap", "zero", "jump", "halt", "sub"}

// textByWords is the text of a right place as the document's words go.
func textByWords(x impl.Ins) string {
	text := opTexts[x.Op-1]
	for i, f := range insFields {
		if !insOps[x.Op-1].names[i] {
			continue
		}
		text += " "
		if f.name != "N" {
			text += "r"
		}
		text += strconv.Itoa(*f.of(&x))
	}
	return text
}

// everyText is the text of each right place there is.
func everyText() map[string]impl.Ins {
	all := map[string]impl.Ins{}
	for _, o := range insOps {
		for x := range placesOf(o) {
			all[textByWords(x)] = x
		}
	}
	return all
}

// plainTexts are the texts of some places of each op, in order.
func plainTexts() []string {
	var list []string
	for _, x := range rightPlaces() {
		list = append(list, textByWords(x))
	}
	for text := range handTexts {
		list = append(list, text)
	}
	slices.Sort(list)
	return slices.Compact(list)
}

func wantText(t *testing.T, x impl.Ins, text string) {
	t.Helper()
	if got := impl.InsText(x); got != text {
		t.Errorf("InsText(%+v) is %q, not %q", x, got, text)
	}
}

func wantLineRead(t *testing.T, line string, x impl.Ins) {
	t.Helper()
	if got, ok := impl.InsRead(line); !ok || got != x {
		t.Errorf("InsRead(%q) is %+v, %v, not %+v", line, got, ok, x)
	}
}

func wantUnread(t *testing.T, line string) {
	t.Helper()
	if got, ok := impl.InsRead(line); ok || got != (impl.Ins{}) {
		t.Errorf("InsRead(%q) is %+v, %v, not zero and false", line, got, ok)
	}
}

// wantReadBy asks that a line is read as it is among all texts, or not at all, and
// that what is read has it as its text. It tells whether it is among them.
func wantReadBy(t *testing.T, all map[string]impl.Ins, line string) bool {
	t.Helper()
	x, right := all[line]
	if !right {
		wantUnread(t, line)
		return false
	}
	wantLineRead(t, line, x)
	wantText(t, x, line)
	return true
}

func TestPlacesAsText(t *testing.T) {
	for text, x := range handTexts {
		wantText(t, x, text)
		wantLineRead(t, text, x)
	}
}

// Each op with each register in each field that it names, and with N at its edges.
func TestTextOfEachOp(t *testing.T) {
	for _, o := range insOps {
		for _, x := range cornersOf(o) {
			wantText(t, x, textByWords(x))
			for i, f := range insFields {
				if !o.names[i] {
					continue
				}
				for _, n := range []int{0, 1, 2, 3, 9, 10, 11, 62, 63} {
					if n <= f.most {
						y := withField(x, f, n)
						wantText(t, y, textByWords(y))
						wantLineRead(t, textByWords(y), y)
					}
				}
			}
		}
	}
}

func TestTextOfWhatIsNoPlace(t *testing.T) {
	for _, x := range append(wrongPlaces(), impl.Ins{}) {
		wantText(t, x, "")
	}
	for _, o := range insOps {
		for _, x := range cornersOf(o) {
			for i, f := range insFields {
				bad := append([]int{-1, f.most + 1}, beyond...)
				if !o.names[i] {
					bad = append(bad, 1, 2, f.most)
				}
				for _, n := range bad {
					wantText(t, withField(x, f, n), "")
				}
			}
			for _, op := range noOps {
				x.Op = op
				wantText(t, x, "")
			}
		}
	}
}

// The promise: every right place is read from its text as it was, and no text is
// that of two.
func TestEveryPlaceIsReadFromItsTextAsItWas(t *testing.T) {
	count, seen := 0, map[string]impl.Ins{}
	for _, o := range insOps {
		for x := range placesOf(o) {
			text := impl.InsText(x)
			if y, twice := seen[text]; twice {
				t.Errorf("%q is the text of %+v and of %+v", text, x, y)
			}
			seen[text] = x
			wantText(t, x, textByWords(x))
			wantLineRead(t, text, x)
			count++
		}
	}
	if count != 7873 || len(everyText()) != count {
		t.Error("places:", count, "texts:", len(everyText()))
	}
}

// Lines that are those of a place but for one thing ahead, behind or between.
func TestLinesThatAreNoPlaces(t *testing.T) {
	for _, text := range plainTexts() {
		for _, line := range []string{
			text + " ", " " + text, " " + text + " ", text + "  ", text + "\n", "\n" + text, text + "\r", text + "\x00", "\x00" + text, "\t" + text,
			text + " 0", text + " r0", text + " 7", text + " r3", text + " " + text, text + "\n" + text, text + text, text[:2] + text,
			strings.ToUpper(text), strings.ToUpper(text[:1]) + text[1:], strings.ToTitle(text), strings.ReplaceAll(text, "r", "R"),
			text + "0000000000000000000000", text + "\xff", "\xff" + text, text + "\u00a0", "\ufeff" + text, text + ";", text + ",", text + ".",
		} {
			if line != text {
				wantUnread(t, line)
			}
		}
		for at := range text {
			if text[at] == ' ' {
				for _, between := range []string{"  ", "   ", "", "\t", "\n", "\x00", "\u00a0", ",", ", ", "\xa0", " \n", "-"} {
					wantUnread(t, text[:at]+between+text[at+1:])
				}
				wantUnread(t, text[:at+1])
			}
		}
	}
}

// Words left out at the end or at the beginning, and words too many.
func TestLinesOfTooFewAndTooManyWords(t *testing.T) {
	for _, text := range plainTexts() {
		parts := strings.Split(text, " ")
		for count := range parts {
			wantUnread(t, strings.Join(parts[:count], " "))
			for at := count + 1; at <= len(parts); at++ {
				if count > 0 || at < len(parts) {
					wantUnread(t, strings.Join(slices.Delete(slices.Clone(parts), count, at), " "))
				}
			}
			for _, more := range []string{"r0", "r3", "0", "63", "halt"} {
				wantUnread(t, strings.Join(slices.Insert(slices.Clone(parts), count, more), " "))
			}
		}
		for _, count := range []int{5, 6, 100, 10000} {
			wantUnread(t, text+strings.Repeat(" r1", count))
			wantUnread(t, text+strings.Repeat(" 1", count))
		}
	}
	// The first words of longer lines are not taken for all of them.
	for _, line := range []string{"set", "set r1", "add r1", "add r1 r2", "more r1 5", "load r1 r2", "store r1 5", "store r1 r2", "swap r1 r2 r3", "swap r1 r2 5", "zero 5", "zero r1", "jump", "sub r1 r2"} {
		wantUnread(t, line)
	}
}

// Words that stand where a register, or where N, should stand.
var (
	noRegisters = []string{
		"0", "1", "3", "r4", "r5", "r9", "r10", "r63", "r00", "r01", "r03", "r003", "r-1", "r+1", "r-0", "r", "rr1", "rr", "R1", "1r", "r1r", "r 1", "r1.", "r1.0", "r0x1", "r1_0", "r1e0",
		"x1", "a1", "s1", "rx", "r٣", "r１", "r²", "r\x00", "r1\x00", "\x00r1", "r\xb1", "r\xff1", "\xf2r1", "r1\n", "r\n1", "r1\r", "r:", "r/", "r256", "r65536", "r4294967297", "r18446744073709551617", "r99999999999999999999", "",
	}
	noOffsets = []string{
		"64", "65", "70", "99", "100", "127", "128", "163", "256", "319", "1000", "65535", "65536", "65599", "4294967296", "4294967301", "18446744073709551616", "18446744073709551621", "99999999999999999999",
		"00", "01", "05", "09", "010", "063", "007", "-1", "-0", "+0", "+1", "-63", "1.0", "1.", ".5", "0x5", "0b1", "0o7", "1_0", "1e1", "5 ", "x", "r", "r1", "r5", "1r", "rr5", "٣", "１", "²",
		"5\x00", "\x005", "5\n", "5\r", "\xb5", "5\xff", "\xff5", ":", "/", "1:", "1/", "!", "", "a", "ff", strings.Repeat("9", 1000), strings.Repeat("0", 1000) + "5",
	}
)

func TestLinesWithOneWordThatIsNotThere(t *testing.T) {
	for _, text := range plainTexts() {
		parts := strings.Split(text, " ")
		for at := 1; at < len(parts); at++ {
			bad := noOffsets
			if strings.HasPrefix(parts[at], "r") {
				bad = noRegisters
			}
			for _, word := range bad {
				other := slices.Clone(parts)
				other[at] = word
				wantUnread(t, strings.Join(other, " "))
			}
		}
	}
}

// First words that are no op's, and those of another op.
func TestLinesWithAnotherFirstWord(t *testing.T) {
	all := everyText()
	firsts := append([]string{
		"", "s", "se", "et", "sets", "sset", "setr", "se t", "Set", "SET", "sEt", "ad", "addd", "mor", "mores", "loa", "loads", "stor", "stored", "swa", "swaps", "zer", "zeros", "jum", "jumps", "hal", "halts", "su", "subs",
		"run", "fault", "nothing", "ins", "nop", "mov", "0", "1", "9", "10", "r0", "r1", "set\x00", "\x00set", "set\xff", "ſet", "ѕet", "s\xc5\xbfet", "\xf3et", "halt\n", "\nhalt", "set\t",
	}, opTexts[:]...)
	read := 0
	for _, text := range plainTexts() {
		word, rest, _ := strings.Cut(text, " ")
		for _, first := range firsts {
			line := first + strings.TrimPrefix(text, word)
			if wantReadBy(t, all, line) {
				read++
			}
			wantReadBy(t, all, first)
			wantReadBy(t, all, first+" ")
			wantReadBy(t, all, rest)
		}
	}
	if read < 100 {
		t.Error("too few of these are places to tell anything:", read)
	}
}

// Each text with one byte of it another one, one byte more, one less, or two of them
// the other way round.
func TestLinesThatPartInOneByte(t *testing.T) {
	t.Parallel()
	all := everyText()
	count := map[bool]int{}
	for _, text := range plainTexts() {
		for at := range len(text) + 1 {
			for c := range 256 {
				count[wantReadBy(t, all, text[:at]+string([]byte{byte(c)})+text[at:])]++
				if at < len(text) {
					count[wantReadBy(t, all, text[:at]+string([]byte{byte(c)})+text[at+1:])]++
				}
			}
			if at < len(text) {
				count[wantReadBy(t, all, text[:at]+text[at+1:])]++
				wantReadBy(t, all, text[:at])
				wantReadBy(t, all, text[at:])
			}
			if at+1 < len(text) {
				count[wantReadBy(t, all, text[:at]+text[at+1:at+2]+text[at:at+1]+text[at+2:])]++
			}
		}
	}
	if count[true] < 1000 || count[false] < 100000 {
		t.Error("too few of a kind to tell anything:", count)
	}
}

// The shortest text has four bytes: no line of fewer is read.
func TestShortLines(t *testing.T) {
	wantUnread(t, "")
	for a := range 256 {
		wantUnread(t, string([]byte{byte(a)}))
		for b := range 256 {
			wantUnread(t, string([]byte{byte(a), byte(b)}))
		}
	}
}

// Great lines end, too.
func TestGreatLines(t *testing.T) {
	for _, piece := range []string{" ", "r", "0", "9", "halt", "halt ", "set r1 ", "\n", "\xff", "é", "\x00"} {
		great := strings.Repeat(piece, 300000)
		for _, line := range []string{great, "halt" + great, "set r1 5" + great, "set r1 " + great, "set " + great + " 5", great + "halt"} {
			wantUnread(t, line)
		}
	}
}

// drawnLine is words of all sorts with something between them, mostly one blank.
func drawnLine(r *rand.Rand) string {
	part := func() string {
		switch r.Intn(12) {
		case 0:
			return noOffsets[r.Intn(len(noOffsets))]
		case 1:
			return noRegisters[r.Intn(len(noRegisters))]
		case 2:
			return opTexts[r.Intn(len(opTexts))]
		case 3, 4, 5:
			return strconv.Itoa(r.Intn(66))
		}
		return "r" + strconv.Itoa(r.Intn(4))
	}
	line := opTexts[r.Intn(len(opTexts))]
	for range r.Intn(5) {
		between := " "
		if r.Intn(30) == 0 {
			between = []string{"  ", "", "\t", "\n", "\x00", "\u00a0"}[r.Intn(6)]
		}
		line += between + part()
	}
	return line
}

func TestWhateverIsReadIsWrittenSo(t *testing.T) {
	all := everyText()
	count := map[bool]int{}
	r := rand.New(rand.NewSource(1610))
	for range 200000 {
		count[wantReadBy(t, all, drawnLine(r))]++
	}
	for range 50000 {
		b := make([]byte, r.Intn(20))
		for i := range b {
			b[i] = byte(r.Intn(256))
		}
		wantReadBy(t, all, string(b))
	}
	if count[true] < 5000 || count[false] < 50000 {
		t.Error("too few of a kind to tell anything:", count)
	}
}

// wantAssembled asks that those words stand ahead, and 0 behind them.
func wantAssembled(t *testing.T, text string, words ...int) {
	t.Helper()
	want := append(slices.Clone(words), make([]int, 24-len(words))...)
	one, ok := impl.Assemble(text)
	two, again := impl.Assemble(text)
	if !ok || !again || !slices.Equal(one, want) || !slices.Equal(two, want) {
		t.Errorf("Assemble(%q) is %v, %v and %v, %v, not %v", text, one, ok, two, again, want)
	}
	wantNew(t, [][]int{one, two}, nil)
}

func wantNotAssembled(t *testing.T, text string) {
	t.Helper()
	if got, ok := impl.Assemble(text); ok || len(got) != 0 {
		t.Errorf("Assemble(%q) is %v, %v, not nothing and false", text, got, ok)
	}
}

func TestAssemble(t *testing.T) {
	wantAssembled(t, "")
	wantAssembled(t, "0", 0)
	wantAssembled(t, "0\n", 0)
	wantAssembled(t, "7", 7)
	wantAssembled(t, "7\n", 7)
	wantAssembled(t, "halt", haltWord)
	wantAssembled(t, "halt\n", haltWord)
	wantAssembled(t, "7\nhalt\n10\n", 7, haltWord, 10)
	wantAssembled(t, "7\nhalt\n10", 7, haltWord, 10)
	wantAssembled(t, "halt\n0\n0\nhalt", haltWord, 0, 0, haltWord)
	wantAssembled(t, "set r1 1\n0\njump 1", 1041, 0, 1032)
	wantAssembled(t, "set r2 5\nadd r1 r2 r3\nmore r3 r3 1\nswap r3 r0 r1 20\nzero r2 7\njump 63\n9\nhalt\n", setWord, addWord, moreWord, swapWord, zeroWord, jumpWord, haltWord, haltWord)
	for text, x := range handTexts {
		wantAssembled(t, text, sumOf(x))
		wantAssembled(t, text+"\n", sumOf(x))
		wantAssembled(t, "3\n"+text+"\n5", 3, sumOf(x), 5)
	}
}

func TestAssembleOfEmptyLines(t *testing.T) {
	for _, text := range []string{"\n", "\n\n", "\n\n\n", "halt\n\n", "5\n\n", "\nhalt", "\n5", "\nhalt\n", "5\n\n5", "halt\n\nhalt\n", "5\n6\n\n7", "5\n\n\n5\n"} {
		wantNotAssembled(t, text)
	}
	for count := 1; count < 60; count++ {
		wantNotAssembled(t, strings.Repeat("\n", count))
	}
}

// noWords are no numbers that a line may be, and no places.
var noWords = []string{
	"65536", "65537", "65545", "70000", "99999", "100000", "655350", "655360", "131072", "4294967296", "4294967301", "4294967305", "9223372036854775807", "9223372036854775808", "18446744073709551616", "18446744073709551625",
	"99999999999999999999", strings.Repeat("9", 500), "1" + strings.Repeat("0", 64), "00", "05", "09", "000", "065535", "0000000000009", strings.Repeat("0", 300), strings.Repeat("0", 300) + "5",
	"-0", "-1", "-9", "-65535", "+0", "+5", "+65535", "--5", " 5", "5 ", " 5 ", "5 6", "5\t", "5\r", "5\x00", "\x005", "5,6", "5;", "5.0", "5.", ".5", "0x5", "0b1", "0o7", "1_0", "1e3", "5e0", "٣", "１", "²", "Ⅷ", "\xb5", "\xff", "5\xff", "\xff5",
	"x", "a", "r5", "r1", "5r", "nothing", "1/", "5/", "1:", "5:", "set", "halt 5", "halt r1", "HALT", "Halt", "halt\x00", "halt ", " halt", "set r1 64", "set r4 1", "set r1  1", "set r1 01", "jump -1", "add r1 r2", "run 0 0 0 0 0", ":", "/", "'", ";halt", "# 5", " ",
}

func TestAssembleOfLinesThatAreNeither(t *testing.T) {
	for _, bad := range noWords {
		for _, text := range []string{bad, "halt\n" + bad, bad + "\nhalt", "1\n" + bad + "\n2", strings.Repeat("5\n", 23) + bad, bad + strings.Repeat("\n5", 23)} {
			wantNotAssembled(t, text)
			wantNotAssembled(t, text+"\n")
		}
	}
	for _, text := range []string{"5\r\n6", "5\r6", "5 6 7", "halt halt", "5,6", "halt;5", "5\v6", "5\u20286", "5\u00856"} {
		wantNotAssembled(t, text)
	}
}

// Every word in digits, with a nought ahead, and with a sign; and numbers behind
// the greatest word.
func TestAssembleOfEveryWordInDigits(t *testing.T) {
	for w := range impl.MaxWord + 1 {
		digits := strconv.Itoa(w)
		if got, ok := impl.Assemble(digits); !ok || len(got) != 24 || got[0] != w {
			t.Errorf("Assemble(%q) is %v, %v", digits, got, ok)
		}
		if w%61 == 0 {
			wantAssembled(t, digits, w)
			wantAssembled(t, "halt\n"+digits+"\n", haltWord, w)
		}
		for _, ahead := range []string{"0", "+", "-", "00", " "} {
			wantNotAssembled(t, ahead+digits)
		}
	}
	for n := impl.MaxWord + 1; n < impl.MaxWord+3000; n++ {
		wantNotAssembled(t, strconv.Itoa(n))
	}
	// Numbers that come to a word where they wrap, and numbers of all lengths.
	for _, turn := range []int{1 << 16, 1 << 17, 1 << 31, 1 << 32, 1 << 62, math.MaxInt - 20} {
		for w := range 20 {
			wantNotAssembled(t, strconv.Itoa(turn+w))
			wantNotAssembled(t, strconv.FormatUint(uint64(turn)*2+uint64(w), 10))
		}
	}
	for length := 6; length < 80; length++ {
		for digit := 1; digit < 10; digit++ {
			wantNotAssembled(t, strings.Repeat(strconv.Itoa(digit), length))
			wantNotAssembled(t, strconv.Itoa(digit)+strings.Repeat("0", length-1))
		}
	}
	for lead := range 100 {
		// 2 to the power of 64, and 128, and a word.
		wantNotAssembled(t, fmt.Sprintf("18446744073709551%03d", 616+lead))
		wantNotAssembled(t, fmt.Sprintf("340282366920938463463374607431768211%03d", 456+lead))
	}
}

// So many lines as there are Cells, fewer, and more.
func TestAssembleByHowMany(t *testing.T) {
	for count := range 60 {
		var digits, places, both []string
		var numbers, codes, mixed []int
		for i := range count {
			x := impl.Ins{Op: impl.InJump, N: (7*i + 3) % 64}
			digits, numbers = append(digits, strconv.Itoa(i*1000)), append(numbers, i*1000)
			places, codes = append(places, textByWords(x)), append(codes, sumOf(x))
			if i%3 == 0 {
				both, mixed = append(both, digits[i]), append(mixed, numbers[i])
			} else {
				both, mixed = append(both, places[i]), append(mixed, codes[i])
			}
		}
		for i, lines := range [][]string{digits, places, both} {
			text := strings.Join(lines, "\n")
			if count > 24 {
				wantNotAssembled(t, text)
				wantNotAssembled(t, text+"\n")
				continue
			}
			wantAssembled(t, text, [][]int{numbers, codes, mixed}[i]...)
			if count > 0 {
				wantAssembled(t, text+"\n", [][]int{numbers, codes, mixed}[i]...)
				wantNotAssembled(t, text+"\n\n")
				wantNotAssembled(t, "\n"+text)
			}
		}
	}
	full := strings.Repeat("0\n", 24)
	wantAssembled(t, full)
	for _, behind := range []string{"0", "0\n", "\n", "halt", "x", " ", "\x00"} {
		wantNotAssembled(t, full+behind)
	}
	wantNotAssembled(t, strings.Repeat("halt\n", 100000))
	wantNotAssembled(t, strings.Repeat("5", 1000000))
	wantNotAssembled(t, strings.Repeat(" ", 1000000))
}

// Each right place stands in memory by its word, wherever its line is.
func TestAssembleOfEveryPlace(t *testing.T) {
	at, lines, want := 0, []string(nil), []int(nil)
	for text, x := range everyText() {
		lines, want = append(lines, text), append(want, sumOf(x))
		if at++; len(lines) == 24 {
			wantAssembled(t, strings.Join(lines, "\n"), want...)
			lines, want = nil, nil
		}
	}
	wantAssembled(t, strings.Join(lines, "\n"), want...)
	if at != 7873 {
		t.Error("places:", at)
	}
}

// listingOf is a memory as text: words that are places mostly as such.
func listingOf(r *rand.Rand, mem []int) string {
	var lines []string
	for _, w := range mem {
		line := strconv.Itoa(w)
		if x, ok := impl.Decode(w); ok && r.Intn(4) > 0 {
			line = impl.InsText(x)
		}
		lines = append(lines, line)
	}
	text := strings.Join(lines, "\n")
	if r.Intn(2) == 0 {
		text += "\n"
	}
	return text
}

// Drawn memories are assembled from their own listings; what is cut off is 0.
func TestAssembleOfListings(t *testing.T) {
	r := rand.New(rand.NewSource(1620))
	for range 3000 {
		mem := drawnMemory(r)
		count := 1 + r.Intn(24)
		if text := listingOf(r, mem[:count]); text != "" {
			wantAssembled(t, text, mem[:count]...)
		}
	}
}

// assembledByWords is Assemble as the document's words go.
func assembledByWords(all map[string]impl.Ins, text string) ([]int, bool) {
	mem := make([]int, 0, 24)
	for len(text) > 0 {
		line, rest, _ := strings.Cut(text, "\n")
		text = rest
		x, right := all[line]
		n, err := strconv.ParseUint(line, 10, 16)
		switch {
		case len(mem) == 24:
			return nil, false
		case right:
			mem = append(mem, sumOf(x))
		case err == nil && strconv.FormatUint(n, 10) == line:
			mem = append(mem, int(n))
		default:
			return nil, false
		}
	}
	return append(mem, make([]int, 24-len(mem))...), true
}

// Digits with one byte of them another one, or one byte more, ahead of other lines and
// behind them.
func TestAssembleOfDigitsThatPartInOneByte(t *testing.T) {
	all := everyText()
	count := map[bool]int{}
	for _, digits := range []string{"0", "1", "5", "9", "10", "63", "64", "100", "999", "6553", "12345", "65530", "65535"} {
		for at := range len(digits) + 1 {
			for c := range 256 {
				for _, line := range []string{digits[:at] + string([]byte{byte(c)}) + digits[at:], digits[:at] + string([]byte{byte(c)}) + digits[min(at+1, len(digits)):]} {
					for _, text := range []string{line, "halt\n" + line, line + "\n7"} {
						mem, ok := assembledByWords(all, text)
						if count[ok]++; ok {
							wantAssembled(t, text, mem...)
						} else {
							wantNotAssembled(t, text)
						}
					}
				}
			}
		}
	}
	if count[true] < 2000 || count[false] < 40000 {
		t.Error("too few of a kind to tell anything:", count)
	}
}

func TestAssembleAsTheWordsGo(t *testing.T) {
	all := everyText()
	texts := plainTexts()
	r := rand.New(rand.NewSource(1630))
	count := map[bool]int{}
	for range 30000 {
		text := ""
		for range r.Intn(28) {
			switch r.Intn(60) {
			case 0:
				text += noWords[r.Intn(len(noWords))]
			case 1:
				text += drawnLine(r)
			case 2, 3, 4, 5:
				text += strconv.Itoa(r.Intn(65540))
			default:
				text += texts[r.Intn(len(texts))]
			}
			text += "\n"
		}
		if r.Intn(3) == 0 {
			text = strings.TrimSuffix(text, "\n")
		}
		mem, ok := assembledByWords(all, text)
		if count[ok]++; ok {
			wantAssembled(t, text, mem...)
		} else {
			wantNotAssembled(t, text)
		}
	}
	if count[true] < 5000 || count[false] < 5000 {
		t.Error("too few of a kind to tell anything:", count)
	}
}

func wantHartText(t *testing.T, h impl.Hart, want string) {
	t.Helper()
	given := roomy(h)
	before := whole(given)
	for range 2 {
		if got := impl.HartText(given); got != want {
			t.Errorf("HartText(%v) is %q, not %q", h, got, want)
		}
	}
	wantUnwritten(t, given, before)
}

func TestHartText(t *testing.T) {
	cases := map[string]impl.Hart{
		"run 0 0 0 0 0":                    hartAt(0, 0, 0, 0, 0),
		"run 23 0 0 0 0":                   hartAt(23, 0, 0, 0, 0),
		"run 0 65535 65535 65535 65535":    hartAt(0, 65535, 65535, 65535, 65535),
		"run 23 65535 65535 65535 65535":   hartAt(23, 65535, 65535, 65535, 65535),
		"run 9 1 2 3 4":                    hartAt(9, 1, 2, 3, 4),
		"run 10 4 3 2 1":                   hartAt(10, 4, 3, 2, 1),
		"run 7 0 65535 10 9":               hartAt(7, 0, 65535, 10, 9),
		"halt 0 0 0 0 0":                   inState(hartAt(0, 0, 0, 0, 0), impl.HtHalt),
		"halt 23 65535 65535 65535 65535":  inState(hartAt(23, 65535, 65535, 65535, 65535), impl.HtHalt),
		"halt 6 0 0 1 65535":               inState(hartAt(6, 0, 0, 1, 65535), impl.HtHalt),
		"fault 0 0 0 0 0":                  inState(hartAt(0, 0, 0, 0, 0), impl.HtFault),
		"fault 23 65535 65535 65535 65535": inState(hartAt(23, 65535, 65535, 65535, 65535), impl.HtFault),
		"fault 11 100 1000 10000 5":        inState(hartAt(11, 100, 1000, 10000, 5), impl.HtFault),
		"fault 20 65534 32768 30000 0":     inState(hartAt(20, 65534, 32768, 30000, 0), impl.HtFault),
		"halt 1 12345 54321 11111 99":      inState(hartAt(1, 12345, 54321, 11111, 99), impl.HtHalt),
		"run 22 10 100 1000 10000":         hartAt(22, 10, 100, 1000, 10000),
		"fault 5 9 99 999 9999":            inState(hartAt(5, 9, 99, 999, 9999), impl.HtFault),
		"halt 19 65535 0 65535 0":          inState(hartAt(19, 65535, 0, 65535, 0), impl.HtHalt),
		"run 2 0 0 0 65535":                hartAt(2, 0, 0, 0, 65535),
		"halt 3 65535 0 0 0":               inState(hartAt(3, 65535, 0, 0, 0), impl.HtHalt),
		"fault 4 0 65535 0 0":              inState(hartAt(4, 0, 65535, 0, 0), impl.HtFault),
		"run 8 0 0 65535 0":                hartAt(8, 0, 0, 65535, 0),
	}
	for text, h := range cases {
		wantHartText(t, h, text)
	}
}

// Every Pc in every State, with registers that part.
func TestHartTextAsTheWordsGo(t *testing.T) {
	r := rand.New(rand.NewSource(1640))
	seen := map[string]bool{}
	for pc := range 24 {
		for state, word := range []string{"run", "halt", "fault"} {
			for range 40 {
				h := inState(drawnHart(r), state)
				h.Pc = pc
				text := fmt.Sprintf("%s %d %d %d %d %d", word, pc, h.Regs[0], h.Regs[1], h.Regs[2], h.Regs[3])
				wantHartText(t, h, text)
				seen[text] = true
			}
		}
	}
	if len(seen) < 24*3*39 {
		t.Error("too few texts to tell anything:", len(seen))
	}
}

func TestHartTextOfWrongHarts(t *testing.T) {
	wantHartText(t, impl.Hart{}, "")
	for _, h := range wrongHarts() {
		for _, state := range hartStates {
			// What is wrong is the State itself where it is none of these.
			if slices.Contains(hartStates, h.State) {
				h.State = state
			}
			wantHartText(t, h, "")
		}
	}
	for _, state := range noStates {
		for _, h := range runningHarts() {
			wantHartText(t, inState(h, state), "")
		}
	}
}

func TestHartTextOfNewHarts(t *testing.T) {
	for pc := range 24 {
		want := "run " + strconv.Itoa(pc) + " 0 0 0 0"
		for _, from := range []int{pc, pc + 24, pc - 24, pc + 2400, pc - 2400} {
			wantHartText(t, impl.HartNew(from), want)
		}
	}
}

// A hart as it goes on, told by hand.
func TestHartTextOfAHartThatRuns(t *testing.T) {
	mem, ok := impl.Assemble("set r1 3\nmore r2 r1 60\nsub r3 r0 r1\nzero r0 5\nhalt\nadd r3 r3 r2\n0\n")
	if !ok {
		t.Fatal("not assembled")
	}
	h := impl.HartNew(0)
	for _, want := range []string{
		"run 0 0 0 0 0", "run 1 0 3 0 0", "run 2 0 3 63 0", "run 3 0 3 63 65533", "run 5 0 3 63 65533", "run 6 0 3 63 60", "fault 6 0 3 63 60", "fault 6 0 3 63 60",
	} {
		wantHartText(t, h, want)
		mem, h = impl.FlatStep(mem, h)
	}
	_, h = impl.FlatStep(mem, impl.HartNew(4))
	wantHartText(t, h, "halt 4 0 0 0 0")
}

// addingText is a program in which a hart that begins at 0 adds one number so often
// at 20, and one that begins at 3 another number, and both halt at 11.
func addingText(times, number, otherTimes, otherNumber, first int) string {
	return fmt.Sprintf("set r1 %d\nset r2 %d\njump 6\nset r1 %d\nset r2 %d\njump 6\nzero r1 11\nswap r3 r0 r2 20\nset r3 1\nsub r1 r1 r3\njump 6\nhalt\n", times, number, otherTimes, otherNumber) +
		strings.Repeat("0\n", 8) + strconv.Itoa(first)
}

func TestAssembleOfAnAddingProgram(t *testing.T) {
	want := words(map[int]impl.Ins{
		0:  {Op: impl.InSet, R: 1, N: 5},
		1:  {Op: impl.InSet, R: 2, N: 7},
		2:  {Op: impl.InJump, N: 6},
		3:  {Op: impl.InSet, R: 1, N: 9},
		4:  {Op: impl.InSet, R: 2, N: 60},
		5:  {Op: impl.InJump, N: 6},
		6:  {Op: impl.InZero, A: 1, N: 11},
		7:  {Op: impl.InSwap, R: 3, B: 2, N: 20},
		8:  {Op: impl.InSet, R: 3, N: 1},
		9:  {Op: impl.InSub, R: 1, A: 1, B: 3},
		10: {Op: impl.InJump, N: 6},
		11: {Op: impl.InHalt},
	})
	want[20] = 1000
	wantAssembled(t, addingText(5, 7, 9, 60, 1000), want...)
}

// addingCases are programs that are assembled, and what each kind of hart adds.
var addingCases = []struct{ times, number, otherTimes, otherNumber, first int }{
	{1, 1, 1, 1, 0}, {5, 7, 9, 60, 1000}, {0, 9, 12, 10, 65535}, {10, 63, 0, 1, 65000}, {3, 0, 4, 1, 9}, {6, 9, 6, 10, 65535},
}

// wantAllAdded asks of a flock of harts that began at 0 and 3 by turns that each came
// to its end and that all that they added is there.
func wantAllAdded(t *testing.T, f impl.Flock, mem []int, sum int) {
	t.Helper()
	wantMemory(t, f.World, withWord(mem, 20, sum%65536))
	for id, c := range f.Cores {
		if text := impl.HartText(c.Hart); !strings.HasPrefix(text, "halt 11 0 0 ") {
			t.Errorf("hart %d is %q", id, text)
		}
	}
}

// Programs that are assembled and run to their end by Rounds, and by rows of deeds on
// a bad net ahead of these: nothing that is added is lost.
func TestNothingThatIsAddedByAssembledProgramsIsLost(t *testing.T) {
	t.Parallel()
	starts := []int{0, 3, 0, 3}
	for i, c := range addingCases {
		mem, ok := impl.Assemble(addingText(c.times, c.number, c.otherTimes, c.otherNumber, c.first))
		if !ok {
			t.Fatal("not assembled:", c)
		}
		for size := 1; size <= impl.MaxNodes; size++ {
			sum := c.first + (size+1)/2*c.times*c.number + size/2*c.otherTimes*c.otherNumber
			for row := range 3 {
				r := rand.New(rand.NewSource(int64(1650 + 100*row + 10*i + size)))
				p := briskRow(t, r, size, mem, starts, 200*row)
				for rounds := 0; impl.Running(p.f) > 0; rounds++ {
					if rounds > 100 {
						t.Fatal("they don't come to an end:", p.f)
					}
					got := rounded(p.f, 1+r.Intn(20))
					p.f, p.order = got.Flock, append(p.order, got.Order...)
				}
				wantAllAdded(t, p.f, mem, sum)
				p.wantOneMemory(mem)
			}
		}
	}
}

// The same by deeds alone, none of them calm.
func TestAssembledProgramsOnABadNetAlone(t *testing.T) {
	t.Parallel()
	for size := 1; size <= impl.MaxNodes; size++ {
		for seed := range 3 {
			r := rand.New(rand.NewSource(int64(1680 + 10*seed + size)))
			mem, _ := impl.Assemble(addingText(2, 10, 3, 63, 65500))
			p := newRow(t, size, mem, []int{0, 3, 0, 3})
			for done := 0; impl.Running(p.f) > 0; done++ {
				if done > 20000 {
					t.Fatal("they don't come to an end:", p.f)
				}
				p.do(briskDeed(r, p.f))
			}
			wantAllAdded(t, p.f, mem, 65500+(size+1)/2*20+size/2*189)
			p.wantOneMemory(mem)
		}
	}
}

// On one flat memory, whoever goes on when.
func TestAssembledProgramsOnOneFlatMemory(t *testing.T) {
	r := rand.New(rand.NewSource(1690))
	for _, c := range addingCases {
		mem, _ := impl.Assemble(addingText(c.times, c.number, c.otherTimes, c.otherNumber, c.first))
		for count := range 7 {
			g := flatRun{Mem: mem}
			sum := c.first
			for who := range count {
				g.Harts = append(g.Harts, impl.HartNew(who%2*3))
				sum += [2]int{c.times * c.number, c.otherTimes * c.otherNumber}[who%2]
			}
			for range 2000 {
				g.Order = append(g.Order, r.Intn(count+1))
			}
			then := ran(g)
			if want := withWord(mem, 20, sum%65536); !slices.Equal(then.Mem, want) {
				t.Errorf("%v by %d harts: %v, not %v", c, count, then.Mem, want)
			}
			for _, h := range then.Harts {
				if text := impl.HartText(h); !strings.HasPrefix(text, "halt 11 0 0 ") {
					t.Errorf("%v by %d harts: %q", c, count, text)
				}
			}
		}
	}
}

// textAsked is what the functions of the chapter are asked, and textAnswers what
// they answer.
type textAsked struct {
	Place impl.Ins
	Line  string
	Text  string
	Hart  impl.Hart
}

type textAnswers struct {
	Text      string
	Place     impl.Ins
	Read      bool
	Mem       []int
	Assembled bool
	Hart      string
}

func askText(q textAsked) textAnswers {
	var a textAnswers
	a.Text = impl.InsText(q.Place)
	a.Place, a.Read = impl.InsRead(q.Line)
	a.Mem, a.Assembled = impl.Assemble(q.Text)
	a.Hart = impl.HartText(q.Hart)
	return a
}

// textsAsked are of all sorts: such as have an answer, and such as have none.
func textsAsked() []textAsked {
	var list []textAsked
	harts := slices.Concat(runningHarts(), idleHarts(), wrongHarts())
	wrong := wrongPlaces()
	for i, line := range plainTexts() {
		x, _ := impl.InsRead(line)
		h := harts[i*7%len(harts)]
		list = append(list,
			textAsked{x, line, line + "\n65535\n" + line, h},
			textAsked{wrong[i*5%len(wrong)], line + " ", line + "\n" + noWords[i%len(noWords)], harts[i*11%len(harts)]},
			textAsked{x, noWords[i*3%len(noWords)], strings.Repeat(line+"\n", 23+i%3), h},
		)
	}
	return append(list, textAsked{}, textAsked{Text: addingText(5, 7, 9, 60, 1000), Hart: impl.HartNew(23)})
}

// firstAsked and firstTexts are asked ahead of all tests, by several at once: later
// on, whoever asks finds the words made already.
var (
	firstAsked = textAsked{impl.Ins{Op: impl.InSub, R: 3, A: 2, B: 1}, "swap r3 r0 r1 20", "jump 63\n65535\nzero r2 7", impl.Hart{Regs: []int{1, 20, 300, 65535}, Pc: 23, State: impl.HtFault}}
	firstTexts = askFirst(16)
)

func askFirst(count int) []textAnswers {
	list := make([]textAnswers, count)
	begin, done := make(chan bool), make(chan bool)
	for i := range list {
		go func() {
			<-begin
			// Not all of them ask for the same words first.
			if i%2 == 0 {
				impl.HartText(firstAsked.Hart)
			}
			list[i] = askText(firstAsked)
			done <- true
		}()
	}
	close(begin)
	for range list {
		<-done
	}
	return list
}

func TestTheFirstTextsOfAll(t *testing.T) {
	want := textAnswers{"sub r3 r2 r1", impl.Ins{Op: impl.InSwap, R: 3, B: 1, N: 20}, true, append([]int{jumpWord, 65535, zeroWord}, make([]int, 21)...), true, "fault 23 1 20 300 65535"}
	for _, got := range append(slices.Clone(firstTexts), askText(firstAsked)) {
		if !reflect.DeepEqual(got, want) {
			t.Errorf("%+v, not %+v", got, want)
		}
	}
	wantNew(t, firstTexts, firstAsked)
}

// readersOf are the functions of the program that name something, in order.
func readersOf(files []*ast.File, name string) []string {
	var list []string
	for _, file := range files {
		for _, d := range file.Decls {
			f, ok := d.(*ast.FuncDecl)
			if !ok {
				continue
			}
			ast.Inspect(f, func(n ast.Node) bool {
				if id, ok := n.(*ast.Ident); ok && id.Name == name {
					list = append(list, f.Name.Name)
				}
				return true
			})
		}
	}
	slices.Sort(list)
	return slices.Compact(list)
}

// keptIn are the variables of a file that stand there without a value of their own:
// they are filled by a call, and kept.
func keptIn(file *ast.File) []string {
	var list []string
	for _, d := range file.Decls {
		g, ok := d.(*ast.GenDecl)
		if !ok || g.Tok != token.VAR {
			continue
		}
		for _, s := range g.Specs {
			if v := s.(*ast.ValueSpec); len(v.Values) == 0 {
				for _, name := range v.Names {
					list = append(list, name.Name)
				}
			}
		}
	}
	return list
}

// All that is kept from call to call is the words that are made once, and one exported
// function alone reads them.
func TestWhatIsKeptOfTexts(t *testing.T) {
	paths, _ := filepath.Glob("../impl/*.go")
	var files []*ast.File
	var kept []string
	for _, path := range paths {
		file, err := parser.ParseFile(token.NewFileSet(), path, nil, 0)
		if err != nil {
			t.Fatal(err)
		}
		files, kept = append(files, file), append(kept, keptIn(file)...)
	}
	if len(files) != 17 || !slices.Equal(kept, []string{"wordsMade", "stateWords"}) {
		t.Error("of", len(files), "files these are kept:", kept)
	}
	for name, want := range map[string][]string{"wordsMade": {"HartText"}, "stateWords": {"HartText", "makeWords"}, "makeWords": {"HartText", "makeWords"}, "HartText": {"HartText"}} {
		if got := readersOf(files, name); !slices.Equal(got, want) {
			t.Errorf("%s is named by %v, not by %v", name, got, want)
		}
	}
}

func TestTextAnswersAreNewMemory(t *testing.T) {
	for _, q := range textsAsked() {
		given := roomy(q)
		before := whole(given)
		wantNew(t, []textAnswers{askText(given), askText(given)}, given)
		wantUnwritten(t, given, before)
	}
}

// Whatever becomes of what was handed in, or of an answer, another answer is as it
// was; and nothing is kept from one call to another.
func TestTextsAreAnsweredTheSameAgain(t *testing.T) {
	asked := textsAsked()
	var first []textAnswers
	for _, q := range asked {
		first = append(first, askText(q))
	}
	kept := cloneOf(first)
	for i := len(asked) - 1; i >= 0; i-- {
		for range 3 {
			handed := cloneOf(asked[i])
			again := askText(handed)
			if !reflect.DeepEqual(cloneOf(again), kept[i]) {
				t.Fatalf("%+v is answered by %+v, and again by %+v", asked[i], kept[i], again)
			}
			clear(handed.Hart.Regs)
			if !reflect.DeepEqual(cloneOf(again), kept[i]) {
				t.Fatalf("an answer turned with what was handed in: %+v, before %+v", again, kept[i])
			}
			for at := range again.Mem {
				again.Mem[at] = -7
			}
		}
	}
	if !reflect.DeepEqual(cloneOf(first), kept) {
		t.Error("an answer turned with another one")
	}
}

// Many times over, by several at once.
func TestTextsAreTheSameManyTimesOver(t *testing.T) {
	asked := textsAsked()
	var want []textAnswers
	for _, q := range asked {
		want = append(want, askText(q))
	}
	before := whole(asked)
	wrong := make(chan string, 8)
	for who := range cap(wrong) {
		go func() {
			for i := range 40 * len(asked) {
				at := (i*(2*who+1) + who) % len(asked)
				if got := askText(asked[at]); !reflect.DeepEqual(got, want[at]) {
					wrong <- fmt.Sprintf("%+v is answered by %+v, and was by %+v", asked[at], got, want[at])
					return
				}
			}
			wrong <- ""
		}()
	}
	for range cap(wrong) {
		if what := <-wrong; what != "" {
			t.Error(what)
		}
	}
	wantUnwritten(t, asked, before)
}

// Whatever is handed in: an answer, and no panic.
func TestTextsAnswerAtAnyArguments(t *testing.T) {
	r := rand.New(rand.NewSource(1695))
	odd := append([]int{0, 1, 2, 3, 4, 9, 10, 11, 23, 24, 63, 64, 65535, 65536}, farNumbers...)
	number := func() int { return odd[r.Intn(len(odd))] }
	pieces := append([]string{"\n", " ", "r", "0", "63", "\xff", "é", "\x00", "\xe2\x82"}, append(noWords, opTexts[:]...)...)
	count := map[string]int{}
	for range 100000 {
		q := textAsked{Place: impl.Ins{Op: r.Intn(13) - 1, R: r.Intn(3) * r.Intn(2), A: r.Intn(3) * r.Intn(2), B: r.Intn(3) * r.Intn(2), N: number()}}
		for range r.Intn(6) {
			q.Line += pieces[r.Intn(len(pieces))]
			q.Text += pieces[r.Intn(len(pieces))]
		}
		if r.Intn(2) == 0 {
			q.Line = drawnLine(r)
			q.Text += q.Line + "\n"
		}
		q.Hart = inState(hartAt(number(), number(), number(), number()), number())
		if r.Intn(4) > 0 {
			q.Hart = inState(hartAt(r.Intn(25), r.Intn(65540), number(), 5, 6), r.Intn(4))
		}
		a := askText(q)
		if (a.Text != "") != impl.InsOk(q.Place) || (a.Hart != "") != impl.HartOk(q.Hart) || a.Assembled != (len(a.Mem) == 24) || !a.Assembled && len(a.Mem) != 0 {
			t.Fatalf("%+v is answered by %+v", q, a)
		}
		if a.Read != (a.Place != impl.Ins{}) || a.Read && impl.InsText(a.Place) != q.Line {
			t.Fatalf("%q is read as %+v, %v", q.Line, a.Place, a.Read)
		}
		for what, has := range map[string]bool{"place": a.Text != "", "line": a.Read, "text": a.Assembled && q.Text != "", "hart": a.Hart != ""} {
			if has {
				count[what]++
			}
		}
	}
	if count["place"] < 100 || count["line"] < 100 || count["text"] < 100 || count["hart"] < 100 {
		t.Error("too few of a kind to tell anything:", count)
	}
}
