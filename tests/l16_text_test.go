package tests

import (
	"slices"
	"strconv"
	"strings"
	"testing"

	"loop.example/g00281/impl"
)

// What stands here is of the part of chapter 16 by which programs are read.

var insTexts = map[string]impl.Ins{
	"set r0 0":         {Op: impl.InSet},
	"set r3 63":        {Op: impl.InSet, R: 3, N: 63},
	"add r1 r2 r3":     {Op: impl.InAdd, R: 1, A: 2, B: 3},
	"more r1 r2 10":    {Op: impl.InMore, R: 1, A: 2, N: 10},
	"load r2 r0 7":     {Op: impl.InLoad, R: 2, N: 7},
	"store r1 r2 20":   {Op: impl.InStore, A: 1, B: 2, N: 20},
	"swap r3 r0 r1 20": {Op: impl.InSwap, R: 3, B: 1, N: 20},
	"zero r2 6":        {Op: impl.InZero, A: 2, N: 6},
	"jump 2":           {Op: impl.InJump, N: 2},
	"halt":             {Op: impl.InHalt},
	"sub r3 r2 r1":     {Op: impl.InSub, R: 3, A: 2, B: 1},
}

func wantText(t *testing.T, x impl.Ins, text string) {
	t.Helper()
	if got := impl.InsText(x); got != text {
		t.Errorf("InsText(%+v) is %q, not %q", x, got, text)
	}
	if got, ok := impl.InsRead(text); !ok || got != x {
		t.Errorf("InsRead(%q) is %+v, %v, not %+v", text, got, ok, x)
	}
}

func wantUnread(t *testing.T, line string) {
	t.Helper()
	if got, ok := impl.InsRead(line); ok || got != (impl.Ins{}) {
		t.Errorf("InsRead(%q) is %+v, %v", line, got, ok)
	}
}

func TestPlacesAsText(t *testing.T) {
	for text, x := range insTexts {
		wantText(t, x, text)
	}
	seen := map[string]impl.Ins{}
	for _, o := range insOps {
		for x := range placesOf(o) {
			text := impl.InsText(x)
			if other, twice := seen[text]; twice || text == "" {
				t.Fatalf("%+v and %+v are both %q", x, other, text)
			}
			seen[text] = x
			wantText(t, x, text)
		}
	}
	for _, x := range append(wrongPlaces(), impl.Ins{}) {
		if got := impl.InsText(x); got != "" {
			t.Errorf("InsText(%+v) is %q", x, got)
		}
	}
}

// Lines that are those of a place but for one thing.
func TestLinesThatAreNoPlaces(t *testing.T) {
	for text := range insTexts {
		for _, line := range []string{
			text + " ", " " + text, text + "\n", text + " 0", text + " r0", strings.ToUpper(text), text[1:], text[:2] + text,
			text + "\x00", text + "\r", strings.Replace(text, " ", "  ", 1) + "x", "\t" + text, text + "0000000000000000000000",
		} {
			wantUnread(t, line)
		}
		if at := strings.LastIndexByte(text, ' '); at >= 0 {
			wantUnread(t, text[:at])
			wantUnread(t, text[:at+1])
			wantUnread(t, text[:at]+"\t"+text[at+1:])
			for _, number := range []string{"64", "-1", "+1", "01", "007", "r4", "r-1", "r00", "r", "rr1", "R1", "1r", "x", "1.0", "٣", "99999999999999999999"} {
				wantUnread(t, text[:at+1]+number)
			}
		}
	}
	for _, line := range []string{"", " ", "\n", "nothing", "set", "set 1 r1", "set 1 1", "set r1 r1", "jump r1", "add r1 r2 3", "zero 1 1", "load r1 1 1", "halts", "hal", "5", "\xff"} {
		wantUnread(t, line)
	}
}

func wantAssembled(t *testing.T, text string, words ...int) {
	t.Helper()
	want := append(slices.Clone(words), make([]int, 24-len(words))...)
	one, ok := impl.Assemble(text)
	two, again := impl.Assemble(text)
	if !ok || !again || !slices.Equal(one, want) || !slices.Equal(two, want) {
		t.Errorf("Assemble(%q) is %v, %v, not %v", text, one, ok, want)
	}
	wantNew(t, [][]int{one, two}, nil)
}

func wantNotAssembled(t *testing.T, text string) {
	t.Helper()
	if got, ok := impl.Assemble(text); ok || len(got) != 0 {
		t.Errorf("Assemble(%q) is %v, %v", text, got, ok)
	}
}

func TestAssemble(t *testing.T) {
	wantAssembled(t, "")
	wantAssembled(t, "0", 0)
	wantAssembled(t, "65535", 65535)
	wantAssembled(t, "halt", haltWord)
	wantAssembled(t, "halt\n", haltWord)
	wantAssembled(t, "7\nhalt\n10\n", 7, haltWord, 10)
	wantAssembled(t, "set r1 1\n0\njump 1", sumOf(impl.Ins{Op: 1, R: 1, N: 1}), 0, sumOf(impl.Ins{Op: 8, N: 1}))
	for text, x := range insTexts {
		wantAssembled(t, "3\n"+text+"\n5", 3, sumOf(x), 5)
	}
	for _, bad := range []string{"\n", "\n\n", "halt\n\n", "\nhalt", "5\n\n5", " 5", "5 ", "05", "00", "-0", "+5", "-1", "65536", "99999999999999999999", "5\r\n6", "x", "0x5", "1_0", "5.0", "٣", "\xff", "halt 5", "halt\x00"} {
		wantNotAssembled(t, bad)
		wantNotAssembled(t, "halt\n"+bad+"\nhalt")
	}
}

// So many lines as there are Cells, and one more.
func TestAssembleByHowMany(t *testing.T) {
	for count := range 30 {
		var lines []string
		var want []int
		for i := range count {
			lines, want = append(lines, strconv.Itoa(i*2700)), append(want, i*2700)
		}
		text := strings.Join(lines, "\n")
		if count > 24 {
			wantNotAssembled(t, text)
			wantNotAssembled(t, text+"\n")
			continue
		}
		wantAssembled(t, text, want...)
		if count > 0 {
			wantAssembled(t, text+"\n", want...)
			wantNotAssembled(t, text+"\n\n")
		}
	}
	wantNotAssembled(t, strings.Repeat("halt\n", 100000))
}
