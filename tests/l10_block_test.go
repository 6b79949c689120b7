package tests

import (
	"math"
	"math/rand"
	"reflect"
	"slices"
	"testing"

	"loop.example/g00281/impl"
)

// Four places that go on, three that End, with their words (chapter 8), written
// out by hand.
var (
	setPlace  = impl.Ins{Op: impl.InSet, R: 2, N: 5}
	addPlace  = impl.Ins{Op: impl.InAdd, R: 1, A: 2, B: 3}
	morePlace = impl.Ins{Op: impl.InMore, R: 3, A: 3, N: 1}
	swapPlace = impl.Ins{Op: impl.InSwap, R: 3, B: 1, N: 20}
	zeroPlace = impl.Ins{Op: impl.InZero, A: 2, N: 7}
	jumpPlace = impl.Ins{Op: impl.InJump, N: 63}
	haltPlace = impl.Ins{Op: impl.InHalt}
	noPlace   = impl.Ins{}
)

const (
	setWord  = 5153
	addWord  = 914
	moreWord = 1267
	swapWord = 20790
	zeroWord = 7303
	jumpWord = 64520
	haltWord = 9
)

var goOnPlaces = []impl.Ins{setPlace, addPlace, morePlace, swapPlace}

var goOnWords = []int{setWord, addWord, moreWord, swapWord}

var endPlaces = []impl.Ins{zeroPlace, jumpPlace, haltPlace}

var endWords = []int{zeroWord, jumpWord, haltWord}

// wordsOfNoPlace are words that Decode to nothing, and numbers that are no
// words, some of which a mask or a turn would take for a place.
var wordsOfNoPlace = append([]int{
	0, 11, 15, 16, 65, 1033, 65534, impl.MaxWord,
	impl.MaxWord + 1, impl.MaxWord + 1 + setWord, impl.MaxWord + 1 + haltWord, setWord - impl.MaxWord - 1, -setWord, 1<<32 + addWord, 1<<62 + jumpWord,
}, farNumbers...)

// noStarts are no addresses; some are what an address is left of.
var noStarts = append([]int{-2, -3, -4, -5, -23, -24, -25, 24, 25, 27, 28, 47, 48, 256, 65536, 1 << 32, -1 << 32, math.MinInt + 8, math.MaxInt - 7}, farNumbers...)

func blockAt(start int, places ...impl.Ins) impl.Block {
	return impl.Block{Start: start, List: places}
}

func sameBlock(a, b impl.Block) bool { return a.Start == b.Start && slices.Equal(a.List, b.List) }

func wantBlock(t *testing.T, list []int, start int, want impl.Block) {
	t.Helper()
	given := roomy(list)
	before := whole(given)
	if got := impl.BlockOf(given, start); !sameBlock(got, want) {
		t.Errorf("BlockOf(%v, %d) is %v, not %v", list, start, got, want)
	}
	wantUnwritten(t, given, before)
}

func wantNoBlock(t *testing.T, list []int, start int) {
	t.Helper()
	wantBlock(t, list, start, impl.Block{})
}

// wantRight asks all that takes a block of one that is BlockOk.
func wantRight(t *testing.T, b impl.Block, page int) {
	t.Helper()
	given := roomy(b)
	before := whole(given)
	if !impl.BlockOk(given) {
		t.Errorf("BlockOk(%v) is false", b)
	}
	if got := impl.PageOf(given); got != page {
		t.Errorf("PageOf(%v) is %d, not %d", b, got, page)
	}
	for i, want := range b.List {
		wantAt(t, given, b.Start+i, want)
	}
	for _, pc := range pcsBeside(b) {
		wantNotAt(t, given, pc)
	}
	wantUnwritten(t, given, before)
}

// wantWrong asks the same of one that is not.
func wantWrong(t *testing.T, b impl.Block) {
	t.Helper()
	given := roomy(b)
	before := whole(given)
	if impl.BlockOk(given) {
		t.Errorf("BlockOk(%v) is true", b)
	}
	if got := impl.PageOf(given); got != -1 {
		t.Errorf("PageOf(%v) is %d, not -1", b, got)
	}
	for i := range b.List {
		wantNotAt(t, given, b.Start+i)
	}
	for _, pc := range append([]int{b.Start, 0, 23}, pcsBeside(b)...) {
		wantNotAt(t, given, pc)
	}
	wantUnwritten(t, given, before)
}

// pcsBeside are places that are not within a block, though some would be with
// an address, a page, or a sum that wraps.
func pcsBeside(b impl.Block) []int {
	end := b.Start + len(b.List)
	list := []int{b.Start - 1, end, end + 1, b.Start - 4, b.Start + 4, b.Start - 24, b.Start + 24, -b.Start - 1, b.Start + 1<<32, b.Start + math.MinInt}
	return append(list, farNumbers...)
}

func wantAt(t *testing.T, b impl.Block, pc int, want impl.Ins) {
	t.Helper()
	if x, ok := impl.At(b, pc); !ok || x != want {
		t.Errorf("At(%v, %d) is %+v, %v, not %+v, true", b, pc, x, ok, want)
	}
}

func wantNotAt(t *testing.T, b impl.Block, pc int) {
	t.Helper()
	if x, ok := impl.At(b, pc); ok || x != noPlace {
		t.Errorf("At(%v, %d) is %+v, %v, not zero and false", b, pc, x, ok)
	}
}

func TestBlockConstants(t *testing.T) {
	if impl.MaxBlock != 4 {
		t.Error("MaxBlock", impl.MaxBlock)
	}
}

// The words of these tests are those of the places beside them.
func TestBlockWords(t *testing.T) {
	for i, x := range append(slices.Clone(goOnPlaces), endPlaces...) {
		word := append(slices.Clone(goOnWords), endWords...)[i]
		if y, ok := impl.Decode(word); !ok || y != x || impl.Ends(x) != (i >= len(goOnPlaces)) {
			t.Errorf("Decode(%d) is %+v, %v, not %+v", word, y, ok, x)
		}
	}
	for _, w := range wordsOfNoPlace {
		wantNoWord(t, w)
	}
}

// Each line was worked out by hand.
func TestBlockOf(t *testing.T) {
	open := []int{setWord, addWord, moreWord, swapWord}
	cases := []struct {
		list  []int
		start int
		want  impl.Block
	}{
		{open, 0, blockAt(0, setPlace, addPlace, morePlace, swapPlace)},
		{open, 1, blockAt(1, addPlace, morePlace, swapPlace)},
		{open, 2, blockAt(2, morePlace, swapPlace)},
		{open, 3, blockAt(3, swapPlace)},
		{open, 4, blockAt(4, setPlace, addPlace, morePlace, swapPlace)},
		{open, 7, blockAt(7, swapPlace)},
		{open, 13, blockAt(13, addPlace, morePlace, swapPlace)},
		{open, 20, blockAt(20, setPlace, addPlace, morePlace, swapPlace)},
		{open, 22, blockAt(22, morePlace, swapPlace)},
		{open, 23, blockAt(23, swapPlace)},
		{[]int{jumpWord, setWord, addWord, moreWord}, 8, blockAt(8, jumpPlace)},
		{[]int{jumpWord, setWord, addWord, moreWord}, 9, blockAt(9, setPlace, addPlace, morePlace)},
		{[]int{setWord, haltWord, addWord, moreWord}, 8, blockAt(8, setPlace, haltPlace)},
		{[]int{setWord, haltWord, addWord, moreWord}, 9, blockAt(9, haltPlace)},
		{[]int{setWord, haltWord, addWord, moreWord}, 10, blockAt(10, addPlace, morePlace)},
		{[]int{setWord, addWord, zeroWord, moreWord}, 12, blockAt(12, setPlace, addPlace, zeroPlace)},
		{[]int{setWord, addWord, zeroWord, moreWord}, 15, blockAt(15, morePlace)},
		{[]int{setWord, addWord, moreWord, zeroWord}, 16, blockAt(16, setPlace, addPlace, morePlace, zeroPlace)},
		{[]int{setWord, addWord, moreWord, haltWord}, 19, blockAt(19, haltPlace)},
		{[]int{zeroWord, jumpWord, haltWord, zeroWord}, 20, blockAt(20, zeroPlace)},
		{[]int{zeroWord, jumpWord, haltWord, zeroWord}, 21, blockAt(21, jumpPlace)},
		{[]int{0, 0, 0, 0}, 0, blockAt(0, noPlace)},
		{[]int{0, 0, 0, 0}, 23, blockAt(23, noPlace)},
		{[]int{-1, setWord, addWord, moreWord}, 4, blockAt(4, noPlace)},
		{[]int{-1, setWord, addWord, moreWord}, 5, blockAt(5, setPlace, addPlace, morePlace)},
		{[]int{setWord, 65536, addWord, moreWord}, 4, blockAt(4, setPlace, noPlace)},
		{[]int{setWord, 65536, addWord, moreWord}, 6, blockAt(6, addPlace, morePlace)},
		{[]int{setWord, addWord, 65536 + setWord, moreWord}, 4, blockAt(4, setPlace, addPlace, noPlace)},
		{[]int{setWord, addWord, moreWord, 11}, 4, blockAt(4, setPlace, addPlace, morePlace, noPlace)},
		{[]int{setWord, addWord, moreWord, -1}, 7, blockAt(7, noPlace)},
		{[]int{setWord, jumpWord, -1, 65536}, 4, blockAt(4, setPlace, jumpPlace)},
	}
	for _, c := range cases {
		wantBlock(t, c.list, c.start, c.want)
		wantRight(t, c.want, c.start/4)
	}
}

// Sorts of words: they go on, they End, they are no place.
const sorts = 3

func wordOfSort(sort, i int) (int, impl.Ins) {
	switch sort {
	case 0:
		return goOnWords[i%len(goOnWords)], goOnPlaces[i%len(goOnPlaces)]
	case 1:
		return endWords[i%len(endWords)], endPlaces[i%len(endPlaces)]
	}
	return wordsOfNoPlace[i%len(wordsOfNoPlace)], noPlace
}

// pageOfSorts is a page of that pattern, and what stands in it; which word of
// its sort each is turns with salt.
func pageOfSorts(pattern [4]int, salt int) ([]int, []impl.Ins) {
	var list []int
	var places []impl.Ins
	for i, sort := range pattern {
		w, x := wordOfSort(sort, i+salt)
		list, places = append(list, w), append(places, x)
	}
	return list, places
}

func allPatterns() [][4]int {
	var list [][4]int
	for n := range sorts * sorts * sorts * sorts {
		list = append(list, [4]int{n % 3, n / 3 % 3, n / 9 % 3, n / 27})
	}
	return list
}

// endOfBlock is the place behind the first of a page, from a place on, that
// does not go on; 4 where all do.
func endOfBlock(pattern [4]int, from int) int {
	for at := from; at < 4; at++ {
		if pattern[at] != 0 {
			return at + 1
		}
	}
	return 4
}

// Every start with every pattern of what goes on, Ends and is no place.
func TestBlockOfEveryStart(t *testing.T) {
	for start := range impl.Cells {
		from := start % 4
		for i, pattern := range allPatterns() {
			for salt := range 4 {
				list, places := pageOfSorts(pattern, i+salt)
				want := blockAt(start, places[from:endOfBlock(pattern, from)]...)
				wantBlock(t, list, start, want)
				wantRight(t, want, start/4)
			}
		}
	}
}

func TestBlockOfEveryWordOfNoPlace(t *testing.T) {
	for _, w := range wordsOfNoPlace {
		for start := range impl.Cells {
			for at := range 4 {
				list, places := slices.Clone(goOnWords), slices.Clone(goOnPlaces)
				list[at], places[at] = w, noPlace
				end := 4
				if at >= start%4 {
					end = at + 1
				}
				wantBlock(t, list, start, blockAt(start, places[start%4:end]...))
			}
		}
	}
}

// At the last address of a page the block has one place, whatever stands there.
func TestBlockOfTheLastAddressOfAPage(t *testing.T) {
	for page := range impl.Pages {
		for w := range impl.MaxWord + 1 {
			x, _ := impl.Decode(w)
			b := impl.BlockOf([]int{haltWord, setWord, 0, w}, 4*page+3)
			if !sameBlock(b, blockAt(4*page+3, x)) || !impl.BlockOk(b) {
				t.Errorf("BlockOf at %d of %d is %v", 4*page+3, w, b)
			}
		}
	}
}

func TestBlockOfNoAddress(t *testing.T) {
	for _, start := range noStarts {
		for i, pattern := range allPatterns() {
			list, _ := pageOfSorts(pattern, i)
			wantNoBlock(t, list, start)
		}
		wantNoBlock(t, nil, start)
		wantNoBlock(t, make([]int, 24), start)
	}
}

// Also where so many words reach as far as the start, or go round to it.
func TestBlockOfNotSoManyWords(t *testing.T) {
	for _, count := range []int{0, 1, 2, 3, 5, 6, 7, 8, 12, 23, 24, 25} {
		for start := range impl.Cells {
			for _, w := range []int{setWord, haltWord, 0, -1, 65536} {
				wantNoBlock(t, slices.Repeat([]int{w}, count), start)
			}
		}
	}
	wantNoBlock(t, nil, 0)
	wantNoBlock(t, []int{}, 0)
	wantBlock(t, []int{setWord, setWord, setWord, setWord}, 23, blockAt(23, setPlace))
}

func TestBlockOkOfRightBlocks(t *testing.T) {
	for page := range impl.Pages {
		start := 4 * page
		for _, end := range append([]impl.Ins{noPlace, setPlace, swapPlace}, endPlaces...) {
			wantRight(t, blockAt(start, end), page)
			wantRight(t, blockAt(start, addPlace, end), page)
			wantRight(t, blockAt(start, addPlace, setPlace, end), page)
			wantRight(t, blockAt(start, addPlace, setPlace, morePlace, end), page)
			wantRight(t, blockAt(start+1, addPlace, setPlace, end), page)
			wantRight(t, blockAt(start+2, addPlace, end), page)
			wantRight(t, blockAt(start+2, end), page)
			wantRight(t, blockAt(start+3, end), page)
		}
	}
}

// No word of the chapter asks that the last one Ends, nor that the page does.
func TestBlockOkWhereNothingEnds(t *testing.T) {
	for start := range impl.Cells {
		for count := 1; count <= 4-start%4; count++ {
			wantRight(t, blockAt(start, goOnPlaces[:count]...), start/4)
		}
	}
}

func TestBlockOkOfWrongStarts(t *testing.T) {
	for _, start := range noStarts {
		for count := range 5 {
			wantWrong(t, blockAt(start, goOnPlaces[:count]...))
		}
		wantWrong(t, blockAt(start, haltPlace))
		wantWrong(t, blockAt(start, noPlace))
	}
}

// As many places as the page has from the start on, and one more, and many.
func TestBlockOkOfWrongCounts(t *testing.T) {
	for start := range impl.Cells {
		wantWrong(t, blockAt(start))
		wantWrong(t, impl.Block{Start: start, List: []impl.Ins{}})
		left := 4 - start%4
		wantRight(t, blockAt(start, slices.Repeat([]impl.Ins{setPlace}, left)...), start/4)
		for _, count := range []int{left + 1, left + 2, 5, 6, 8, 24, 1000} {
			list := slices.Repeat([]impl.Ins{setPlace}, count)
			wantWrong(t, blockAt(start, list...))
			list[count-1] = haltPlace
			wantWrong(t, blockAt(start, list...))
			list[count-1] = noPlace
			wantWrong(t, blockAt(start, list...))
		}
	}
	wantWrong(t, impl.Block{})
}

func TestBlockOkWithWhatEndsAheadOfTheLast(t *testing.T) {
	for page := range impl.Pages {
		for _, x := range append([]impl.Ins{noPlace}, endPlaces...) {
			for _, last := range []impl.Ins{setPlace, haltPlace, jumpPlace, zeroPlace, noPlace, x} {
				start := 4 * page
				wantWrong(t, blockAt(start, x, last))
				wantWrong(t, blockAt(start, x, setPlace, last))
				wantWrong(t, blockAt(start, setPlace, x, last))
				wantWrong(t, blockAt(start, x, setPlace, addPlace, last))
				wantWrong(t, blockAt(start, setPlace, x, addPlace, last))
				wantWrong(t, blockAt(start, setPlace, addPlace, x, last))
				wantWrong(t, blockAt(start, x, x, x, last))
				wantWrong(t, blockAt(start+2, x, last))
			}
		}
	}
}

// Every place that is neither InsOk nor zero, wherever it stands; also such of
// an op that Ends.
func TestBlockOkWithWrongPlaces(t *testing.T) {
	seen := 0
	for i, x := range wrongPlaces() {
		if x == noPlace {
			continue
		}
		seen++
		start := 4 * (i % impl.Pages)
		wantWrong(t, blockAt(start, x))
		wantWrong(t, blockAt(start+3, x))
		wantWrong(t, blockAt(start, setPlace, x))
		wantWrong(t, blockAt(start, x, setPlace))
		wantWrong(t, blockAt(start, setPlace, addPlace, morePlace, x))
		wantWrong(t, blockAt(start, setPlace, x, morePlace, haltPlace))
		wantWrong(t, blockAt(start, x, noPlace))
	}
	for i := range insFields {
		for _, n := range []int{1, -1, math.MaxInt, math.MinInt} {
			wantWrong(t, blockAt(0, withField(noPlace, insFields[i], n)))
			wantWrong(t, blockAt(5, setPlace, withField(noPlace, insFields[i], n)))
		}
	}
	if seen < 500 {
		t.Error("too few wrong places to tell anything:", seen)
	}
}

func TestBlockOkWithEveryRightPlace(t *testing.T) {
	for _, o := range insOps {
		for x := range placesOf(o) {
			start := x.N % impl.Cells
			if !impl.BlockOk(blockAt(start, x)) {
				t.Errorf("BlockOk of %+v alone is false", x)
			}
			if start%4 != 3 && impl.BlockOk(blockAt(start, x, setPlace)) == o.ends {
				t.Errorf("BlockOk of %+v ahead of the last is %v", x, o.ends)
			}
		}
	}
}

// rightByWords is BlockOk as the document has it, one thing behind the other.
func rightByWords(b impl.Block) bool {
	if b.Start < 0 || b.Start > 23 {
		return false
	}
	if len(b.List) < 1 || len(b.List) > 4 || b.Start%4+len(b.List) > 4 {
		return false
	}
	for i, x := range b.List {
		if impl.Ends(x) && i+1 < len(b.List) {
			return false
		}
		if !impl.InsOk(x) && x != (impl.Ins{}) {
			return false
		}
	}
	return true
}

// Every list of up to five of what goes on, Ends, is zero and is wrong.
func TestBlockOkAsTheWordsGo(t *testing.T) {
	alphabet := []impl.Ins{setPlace, haltPlace, noPlace, {Op: impl.InSet, R: 4}}
	lists := [][]impl.Ins{nil}
	for from, count := 0, 1; count <= 5; count++ {
		end := len(lists)
		for _, list := range lists[from:end] {
			for _, x := range alphabet {
				lists = append(lists, append(slices.Clone(list), x))
			}
		}
		from = end
	}
	if len(lists) != 1+4+16+64+256+1024 {
		t.Fatal("lists", len(lists))
	}
	starts := slices.Clone(noStarts)
	for start := range impl.Cells {
		starts = append(starts, start)
	}
	right := 0
	for _, start := range starts {
		for _, list := range lists {
			b := blockAt(start, list...)
			want := rightByWords(b)
			if impl.BlockOk(b) != want {
				t.Errorf("BlockOk(%v) is not %v", b, want)
			}
			if want {
				right++
			}
		}
	}
	// Of 1, 2, 3 and 4 places there are three lists each, by what is last; of a
	// page's starts 4, 3, 2 and 1 have room for so many.
	if right != 6*3*(4+3+2+1) {
		t.Error("right blocks:", right)
	}
}

func TestAtWithinABlock(t *testing.T) {
	b := blockAt(9, setPlace, addPlace, noPlace)
	wantNotAt(t, b, 8)
	wantAt(t, b, 9, setPlace)
	wantAt(t, b, 10, addPlace)
	wantAt(t, b, 11, noPlace)
	wantNotAt(t, b, 12)
	for pc := -60; pc <= 60; pc++ {
		if pc < 9 || pc > 11 {
			wantNotAt(t, b, pc)
		}
	}
	for _, pc := range append([]int{math.MinInt + 9, math.MinInt + 10, math.MaxInt - 9, 9 + 1<<32, 10 - 1<<32, 9 + 65536}, farNumbers...) {
		wantNotAt(t, b, pc)
	}
}

// An address behind the last one is not the first one again.
func TestAtAtBothEndsOfTheMemory(t *testing.T) {
	first, last := blockAt(0, goOnPlaces...), blockAt(23, swapPlace)
	wantNotAt(t, first, -1)
	wantAt(t, first, 0, setPlace)
	wantAt(t, first, 3, swapPlace)
	wantNotAt(t, first, 4)
	wantNotAt(t, first, 24)
	wantNotAt(t, last, 22)
	wantAt(t, last, 23, swapPlace)
	wantNotAt(t, last, 24)
	wantNotAt(t, last, 0)
	wantNotAt(t, last, -1)
}

func TestPageOfEachPage(t *testing.T) {
	for page, starts := range [][2]int{{0, 3}, {4, 7}, {8, 11}, {12, 15}, {16, 19}, {20, 23}} {
		wantRight(t, blockAt(starts[0], goOnPlaces...), page)
		wantRight(t, blockAt(starts[0], haltPlace), page)
		wantRight(t, blockAt(starts[0]+1, setPlace, addPlace, jumpPlace), page)
		wantRight(t, blockAt(starts[0]+2, zeroPlace), page)
		wantRight(t, blockAt(starts[1], setPlace), page)
		wantRight(t, blockAt(starts[1], noPlace), page)
		wantWrong(t, blockAt(starts[0], haltPlace, setPlace))
		wantWrong(t, blockAt(starts[1], setPlace, setPlace))
	}
}

func pageWords(mem []int, address int) []int {
	page := address / 4
	return mem[4*page : 4*page+4]
}

// The promise: of any memory, at any address, a block is right, and what it
// tells at each address is what stands there, up to and with what Ends.
func TestWhatIsTakenApartIsWhatStandsThere(t *testing.T) {
	r := rand.New(rand.NewSource(10))
	counts := [5]int{}
	for range 3000 {
		mem := drawnMemory(r)
		for start := range impl.Cells {
			b := impl.BlockOf(pageWords(mem, start), start)
			if !impl.BlockOk(b) || b.Start != start || impl.PageOf(b) != start/4 {
				t.Fatalf("BlockOf at %d of %v is %v, of page %d", start, mem, b, impl.PageOf(b))
			}
			within := true
			for pc := range impl.Cells {
				x, ok := impl.At(b, pc)
				stands, _ := impl.Decode(mem[pc])
				if want := within && pc >= start && pc/4 == start/4; ok != want {
					t.Fatalf("At(%v, %d) is %v, of %v", b, pc, ok, mem)
				}
				if ok && x != stands || !ok && x != noPlace {
					t.Fatalf("At(%v, %d) is %+v, and %+v stands there", b, pc, x, stands)
				}
				within = within && (pc < start || !impl.Ends(stands))
			}
			counts[len(b.List)]++
		}
	}
	if slices.Min(counts[1:]) < 1000 {
		t.Error("too few blocks of some length to tell anything:", counts)
	}
}

// A hart that does what blocks tell goes as one on the flat memory, also where
// it writes over what it is about to do.
func TestABlockTellsWhatAStepDoes(t *testing.T) {
	r := rand.New(rand.NewSource(100))
	steps := 0
	for range 2000 {
		f := flat{drawnMemory(r), drawnHart(r)}
		for range 20 {
			pc := f.Hart.Pc
			from := pc/4*4 + r.Intn(pc%4+1)
			x, ok := impl.At(impl.BlockOf(pageWords(f.Mem, from), from), pc)
			if !ok {
				x, ok = impl.At(impl.BlockOf(pageWords(f.Mem, pc), pc), pc)
			}
			if !ok {
				t.Fatalf("no block of %v tells of %d", f.Mem, pc)
			}
			got := 0
			if at := impl.Target(x, f.Hart.Regs); at >= 0 {
				got = f.Mem[at]
			}
			h, _ := impl.Work(f.Hart, x, got)
			next := stepped(f)
			if !sameHart(h, next.Hart) {
				t.Fatalf("by a block %+v makes %v of %v, on the memory %v", x, h, f.Hart, next.Hart)
			}
			f = next
			steps++
			if h.State != impl.HtRun {
				break
			}
		}
	}
	if steps < 4000 {
		t.Error("too few steps to tell anything:", steps)
	}
}

// blocksOfAllSorts are such that are BlockOk, and such that are not.
func blocksOfAllSorts() []impl.Block {
	list := []impl.Block{{}, {List: []impl.Ins{}}, blockAt(3, setPlace, setPlace), blockAt(0, haltPlace, setPlace), blockAt(0, impl.Ins{Op: 11}), blockAt(0, noPlace, noPlace)}
	for _, start := range append([]int{0, 1, 6, 11, 20, 23, 24}, farNumbers...) {
		for count := range 6 {
			list = append(list, blockAt(start, slices.Repeat([]impl.Ins{morePlace}, count)...))
		}
		list = append(list, blockAt(start, setPlace, jumpPlace), blockAt(start, noPlace), blockAt(start, haltPlace))
	}
	return list
}

// A page and the start that is asked for in it.
type paged struct {
	Words []int
	Start int
}

func pagesOfAllSorts() []paged {
	var list []paged
	for i, pattern := range allPatterns() {
		words, _ := pageOfSorts(pattern, i)
		for _, start := range append([]int{i % 24, (i + 5) % 24, 24}, farNumbers...) {
			list = append(list, paged{words, start}, paged{words[:i%4], start}, paged{append(slices.Clone(words), 1), start})
		}
	}
	return list
}

func TestBlocksAreNewMemory(t *testing.T) {
	for _, p := range pagesOfAllSorts() {
		given := roomy(p)
		before := whole(given)
		a, b := impl.BlockOf(given.Words, given.Start), impl.BlockOf(given.Words, given.Start)
		wantNew(t, []impl.Block{a, b}, given)
		wantUnwritten(t, given, before)
		// Whatever becomes of the words, or of an answer, the other answer is as it was.
		kept := cloneOf(b)
		for i := range given.Words {
			given.Words[i] = haltWord
		}
		for i := range a.List {
			a.List[i] = impl.Ins{Op: -5}
		}
		_ = append(a.List, haltPlace)
		if !sameBlock(b, kept) {
			t.Errorf("a block turned with another one's list: %v, %v", b, kept)
		}
	}
}

func TestBlocksAreNotWrittenInto(t *testing.T) {
	for _, b := range blocksOfAllSorts() {
		given := roomy(b)
		before := whole(given)
		impl.BlockOk(given)
		impl.PageOf(given)
		for pc := -2; pc <= 26; pc++ {
			impl.At(given, pc)
		}
		for _, pc := range farNumbers {
			impl.At(given, pc)
		}
		wantUnwritten(t, given, before)
	}
}

// blockAnswers are what the functions of the chapter answer of one page and one
// block.
type blockAnswers struct {
	block impl.Block
	ok    bool
	page  int
	at    []impl.Ins
	is    []bool
}

func askBlocks(p paged, b impl.Block) blockAnswers {
	var a blockAnswers
	a.block = impl.BlockOf(p.Words, p.Start)
	a.ok = impl.BlockOk(b)
	a.page = impl.PageOf(b)
	for pc := -1; pc <= 24; pc++ {
		x, is := impl.At(b, pc)
		a.at, a.is = append(a.at, x), append(a.is, is)
	}
	return a
}

// Nothing is kept: what was asked ahead of a call, and what was done to its
// answer, is not seen in the next answer.
func TestBlocksAreAnsweredTheSameAgain(t *testing.T) {
	pages, blocks := pagesOfAllSorts(), blocksOfAllSorts()
	var first []blockAnswers
	for i, p := range pages {
		first = append(first, askBlocks(p, blocks[i%len(blocks)]))
	}
	for i := len(pages) - 1; i >= 0; i-- {
		for range 2 {
			again := askBlocks(pages[i], blocks[i%len(blocks)])
			if !reflect.DeepEqual(again, first[i]) {
				t.Errorf("%v and %v are answered by %v, and again by %v", pages[i], blocks[i%len(blocks)], first[i], again)
			}
			clear(again.block.List)
		}
	}
}

// Whatever is handed in: an answer, as the words go, and no panic.
func TestBlocksAnswerAtAnyArguments(t *testing.T) {
	r := rand.New(rand.NewSource(101))
	odd := append([]int{0, 1, 2, 3, 4, 8, 9, 10, 20, 23, 24, 63, 64, setWord, jumpWord, 65535, 65536}, farNumbers...)
	number := func() int { return odd[r.Intn(len(odd))] }
	for range 50000 {
		var list []int
		for range r.Intn(7) {
			list = append(list, number())
		}
		start := number()
		made := impl.BlockOf(list, start)
		if right := len(list) == 4 && start >= 0 && start < 24; impl.BlockOk(made) != right {
			t.Errorf("BlockOf(%v, %d) is %v", list, start, made)
		}
		b := impl.Block{Start: number()}
		for range r.Intn(6) {
			b.List = append(b.List, impl.Ins{Op: r.Intn(12), R: number() % 5, A: number() % 5, B: number() % 2, N: number()})
		}
		right, pc := rightByWords(b), number()
		if impl.BlockOk(b) != right || (impl.PageOf(b) >= 0) != right || impl.PageOf(b) < -1 || impl.PageOf(b) > 5 {
			t.Errorf("BlockOk(%v) is not %v, or its page is not: %d", b, right, impl.PageOf(b))
		}
		if x, ok := impl.At(b, pc); ok && (!right || pc < b.Start || pc-b.Start >= len(b.List)) || !ok && x != noPlace {
			t.Errorf("At(%v, %d) is %+v, %v", b, pc, x, ok)
		}
	}
}
