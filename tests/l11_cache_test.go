package tests

import (
	"math/rand"
	"reflect"
	"slices"
	"testing"

	"loop.example/g00281/impl"
)

// A place that stands nowhere in cacheWords: InSub, registers 1, 2 and 3.
const subWord = 10 + 16*1 + 64*2 + 256*3

// cacheWords are the words of six pages, and cacheBlocks, by where they begin,
// what stands in them, written out by hand.
var cacheWords = []int{
	setWord, addWord, moreWord, swapWord,
	setWord, haltWord, addWord, jumpWord,
	zeroWord, moreWord, 0, swapWord,
	jumpWord, 65535, setWord, haltWord,
	0, 0, 0, 0,
	addWord, swapWord, moreWord, zeroWord,
}

var cacheBlocks = []impl.Block{
	blockAt(0, setPlace, addPlace, morePlace, swapPlace),
	blockAt(1, addPlace, morePlace, swapPlace),
	blockAt(2, morePlace, swapPlace),
	blockAt(3, swapPlace),
	blockAt(4, setPlace, haltPlace),
	blockAt(5, haltPlace),
	blockAt(6, addPlace, jumpPlace),
	blockAt(7, jumpPlace),
	blockAt(8, zeroPlace),
	blockAt(9, morePlace, noPlace),
	blockAt(10, noPlace),
	blockAt(11, swapPlace),
	blockAt(12, jumpPlace),
	blockAt(13, noPlace),
	blockAt(14, setPlace, haltPlace),
	blockAt(15, haltPlace),
	blockAt(16, noPlace),
	blockAt(17, noPlace),
	blockAt(18, noPlace),
	blockAt(19, noPlace),
	blockAt(20, addPlace, swapPlace, morePlace, zeroPlace),
	blockAt(21, swapPlace, morePlace, zeroPlace),
	blockAt(22, morePlace, zeroPlace),
	blockAt(23, zeroPlace),
}

// someBlocks are so many of those by hand, of several pages, from one on.
func someBlocks(count, from int) []impl.Block {
	var list []impl.Block
	for i := range count {
		list = append(list, cacheBlocks[(from+7*i)%len(cacheBlocks)])
	}
	return list
}

// blocksNotOk are none that is BlockOk, whatever the reason.
func blocksNotOk() []impl.Block {
	var list []impl.Block
	for _, b := range blocksOfAllSorts() {
		if !rightByWords(b) {
			list = append(list, b)
		}
	}
	return list
}

func framesOf(mem []int, states ...int) []impl.Frame {
	var list []impl.Frame
	for page := range 6 {
		state := states[page%len(states)]
		f := impl.Frame{State: state, Asked: page%2 == 0}
		if state != impl.StNone {
			f.List = slices.Clone(mem[4*page : 4*page+4])
		}
		list = append(list, f)
	}
	return list
}

func cacheFrames() []impl.Frame { return framesOf(cacheWords, impl.StRead, impl.StWrite) }

func withFrameAt(frames []impl.Frame, page int, f impl.Frame) []impl.Frame {
	list := slices.Clone(frames)
	list[page] = f
	return list
}

func withBlockAt(list []impl.Block, at int, b impl.Block) []impl.Block {
	return slices.Insert(slices.Clone(list), at, b)
}

func sameBlocks(a, b []impl.Block) bool { return slices.EqualFunc(a, b, sameBlock) }

// A kept is what is kept at a node, and the frames there.
type kept struct {
	List   []impl.Block
	Frames []impl.Frame
}

func wantCache(t *testing.T, list []impl.Block, frames []impl.Frame, want bool) {
	t.Helper()
	given := roomy(kept{list, frames})
	before := whole(given)
	for range 2 {
		if impl.CacheOk(given.List, given.Frames) != want {
			t.Errorf("CacheOk(%v, %v) is not %v", list, frames, want)
		}
	}
	wantUnwritten(t, given, before)
}

func wantFound(t *testing.T, list []impl.Block, pc int, want impl.Ins) {
	t.Helper()
	given := roomy(list)
	before := whole(given)
	if x, ok := impl.CacheFind(given, pc); !ok || x != want {
		t.Errorf("CacheFind(%v, %d) is %+v, %v, not %+v, true", list, pc, x, ok, want)
	}
	wantUnwritten(t, given, before)
}

func wantNotFound(t *testing.T, list []impl.Block, pc int) {
	t.Helper()
	given := roomy(list)
	before := whole(given)
	if x, ok := impl.CacheFind(given, pc); ok || x != noPlace {
		t.Errorf("CacheFind(%v, %d) is %+v, %v, not zero and false", list, pc, x, ok)
	}
	wantUnwritten(t, given, before)
}

// An adding is what is kept, and what is to be kept, too.
type adding struct {
	List  []impl.Block
	Block impl.Block
}

func wantAdded(t *testing.T, list []impl.Block, b impl.Block, want []impl.Block) {
	t.Helper()
	given := roomy(adding{list, b})
	before := whole(given)
	got := impl.CacheAdd(given.List, given.Block)
	if !sameBlocks(got, want) {
		t.Errorf("CacheAdd(%v, %v) is %v, not %v", list, b, got, want)
	}
	wantNew(t, got, given)
	wantUnwritten(t, given, before)
}

func wantPurged(t *testing.T, list []impl.Block, page int, want []impl.Block) {
	t.Helper()
	given := roomy(list)
	before := whole(given)
	got := impl.Purge(given, page)
	if !sameBlocks(got, want) {
		t.Errorf("Purge(%v, %d) is %v, not %v", list, page, got, want)
	}
	wantNew(t, got, given)
	wantUnwritten(t, given, before)
}

func TestCacheConstants(t *testing.T) {
	if impl.MaxCache != 5 {
		t.Error("MaxCache", impl.MaxCache)
	}
}

func TestCacheOkOfEachBlock(t *testing.T) {
	for start, b := range cacheBlocks {
		if b.Start != start {
			t.Fatal("a block stands at another one's place:", start, b)
		}
		wantRight(t, b, start/4)
		wantCache(t, []impl.Block{b}, cacheFrames(), true)
	}
}

// MaxCache blocks are kept, one more are not, also where all are the same one.
func TestCacheOkByHowMany(t *testing.T) {
	for from := range cacheBlocks {
		for count := range 9 {
			wantCache(t, someBlocks(count, from), cacheFrames(), count <= 5)
			wantCache(t, slices.Repeat(cacheBlocks[from:from+1], count), cacheFrames(), count <= 5)
		}
	}
	wantCache(t, nil, cacheFrames(), true)
	wantCache(t, []impl.Block{}, cacheFrames(), true)
	wantCache(t, someBlocks(1000, 0), cacheFrames(), false)
}

func TestCacheOkWithABlockThatIsNotOk(t *testing.T) {
	for i, b := range blocksNotOk() {
		for count := range 5 {
			others := someBlocks(count, i)
			wantCache(t, others, cacheFrames(), true)
			for at := range count + 1 {
				wantCache(t, withBlockAt(others, at, b), cacheFrames(), false)
			}
		}
	}
}

// A zero block is what BlockOf makes of a page without words, and is not kept.
func TestCacheOkOfAZeroBlock(t *testing.T) {
	for _, states := range [][]int{{impl.StNone}, {impl.StNone, impl.StRead}, {impl.StRead}, {impl.StWrite}} {
		wantCache(t, []impl.Block{{}}, framesOf(cacheWords, states...), false)
		wantCache(t, []impl.Block{{List: []impl.Ins{}}}, framesOf(make([]int, 24), states...), false)
	}
}

// strayBlocks are BlockOk, and not what stands in cacheWords.
func strayBlocks() []impl.Block {
	return []impl.Block{
		blockAt(0, setPlace, addPlace, morePlace, addPlace),
		blockAt(0, addPlace, addPlace, morePlace, swapPlace),
		blockAt(0, setPlace, swapPlace, morePlace, swapPlace),
		blockAt(0, setPlace, addPlace, morePlace, noPlace),
		blockAt(0, setPlace, addPlace, morePlace, haltPlace),
		blockAt(0, setPlace, addPlace, morePlace),
		blockAt(0, setPlace, addPlace),
		blockAt(0, setPlace),
		blockAt(0, addPlace, morePlace, swapPlace),
		blockAt(0, setPlace, haltPlace),
		blockAt(1, setPlace, addPlace, morePlace),
		blockAt(3, impl.Ins{Op: impl.InSwap, R: 3, B: 1, N: 21}),
		blockAt(3, impl.Ins{Op: impl.InSwap, R: 2, B: 1, N: 20}),
		blockAt(3, impl.Ins{Op: impl.InSwap, R: 3, A: 1, B: 1, N: 20}),
		blockAt(3, impl.Ins{Op: impl.InSwap, R: 3, B: 2, N: 20}),
		blockAt(4, setPlace),
		blockAt(4, setPlace, noPlace),
		blockAt(4, setPlace, addPlace, jumpPlace),
		blockAt(5, addPlace, jumpPlace),
		blockAt(8, morePlace, noPlace),
		blockAt(9, morePlace),
		blockAt(9, morePlace, swapPlace),
		blockAt(10, swapPlace),
		blockAt(13, haltPlace),
		blockAt(16, haltPlace),
		blockAt(23, noPlace),
		blockAt(23, swapPlace),
	}
}

func TestCacheOkOfWhatStandsNotThere(t *testing.T) {
	for i, b := range strayBlocks() {
		wantRight(t, b, b.Start/4)
		wantCache(t, []impl.Block{b}, cacheFrames(), false)
		for count := range 5 {
			for at := range count + 1 {
				wantCache(t, withBlockAt(someBlocks(count, i), at, b), cacheFrames(), false)
			}
		}
	}
}

// Every block, held against every start: it stands at its own alone, or where
// the same places stand.
func TestCacheOkOfABlockOfAnotherPlace(t *testing.T) {
	for _, b := range cacheBlocks {
		for start, there := range cacheBlocks {
			moved := blockAt(start, b.List...)
			wantCache(t, []impl.Block{moved}, cacheFrames(), slices.Equal(b.List, there.List))
		}
	}
}

// Where all pages have the same words, a block of one is one of each.
func TestCacheOkOfPagesWithTheSameWords(t *testing.T) {
	for page := range 6 {
		same := slices.Repeat(cacheWords[4*page:4*page+4], 6)
		frames := framesOf(same, impl.StRead, impl.StWrite)
		var list []impl.Block
		for other := range 6 {
			moved := blockAt(4*other+page%4, cacheBlocks[4*page+page%4].List...)
			wantCache(t, []impl.Block{moved}, frames, true)
			list = append(list, moved)
		}
		wantCache(t, list[:5], frames, true)
		wantCache(t, list[1:], frames, true)
		wantCache(t, list, frames, false)
	}
}

// Each word of each page is written over: what stands in a block turns, and
// nothing else does; one word of no place is as good as another one.
func TestCacheOkOfWordsWrittenOver(t *testing.T) {
	for at, was := range cacheWords {
		for _, w := range []int{setWord, subWord, haltWord, 11, 65535, was} {
			frames := framesOf(withWord(cacheWords, at, w), impl.StWrite, impl.StRead)
			stood, _ := impl.Decode(was)
			stands, _ := impl.Decode(w)
			for _, b := range cacheBlocks {
				within := at >= b.Start && at < b.Start+len(b.List)
				wantCache(t, []impl.Block{b}, frames, !within || stood == stands)
			}
		}
	}
}

func TestCacheOkByHowManyFrames(t *testing.T) {
	all := append(cacheFrames(), cacheFrames()...)
	for count := range len(all) + 1 {
		for from := range cacheBlocks {
			wantCache(t, someBlocks(from%6, from), all[:count], count == 6)
			wantCache(t, someBlocks(1, from), all[:count], count == 6)
		}
		wantCache(t, nil, all[:count], count == 6)
		wantCache(t, nil, make([]impl.Frame, count), count == 6)
	}
	wantCache(t, nil, nil, false)
	wantCache(t, cacheBlocks[:1], nil, false)
}

// A frame that is not FrameOk, whether or not something of its page is kept.
func TestCacheOkWithAWrongFrame(t *testing.T) {
	for i, f := range wrongFrames() {
		for page := range 6 {
			frames := withFrameAt(cacheFrames(), page, f)
			wantCache(t, nil, frames, false)
			wantCache(t, cacheBlocks[4*page+i%4:4*page+i%4+1], frames, false)
			other := 4*((page+1+i%5)%6) + i%4
			wantCache(t, cacheBlocks[other:other+1], frames, false)
		}
	}
}

// What is no word is a zero place where a block comes to it (chapter 10); but
// a frame that has it is not right.
func TestCacheOkWithNumbersThatAreNoWords(t *testing.T) {
	for _, w := range append([]int{65536, 65536 + setWord}, farNumbers...) {
		for at := range cacheWords {
			words := slices.Clone(cacheWords)
			words[at] = w
			frames := framesOf(words, impl.StRead)
			wantCache(t, nil, frames, false)
			wantCache(t, []impl.Block{impl.BlockOf(frames[at/4].List, at)}, frames, false)
			wantCache(t, []impl.Block{impl.BlockOf(frames[at/4].List, at/4*4)}, frames, false)
		}
	}
}

// Every row of states of all frames: who has no words has nothing kept.
func TestCacheOkInEveryState(t *testing.T) {
	for n := range 3 * 3 * 3 * 3 * 3 * 3 {
		states := []int{n % 3, n / 3 % 3, n / 9 % 3, n / 27 % 3, n / 81 % 3, n / 243}
		frames := framesOf(cacheWords, states...)
		wantCache(t, nil, frames, true)
		var had []impl.Block
		for page, state := range states {
			b := cacheBlocks[4*page+n%4]
			wantCache(t, []impl.Block{b}, frames, state != impl.StNone)
			if state != impl.StNone {
				had = append(had, b)
			}
		}
		wantCache(t, had, frames, len(had) <= 5)
		for page, state := range states {
			if state == impl.StNone && len(had) < 5 {
				wantCache(t, withBlockAt(had, page%(len(had)+1), cacheBlocks[4*page+n%4]), frames, false)
			}
		}
	}
}

// Whether a page was asked for says nothing of what stands in it.
func TestCacheOkWhateverWasAsked(t *testing.T) {
	for n := range 1 << 6 {
		frames := cacheFrames()
		for page := range frames {
			frames[page].Asked = n>>page&1 == 1
		}
		wantCache(t, someBlocks(5, n%24), frames, true)
		wantCache(t, withBlockAt(someBlocks(4, n%24), n%5, strayBlocks()[n%20]), frames, false)
	}
}

func TestCacheFindInNothing(t *testing.T) {
	for _, list := range [][]impl.Block{nil, {}} {
		for pc := -30; pc <= 30; pc++ {
			wantNotFound(t, list, pc)
		}
		for _, pc := range farNumbers {
			wantNotFound(t, list, pc)
		}
	}
}

// At both ends of a block, and one below and behind; zero places are found, too.
func TestCacheFindInOneBlock(t *testing.T) {
	for _, b := range cacheBlocks {
		list := []impl.Block{b}
		for i, x := range b.List {
			wantFound(t, list, b.Start+i, x)
		}
		for pc := -60; pc <= 60; pc++ {
			if pc < b.Start || pc >= b.Start+len(b.List) {
				wantNotFound(t, list, pc)
			}
		}
		for _, pc := range append(slices.Clone(noStarts), pcsBeside(b)...) {
			wantNotFound(t, list, pc)
		}
	}
}

// Each line was worked out by hand.
func TestCacheFindInSeveral(t *testing.T) {
	list := []impl.Block{
		blockAt(5, haltPlace),
		blockAt(4, setPlace, addPlace, morePlace),
		blockAt(6, jumpPlace),
		blockAt(20, noPlace),
		blockAt(20, swapPlace),
		blockAt(6, addPlace, swapPlace),
	}
	wantNotFound(t, list, 3)
	wantFound(t, list, 4, setPlace)
	wantFound(t, list, 5, haltPlace)
	wantFound(t, list, 6, morePlace)
	wantFound(t, list, 7, swapPlace)
	wantNotFound(t, list, 8)
	wantNotFound(t, list, 19)
	wantFound(t, list, 20, noPlace)
	wantNotFound(t, list, 21)
	slices.Reverse(list)
	wantFound(t, list, 4, setPlace)
	wantFound(t, list, 5, addPlace)
	wantFound(t, list, 6, addPlace)
	wantFound(t, list, 7, swapPlace)
	wantFound(t, list, 20, swapPlace)
}

// Two have an address with different places: which one stands first tells,
// wherever others stand.
func TestCacheFindTellsTheFirst(t *testing.T) {
	for start := range impl.Cells {
		pairs := [][2]impl.Block{
			{blockAt(start, setPlace), blockAt(start, addPlace)},
			{blockAt(start, noPlace), blockAt(start, haltPlace)},
			{blockAt(start, haltPlace), blockAt(start, noPlace)},
		}
		for _, pair := range pairs {
			other := blockAt((start+4)%24, morePlace)
			for at := range 3 {
				list := withBlockAt(pair[:], at, other)
				wantFound(t, list, start, pair[0].List[0])
				slices.Reverse(list)
				wantFound(t, list, start, pair[1].List[0])
			}
			wantFound(t, append(slices.Repeat(pair[1:], 5), pair[0]), start, pair[1].List[0])
			wantFound(t, []impl.Block{pair[0], pair[0], pair[1]}, start, pair[0].List[0])
		}
	}
}

// What is not BlockOk has nothing, wherever it stands; what stands behind it tells.
func TestCacheFindInWhatIsNotOk(t *testing.T) {
	for i, b := range blocksNotOk() {
		right := cacheBlocks[i%24]
		for j := range 3 {
			wantNotFound(t, []impl.Block{b}, b.Start+j)
			wantNotFound(t, []impl.Block{b, b}, b.Start+j)
		}
		for _, list := range [][]impl.Block{{b, right}, {right, b}, {b, right, b}} {
			wantFound(t, list, right.Start, right.List[0])
			wantNotFound(t, list, (right.Start/4*4+8)%24)
		}
	}
	wrong := blockAt(4, haltPlace, setPlace)
	wantNotFound(t, []impl.Block{wrong}, 4)
	wantNotFound(t, []impl.Block{wrong}, 5)
	wantFound(t, []impl.Block{wrong, blockAt(4, addPlace)}, 4, addPlace)
}

// Nothing is asked of how many there are.
func TestCacheFindInMoreThanMaxCache(t *testing.T) {
	for _, count := range []int{4, 5, 6, 7, 100} {
		list := append(slices.Repeat(cacheBlocks[:1], count), blockAt(9, morePlace))
		wantFound(t, list, 9, morePlace)
		wantFound(t, list, 3, swapPlace)
		wantNotFound(t, list, 10)
	}
}

func TestCacheAddByHowMany(t *testing.T) {
	for from := range cacheBlocks {
		b := cacheBlocks[(from+5)%24]
		for count := range 5 {
			list := someBlocks(count, from)
			wantAdded(t, list, b, append(slices.Clone(list), b))
		}
		// No more than one goes, however many there are.
		for _, count := range []int{5, 6, 7, 10, 100} {
			list := someBlocks(count, from)
			wantAdded(t, list, b, append(slices.Clone(list[1:]), b))
		}
	}
	wantAdded(t, nil, cacheBlocks[4], cacheBlocks[4:5])
	wantAdded(t, []impl.Block{}, cacheBlocks[4], cacheBlocks[4:5])
}

// Nothing is asked of it but that it is BlockOk: it may stand nowhere.
func TestCacheAddOfAnyRightBlock(t *testing.T) {
	for i, b := range append(strayBlocks(), blockAt(20, setPlace)) {
		list := someBlocks(i%5, i)
		wantAdded(t, list, b, append(slices.Clone(list), b))
	}
}

func TestCacheAddOfWhatIsNotOk(t *testing.T) {
	for i, b := range blocksNotOk() {
		for _, count := range []int{0, 1, 2, 4, 5, 6, 7, 20} {
			list := someBlocks(count, i)
			wantAdded(t, list, b, list)
		}
	}
}

// What is there already stands there once more.
func TestCacheAddOfWhatIsThere(t *testing.T) {
	for count := 1; count <= 7; count++ {
		for at := range count {
			list := someBlocks(count, 3)
			want := append(slices.Clone(list), list[at])
			if count >= 5 {
				want = want[1:]
			}
			wantAdded(t, list, list[at], want)
		}
	}
	var list []impl.Block
	for count := 1; count <= 8; count++ {
		list = impl.CacheAdd(list, cacheBlocks[0])
		if !sameBlocks(list, slices.Repeat(cacheBlocks[:1], min(count, 5))) {
			t.Errorf("added %d times: %v", count, list)
		}
	}
}

// Those that are there stay as they are, right or not, and count.
func TestCacheAddToWhatIsNotOk(t *testing.T) {
	for i, wrong := range blocksNotOk() {
		b := cacheBlocks[i%24]
		for count := range 7 {
			for at := range count + 1 {
				list := withBlockAt(someBlocks(count, i), at, wrong)
				want := append(slices.Clone(list), b)
				if len(list) >= 5 {
					want = want[1:]
				}
				wantAdded(t, list, b, want)
			}
		}
	}
}

// Six added one behind the other leave the last five.
func TestCacheAddOneBehindTheOther(t *testing.T) {
	var list []impl.Block
	for start, b := range cacheBlocks {
		list = impl.CacheAdd(list, b)
		want := cacheBlocks[max(0, start-4) : start+1]
		if !sameBlocks(list, want) {
			t.Errorf("behind the block at %d: %v, not %v", start, list, want)
		}
		wantCache(t, list, cacheFrames(), true)
	}
}

// notPages are no pages of any block that is BlockOk.
var notPages = append([]int{-2, -3, -6, 6, 7, 24, 256, 1 << 32, 1<<32 + 1, -1 << 32}, farNumbers...)

// Each line was worked out by hand.
func TestPurge(t *testing.T) {
	b := cacheBlocks
	cases := []struct {
		list []impl.Block
		page int
		want []impl.Block
	}{
		{[]impl.Block{b[0]}, 0, nil},
		{[]impl.Block{b[0]}, 1, []impl.Block{b[0]}},
		{[]impl.Block{b[3], b[4]}, 0, []impl.Block{b[4]}},
		{[]impl.Block{b[3], b[4]}, 1, []impl.Block{b[3]}},
		{[]impl.Block{b[3], b[4]}, 2, []impl.Block{b[3], b[4]}},
		{[]impl.Block{b[9], b[3], b[4]}, 2, []impl.Block{b[3], b[4]}},
		{[]impl.Block{b[3], b[9], b[4]}, 2, []impl.Block{b[3], b[4]}},
		{[]impl.Block{b[3], b[4], b[9]}, 2, []impl.Block{b[3], b[4]}},
		{[]impl.Block{b[9], b[4], b[11], b[3], b[8]}, 2, []impl.Block{b[4], b[3]}},
		{[]impl.Block{b[23], b[4], b[20], b[22], b[4]}, 5, []impl.Block{b[4], b[4]}},
		{[]impl.Block{b[23], b[4], b[20], b[22], b[4]}, 1, []impl.Block{b[23], b[20], b[22]}},
		{[]impl.Block{b[12], b[13], b[14], b[15], b[12]}, 3, nil},
		{[]impl.Block{b[16], b[17], b[18], b[19], b[15]}, 4, []impl.Block{b[15]}},
		{[]impl.Block{b[20], b[16], b[12], b[8], b[4]}, 0, []impl.Block{b[20], b[16], b[12], b[8], b[4]}},
	}
	for _, c := range cases {
		wantPurged(t, c.list, c.page, c.want)
	}
}

func TestPurgeOfNothing(t *testing.T) {
	for page := range 6 {
		wantPurged(t, nil, page, nil)
		wantPurged(t, []impl.Block{}, page, nil)
	}
	for _, page := range notPages {
		wantPurged(t, nil, page, nil)
		wantPurged(t, []impl.Block{}, page, nil)
	}
}

// One of that page among others, at each place; and nothing but that.
func TestPurgeAtEachPlace(t *testing.T) {
	for start, b := range cacheBlocks {
		page := start / 4
		for count := range 8 {
			wantPurged(t, slices.Repeat([]impl.Block{b}, count), page, nil)
			var others []impl.Block
			for i := range count {
				others = append(others, cacheBlocks[4*((page+1+i%5)%6)+i%4])
			}
			wantPurged(t, others, page, others)
			for at := range count + 1 {
				wantPurged(t, withBlockAt(others, at, b), page, others)
			}
		}
	}
}

func TestPurgeOfNoPage(t *testing.T) {
	for _, page := range notPages {
		for from := range cacheBlocks {
			for count := range 7 {
				list := someBlocks(count, from)
				wantPurged(t, list, page, list)
			}
		}
	}
}

// A block that is not BlockOk is of no page, wherever it begins: it goes where
// the page is what PageOf tells of it, and stays otherwise.
func TestPurgeOfWhatIsNotOk(t *testing.T) {
	for i, wrong := range blocksNotOk() {
		right := cacheBlocks[i%24]
		list := []impl.Block{wrong, right, wrong}
		for page := range 6 {
			want := list
			if page == right.Start/4 {
				want = []impl.Block{wrong, wrong}
			}
			wantPurged(t, list, page, want)
		}
		for _, page := range notPages {
			want := list
			if page == -1 {
				want = []impl.Block{right}
			}
			wantPurged(t, list, page, want)
		}
	}
}

func TestPurgeOfAllPages(t *testing.T) {
	for count := range 12 {
		list := someBlocks(count, count)
		for page := range 6 {
			list = impl.Purge(list, page)
		}
		if len(list) != 0 {
			t.Errorf("of %d blocks, with all pages purged, there are %v", count, list)
		}
	}
}

// cacheByWords is CacheOk as the document has it, one thing behind the other.
func cacheByWords(list []impl.Block, frames []impl.Frame) bool {
	if len(list) > 5 || len(frames) != 6 {
		return false
	}
	for _, f := range frames {
		if !impl.FrameOk(f) {
			return false
		}
	}
	for _, b := range list {
		if !rightByWords(b) {
			return false
		}
		f := frames[b.Start/4]
		if f.State == impl.StNone || !sameBlock(b, impl.BlockOf(f.List, b.Start)) {
			return false
		}
	}
	return true
}

// findByWords is CacheFind likewise.
func findByWords(list []impl.Block, pc int) (impl.Ins, bool) {
	for _, b := range list {
		if rightByWords(b) && pc >= b.Start && pc < b.Start+len(b.List) {
			return b.List[pc-b.Start], true
		}
	}
	return noPlace, false
}

// drawnBlock is mostly one of a memory; else another one's, or not BlockOk.
func drawnBlock(r *rand.Rand, mem []int) impl.Block {
	start := r.Intn(24)
	b := impl.BlockOf(pageWords(mem, start), start)
	switch r.Intn(8) {
	case 0:
		b = blockAt(start, drawnPlace(r))
	case 1:
		b.List = b.List[:len(b.List)-1]
	case 2:
		b.List = append(b.List, drawnPlace(r))
	case 3:
		b.Start = (b.Start + 4) % 24
	}
	return b
}

func drawnBlocks(r *rand.Rand, mem []int) []impl.Block {
	var list []impl.Block
	for range r.Intn(8) {
		list = append(list, drawnBlock(r, mem))
	}
	return list
}

func drawnFrames(r *rand.Rand, mem []int) []impl.Frame {
	var states []int
	for range 6 {
		states = append(states, min(r.Intn(12), impl.StWrite))
	}
	return framesOf(mem, states...)
}

func TestCacheOkAsTheWordsGo(t *testing.T) {
	r := rand.New(rand.NewSource(11))
	count := map[bool]int{}
	for range 20000 {
		mem := drawnMemory(r)
		list, frames := drawnBlocks(r, mem), drawnFrames(r, mem)
		want := cacheByWords(list, frames)
		if impl.CacheOk(list, frames) != want {
			t.Fatalf("CacheOk(%v, %v) is not %v", list, frames, want)
		}
		count[want]++
	}
	if count[true] < 2000 || count[false] < 2000 {
		t.Error("too few of a kind to tell anything:", count)
	}
}

// The promise: of what is purged nothing is found, and all else is found as it
// was, in any list.
func TestWhatIsPurgedIsNotFound(t *testing.T) {
	r := rand.New(rand.NewSource(110))
	gone, stayed := 0, 0
	for range 1500 {
		list := drawnBlocks(r, drawnMemory(r))
		for page := -2; page <= 7; page++ {
			left := impl.Purge(list, page)
			for pc := -4; pc <= 28; pc++ {
				was, had := findByWords(list, pc)
				if pc >= 4*page && pc < 4*page+4 {
					wantNotFound(t, left, pc)
					if had {
						gone++
					}
					continue
				}
				x, ok := impl.CacheFind(left, pc)
				if x != was || ok != had {
					t.Fatalf("of %v, page %d purged, %d is %+v, %v, not %+v, %v", list, page, pc, x, ok, was, had)
				}
				if had {
					stayed++
				}
			}
		}
	}
	if gone < 4000 || stayed < 4000 {
		t.Error("too few were found to tell anything:", gone, stayed)
	}
}

// What is added is found, where nothing ahead has it; the one that went for it
// is not found by itself any more, and all others are found as they were.
func TestWhatIsAddedIsFound(t *testing.T) {
	r := rand.New(rand.NewSource(111))
	found, ahead := 0, 0
	for range 20000 {
		mem := drawnMemory(r)
		list, b := drawnBlocks(r, mem), drawnBlock(r, mem)
		want := slices.Clone(list)
		if rightByWords(b) {
			if len(want) >= 5 {
				want = want[1:]
			}
			want = append(want, b)
		}
		got := impl.CacheAdd(list, b)
		if !sameBlocks(got, want) {
			t.Fatalf("CacheAdd(%v, %v) is %v, not %v", list, b, got, want)
		}
		for pc := -4; pc <= 28; pc++ {
			was, had := findByWords(want, pc)
			if x, ok := impl.CacheFind(got, pc); x != was || ok != had {
				t.Fatalf("of %v %d is %+v, %v, not %+v, %v", got, pc, x, ok, was, had)
			}
		}
		if x, ok := impl.At(b, b.Start); ok {
			if y, is := impl.CacheFind(want[:len(want)-1], b.Start); is {
				wantFound(t, got, b.Start, y)
				ahead++
			} else {
				wantFound(t, got, b.Start, x)
				found++
			}
		}
	}
	if found < 2000 || ahead < 500 {
		t.Error("too few were added to tell anything:", found, ahead)
	}
}

// A page is written, comes and goes; purged each time, what is kept stays what
// stands there. Where it is not purged, CacheOk tells.
func TestWhatIsKeptStaysWhatStandsThere(t *testing.T) {
	r := rand.New(rand.NewSource(112))
	added, stale := 0, 0
	for range 300 {
		mem := drawnMemory(r)
		frames := framesOf(mem, impl.StWrite)
		var list []impl.Block
		for range 60 {
			page, start := r.Intn(6), r.Intn(24)
			switch r.Intn(4) {
			case 0:
				frames[page], _ = impl.FrameWrite(frames[page], r.Intn(4), sumOf(drawnPlace(r)))
			case 1:
				words := drawnMemory(r)[:4]
				frames[page], _, _ = impl.FrameHear(frames[page], dataOf(page, r.Intn(2) == 0, words...))
			case 2:
				frames[page], _, _ = impl.FrameHear(frames[page], impl.Msg{Kind: impl.MgGone, Page: page})
			default:
				page = -1
				if b := impl.BlockOf(frames[start/4].List, start); impl.BlockOk(b) {
					list = impl.CacheAdd(list, b)
					added++
				}
			}
			if !cacheByWords(list, frames) {
				stale++
				wantCache(t, list, frames, false)
			}
			list = impl.Purge(list, page)
			wantCache(t, list, frames, true)
		}
	}
	if added < 1000 || stale < 200 {
		t.Error("too little was kept to tell anything:", added, stale)
	}
}

// cachesOfAllSorts are lists of right blocks and of others, of many lengths.
func cachesOfAllSorts() [][]impl.Block {
	list := [][]impl.Block{nil, {}}
	wrong := blocksNotOk()
	for count := 1; count <= 8; count++ {
		for from := range 6 {
			right := someBlocks(count, from)
			list = append(list, right, withBlockAt(right, from%(count+1), wrong[from*7%len(wrong)]))
		}
		list = append(list, slices.Repeat(cacheBlocks[4:5], count))
	}
	return list
}

func framesOfAllSorts() [][]impl.Frame {
	return [][]impl.Frame{nil, cacheFrames(), cacheFrames()[:5], framesOf(cacheWords, 2, 0, 1), framesOf(make([]int, 24), 1), withFrameAt(cacheFrames(), 3, impl.Frame{State: 7, List: []int{1}})}
}

func addedOfAllSorts() []impl.Block {
	return append([]impl.Block{{}, blockAt(3, setPlace, setPlace), blockAt(0, haltPlace, setPlace)}, cacheBlocks...)
}

func TestCacheAnswersAreNewMemory(t *testing.T) {
	for _, list := range cachesOfAllSorts() {
		for _, b := range addedOfAllSorts() {
			given := roomy(adding{list, b})
			before := whole(given)
			a, c := impl.CacheAdd(given.List, given.Block), impl.CacheAdd(given.List, given.Block)
			wantNew(t, [][]impl.Block{a, c}, given)
			wantUnwritten(t, given, before)
		}
		for page := -1; page <= 6; page++ {
			given := roomy(list)
			before := whole(given)
			a, c := impl.Purge(given, page), impl.Purge(given, page)
			wantNew(t, [][]impl.Block{a, c}, given)
			wantUnwritten(t, given, before)
		}
	}
}

// Where blocks share their places, in a list or with the one that is added, the
// answer's do not.
func TestCacheAnswersShareNothingThatArgumentsShare(t *testing.T) {
	for count := range 8 {
		shared := roomy(cacheBlocks[9])
		list := slices.Repeat([]impl.Block{shared}, count)
		list = append(list, blockAt(10, shared.List[1:]...))
		before := whole(list)
		for _, b := range []impl.Block{shared, list[count], {}} {
			wantNew(t, impl.CacheAdd(list, b), adding{list, b})
		}
		for page := range 6 {
			wantNew(t, impl.Purge(list, page), list)
		}
		wantUnwritten(t, list, before)
	}
}

// Behind an answer, in its spare room, stands nothing of what went, nor what
// stays once more: that would share memory with what stays.
func TestCacheAnswersLeaveNothingBehindThem(t *testing.T) {
	for _, list := range cachesOfAllSorts() {
		for page := -1; page <= 6; page++ {
			got := impl.Purge(list, page)
			for _, b := range got[len(got):cap(got)] {
				if b.Start != 0 || len(b.List) != 0 {
					t.Errorf("behind Purge(%v, %d) stands %v", list, page, b)
				}
			}
			if all := got[:cap(got)]; sharesWithin(all) {
				t.Errorf("blocks of Purge(%v, %d) share memory with the room behind it", list, page)
			}
		}
	}
}

// Whatever becomes of what was handed in, or of an answer, another answer is
// as it was.
func TestCacheAnswersTurnWithNothing(t *testing.T) {
	for _, list := range cachesOfAllSorts() {
		given := cloneOf(adding{list, cacheBlocks[14]})
		added, left := impl.CacheAdd(given.List, given.Block), impl.Purge(given.List, 1)
		spoiled := impl.CacheAdd(given.List, given.Block)
		keptAdded, keptLeft := cloneOf(added), cloneOf(left)
		for _, l := range [][]impl.Block{spoiled, given.List, {given.Block}} {
			for i := range l {
				for j := range l[i].List {
					l[i].List[j] = impl.Ins{Op: -5}
				}
				l[i].Start = -9
			}
			_ = append(l, blockAt(1, haltPlace))
		}
		if !sameBlocks(added, keptAdded) || !sameBlocks(left, keptLeft) {
			t.Errorf("an answer turned with another list: %v, %v", added, left)
		}
	}
}

// cacheAnswers are what the functions of the chapter answer of one list.
type cacheAnswers struct {
	ok    []bool
	found []impl.Ins
	is    []bool
	added [][]impl.Block
	left  [][]impl.Block
}

func askCaches(list []impl.Block) cacheAnswers {
	var a cacheAnswers
	for _, frames := range framesOfAllSorts() {
		a.ok = append(a.ok, impl.CacheOk(list, frames))
	}
	for pc := -1; pc <= 24; pc++ {
		x, is := impl.CacheFind(list, pc)
		a.found, a.is = append(a.found, x), append(a.is, is)
	}
	for _, b := range addedOfAllSorts() {
		a.added = append(a.added, impl.CacheAdd(list, b))
	}
	for page := -1; page <= 6; page++ {
		a.left = append(a.left, impl.Purge(list, page))
	}
	return a
}

// Nothing is kept: what was asked ahead of a call, and what was done to its
// answer, is not seen in the next answer.
func TestCachesAreAnsweredTheSameAgain(t *testing.T) {
	lists := cachesOfAllSorts()
	var first []cacheAnswers
	for _, list := range lists {
		first = append(first, askCaches(list))
	}
	for i := len(lists) - 1; i >= 0; i-- {
		for range 2 {
			again := askCaches(lists[i])
			if !reflect.DeepEqual(again, first[i]) {
				t.Errorf("%v is answered by %v, and again by %v", lists[i], first[i], again)
			}
			for _, list := range append(again.added, again.left...) {
				for _, b := range list {
					clear(b.List)
				}
				clear(list)
			}
		}
	}
}

// Whatever is handed in: an answer, as the words go, and no panic.
func TestCachesAnswerAtAnyArguments(t *testing.T) {
	r := rand.New(rand.NewSource(113))
	odd := append([]int{0, 1, 2, 3, 4, 5, 6, 8, 9, 20, 23, 24, setWord, 65535, 65536}, farNumbers...)
	number := func() int { return odd[r.Intn(len(odd))] }
	block := func() impl.Block {
		b := impl.Block{Start: number()}
		for range r.Intn(6) {
			b.List = append(b.List, impl.Ins{Op: r.Intn(12), R: number() % 5, A: number() % 5, B: number() % 2, N: number()})
		}
		return b
	}
	for range 20000 {
		var g kept
		for range r.Intn(8) {
			g.List = append(g.List, block())
		}
		for range r.Intn(3) + 4 {
			g.Frames = append(g.Frames, impl.Frame{State: number(), List: []int{number(), number(), number(), number()}[:r.Intn(5)]})
		}
		if impl.CacheOk(g.List, g.Frames) != cacheByWords(g.List, g.Frames) {
			t.Errorf("CacheOk(%v) is not so", g)
		}
		pc, page := number(), number()
		want, has := findByWords(g.List, pc)
		if x, ok := impl.CacheFind(g.List, pc); x != want || ok != has {
			t.Errorf("CacheFind(%v, %d) is %+v, %v", g.List, pc, x, ok)
		}
		b := block()
		if got := impl.CacheAdd(g.List, b); !rightByWords(b) && !sameBlocks(got, g.List) {
			t.Errorf("CacheAdd(%v, %v) is %v", g.List, b, got)
		}
		left := slices.DeleteFunc(slices.Clone(g.List), func(b impl.Block) bool { return impl.PageOf(b) == page })
		if got := impl.Purge(g.List, page); !sameBlocks(got, left) {
			t.Errorf("Purge(%v, %d) is %v, not %v", g.List, page, got, left)
		}
	}
}
