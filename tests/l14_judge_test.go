package tests

import (
	"fmt"
	"math"
	"math/rand"
	"runtime"
	"slices"
	"testing"

	"loop.example/g00281/impl"
)

// wantMemory asks for all that holds of each Memory, too.
func wantMemory(t *testing.T, w impl.World, want []int) {
	t.Helper()
	given := roomy(w)
	before := whole(given)
	one, two := impl.Memory(given), impl.Memory(given)
	if !slices.Equal(one, want) || !slices.Equal(two, want) {
		t.Errorf("Memory(%v) is %v and %v, not %v", w, one, two, want)
	}
	wantNew(t, [][]int{one, two}, given)
	wantUnwritten(t, given, before)
}

// saneWords are the words of a saneWorld, all pages of it.
func saneWords() []int {
	var mem []int
	for page := range 6 {
		mem = append(mem, wordsOfPage(page)...)
	}
	return mem
}

// withPage is mem with other words in one page.
func withPage(mem []int, page int, words ...int) []int {
	mem = slices.Clone(mem)
	copy(mem[4*page:4*page+4], words)
	return mem
}

func TestMemoryOfNewWorlds(t *testing.T) {
	for size := 1; size <= impl.MaxNodes; size++ {
		w, _ := impl.WorldNew(size)
		wantMemory(t, w, make([]int, 24))
		wantMemory(t, crowded(w), make([]int, 24))
		for _, mem := range [][]int{plainWords(), cacheWords, slices.Repeat([]int{65535}, 24)} {
			f, ok := impl.FlockNew(size, mem, nil)
			if !ok {
				t.Fatal("there is no flock of", size)
			}
			wantMemory(t, f.World, mem)
		}
	}
}

// The words are at homes, at who may write, or at who reads beside home.
func TestMemoryOfWordsThatAreSomewhere(t *testing.T) {
	for size := 1; size <= impl.MaxNodes; size++ {
		wantMemory(t, saneWorld(size), saneWords())
		all, each := saneWorld(size), saneWorld(size)
		for page, home := range homesOfPages[size] {
			for who := range size {
				wantMemory(t, having(saneWorld(size), who, page, impl.StRead), saneWords())
				wantMemory(t, owning(saneWorld(size), who, page), saneWords())
				// Other words at who may write are the page's, and nothing else is.
				w := owning(saneWorld(size), who, page)
				w.Nodes[who].Frames[page].List = slices.Clone(ofFrame)
				wantMemory(t, w, withPage(saneWords(), page, ofFrame...))
				// Who reads other words, or would write while home has no Owner, is not asked.
				for _, state := range []int{impl.StRead, impl.StWrite} {
					w = having(saneWorld(size), who, page, state)
					w.Nodes[who].Frames[page].List = slices.Clone(ofOther)
					wantMemory(t, w, saneWords())
				}
				all = having(all, who, page, impl.StRead)
			}
			w := saneWorld(size)
			w.Nodes[home].Homes[page].List = slices.Clone(ofHome)
			wantMemory(t, w, withPage(saneWords(), page, ofHome...))
			each = owning(each, (page+1)%size, page)
		}
		wantMemory(t, all, saneWords())
		wantMemory(t, each, saneWords())
	}
}

// The homes of a page at other nodes than its home have nothing to say.
func TestMemoryIsOfTheHomesOfPages(t *testing.T) {
	for size := 2; size <= impl.MaxNodes; size++ {
		w := saneWorld(size)
		for id := range size {
			for page, home := range homesOfPages[size] {
				if id != home {
					w.Nodes[id].Homes[page].List = slices.Clone(ofOther)
					w.Nodes[id].Homes[page].Owner = id
				}
			}
		}
		wantMemory(t, w, saneWords())
	}
}

// comingWorld is a saneWorld in which one page has an Owner without words, and in
// which that is queued from home to Owner and from Owner to home.
func comingWorld(size, page, owner int, given, back []impl.Msg) impl.World {
	home := homesOfPages[size][page]
	w := saneWorld(size)
	w.Nodes[home].Homes[page].Owner = owner
	if home == owner {
		return withLine(w, home, home, impl.Sender{Base: 3, Queue: append(slices.Clone(given), back...)})
	}
	w = withLine(w, home, owner, impl.Sender{Base: 3, Queue: given})
	return withLine(w, owner, home, impl.Sender{Base: 9, Queue: back})
}

// heardWorld is w in which so many of those that were queued have come.
func heardWorld(w impl.World, page, owner, given, back int) impl.World {
	home := homesOfPages[w.Size][page]
	if home == owner {
		return withGot(w, home, home, 3+given+back)
	}
	return withGot(withGot(w, owner, home, 3+given), home, owner, 9+back)
}

func TestMemoryOfWordsThatAreComing(t *testing.T) {
	for size := 1; size <= impl.MaxNodes; size++ {
		for page := range 6 {
			for owner := range size {
				data := []impl.Msg{dataOf(page, true, data3...), dataOf(page, true, data4...)}
				back := []impl.Msg{backOf(page, back6...), backOf(page, back7...)}
				want := func(words []int) []int { return withPage(saneWords(), page, words...) }
				w := comingWorld(size, page, owner, data, nil)
				wantMemory(t, w, want(data4))
				wantMemory(t, heardWorld(w, page, owner, 1, 0), want(data4))
				wantMemory(t, heardWorld(w, page, owner, 2, 0), nil)
				wantMemory(t, comingWorld(size, page, owner, data[:1], nil), want(data3))
				w = comingWorld(size, page, owner, nil, back)
				wantMemory(t, w, want(back7))
				wantMemory(t, heardWorld(w, page, owner, 0, 1), want(back7))
				wantMemory(t, heardWorld(w, page, owner, 0, 2), nil)
				wantMemory(t, comingWorld(size, page, owner, nil, back[:1]), want(back6))
				w = comingWorld(size, page, owner, data, back)
				wantMemory(t, w, want(data4))
				wantMemory(t, heardWorld(w, page, owner, 2, 0), want(back7))
				// To read, or of another page, is not it.
				other := (page + size) % 6
				wantMemory(t, comingWorld(size, page, owner, []impl.Msg{dataOf(page, false, data3...)}, nil), nil)
				wantMemory(t, comingWorld(size, page, owner, []impl.Msg{dataOf(other, true, data3...)}, []impl.Msg{backOf(other, back6...)}), nil)
			}
		}
	}
}

// lostPages is a saneWorld in which those pages have no words.
func lostPages(size int, pages ...int) impl.World {
	w := saneWorld(size)
	for _, page := range pages {
		w.Nodes[homesOfPages[size][page]].Homes[page].Owner = (page + 1) % size
	}
	return w
}

// One page without words, whichever, and there is no memory: not its beginning,
// not the words behind it.
func TestMemoryWhereAPageHasNoTruth(t *testing.T) {
	for size := 1; size <= impl.MaxNodes; size++ {
		wantMemory(t, lostPages(size), saneWords())
		for page := range 6 {
			wantMemory(t, lostPages(size, page), nil)
			for other := range page {
				wantMemory(t, lostPages(size, page, other), nil)
			}
			// That one who reads has words does not make up for it.
			wantMemory(t, having(lostPages(size, page), (page+1)%size, page, impl.StRead), nil)
		}
		wantMemory(t, lostPages(size, 0, 1, 2, 3, 4, 5), nil)
	}
}

func TestMemoryOfWrongWorlds(t *testing.T) {
	for size := 1; size <= impl.MaxNodes; size++ {
		for _, w := range wrongWorlds(size) {
			wantMemory(t, w, nil)
		}
		last := size - 1
		for _, turn := range []func(w *impl.World){
			func(w *impl.World) { w.Size++ },
			func(w *impl.World) { w.Size-- },
			func(w *impl.World) { w.Nodes[last].Id++ },
			func(w *impl.World) { w.Net = packets(impl.MaxNet+1, size) },
			func(w *impl.World) { w.Net = []impl.Packet{{From: size, Ack: true}} },
			func(w *impl.World) { w.Nodes[last].In[last].Got = impl.MaxSeq + 1 },
			func(w *impl.World) { w.Nodes[last].Frames[5] = impl.Frame{State: 3} },
			func(w *impl.World) { w.Nodes[0].Homes[0].List = []int{1, 2, 3} },
			func(w *impl.World) { w.Nodes[0].Homes[0].List = []int{1, 2, 3, 65536} },
			func(w *impl.World) { w.Nodes[0].Homes[0].Owner = size },
			func(w *impl.World) { w.Nodes = nil },
		} {
			wantMemory(t, inWorld(saneWorld(size), turn), nil)
		}
	}
	wantMemory(t, impl.World{}, nil)
	wantMemory(t, newWorld(impl.MaxNodes+1), nil)
}

// memoryByWords is Memory as the document's words go, of a right world.
func memoryByWords(w impl.World) []int {
	var mem []int
	for page := range 6 {
		words, where := truthByWords(w, page)
		if where == "nowhere" {
			return nil
		}
		mem = append(mem, words...)
	}
	return mem
}

// Drawn worlds: Memory is Truth of all pages, one behind the other.
func TestMemoryIsTruthOfAllPages(t *testing.T) {
	t.Parallel()
	r := rand.New(rand.NewSource(14))
	some, none := 0, 0
	for i := range 3000 {
		size := i%impl.MaxNodes + 1
		w := talkingWorld(r, size)
		if i%3 == 0 {
			// So that each page has words, if but by little.
			for page, home := range homesOfPages[size] {
				if r.Intn(3) > 0 {
					w.Nodes[home].Homes[page].Owner = nobody
				} else if owner := w.Nodes[home].Homes[page].Owner; owner != nobody {
					w.Nodes[owner].Frames[page] = frameOf(impl.StWrite, false, drawnMemory(r)[:4]...)
				}
			}
		}
		want := memoryByWords(w)
		var told []int
		for page := range 6 {
			told = append(told, impl.Truth(w, page)...)
		}
		got := impl.Memory(w)
		if !slices.Equal(got, want) || len(want) > 0 && !slices.Equal(got, told) {
			t.Fatalf("Memory(%v) is %v, not %v (Truth: %v)", w, got, want, told)
		}
		if len(got) == 24 {
			some++
		} else if none++; len(got) != 0 || len(told) == 24 {
			t.Fatalf("Memory(%v) is %v, and Truth of all pages is %v", w, got, told)
		}
	}
	if some < 500 || none < 500 {
		t.Error("too few of a kind to tell anything:", some, none)
	}
}

// What is done to an answer, or to the world behind it, is seen nowhere else.
func TestMemoriesTurnWithNothing(t *testing.T) {
	for size := 1; size <= impl.MaxNodes; size++ {
		for _, w := range truthWorlds(size) {
			first := impl.Memory(w)
			want := slices.Clone(first)
			handed := cloneOf(w)
			again := impl.Memory(handed)
			spoilFlock(impl.Flock{World: handed})
			for i := range first {
				first[i] = -5
			}
			_ = append(first, -6)
			if !slices.Equal(again, want) || !slices.Equal(impl.Memory(w), want) {
				t.Fatalf("Memory(%v) turned: %v, and was %v", w, again, want)
			}
		}
	}
}

// wantSameHart asks both ways round.
func wantSameHart(t *testing.T, a, b impl.Hart, want bool) {
	t.Helper()
	type two struct{ A, B impl.Hart }
	given := roomy(two{a, b})
	before := whole(given)
	for range 2 {
		if impl.SameHart(given.A, given.B) != want || impl.SameHart(given.B, given.A) != want {
			t.Errorf("SameHart(%v, %v) is not %v", a, b, want)
		}
	}
	wantUnwritten(t, given, before)
}

func hartsOfAllSorts() []impl.Hart {
	return slices.Concat(runningHarts(), idleHarts(), wrongHarts(), []impl.Hart{
		{Regs: make([]int, 3), Pc: 24, State: 3},
		{Regs: slices.Repeat([]int{math.MaxInt}, 4), Pc: math.MinInt, State: math.MaxInt},
	})
}

func TestSameHartOfHartsThatAreAlike(t *testing.T) {
	for _, h := range hartsOfAllSorts() {
		wantSameHart(t, h, cloneOf(h), true)
	}
	// An empty list and nil are the same.
	wantSameHart(t, impl.Hart{}, impl.Hart{Regs: []int{}}, true)
	wantSameHart(t, impl.Hart{Pc: 7}, impl.Hart{Regs: make([]int, 0, 4), Pc: 7}, true)
	for pc := range 24 {
		wantSameHart(t, impl.HartNew(pc), hartAt(pc, 0, 0, 0, 0), true)
		wantSameHart(t, impl.HartNew(pc), impl.HartNew(pc-24), true)
		wantSameHart(t, impl.HartNew(pc), impl.HartNew(pc+24), true)
		wantSameHart(t, impl.HartNew(pc), impl.HartNew(pc+1), false)
	}
}

// Two that part in one thing alone, whether they are HartOk or not.
func TestSameHartOfHartsThatPart(t *testing.T) {
	for _, h := range hartsOfAllSorts() {
		for at, n := range h.Regs {
			for _, other := range []int{0, 1, n + 1, n - 1, -n, n ^ 1, n + 65536, n + 1<<32, 65535, math.MinInt} {
				wantSameHart(t, h, withReg(h, at, other), other == n)
			}
		}
		for _, pc := range []int{0, 23, 24, h.Pc + 1, h.Pc - 1, h.Pc + 24, h.Pc - 24, h.Pc + 1<<32, math.MaxInt} {
			wantSameHart(t, h, impl.Hart{Regs: h.Regs, Pc: pc, State: h.State}, pc == h.Pc)
		}
		for _, state := range append([]int{0, 1, 2, 3, h.State + 256, h.State + 1}, farNumbers...) {
			wantSameHart(t, h, inState(h, state), state == h.State)
		}
		for count := range len(h.Regs) {
			wantSameHart(t, h, impl.Hart{Regs: h.Regs[:count], Pc: h.Pc, State: h.State}, false)
		}
		for _, more := range []int{0, 1, 65535, -1} {
			wantSameHart(t, h, impl.Hart{Regs: append(slices.Clone(h.Regs), more), Pc: h.Pc, State: h.State}, false)
		}
	}
	// The same registers in another order.
	wantSameHart(t, hartAt(3, 1, 2, 3, 4), hartAt(3, 2, 1, 3, 4), false)
	wantSameHart(t, hartAt(3, 1, 2, 3, 4), hartAt(3, 4, 3, 2, 1), false)
	// A number that is Pc of one and State of the other.
	wantSameHart(t, impl.Hart{Regs: make([]int, 4), Pc: 1}, impl.Hart{Regs: make([]int, 4), State: 1}, false)
}

func TestSameHartAsTheFieldsGo(t *testing.T) {
	r := rand.New(rand.NewSource(141))
	numbers := []int{0, 65535}
	drawn := func() impl.Hart {
		h := impl.Hart{Pc: 23 + r.Intn(2), State: 2 + r.Intn(2)}
		for range 3 + r.Intn(2) {
			h.Regs = append(h.Regs, numbers[r.Intn(2)])
		}
		return h
	}
	count := map[bool]int{}
	for range 20000 {
		a, b := drawn(), drawn()
		want := fmt.Sprint(a) == fmt.Sprint(b)
		if impl.SameHart(a, b) != want || impl.SameHart(b, a) != want {
			t.Errorf("SameHart(%v, %v) is not %v", a, b, want)
		}
		count[want]++
	}
	if count[true] < 200 || count[false] < 1000 {
		t.Error("too few of a kind to tell anything:", count)
	}
}

// A judged is what Judge is given.
type judged struct {
	Size   int
	Mem    []int
	Starts []int
	List   []impl.Deed
}

func (j judged) holds() bool { return impl.Judge(j.Size, j.Mem, j.Starts, j.List) }

// wantJudge asks for all that holds of each Judge, too.
func wantJudge(t *testing.T, j judged, want bool) {
	t.Helper()
	given := roomy(j)
	before := whole(given)
	for range 2 {
		if given.holds() != want {
			t.Errorf("Judge(%d, %v, %v, %v) is not %v", j.Size, j.Mem, j.Starts, j.List, want)
		}
	}
	wantUnwritten(t, given, before)
}

func TestJudgeOfSizes(t *testing.T) {
	list := []impl.Deed{run(0), deed(impl.DoSend, 0, 0, 0), deed(impl.DoGive, 0, 0, 0)}
	for _, size := range append([]int{-4, -2, 0, 1, 2, 3, 4, 5, 6, 8, 24, 256, 257, 1<<32 + 1}, farNumbers...) {
		has := size >= 1 && size <= 4
		for _, deeds := range [][]impl.Deed{nil, {}, list} {
			wantJudge(t, judged{size, make([]int, 24), nil, deeds}, has)
			wantJudge(t, judged{size, addingProgram(t), []int{1, 2}, deeds}, has)
		}
	}
}

func TestJudgeOfMemories(t *testing.T) {
	long := append(slices.Clone(cacheWords), cacheWords...)
	list := []impl.Deed{run(0), deed(impl.DoSend, 0, 0, 0)}
	for size := 1; size <= impl.MaxNodes; size++ {
		for count := range len(long) + 1 {
			wantJudge(t, judged{size, long[:count], nil, nil}, count == 24)
			wantJudge(t, judged{size, long[:count], []int{5}, list}, count == 24)
		}
		wantJudge(t, judged{size, nil, nil, nil}, false)
		for at := range 24 {
			for _, n := range noWordAtAll {
				wantJudge(t, judged{size, withWord(cacheWords, at, n), nil, nil}, false)
				wantJudge(t, judged{size, withWord(make([]int, 24), at, n), []int{at}, list}, false)
			}
			for _, n := range []int{0, 1, 65534, 65535} {
				wantJudge(t, judged{size, withWord(cacheWords, at, n), []int{at}, list}, true)
			}
		}
	}
}

// None, fewer, as many and more than nodes; also such that are no addresses.
func TestJudgeOfStarts(t *testing.T) {
	r := rand.New(rand.NewSource(142))
	for size := 1; size <= impl.MaxNodes; size++ {
		mem := addingProgram(t)
		for count := range size + 4 {
			starts := make([]int, count)
			for i := range starts {
				starts[i] = 5 * i % 24
			}
			wantJudge(t, judged{size, mem, starts, nil}, true)
			list := briskRow(t, r, size, mem, starts, 120).deeds
			wantJudge(t, judged{size, mem, starts, list}, true)
		}
		for _, start := range append([]int{-25, -24, 24, 25, 47, 48, 65536, 1 << 40}, farNumbers...) {
			starts := slices.Repeat([]int{start}, size)
			list := briskRow(t, r, size, mem, starts, 40).deeds
			wantJudge(t, judged{size, mem, starts, list}, true)
		}
	}
}

// A limit that is met exactly is accepted, one that is passed by one is not,
// whatever the deeds are: such that are done, that are refused, that are none.
func TestJudgeOfRowsByHowMany(t *testing.T) {
	r := rand.New(rand.NewSource(143))
	for size := 1; size <= impl.MaxNodes; size++ {
		mem := addingProgram(t)
		brisk := briskRow(t, r, size, mem, nil, impl.MaxDeeds).deeds
		if len(brisk) != impl.MaxDeeds {
			t.Fatal("deeds", len(brisk))
		}
		for _, count := range []int{0, 1, 2, 3, 57, 200, impl.MaxDeeds - 1, impl.MaxDeeds} {
			wantJudge(t, judged{size, mem, nil, brisk[:count]}, true)
			wantJudge(t, judged{size, mem, nil, slices.Repeat([]impl.Deed{run(0)}, count)}, true)
			wantJudge(t, judged{size, mem, nil, slices.Repeat([]impl.Deed{run(size)}, count)}, true)
			wantJudge(t, judged{size, mem, nil, make([]impl.Deed, count)}, true)
		}
		for _, more := range []int{1, 2, impl.MaxDeeds, 2000} {
			count := impl.MaxDeeds + more
			wantJudge(t, judged{size, mem, nil, slices.Repeat(brisk, 6)[:count]}, false)
			wantJudge(t, judged{size, mem, nil, slices.Repeat([]impl.Deed{run(0)}, count)}, false)
			wantJudge(t, judged{size, mem, nil, make([]impl.Deed, count)}, false)
		}
		// Where there is no flock either.
		wantJudge(t, judged{size, mem[1:], nil, make([]impl.Deed, impl.MaxDeeds+1)}, false)
		wantJudge(t, judged{-size, mem, nil, make([]impl.Deed, impl.MaxDeeds+1)}, false)
	}
}

// Each deed alone, from a new flock on: done or refused, it holds.
func TestJudgeOfOneDeed(t *testing.T) {
	t.Parallel()
	numbers := append([]int{0, 1, 3, 4, 5, 6}, farNumbers...)
	for size := 1; size <= impl.MaxNodes; size++ {
		for kind := -1; kind <= 9; kind++ {
			for _, a := range numbers {
				for _, b := range []int{0, size - 1, size, 5, 6, -1, math.MinInt} {
					j := judged{size, cacheWords, []int{3, 9}, []impl.Deed{deed(kind, a, b, 1)}}
					if !j.holds() {
						t.Errorf("Judge of %v is false", j)
					}
				}
			}
		}
		for _, kind := range notDeeds {
			wantJudge(t, judged{size, cacheWords, nil, []impl.Deed{deed(kind, 0, 0, 0)}}, true)
			wantJudge(t, judged{size, cacheWords, nil, []impl.Deed{run(0), deed(kind, 0, 0, 0), run(0)}}, true)
		}
	}
}

// briskDeed is one that moves f on, on a net that loses, doubles and turns round:
// it looks for lines that have something to tell.
func briskDeed(r *rand.Rand, f impl.Flock) impl.Deed {
	size, on := f.World.Size, len(f.World.Net)
	switch n := r.Intn(24); {
	case n < 7:
		return run(r.Intn(size))
	case n < 14:
		var list []impl.Deed
		for a, node := range f.World.Nodes {
			for b, line := range node.Out {
				next := f.World.Nodes[b].In[a].Got - line.Base
				if next < len(line.Queue) {
					list = append(list, deed(impl.DoSend, a, b, next))
				}
				if len(line.Queue) > 0 && r.Intn(4) == 0 {
					list = append(list, deed(impl.DoSend, a, b, r.Intn(len(line.Queue))))
				}
				if next > 0 && r.Intn(2) == 0 {
					list = append(list, deed(impl.DoAck, b, a, 0))
				}
			}
		}
		if len(list) > 0 {
			return list[r.Intn(len(list))]
		}
	case n < 21:
		if on > 0 {
			return deed(impl.DoGive, r.Intn(on), 0, 0)
		}
	case n == 21 && on > 0:
		return deed([]int{impl.DoLose, impl.DoCopy}[r.Intn(2)], r.Intn(on), 0, 0)
	case n == 22 && on > 12:
		return deed(impl.DoLose, r.Intn(on), 0, 0)
	}
	if r.Intn(3) > 0 {
		return run(r.Intn(size))
	}
	return drawnDeed(r, f)
}

// A judgedRow is deeds that were done one behind the other, and what became of
// the flock. As runs are their halves, there may be more of them than one run has.
type judgedRow struct {
	t        *testing.T
	first, f impl.Flock
	deeds    []impl.Deed
	codes    []int
	order    []int
}

// do answers whether a step of a hart was done.
func (p *judgedRow) do(d impl.Deed) bool {
	p.t.Helper()
	next := ranFlock(p.f, []impl.Deed{d})
	if p.f = next.Flock; !impl.FlockOk(p.f) {
		p.t.Fatalf("%v made what is not FlockOk: %v", d, p.f)
	}
	p.deeds, p.codes, p.order = append(p.deeds, d), append(p.codes, next.Codes...), append(p.order, next.Order...)
	return len(next.Order) > 0
}

func newRow(t *testing.T, size int, mem, starts []int) *judgedRow {
	t.Helper()
	f, ok := impl.FlockNew(size, mem, starts)
	if !ok {
		t.Fatal("there is no flock of", size, mem, starts)
	}
	return &judgedRow{t: t, first: f, f: f}
}

func briskRow(t *testing.T, r *rand.Rand, size int, mem, starts []int, count int) *judgedRow {
	t.Helper()
	p := newRow(t, size, mem, starts)
	for range count {
		p.do(briskDeed(r, p.f))
	}
	return p
}

// wantOneMemory asks of a row, by the parts that Judge asks about and by the words
// of the document, that it was done on one flat memory.
func (p *judgedRow) wantOneMemory(mem []int) {
	p.t.Helper()
	g := flatRun{Mem: mem, Order: p.order}
	for _, c := range p.first.Cores {
		g.Harts = append(g.Harts, c.Hart)
	}
	want := runByWords(g)
	if sane, why := saneByWords(p.f.World); !sane || !impl.Sane(p.f.World) || !impl.FlockOk(p.f) {
		p.t.Fatalf("no longer right (%s) behind %v: %v", why, p.deeds, p.f)
	}
	if got := impl.Memory(p.f.World); !slices.Equal(got, want.Mem) {
		p.t.Fatalf("behind %v the memory is\n%v, on one memory\n%v", p.deeds, got, want.Mem)
	}
	for id, c := range p.f.Cores {
		if !impl.SameHart(c.Hart, want.Harts[id]) {
			p.t.Fatalf("behind %v hart %d is %v, on one memory %v", p.deeds, id, c.Hart, want.Harts[id])
		}
	}
}

// writesOver are programs that are written over while they run, by their own
// harts and by others.
func writesOver() map[string][]int {
	grows := words(map[int]impl.Ins{
		0: {Op: impl.InLoad, R: 1, N: 21},
		1: {Op: impl.InSet, R: 2, N: 0},
		2: {Op: impl.InSwap, R: 3, B: 1, N: 1},
		3: {Op: impl.InJump, N: 1},
	})
	// One more N of what is at 1.
	grows[21] = 1024
	turns := words(map[int]impl.Ins{
		0: {Op: impl.InLoad, R: 1, N: 5},
		1: {Op: impl.InStore, B: 1, N: 3},
		2: {Op: impl.InMore, R: 3, A: 3, N: 1},
		3: {Op: impl.InJump, N: 0},
		4: {Op: impl.InJump, N: 2},
		5: {Op: impl.InJump, N: 4},
		6: {Op: impl.InJump, N: 0},
	})
	moves := words(map[int]impl.Ins{
		// It lays its own places down eight addresses on, and goes on there.
		0: {Op: impl.InLoad, R: 1, A: 0, N: 0},
		1: {Op: impl.InStore, A: 0, B: 1, N: 8},
		2: {Op: impl.InMore, R: 0, A: 0, N: 1},
		3: {Op: impl.InJump, N: 0},
	})
	faults := words(map[int]impl.Ins{
		0: {Op: impl.InSet, R: 1, N: 9},
		1: {Op: impl.InSwap, R: 2, B: 1, N: 10},
		8: {Op: impl.InMore, R: 2, A: 2, N: 1},
		9: {Op: impl.InZero, A: 3, N: 8},
		// Two swaps of 9, and it is 18: no place.
		2: {Op: impl.InJump, N: 8},
	})
	return map[string][]int{"grows": grows, "turns": turns, "moves": moves, "faults": faults}
}

// The promise, over drawn rows: whatever the net does, and whoever goes on when,
// it is one memory, behind the first deeds, behind some and behind all.
func TestWhateverIsDoneItIsOneMemory(t *testing.T) {
	t.Parallel()
	count := map[string]int{}
	for seed := range 160 {
		r := rand.New(rand.NewSource(int64(1400 + seed)))
		size := seed%impl.MaxNodes + 1
		mem, starts := drawnMemory(r), drawnStarts(r, size)
		draw := briskDeed
		if seed%4 == 0 {
			draw = likelyDeed
		}
		p := newRow(t, size, mem, starts)
		for range impl.MaxDeeds {
			p.do(draw(r, p.f))
		}
		p.wantOneMemory(mem)
		for _, cut := range []int{1, r.Intn(20), r.Intn(impl.MaxDeeds), impl.MaxDeeds - 1, impl.MaxDeeds} {
			j := judged{size, mem, starts, p.deeds[:cut]}
			if !j.holds() {
				t.Fatalf("Judge of %v is false", j)
			}
		}
		p.tally(count)
	}
	wantTally(t, count, 1500)
}

func drawnStarts(r *rand.Rand, size int) []int {
	var starts []int
	for range r.Intn(size + 2) {
		starts = append(starts, r.Intn(24))
	}
	return starts
}

// tally counts what was done in a row.
func (p *judgedRow) tally(count map[string]int) {
	count["steps"] += len(p.order)
	for i, d := range p.deeds {
		count[fmt.Sprint("kind ", d.Kind, " done ", p.codes[i] == impl.WdDone)]++
	}
}

func wantTally(t *testing.T, count map[string]int, steps int) {
	t.Helper()
	if count["steps"] < steps {
		t.Error("too few steps to tell anything:", count)
	}
	for kind := 1; kind <= 7; kind++ {
		if count[fmt.Sprint("kind ", kind, " done true")] < 100 {
			t.Error("too few of kind", kind, "to tell anything:", count)
		}
	}
}

// Programs that are written over while they run, at every hart.
func TestProgramsThatAreWrittenOver(t *testing.T) {
	t.Parallel()
	for name, mem := range writesOver() {
		t.Run(name, func(t *testing.T) {
			count := map[string]int{}
			written := 0
			for seed := range 24 {
				r := rand.New(rand.NewSource(int64(1450 + seed)))
				size := seed%impl.MaxNodes + 1
				p := briskRow(t, r, size, mem, nil, impl.MaxDeeds)
				p.wantOneMemory(mem)
				wantJudge(t, judged{size, mem, nil, p.deeds}, true)
				p.tally(count)
				written += len(turnedWords(impl.Memory(p.f.World), mem))
			}
			if count["steps"] < 300 || written < 12 {
				t.Error("too little was done to tell anything:", written, count)
			}
		})
	}
}

// Deeds that were drawn with no look at the flock, most of them refused, and
// kinds that are none between them.
func TestJudgeOfDeedsThatAreDrawnBlind(t *testing.T) {
	t.Parallel()
	r := rand.New(rand.NewSource(144))
	numbers := append([]int{0, 0, 0, 1, 1, 2, 3, 4, 5, 6, 39, 40}, farNumbers...)
	number := func() int { return numbers[r.Intn(len(numbers))] }
	// Much is sent, given and acked, or nothing would come to anybody.
	kinds := []int{0, 1, 1, 1, 1, 1, 2, 2, 2, 3, 3, 3, 3, 3, 3, 3, 4, 5, 6, 7, 7, 7, 8}
	steps := 0
	for i := range 300 {
		size := i%impl.MaxNodes + 1
		j := judged{Size: size, Mem: drawnMemory(r), Starts: drawnStarts(r, size)}
		for range r.Intn(impl.MaxDeeds + 1) {
			d := deed(kinds[r.Intn(len(kinds))], r.Intn(size), r.Intn(size), 0)
			switch r.Intn(16) {
			case 0:
				d = deed(number(), number(), number(), number())
			case 1:
				d = deed(1+r.Intn(7), number(), number(), number())
			}
			j.List = append(j.List, d)
		}
		if !j.holds() {
			t.Fatalf("Judge of %v is false", j)
		}
		f, _ := impl.FlockNew(size, j.Mem, j.Starts)
		steps += len(ranFlock(f, j.List).Order)
	}
	if steps < 300 {
		t.Error("too few steps to tell anything:", steps)
	}
}

// handRow is two harts that add at 20, each 5, and go on, told by hand: hart 0
// adds twice and hart 1 once, and hart 1 is behind its last swap.
func handRow(t *testing.T) (*judgedRow, []int) {
	t.Helper()
	mem := words(map[int]impl.Ins{
		0: {Op: impl.InSet, R: 1, N: 5},
		1: {Op: impl.InSwap, R: 2, B: 1, N: 20},
		2: {Op: impl.InJump, N: 1},
	})
	p := newRow(t, 2, mem, nil)
	carry := func(from, to int) {
		for _, d := range []impl.Deed{deed(impl.DoSend, from, to, 0), deed(impl.DoGive, 0, 0, 0), deed(impl.DoAck, to, from, 0), deed(impl.DoGive, 0, 0, 0)} {
			p.do(d)
		}
	}
	for who := range 2 {
		p.do(run(who))
		carry(who, 0)
		carry(0, who)
		p.do(run(who))
	}
	// Page 5 is at home at node 1. Hart 0 has it first, and swaps twice.
	p.do(run(0))
	carry(0, 1)
	carry(1, 0)
	for range 3 {
		p.do(run(0))
	}
	p.do(run(1))
	carry(1, 1)
	carry(1, 0)
	carry(0, 1)
	carry(1, 1)
	p.do(run(1))
	for i, code := range p.codes {
		if code != impl.WdDone {
			t.Fatal("deed", i, p.deeds[i], "has the code", code)
		}
	}
	return p, mem
}

func TestARowByHand(t *testing.T) {
	p, mem := handRow(t)
	if want := []int{0, 1, 0, 0, 0, 1}; !slices.Equal(p.order, want) {
		t.Fatal("the order is", p.order, "not", want)
	}
	wantMemory(t, p.f.World, withWord(mem, 20, 15))
	for id, want := range []impl.Hart{hartAt(2, 0, 5, 5, 0), hartAt(2, 0, 5, 10, 0)} {
		wantSameHart(t, p.f.Cores[id].Hart, want, true)
	}
	p.wantOneMemory(mem)
	wantJudge(t, judged{2, mem, nil, p.deeds}, true)
	for cut := range p.deeds {
		wantJudge(t, judged{2, mem, nil, p.deeds[:cut]}, true)
	}
}

// Where what was done is not what one flat memory makes, the parts that Judge asks
// about tell it: a word of Memory, a hart, an order that is another one.
func TestWhatIsNotOneMemoryIsTold(t *testing.T) {
	p, mem := handRow(t)
	start := flatRun{mem, []impl.Hart{impl.HartNew(0), impl.HartNew(0)}, p.order}
	flat := ran(start)
	wantMemory(t, p.f.World, flat.Mem)
	for at := range 24 {
		f := cloneOf(p.f)
		// Whoever has the truth of that page has another word.
		home := homesOfPages[2][at/4]
		list := f.World.Nodes[home].Homes[at/4].List
		if owner := f.World.Nodes[home].Homes[at/4].Owner; owner != nobody {
			list = f.World.Nodes[owner].Frames[at/4].List
		}
		list[at%4]++
		if got := impl.Memory(f.World); !slices.Equal(turnedWords(got, flat.Mem), []int{at}) {
			t.Errorf("another word at %d: Memory is %v, on one memory %v", at, got, flat.Mem)
		}
	}
	for id, c := range p.f.Cores {
		wantSameHart(t, c.Hart, flat.Harts[id], true)
		wantSameHart(t, c.Hart, flat.Harts[1-id], false)
		for at := range 4 {
			wantSameHart(t, withReg(c.Hart, at, c.Hart.Regs[at]+1), flat.Harts[id], false)
		}
		wantSameHart(t, hartAt(c.Hart.Pc+1, c.Hart.Regs...), flat.Harts[id], false)
		wantSameHart(t, inState(c.Hart, impl.HtHalt), flat.Harts[id], false)
	}
	// By other orders harts or words are other ones; but who sets first is one.
	for _, c := range []struct {
		order []int
		same  bool
	}{
		{[]int{0, 1, 0, 0, 0, 1}, true},
		{[]int{1, 0, 0, 0, 0, 1}, true},
		{[]int{0, 0, 0, 0, 1, 1}, true},
		{[]int{0, 1, 1, 0, 0, 0}, false},
		{[]int{0, 1, 0, 1, 0, 0}, false},
		{[]int{0, 1, 0, 0, 0}, false},
		{[]int{0, 1, 0, 0, 0, 1, 1}, false},
		{[]int{1, 0, 1, 1, 1, 0}, false},
		{nil, false},
	} {
		got := ran(flatRun{start.Mem, start.Harts, c.order})
		same := slices.Equal(impl.Memory(p.f.World), got.Mem)
		for id, core := range p.f.Cores {
			same = same && impl.SameHart(core.Hart, got.Harts[id])
		}
		if same != c.same {
			t.Errorf("by the order %v it is %v, and is that one memory: %v", c.order, got, same)
		}
	}
}

// adders is a memory in which a hart that begins at 4 times its number adds the
// word at 16 and its number to the word at 20, over and over.
func adders(amounts ...int) []int {
	places := map[int]impl.Ins{}
	for who := range 4 {
		places[4*who] = impl.Ins{Op: impl.InLoad, R: 1, N: 16 + who}
		places[4*who+1] = impl.Ins{Op: impl.InSwap, R: 2, B: 1, N: 20}
		places[4*who+2] = impl.Ins{Op: impl.InJump, N: 4*who + 1}
	}
	mem := words(places)
	copy(mem[16:20], amounts)
	return mem
}

// What is added is not lost: each swap of a hart is its second, fourth .. step, so
// who ran how often tells what stands there, with no look at a flat memory.
func TestNothingThatIsAddedIsLost(t *testing.T) {
	t.Parallel()
	swaps := 0
	for seed := range 60 {
		r := rand.New(rand.NewSource(int64(1470 + seed)))
		size := seed%impl.MaxNodes + 1
		amounts := [][]int{{1, 1, 1, 1}, {1, 10, 100, 1000}, {65535, 1, 65535, 30000}, {7, 65530, 0, 40000}}[seed/4%4]
		mem := adders(amounts...)
		p := newRow(t, size, mem, []int{0, 4, 8, 12})
		ran, sum := make([]int, size), 0
		for range 700 {
			d := briskDeed(r, p.f)
			if !p.do(d) {
				continue
			}
			if ran[d.A]++; ran[d.A]%2 == 0 {
				if got := p.f.Cores[d.A].Hart.Regs[2]; got != sum {
					t.Fatalf("hart %d found %d, and %d was added by all", d.A, got, sum)
				}
				sum = (sum + amounts[d.A]) % 65536
				swaps++
			}
			if got := impl.Memory(p.f.World); len(got) != 24 || got[20] != sum {
				t.Fatalf("%d was added by all, and the memory is %v", sum, got)
			}
		}
		wantMemory(t, p.f.World, withWord(mem, 20, sum))
		wantJudge(t, judged{size, mem, []int{0, 4, 8, 12}, p.deeds[:impl.MaxDeeds]}, true)
		p.wantOneMemory(mem)
	}
	if swaps < 600 {
		t.Error("too few swaps to tell anything:", swaps)
	}
}

// Each hart adds 1 three times by the same program, and halts; behind the last one
// three times as many as there are harts stand there.
func TestHartsThatAddSoOftenAndHalt(t *testing.T) {
	t.Parallel()
	for seed := range 24 {
		r := rand.New(rand.NewSource(int64(1480 + seed)))
		size := seed%impl.MaxNodes + 1
		mem := addingProgram(t)
		p := newRow(t, size, mem, nil)
		for halted := 0; halted < size; {
			if len(p.deeds) > 20000 {
				t.Fatal("they don't come to an end:", p.f)
			}
			d := briskDeed(r, p.f)
			if p.do(d) && p.f.Cores[d.A].Hart.State == impl.HtHalt {
				halted++
			}
		}
		if len(p.order) != 14*size {
			t.Error("so many steps:", len(p.order), "of", size)
		}
		wantMemory(t, p.f.World, withWord(mem, 20, 3*size))
		p.wantOneMemory(mem)
		wantJudge(t, judged{size, mem, nil, p.deeds[:min(len(p.deeds), impl.MaxDeeds)]}, true)
	}
}

// Two lose what is added where they load and store instead: that it is one memory
// does not make one step of two.
func TestWhatIsLoadedAndStoredMayBeLost(t *testing.T) {
	mem := words(map[int]impl.Ins{
		0: {Op: impl.InLoad, R: 1, N: 20},
		1: {Op: impl.InMore, R: 1, A: 1, N: 1},
		2: {Op: impl.InStore, B: 1, N: 20},
		3: {Op: impl.InHalt},
	})
	lost := 0
	for seed := range 20 {
		r := rand.New(rand.NewSource(int64(1490 + seed)))
		p := briskRow(t, r, 3, mem, nil, impl.MaxDeeds)
		p.wantOneMemory(mem)
		wantJudge(t, judged{3, mem, nil, p.deeds}, true)
		stores := 0
		for _, c := range p.f.Cores {
			if c.Hart.Pc == 3 {
				stores++
			}
		}
		if impl.Memory(p.f.World)[20] < stores {
			lost++
		}
	}
	if lost == 0 {
		t.Error("nothing was lost, so nothing was told")
	}
}

// judgedOfAllSorts are such that hold and such that do not, of many sorts.
func judgedOfAllSorts(t *testing.T) []judged {
	t.Helper()
	r := rand.New(rand.NewSource(145))
	list := []judged{{}, {Size: 2}, {Size: 5, Mem: make([]int, 24)}, {Size: 2, Mem: make([]int, 24), List: make([]impl.Deed, impl.MaxDeeds+1)}}
	for size := 1; size <= impl.MaxNodes; size++ {
		for _, mem := range [][]int{addingProgram(t), adders(1, 2, 3, 4), drawnMemory(r), writesOver()["grows"]} {
			starts := drawnStarts(r, size)
			deeds := briskRow(t, r, size, mem, starts, impl.MaxDeeds).deeds
			list = append(list, judged{size, mem, starts, deeds}, judged{size, mem, starts, deeds[:30]},
				judged{size, mem[1:], starts, deeds}, judged{size, mem, starts, append(slices.Clone(deeds), run(0))})
		}
	}
	return list
}

// Many times over, alone and beside others, with as many of the machine's threads
// as may be: the same answer.
func TestJudgesAnswerTheSameAgain(t *testing.T) {
	defer runtime.GOMAXPROCS(runtime.GOMAXPROCS(0))
	list := judgedOfAllSorts(t)
	var first []bool
	for _, j := range list {
		first = append(first, j.holds())
	}
	if !slices.Contains(first, true) || !slices.Contains(first, false) {
		t.Fatal("all are alike:", first)
	}
	for i := range 10 {
		runtime.GOMAXPROCS(1 + i%6)
		for at := len(list) - 1; at >= 0; at-- {
			others := make(chan bool, 3)
			for range 3 {
				go func() { others <- list[at].holds() }()
			}
			for range 3 {
				if got := <-others; got != first[at] {
					t.Fatalf("Judge of %v is %v, and was %v", list[at], got, first[at])
				}
			}
		}
	}
}

// What is handed in stays as it was, and one who writes into it behind an answer
// has another answer by what stands there then alone.
func TestJudgesKeepNothing(t *testing.T) {
	mem, list := addingProgram(t), []impl.Deed{run(0), run(1)}
	starts := []int{0, 2}
	for range 3 {
		wantJudge(t, judged{2, mem, starts, list}, true)
		mem[5]--
		mem[0] = -1
		wantJudge(t, judged{2, mem, starts, list}, false)
		mem[0] = 65535
		wantJudge(t, judged{2, mem, starts, list}, true)
		starts[0], list[1] = math.MinInt, impl.Deed{}
		wantJudge(t, judged{2, mem, starts, list}, true)
	}
	// The lists that are handed in may be one list.
	same := slices.Repeat([]int{3}, 24)
	before := whole(same)
	if !impl.Judge(4, same, same[:4], list) || !impl.Judge(1, same, same, nil) {
		t.Error("Judge of one list is false")
	}
	wantUnwritten(t, same, before)
}

// When a call has answered, none of its goroutines goes on.
func TestNobodyStaysBehindAJudge(t *testing.T) {
	list := judgedOfAllSorts(t)
	before := runtime.NumGoroutine()
	for _, j := range list {
		for range 5 {
			j.holds()
		}
	}
	// One that has told all may still be about to end.
	for range 1000 {
		if runtime.NumGoroutine() <= before {
			return
		}
		runtime.Gosched()
	}
	if now := runtime.NumGoroutine(); now > before+8 {
		t.Error(now, "goroutines, and", before, "before")
	}
}

// Whatever is handed in: an answer, and no panic. It holds where there is a flock
// and the row is not too long, and nowhere else.
func TestJudgesAnswerAtAnyArguments(t *testing.T) {
	t.Parallel()
	r := rand.New(rand.NewSource(146))
	odd := append([]int{0, 1, 2, 3, 4, 5, 6, 7, 23, 24, setWord, 65535, 65536, 100000}, farNumbers...)
	number := func() int { return odd[r.Intn(len(odd))] }
	numbers := func(count int) []int {
		var list []int
		for range count {
			list = append(list, number())
		}
		return list
	}
	count := map[bool]int{}
	for i := range 1500 {
		j := judged{r.Intn(4) + 1, drawnMemory(r), numbers(r.Intn(7)), nil}
		if i%5 == 1 {
			j.Size = number()
		}
		if i%5 == 2 {
			j.Mem = numbers(23 + r.Intn(3))
		}
		for range []int{0, 1, 9, 60, impl.MaxDeeds, impl.MaxDeeds + 1}[r.Intn(6)] {
			j.List = append(j.List, deed(number(), number(), number(), number()))
		}
		want := j.Size >= 1 && j.Size <= 4 && len(j.Mem) == 24 && len(j.List) <= 400
		for _, n := range j.Mem {
			want = want && n >= 0 && n <= 65535
		}
		if j.holds() != want {
			t.Errorf("Judge of %v is not %v", j, want)
		}
		count[want]++
		impl.SameHart(impl.Hart{Regs: numbers(r.Intn(6)), Pc: number(), State: number()}, impl.Hart{Regs: numbers(r.Intn(6))})
		impl.Memory(harmed(r, talkingWorld(r, r.Intn(4)+1)))
	}
	if count[true] < 300 || count[false] < 300 {
		t.Error("too few of a kind to tell anything:", count)
	}
}
