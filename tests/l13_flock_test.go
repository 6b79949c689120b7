package tests

import (
	"fmt"
	"math"
	"math/rand"
	"reflect"
	"runtime"
	"slices"
	"testing"

	"loop.example/g00281/impl"
)

func sameFlock(a, b impl.Flock) bool {
	return sameWorld(a.World, b.World) && slices.EqualFunc(a.Cores, b.Cores, sameCore)
}

// inFlock is a copy of f with something done to it.
func inFlock(f impl.Flock, turn func(f *impl.Flock)) impl.Flock {
	f = cloneOf(f)
	turn(&f)
	return f
}

func withCore(f impl.Flock, id int, c impl.Core) impl.Flock {
	return inFlock(f, func(f *impl.Flock) { f.Cores[id] = c })
}

func withSeat(f impl.Flock, id int, s seat) impl.Flock {
	return inFlock(f, func(f *impl.Flock) { f.Cores[id], f.World.Nodes[id] = s.Core, s.Node })
}

func seatAt(f impl.Flock, id int) seat { return seat{f.Cores[id], f.World.Nodes[id]} }

// overWorld is a flock with the cores of f and a world of its own.
func overWorld(f impl.Flock, w impl.World) impl.Flock { return impl.Flock{World: w, Cores: f.Cores} }

func run(who int) impl.Deed { return deed(impl.DoRun, who, 0, 0) }

// newFlock is a new one in memory of its own, written out by hand.
func newFlock(size int, mem []int, harts ...impl.Hart) impl.Flock {
	f := impl.Flock{World: newWorld(size)}
	for page, home := range homesOfPages[size] {
		f.World.Nodes[home].Homes[page].List = slices.Clone(mem[4*page : 4*page+4])
	}
	for _, h := range harts {
		f.Cores = append(f.Cores, coreOf(h))
	}
	return f
}

// bareFlock is a right one with nothing in it.
func bareFlock(size int) impl.Flock {
	return newFlock(size, make([]int, 24), slices.Repeat([]impl.Hart{hartAt(0, 0, 0, 0, 0)}, size)...)
}

// coresFor are right at nodes whose frames hold cacheWords, no two the same.
func coresFor(size int) []impl.Core {
	var list []impl.Core
	for id := range size {
		list = append(list, coreOf(hartAt(4*id+1, id, 9, 65535, 7*id), someBlocks(5-id, 5*id)...))
	}
	return list
}

// fullFlock is a right one that has something of each sort.
func fullFlock(size int) impl.Flock {
	f := impl.Flock{World: fullWorld(size), Cores: coresFor(size)}
	for id := range size {
		f.World.Nodes[id].Frames = framesOf(cacheWords, impl.StRead, impl.StWrite)
	}
	return f
}

func rightFlocks(size int) []impl.Flock {
	full := fullFlock(size)
	list := []impl.Flock{bareFlock(size), full, overWorld(full, crowded(full.World)), overWorld(full, withNet(full.World))}
	for i, h := range append(runningHarts(), idleHarts()...) {
		list = append(list, withCore(full, i%size, coreOf(h, someBlocks(i%6, i)...)))
		list = append(list, withCore(bareFlock(size), i%size, coreOf(h)))
	}
	return list
}

// firstMiddleLast are places among so many nodes.
func firstMiddleLast(size int) []int {
	return slices.Compact([]int{0, size / 2, size - 1})
}

// wrongFlocks are such that are not FlockOk, each by one thing alone.
func wrongFlocks(size int) []impl.Flock {
	var list []impl.Flock
	for _, f := range []impl.Flock{bareFlock(size), fullFlock(size)} {
		for count := range size {
			list = append(list, impl.Flock{World: f.World, Cores: f.Cores[:count]})
		}
		list = append(list,
			impl.Flock{World: f.World, Cores: append(slices.Clone(f.Cores), f.Cores[0])},
			impl.Flock{World: f.World, Cores: append(slices.Clone(f.Cores), impl.Core{})},
			impl.Flock{World: f.World, Cores: append(slices.Clone(f.Cores), f.Cores...)})
		for _, id := range firstMiddleLast(size) {
			list = append(list, withCore(f, id, impl.Core{}))
		}
	}
	full, places := fullFlock(size), firstMiddleLast(size)
	for i, h := range wrongHarts() {
		id := places[i%len(places)]
		list = append(list, withCore(full, id, coreOf(h, full.Cores[id].Cache...)))
	}
	for i, cache := range wrongCaches() {
		id := places[i%len(places)]
		list = append(list, withCore(full, id, coreOf(full.Cores[id].Hart, cache...)))
	}
	return append(list, flocksInWrongWorlds(size)...)
}

// fewWrongFlocks are some of each sort of them, other ones by each salt.
func fewWrongFlocks(size, salt int) []impl.Flock {
	var list []impl.Flock
	for i, f := range append(wrongFlocks(size), impl.Flock{}) {
		if (i+salt)%7 == 0 {
			list = append(list, f)
		}
	}
	return list
}

// flocksInWrongWorlds have cores that would be right but for the world.
func flocksInWrongWorlds(size int) []impl.Flock {
	var list []impl.Flock
	bare := bareFlock(size)
	for _, w := range wrongWorlds(size) {
		list = append(list, overWorld(bare, w))
	}
	full := fullFlock(size)
	for _, turn := range []func(w *impl.World){
		func(w *impl.World) { w.Size++ },
		func(w *impl.World) { w.Size-- },
		func(w *impl.World) { w.Net = packets(impl.MaxNet+1, size) },
		func(w *impl.World) { w.Net[4].To = size },
		func(w *impl.World) { w.Nodes[size-1].Id = size },
		func(w *impl.World) { w.Nodes[0].Homes[5].Acks = -1 },
		func(w *impl.World) { w.Nodes = w.Nodes[:size-1] },
	} {
		list = append(list, overWorld(full, inWorld(full.World, turn)))
	}
	return list
}

func wantFlockOk(t *testing.T, f impl.Flock, want bool) {
	t.Helper()
	given := roomy(f)
	before := whole(given)
	for range 2 {
		if impl.FlockOk(given) != want {
			t.Errorf("FlockOk(%v) is not %v", f, want)
		}
	}
	wantUnwritten(t, given, before)
}

func TestFlockConstants(t *testing.T) {
	if impl.DoRun != 7 {
		t.Error("DoRun", impl.DoRun)
	}
}

func TestFlockOk(t *testing.T) {
	t.Parallel()
	for size := 1; size <= impl.MaxNodes; size++ {
		for _, f := range rightFlocks(size) {
			wantFlockOk(t, f, true)
		}
		for _, f := range wrongFlocks(size) {
			if impl.FlockOk(f) {
				t.Errorf("FlockOk(%v) is true", f)
			}
		}
		for _, f := range fewWrongFlocks(size, 1) {
			wantFlockOk(t, f, false)
		}
	}
	wantFlockOk(t, impl.Flock{}, false)
	wantFlockOk(t, impl.Flock{Cores: coresFor(1)}, false)
	// One more than there can be, each of them right but for that.
	five := impl.Flock{World: newWorld(impl.MaxNodes + 1)}
	for range impl.MaxNodes + 1 {
		five.Cores = append(five.Cores, coreOf(impl.HartNew(0)))
	}
	wantFlockOk(t, five, false)
}

// By each count of nodes and of cores.
func TestFlockOkByHowMany(t *testing.T) {
	for size := range impl.MaxNodes + 3 {
		for count := range impl.MaxNodes + 3 {
			f := impl.Flock{World: newWorld(size)}
			for range count {
				f.Cores = append(f.Cores, coreOf(impl.HartNew(3)))
			}
			wantFlockOk(t, f, size == count && size >= 1 && size <= impl.MaxNodes)
		}
	}
}

// Each core is held against its own node: what one node's pages are is nothing
// to the core of another.
func TestFlockOkByTheNodeOfEachCore(t *testing.T) {
	for size := 2; size <= impl.MaxNodes; size++ {
		for lacking := range size {
			for keeping := range size {
				for _, b := range []impl.Block{cacheBlocks[0], cacheBlocks[9], cacheBlocks[23]} {
					f := fullFlock(size)
					for id := range f.Cores {
						f.Cores[id].Cache = nil
					}
					f.World.Nodes[lacking].Frames[b.Start/4] = impl.Frame{}
					f.Cores[keeping].Cache = []impl.Block{b}
					wantFlockOk(t, f, keeping != lacking)
					written := slices.Clone(pageWords(cacheWords, b.Start))
					written[b.Start%4] = subWord
					f.World.Nodes[lacking].Frames[b.Start/4] = frameOf(impl.StWrite, false, written...)
					wantFlockOk(t, f, keeping != lacking)
				}
			}
		}
	}
}

// A flockStart is what FlockNew is given.
type flockStart struct {
	Mem    []int
	Starts []int
}

func wantFlockNew(t *testing.T, size int, mem, starts []int, want impl.Flock, wantOk bool) {
	t.Helper()
	given := roomy(flockStart{mem, starts})
	before := whole(given)
	one, ok := impl.FlockNew(size, given.Mem, given.Starts)
	two, again := impl.FlockNew(size, given.Mem, given.Starts)
	if ok != wantOk || again != wantOk || !sameFlock(one, want) || !sameFlock(two, want) {
		t.Errorf("FlockNew(%d, %v, %v) is\n%v, %v, not\n%v, %v", size, mem, starts, one, ok, want, wantOk)
	}
	if impl.FlockOk(one) != wantOk {
		t.Errorf("FlockNew(%d, %v, %v): FlockOk is not %v", size, mem, starts, wantOk)
	}
	wantNew(t, []impl.Flock{one, two}, given)
	wantUnwritten(t, given, before)
}

func wantNoFlock(t *testing.T, size int, mem, starts []int) {
	t.Helper()
	wantFlockNew(t, size, mem, starts, impl.Flock{}, false)
}

// The words of mem stand in the homes, page by page; each node has a hart where
// it starts, no page is anywhere else, and nothing is kept.
func TestFlockNew(t *testing.T) {
	t.Parallel()
	zero := []int{0, 0, 0, 0}
	starts := []int{5, 23, 0, 11, 7, 8}
	for size := 1; size <= impl.MaxNodes; size++ {
		for _, mem := range [][]int{plainWords(), cacheWords, make([]int, 24), slices.Repeat([]int{65535}, 24)} {
			for count := range len(starts) + 1 {
				var harts []impl.Hart
				for id := range size {
					harts = append(harts, impl.Hart{Regs: zero})
					if id < count {
						harts[id].Pc = starts[id]
					}
				}
				wantFlockNew(t, size, mem, starts[:count], newFlock(size, mem, harts...), true)
			}
			wantFlockNew(t, size, mem, nil, newFlock(size, mem, slices.Repeat([]impl.Hart{{Regs: zero}}, size)...), true)
		}
	}
}

// Where each page lies, told without a word from the helpers.
func TestWhereTheWordsOfAFlockLie(t *testing.T) {
	for size := 1; size <= impl.MaxNodes; size++ {
		mem := plainWords()
		f, ok := impl.FlockNew(size, mem, nil)
		if !ok || len(f.World.Nodes) != size || len(f.Cores) != size || len(f.World.Net) != 0 || f.World.Size != size {
			t.Fatal("new", size, f, ok)
		}
		for at, w := range mem {
			if got := f.World.Nodes[at/4%size].Homes[at/4].List[at%4]; got != w {
				t.Errorf("of %d nodes: %d stands at %d, not %d", size, got, at, w)
			}
		}
		for page := range 6 {
			if words := impl.Truth(f.World, page); !slices.Equal(words, mem[4*page:4*page+4]) {
				t.Errorf("of %d nodes: page %d is %v", size, page, words)
			}
		}
		if !impl.Sane(f.World) {
			t.Error("a new flock is not sane:", size)
		}
		for id, n := range f.World.Nodes {
			for page, frame := range n.Frames {
				if frame.State != impl.StNone || frame.Asked || len(frame.List) != 0 {
					t.Error("node", id, "has page", page)
				}
			}
			if len(f.Cores[id].Cache) != 0 {
				t.Error("core", id, "keeps", f.Cores[id].Cache)
			}
		}
	}
}

// addressCases are the addresses of numbers that are none, by hand.
var addressCases = map[int]int{
	24: 0, 25: 1, 47: 23, 48: 0, 100: 4, -1: 23, -24: 0, -25: 23, -23: 1,
	65536: 16, math.MaxInt: 7, math.MinInt: 16,
}

func TestFlockNewWithStartsThatAreNoAddresses(t *testing.T) {
	for start, address := range addressCases {
		for size := 1; size <= impl.MaxNodes; size++ {
			for id := range size {
				starts := make([]int, size)
				harts := slices.Repeat([]impl.Hart{hartAt(0, 0, 0, 0, 0)}, size)
				starts[id], harts[id].Pc = start, address
				wantFlockNew(t, size, cacheWords, starts, newFlock(size, cacheWords, harts...), true)
				// What stands behind those that there are nodes for is not looked at.
				wantFlockNew(t, size, cacheWords, append(starts, start), newFlock(size, cacheWords, harts...), true)
			}
		}
		if h := impl.HartNew(start); h.Pc != address {
			t.Errorf("HartNew(%d) is at %d, not %d", start, h.Pc, address)
		}
	}
}

func TestFlockNewOfNoSize(t *testing.T) {
	for _, size := range noNodes {
		for _, starts := range [][]int{nil, {0}, {1, 2, 3, 4, 5}} {
			wantNoFlock(t, size, cacheWords, starts)
			wantNoFlock(t, size, nil, starts)
		}
	}
}

func TestFlockNewOfNoMemory(t *testing.T) {
	t.Parallel()
	long := append(slices.Clone(cacheWords), cacheWords...)
	for size := 1; size <= impl.MaxNodes; size++ {
		for count := range len(long) + 1 {
			if count == 24 {
				continue
			}
			wantNoFlock(t, size, long[:count], nil)
			wantNoFlock(t, size, long[:count], []int{1, 2, 3, 4})
		}
		wantNoFlock(t, size, nil, nil)
		for _, at := range []int{0, 1, 3, 4, 11, 12, 22, 23} {
			for _, n := range noWordAtAll {
				wantNoFlock(t, size, withWord(cacheWords, at, n), []int{at})
				wantNoFlock(t, size, withWord(make([]int, 24), at, n), nil)
			}
			for _, n := range []int{0, 1, 65534, 65535} {
				mem := withWord(cacheWords, at, n)
				wantFlockNew(t, size, mem, nil, newFlock(size, mem, slices.Repeat([]impl.Hart{hartAt(0, 0, 0, 0, 0)}, size)...), true)
			}
		}
	}
}

// A flockAnd is what FlockRun is given, a flockThen what it answers.
type flockAnd struct {
	Flock impl.Flock
	List  []impl.Deed
}

type flockThen struct {
	Flock impl.Flock
	Codes []int
	Order []int
}

func ranFlock(f impl.Flock, list []impl.Deed) flockThen {
	g, codes, order := impl.FlockRun(f, list)
	return flockThen{g, codes, order}
}

func sameThen(a, b flockThen) bool {
	return sameFlock(a.Flock, b.Flock) && slices.Equal(a.Codes, b.Codes) && slices.Equal(a.Order, b.Order)
}

// wantFlockRun asks for all that holds of each run, too.
func wantFlockRun(t *testing.T, f impl.Flock, list []impl.Deed, want flockThen) {
	t.Helper()
	given := roomy(flockAnd{f, list})
	before := whole(given)
	got := ranFlock(given.Flock, given.List)
	if !sameThen(got, want) {
		t.Errorf("FlockRun(%v, %v) is\n%v, not\n%v", f, list, got, want)
	}
	wantNew(t, got, given)
	wantUnwritten(t, given, before)
	if impl.FlockOk(got.Flock) != impl.FlockOk(f) {
		t.Errorf("FlockRun(%v, %v) is %v: FlockOk turned", f, list, got.Flock)
	}
}

// wantFlockDo asks the same of a run of that one deed, in which a step was done
// or not.
func wantFlockDo(t *testing.T, f impl.Flock, d impl.Deed, want impl.Flock, wantCode int, stepped bool) {
	t.Helper()
	given := roomy(f)
	before := whole(given)
	got, code := impl.FlockDo(given, d)
	if code != wantCode || !sameFlock(got, want) {
		t.Errorf("FlockDo(%v, %v) is\n%v, %d, not\n%v, %d", f, d, got, code, want, wantCode)
	}
	wantNew(t, got, given)
	wantUnwritten(t, given, before)
	then := flockThen{want, []int{wantCode}, nil}
	if stepped {
		then.Order = []int{d.A}
	}
	if wantCode == impl.WdBad {
		then.Flock = f
	}
	if !impl.FlockOk(f) {
		then.Codes = nil
	}
	if run := ranFlock(f, []impl.Deed{d}); !sameThen(run, then) {
		t.Errorf("FlockRun(%v, %v) is\n%v, not\n%v", f, d, run, then)
	}
	if code != impl.WdBad && !impl.FlockOk(got) {
		t.Errorf("FlockDo(%v, %v) is no longer right: %v", f, d, got)
	}
}

// wantDoneTo is of a deed that is no step.
func wantDoneTo(t *testing.T, f impl.Flock, d impl.Deed, want impl.Flock) {
	t.Helper()
	wantFlockDo(t, f, d, want, impl.WdDone, false)
}

func wantRefusedBy(t *testing.T, f impl.Flock, d impl.Deed, code int) {
	t.Helper()
	wantFlockDo(t, f, d, f, code, false)
}

func wantBadFlock(t *testing.T, f impl.Flock, d impl.Deed) {
	t.Helper()
	wantFlockDo(t, f, d, impl.Flock{}, impl.WdBad, false)
}

// flockDeeds are of each Kind, right and wrong in each part.
func flockDeeds(size int) []impl.Deed {
	list := deedsOfAllSorts(size)
	for kind := impl.DoRun; kind <= impl.DoRun+1; kind++ {
		list = append(list, deed(kind, 0, 0, 0), deed(kind, size-1, 9, -9), deed(kind, size, 0, 0), deed(kind, -1, 0, 0))
	}
	return list
}

func TestDeedsOfWrongFlocks(t *testing.T) {
	t.Parallel()
	for size := 1; size <= impl.MaxNodes; size++ {
		deeds := flockDeeds(size)
		for i, f := range fewWrongFlocks(size, 0) {
			wantBadFlock(t, f, deeds[i%len(deeds)])
			wantBadFlock(t, f, run(i%size))
		}
		for _, d := range deeds {
			wantBadFlock(t, impl.Flock{}, d)
			wantBadFlock(t, withCore(fullFlock(size), size-1, impl.Core{}), d)
		}
	}
}

// notDeeds are Kinds that are none, in a flock.
var notDeeds = append([]int{-2, -7, 0, 8, 9, 14, 256, 263, 65543}, farNumbers...)

func TestFlockDeedsOfNoKind(t *testing.T) {
	t.Parallel()
	for size := 1; size <= impl.MaxNodes; size++ {
		for _, f := range []impl.Flock{bareFlock(size), fullFlock(size)} {
			for _, kind := range notDeeds {
				for _, a := range []int{0, size - 1, size, -1} {
					wantBadFlock(t, f, deed(kind, a, 0, 0))
					wantBadFlock(t, f, deed(kind, 0, a, a))
				}
			}
		}
	}
}

// asInWorld asks that a deed that is no step does what it does in the world, and
// that the cores are as they were.
func asInWorld(t *testing.T, f impl.Flock, d impl.Deed) int {
	t.Helper()
	w, code := impl.WorldDo(f.World, d)
	wantFlockDo(t, f, d, overWorld(f, w), code, false)
	return code
}

// quiet is a world in which no message that is on its way is the next one.
func quiet(w impl.World) impl.World {
	return inWorld(w, func(w *impl.World) {
		for i := range w.Net {
			w.Net[i].N = 99999
		}
	})
}

// Each Kind but DoRun, by each of its codes, in flocks whose cores keep all they
// can.
func TestFlockDeedsAreThoseOfTheWorld(t *testing.T) {
	t.Parallel()
	codes := map[string]int{}
	for size := 1; size <= impl.MaxNodes; size++ {
		full := fullFlock(size)
		full.World = quiet(full.World)
		full.World.Nodes[0].Out[0] = senderOf(0, impl.MaxQueue)
		for _, f := range []impl.Flock{bareFlock(size), full, overWorld(full, quiet(crowded(full.World)))} {
			for _, d := range deedsOfAllSorts(size) {
				if d.Kind >= impl.DoSend && d.Kind <= impl.DoWant {
					codes[fmt.Sprint("kind ", d.Kind, " code ", asInWorld(t, f, d))]++
				}
			}
			for a := range size {
				for b := range size {
					for c := range 3 {
						codes[fmt.Sprint("kind 1 code ", asInWorld(t, f, deed(impl.DoSend, a, b, c)))]++
					}
					codes[fmt.Sprint("kind 2 code ", asInWorld(t, f, deed(impl.DoAck, a, b, 5)))]++
				}
				for page := range 6 {
					codes[fmt.Sprint("kind 6 code ", asInWorld(t, f, deed(impl.DoWant, a, page, page%2)))]++
				}
			}
		}
	}
	for _, name := range []string{
		"kind 1 code 0", "kind 1 code 2", "kind 1 code 3", "kind 1 code 4", "kind 2 code 0", "kind 2 code 2", "kind 2 code 4",
		"kind 3 code 0", "kind 3 code 2", "kind 4 code 0", "kind 4 code 2", "kind 5 code 0", "kind 5 code 2", "kind 5 code 4",
		"kind 6 code 0", "kind 6 code 2", "kind 6 code 3",
	} {
		if codes[name] < 2 {
			t.Error("too few of", name, codes)
		}
	}
}

// Which code counts where more than one would fit is as in the world.
func TestWhichCodeComesFirstInAFlock(t *testing.T) {
	for _, c := range firstCodes {
		if c.d.Kind == impl.DoRun {
			continue
		}
		f := bareFlock(2)
		f.World = withLine(f.World, 0, 1, senderOf(0, 3))
		f.World.Nodes[0].Frames[3].Asked = true
		f.World.Net = packets(impl.MaxNet-1, 2)
		if c.full {
			f.World.Net = packets(impl.MaxNet, 2)
		}
		if _, code := impl.FlockDo(f, c.d); code != c.code {
			t.Errorf("%s: FlockDo(.., %v) is %d, not %d", c.name, c.d, code, c.code)
		}
		// A flock that is not right comes ahead of all of it.
		wantBadFlock(t, withCore(f, 1, impl.Core{}), c.d)
	}
}

func TestRunOfNoNode(t *testing.T) {
	t.Parallel()
	for size := 1; size <= impl.MaxNodes; size++ {
		for _, f := range rightFlocks(size)[:8] {
			for _, none := range noNodesOf(size) {
				if none < 0 || none >= size {
					wantRefusedBy(t, f, deed(impl.DoRun, none, 0, 0), impl.WdNone)
					wantRefusedBy(t, f, deed(impl.DoRun, none, size-1, 1), impl.WdNone)
				}
			}
		}
	}
}

// Whether what it stands at is there or not: nothing is asked for, nothing kept.
func TestRunOfAHartThatDoesNotRun(t *testing.T) {
	t.Parallel()
	for size := 1; size <= impl.MaxNodes; size++ {
		for i, h := range idleHarts() {
			id := i % size
			wantRefusedBy(t, withCore(bareFlock(size), id, coreOf(h)), run(id), impl.WdIdle)
			full := withCore(fullFlock(size), id, coreOf(h, someBlocks(i%6, i)...))
			wantRefusedBy(t, full, run(id), impl.WdIdle)
			wantRefusedBy(t, overWorld(full, crowded(full.World)), deed(impl.DoRun, id, 1, 1), impl.WdIdle)
			// Another one's end is nothing to those that run.
			for other := range size {
				if other != id {
					wantRunIsAStep(t, full, other)
				}
			}
		}
	}
}

// wantRunIsAStep asks that a DoRun is the step of that core at its node, that
// nothing else turned, and answers its code.
func wantRunIsAStep(t *testing.T, f impl.Flock, id int) int {
	t.Helper()
	s, code := stepOf(seatAt(f, id), f.World.Size)
	for _, d := range []impl.Deed{run(id), deed(impl.DoRun, id, 1, 1), deed(impl.DoRun, id, -1, math.MaxInt)} {
		wantFlockDo(t, f, d, withSeat(f, id, s), impl.WdDone, code == impl.RnDone)
	}
	return code
}

// Each op at each node: with all pages there to write, to read and none there;
// with what is kept and without.
func TestRunIsAStepOfOneCore(t *testing.T) {
	t.Parallel()
	codes := map[int]int{}
	for i, x := range append(rightPlaces(), noPlace) {
		size := i%impl.MaxNodes + 1
		id := i / 4 % size
		pc := i * 7 % 24
		mem := withWord(plainWords(), pc, sumOf(x))
		for state := range 3 {
			f := fullFlock(size)
			f.World.Nodes[id].Frames = nodeWith(id, size, mem, state).Frames
			f.Cores[id] = coreOf(hartAt(pc, 3, 65535, 20, 11))
			codes[wantRunIsAStep(t, f, id)]++
			if state != impl.StNone {
				f.Cores[id].Cache = []impl.Block{impl.BlockOf(pageWords(mem, pc), pc), plainBlock((pc + 4) % 24)}
				codes[wantRunIsAStep(t, f, id)]++
			}
		}
	}
	if codes[impl.RnDone] < 100 || codes[impl.RnWait] < 100 || len(codes) != 2 {
		t.Error("too few of a kind to tell anything:", codes)
	}
}

// Steps by hand, of one of three nodes: what it answers is told word by word.
func TestRunByHand(t *testing.T) {
	store := impl.Ins{Op: impl.InStore, B: 1, N: 20}
	mem := withWord(withWord(make([]int, 24), 9, setWord), 10, sumOf(store))
	f := newFlock(3, mem, hartAt(4, 1, 2, 3, 4), hartAt(9, 0, 77, 0, 0), inState(hartAt(8, 1, 1, 1, 1), impl.HtHalt))
	f.World.Nodes[1].Frames[2] = frameOf(impl.StRead, false, mem[8:12]...)

	set := cloneOf(f)
	set.Cores[1] = coreOf(hartAt(10, 0, 77, 5, 0), blockAt(9, setPlace, store, noPlace))
	wantFlockDo(t, f, run(1), set, impl.WdDone, true)

	// Page 5, at home at node 2, is wanted to write: asked for once.
	asked := cloneOf(set)
	asked.World.Nodes[1].Frames[5].Asked = true
	asked.World.Nodes[1].Out[2].Queue = []impl.Msg{{Kind: impl.MgOwn, Page: 5}}
	wantFlockDo(t, set, run(1), asked, impl.WdDone, false)
	wantFlockDo(t, asked, run(1), asked, impl.WdDone, false)

	there := cloneOf(asked)
	there.World.Nodes[1].Frames[5] = frameOf(impl.StWrite, false, 9, 9, 9, 9)
	done := cloneOf(there)
	done.World.Nodes[1].Frames[5].List[0] = 77
	done.Cores[1].Hart.Pc = 11
	wantFlockDo(t, there, run(1), done, impl.WdDone, true)

	fault := cloneOf(done)
	fault.Cores[1].Hart.State = impl.HtFault
	wantFlockDo(t, done, run(1), fault, impl.WdDone, true)
	wantRefusedBy(t, fault, run(1), impl.WdIdle)
	wantRefusedBy(t, fault, run(2), impl.WdIdle)
	wantRefusedBy(t, fault, run(3), impl.WdNone)

	wait := cloneOf(fault)
	wait.World.Nodes[0].Frames[1].Asked = true
	wait.World.Nodes[0].Out[1].Queue = []impl.Msg{{Kind: impl.MgShare, Page: 1}}
	wantFlockDo(t, fault, run(0), wait, impl.WdDone, false)
}

// A step that waits is done all the same where it could ask for nothing: the
// flock is as it was, or has kept one block more.
func TestRunThatCanAskForNothing(t *testing.T) {
	for size := 1; size <= impl.MaxNodes; size++ {
		for id := range size {
			for i, line := range jammedSenders() {
				page := (i + id) % 6
				home := homesOfPages[size][page]
				f := withCore(bareFlock(size), id, coreOf(hartAt(4*page+i%4, 0, 1, 2, 3)))
				f.World = withLine(f.World, id, home, line)
				wantDoneTo(t, f, run(id), f)
				// Asked for already, and not come yet.
				f = withCore(bareFlock(size), id, coreOf(hartAt(4*page+i%4, 0, 1, 2, 3)))
				f.World.Nodes[id].Frames[page].Asked = true
				wantDoneTo(t, f, run(id), f)
				// Its place is there, its Target is not.
				a := newAim(targetOps[i%3], 4*((page+1)%6), 4*page+i%4, i)
				f = withCore(bareFlock(size), id, coreOf(a.hart))
				f.World = withLine(f.World, id, home, line)
				f.World.Nodes[id].Frames[a.pc/4] = frameOf(impl.StRead, false, pageWords(a.words, a.pc)...)
				wantDoneTo(t, f, run(id), withCore(f, id, coreOf(a.hart, a.block)))
			}
		}
	}
}

// keepsAll is a flock in which every core keeps the same, of the page and of
// others, and in which that message is the next one from there to there.
func keepsAll(size, page, from, to int, m impl.Msg) impl.Flock {
	f := fullFlock(size)
	for id := range f.Cores {
		f.Cores[id].Cache = []impl.Block{cacheBlocks[4*page], cacheBlocks[(4*page+4)%24], cacheBlocks[4*page+3], cacheBlocks[(4*page+9)%24]}
	}
	f.World.Net = []impl.Packet{{From: from, To: to, N: gotOf(to, from), Msg: m}}
	return f
}

// given is the flock behind the one packet that is on its way, with those words
// kept at the node that it is for.
func given(t *testing.T, f impl.Flock, purged bool) impl.Flock {
	t.Helper()
	p := f.World.Net[0]
	w, code := impl.WorldDo(f.World, deed(impl.DoGive, 0, 0, 0))
	if code != impl.WdDone {
		t.Fatal("not given", p)
	}
	want := overWorld(cloneOf(f), w)
	if purged {
		want.Cores[p.To].Cache = withoutPage(want.Cores[p.To].Cache, p.Msg.Page)
		if len(want.Cores[p.To].Cache) != 2 {
			t.Fatal("nothing was kept of", p.Msg.Page)
		}
	}
	return want
}

// Each kind, of each page, from each node to each node: three kinds purge their
// page of the core there, and of no other core, also where the node itself turns
// nothing (it is not from home, or the frame has no use for it).
func TestGivenMessagesPurge(t *testing.T) {
	t.Parallel()
	for size := 1; size <= impl.MaxNodes; size++ {
		for page := range 6 {
			for from := range size {
				for to := range size {
					for i, kind := range wireKinds {
						m := rightMsg(kind)
						m.Page = page
						m.Own = hasOwn(kind) && (i+from)%2 == 0
						f := keepsAll(size, page, from, to, m)
						purges := slices.Contains(hearsFrom, kind)
						want := given(t, f, purges)
						if want.World.Nodes[to].In[from].Got != gotOf(to, from)+1 {
							t.Fatal("not heard:", m)
						}
						wantDoneTo(t, f, deed(impl.DoGive, 0, 0, 0), want)
					}
				}
			}
		}
	}
}

// What has come already, and what comes ahead of its turn, purges nothing.
func TestGivenMessagesThatAreNotTheNextOne(t *testing.T) {
	t.Parallel()
	for size := 1; size <= impl.MaxNodes; size++ {
		for i, kind := range append(slices.Repeat(hearsFrom, 6), wireKinds...) {
			page := i % 6
			to := i / 3 % size
			from := homesOfPages[size][page]
			m := rightMsg(kind)
			m.Page = page
			f := keepsAll(size, page, from, to, m)
			for _, n := range []int{0, gotOf(to, from) - 2, gotOf(to, from) - 1, gotOf(to, from) + 1, gotOf(to, from) + 2, impl.MaxSeq} {
				f.World.Net[0].N = n
				wantDoneTo(t, f, deed(impl.DoGive, 0, 0, 0), overWorld(f, withNet(f.World)))
			}
			// All that there can be have come: there is no next one.
			f.World.Net[0].N = impl.MaxSeq
			f.World.Nodes[to].In[from].Got = impl.MaxSeq
			wantDoneTo(t, f, deed(impl.DoGive, 0, 0, 0), overWorld(f, withNet(f.World)))
			// The last one that there can be is one.
			f.World.Net[0].N = impl.MaxSeq - 1
			f.World.Nodes[to].In[from].Got = impl.MaxSeq - 1
			wantDoneTo(t, f, deed(impl.DoGive, 0, 0, 0), given(t, f, slices.Contains(hearsFrom, kind)))
		}
	}
}

// Its answer can't be queued, so the node does not hear it, and neither does the
// core: the page is there still, and what is kept of it, too.
func TestGivenMessagesThatCanNotBeHeard(t *testing.T) {
	t.Parallel()
	for size := 1; size <= impl.MaxNodes; size++ {
		for page, home := range homesOfPages[size] {
			for to := range size {
				for i, line := range jammedSenders() {
					for _, m := range []impl.Msg{{Kind: impl.MgGone, Page: page}, {Kind: impl.MgFetch, Page: page, Own: i%2 == 0}} {
						f := keepsAll(size, page, home, to, m)
						f.World.Nodes[to].Frames[page] = frameOf(impl.StWrite, false, cacheWords[4*page:4*page+4]...)
						f.World = withLine(f.World, to, home, line)
						wantDoneTo(t, f, deed(impl.DoGive, 0, 0, 0), overWorld(f, withNet(f.World)))
						// With room for one more it is heard.
						f.World = withLine(f.World, to, home, lastRoom()[i%4])
						want := given(t, f, true)
						if want.World.Nodes[to].Frames[page].State == impl.StWrite {
							t.Fatal("not heard:", m)
						}
						wantDoneTo(t, f, deed(impl.DoGive, 0, 0, 0), want)
					}
				}
			}
		}
	}
}

// An Ack purges nothing, whatever its number; nor does a packet that is lost,
// doubled or sent.
func TestPacketsThatAreNoMessages(t *testing.T) {
	for size := 1; size <= impl.MaxNodes; size++ {
		for to := range size {
			for from := range size {
				f := keepsAll(size, 0, from, to, impl.Msg{})
				f.World.Net[0].Ack = true
				for _, n := range []int{0, gotOf(to, from), lineFrom(to, from).Base, lineFrom(to, from).Base + 1, impl.MaxSeq} {
					f.World.Net[0].N = n
					asInWorld(t, f, deed(impl.DoGive, 0, 0, 0))
				}
				f = keepsAll(size, 0, from, to, impl.Msg{Kind: impl.MgGone})
				asInWorld(t, f, deed(impl.DoLose, 0, 0, 0))
				asInWorld(t, f, deed(impl.DoCopy, 0, 0, 0))
			}
		}
	}
}

// The packet at that place is given, and no other one.
func TestGiveAtEachPlace(t *testing.T) {
	for size := 1; size <= impl.MaxNodes; size++ {
		f := fullFlock(size)
		f.World.Net = packets(impl.MaxNet, size)
		for page := range 5 {
			f.World.Net[9*page] = impl.Packet{From: page % size, To: 2 * page % size, N: gotOf(2*page%size, page%size), Msg: impl.Msg{Kind: impl.MgGone, Page: page}}
		}
		for at := range f.World.Net {
			p := f.World.Net[at]
			w, _ := impl.WorldDo(f.World, deed(impl.DoGive, at, 0, 0))
			want := overWorld(cloneOf(f), w)
			if at%9 == 0 && at < 45 {
				want.Cores[p.To].Cache = withoutPage(want.Cores[p.To].Cache, p.Msg.Page)
			}
			wantDoneTo(t, f, deed(impl.DoGive, at, -1, 1), want)
		}
	}
}

func TestFlockRunOfNothing(t *testing.T) {
	for size := 1; size <= impl.MaxNodes; size++ {
		for _, f := range rightFlocks(size) {
			wantFlockRun(t, f, nil, flockThen{f, nil, nil})
			wantFlockRun(t, f, []impl.Deed{}, flockThen{f, nil, nil})
		}
	}
}

// runner is a flock of so many nodes in which every hart goes round for ever on
// pages that are there.
func runner(size int) impl.Flock {
	mem := withWord(withWord(make([]int, 24), 8, moreWord), 9, sumOf(impl.Ins{Op: impl.InJump, N: 8}))
	f := bareFlock(size)
	for id := range size {
		f.World.Nodes[id].Frames[2] = frameOf(impl.StRead, false, mem[8:12]...)
		f.Cores[id].Hart.Pc = 8
	}
	return f
}

func TestFlockRunAtMaxDeeds(t *testing.T) {
	for size := 1; size <= impl.MaxNodes; size++ {
		f := runner(size)
		var list []impl.Deed
		var order []int
		for i := range impl.MaxDeeds {
			list, order = append(list, run(i%size)), append(order, i%size)
		}
		for _, count := range []int{1, 2, 3, 100, impl.MaxDeeds - 1, impl.MaxDeeds} {
			want := f
			for _, d := range list[:count] {
				s, _ := stepOf(seatAt(want, d.A), size)
				want = withSeat(want, d.A, s)
			}
			wantFlockRun(t, f, list[:count], flockThen{want, make([]int, count), order[:count]})
		}
		for _, count := range []int{1, 2, impl.MaxDeeds} {
			many := append(slices.Clone(list), list[:count]...)
			wantFlockRun(t, f, many, flockThen{f, nil, nil})
			wantFlockRun(t, fullFlock(size), make([]impl.Deed, len(many)), flockThen{fullFlock(size), nil, nil})
		}
		// So many that are no deed are refused one by one.
		wantFlockRun(t, f, make([]impl.Deed, impl.MaxDeeds), flockThen{f, slices.Repeat([]int{impl.WdBad}, impl.MaxDeeds), nil})
	}
}

func TestFlockRunsOfWrongFlocks(t *testing.T) {
	t.Parallel()
	for size := 1; size <= impl.MaxNodes; size++ {
		deeds := flockDeeds(size)
		for i, f := range append(fewWrongFlocks(size, 3), impl.Flock{}) {
			list := [][]impl.Deed{deeds, nil, deeds[i%len(deeds):], make([]impl.Deed, impl.MaxDeeds+1)}[i%4]
			wantFlockRun(t, f, list, flockThen{f, nil, nil})
		}
	}
}

// Refused ones stand between others: these go on, and only steps that were done
// are told.
func TestFlockRunGoesOnBehindWhatIsRefused(t *testing.T) {
	f := runner(3)
	f.Cores[2] = coreOf(hartAt(0, 0, 0, 0, 0))
	f.Cores[1].Hart.State = impl.HtHalt
	want := cloneOf(f)
	want.Cores[0] = coreOf(hartAt(9, f.Cores[0].Hart.Regs...), blockAt(8, morePlace, impl.Ins{Op: impl.InJump, N: 8}))
	want.Cores[0].Hart, _ = workOf(f.Cores[0].Hart, morePlace, 0)
	want.World.Nodes[2].Frames[0].Asked = true
	want.World.Nodes[2].Out[0].Queue = []impl.Msg{{Kind: impl.MgShare}}
	want.World.Net = []impl.Packet{{From: 2, To: 0, Msg: impl.Msg{Kind: impl.MgShare}}}
	deeds := []impl.Deed{
		run(1), run(3), run(-1), deed(0, 0, 0, 0), run(2), run(2), deed(impl.DoGive, 0, 0, 0), run(0),
		deed(8, 0, 0, 0), deed(impl.DoSend, 2, 0, 1), deed(impl.DoSend, 2, 0, 0), deed(impl.DoCopy, 1, 0, 0), run(1), deed(impl.DoWant, 0, 2, 0),
	}
	codes := []int{
		impl.WdIdle, impl.WdNone, impl.WdNone, impl.WdBad, 0, 0, impl.WdNone, 0,
		impl.WdBad, impl.WdIdle, 0, impl.WdNone, impl.WdIdle, impl.WdIdle,
	}
	wantFlockRun(t, f, deeds, flockThen{want, codes, []int{0}})
}

// Who ran is told in order: not who waited, who was over, nor who is none.
func TestWhoRan(t *testing.T) {
	f := runner(4)
	f.Cores[1].Hart = hartAt(0, 1, 2, 3, 4)
	f.Cores[3].Hart = inState(f.Cores[3].Hart, impl.HtFault)
	cases := []struct{ who, codes, order []int }{
		{nil, nil, nil},
		{[]int{0}, []int{0}, []int{0}},
		{[]int{1}, []int{0}, nil},
		{[]int{3}, []int{impl.WdIdle}, nil},
		{[]int{4}, []int{impl.WdNone}, nil},
		{[]int{2, 0}, []int{0, 0}, []int{2, 0}},
		{[]int{2, 2, 0, 2}, []int{0, 0, 0, 0}, []int{2, 2, 0, 2}},
		{[]int{1, 2, 1, 0, 3, 4, 2}, []int{0, 0, 0, 0, impl.WdIdle, impl.WdNone, 0}, []int{2, 0, 2}},
	}
	for _, c := range cases {
		var list []impl.Deed
		for _, who := range c.who {
			list = append(list, run(who))
		}
		if got := ranFlock(f, list); !slices.Equal(got.Codes, c.codes) || !slices.Equal(got.Order, c.order) {
			t.Errorf("%v: codes %v and order %v, not %v and %v", c.who, got.Codes, got.Order, c.codes, c.order)
		}
	}
}

// flockByWords is FlockDo as the document's words go, of a right flock; and
// whether a step was done.
func flockByWords(f impl.Flock, d impl.Deed) (impl.Flock, int, bool) {
	if d.Kind < 1 || d.Kind > 7 {
		return impl.Flock{}, impl.WdBad, false
	}
	if d.Kind == impl.DoRun {
		if d.A < 0 || d.A > f.World.Size-1 {
			return f, impl.WdNone, false
		}
		s, code := coreByWords(seatAt(f, d.A), f.World.Size)
		if code == impl.RnOver {
			return f, impl.WdIdle, false
		}
		return withSeat(f, d.A, s), impl.WdDone, code == impl.RnDone
	}
	w, code := doneByWords(f.World, d)
	then := overWorld(cloneOf(f), w)
	if d.Kind == impl.DoGive && code == impl.WdDone {
		if p := f.World.Net[d.A]; heardByWords(f.World, p) && slices.Contains(hearsFrom, p.Msg.Kind) {
			then.Cores[p.To].Cache = withoutPage(then.Cores[p.To].Cache, p.Msg.Page)
		}
	}
	return then, code, false
}

func heardByWords(w impl.World, p impl.Packet) bool {
	got := w.Nodes[p.To].In[p.From].Got
	if p.Ack || p.N != got || got >= 100000 {
		return false
	}
	_, ok := nodeWordByWord(w.Nodes[p.To], w.Size, p.From, p.Msg)
	return ok
}

// drawnFlock is any right one, most of them such as no run comes to.
func drawnFlock(r *rand.Rand, size int) impl.Flock {
	f := impl.Flock{World: impl.World{Size: size}}
	for id := range size {
		s := drawnSeat(r, size)
		s.Node.Id = id
		f.World.Nodes, f.Cores = append(f.World.Nodes, s.Node), append(f.Cores, s.Core)
	}
	for range []int{0, 1, 6, impl.MaxNet - 1, impl.MaxNet}[r.Intn(5)] {
		p := somePacket(r, f.World)
		if hasList(p.Msg.Kind) {
			p.Msg.List = drawnMemory(r)[:4]
		}
		f.World.Net = append(f.World.Net, p)
	}
	return f
}

// drawnDeed is one that f may do, or may not by little; now and then it is none.
func drawnDeed(r *rand.Rand, f impl.Flock) impl.Deed {
	switch r.Intn(12) {
	case 0, 1, 2, 3:
		return run(r.Intn(f.World.Size))
	case 4:
		return run(r.Intn(f.World.Size+2) - 1)
	case 5:
		if r.Intn(4) == 0 {
			return deed(notDeeds[r.Intn(len(notDeeds))], 0, 0, 0)
		}
	}
	return someDeed(r, f.World)
}

func TestFlockDeedsAsTheWordsGo(t *testing.T) {
	t.Parallel()
	r := rand.New(rand.NewSource(13))
	count := map[string]int{}
	for i := range 8000 {
		f := drawnFlock(r, i%impl.MaxNodes+1)
		d := drawnDeed(r, f)
		want, wantCode, stepped := flockByWords(f, d)
		got, code := impl.FlockDo(f, d)
		if code != wantCode || !sameFlock(got, want) {
			t.Fatalf("FlockDo(%v, %v) is\n%v, %d, not\n%v, %d", f, d, got, code, want, wantCode)
		}
		count[fmt.Sprint("kind ", d.Kind, " code ", code, " ", stepped)]++
		if d.Kind == impl.DoGive && code == impl.WdDone {
			p := f.World.Net[d.A]
			purged := len(got.Cores[p.To].Cache) < len(f.Cores[p.To].Cache)
			count[fmt.Sprint("purged ", purged, " heard ", heardByWords(f.World, p))]++
		}
	}
	for _, name := range []string{
		"kind 1 code 0 false", "kind 2 code 0 false", "kind 3 code 0 false", "kind 4 code 0 false", "kind 5 code 0 false", "kind 6 code 0 false",
		"kind 7 code 0 false", "kind 7 code 0 true", "kind 7 code 2 false", "kind 7 code 3 false",
		"purged true heard true", "purged false heard true", "purged false heard false",
	} {
		if count[name] < 15 {
			t.Error("too few of", name, count)
		}
	}
	if count["purged true heard false"] != 0 {
		t.Error("purged by what was not heard")
	}
}

// likelyDeed is one that moves f on: steps, packets that are sent and given in
// any order, acks, now and then one that is lost or doubled, and what drawnDeed
// tells.
func likelyDeed(r *rand.Rand, f impl.Flock) impl.Deed {
	size, on := f.World.Size, len(f.World.Net)
	switch r.Intn(20) {
	case 0, 1, 2, 3, 4, 5:
		return run(r.Intn(size))
	case 6, 7, 8, 9:
		a, b := r.Intn(size), r.Intn(size)
		return deed(impl.DoSend, a, b, r.Intn(len(f.World.Nodes[a].Out[b].Queue)+1)/2)
	case 10, 11, 12, 13, 14:
		if on > 0 {
			return deed(impl.DoGive, r.Intn(on), 0, 0)
		}
	case 15, 16:
		return deed(impl.DoAck, r.Intn(size), r.Intn(size), 0)
	case 17:
		if on > 8 {
			return deed(impl.DoLose, r.Intn(on), 0, 0)
		}
		return deed(impl.DoCopy, r.Intn(on+1), 0, 0)
	}
	return drawnDeed(r, f)
}

// drawnStart is a new flock on a drawn memory, and that memory and its harts.
func drawnStart(t *testing.T, r *rand.Rand, size int) (impl.Flock, flatRun) {
	t.Helper()
	mem := drawnMemory(r)
	var starts []int
	for range r.Intn(size + 2) {
		starts = append(starts, r.Intn(24))
	}
	f, ok := impl.FlockNew(size, mem, starts)
	if !ok {
		t.Fatal("there is no flock of", size, mem, starts)
	}
	g := flatRun{Mem: mem}
	for _, c := range f.Cores {
		g.Harts = append(g.Harts, c.Hart)
	}
	return f, g
}

// A flockRow is deeds one behind the other, each by FlockDo, with their codes and
// who ran.
type flockRow struct {
	first, f     impl.Flock
	deeds        []impl.Deed
	codes, order []int
}

// do holds each deed against the words of the document.
func (p *flockRow) do(t *testing.T, d impl.Deed) {
	t.Helper()
	want, wantCode, stepped := flockByWords(p.f, d)
	next, code := impl.FlockDo(p.f, d)
	if code != wantCode || !sameFlock(next, want) {
		t.Fatalf("FlockDo(%v, %v) is\n%v, %d, not\n%v, %d", p.f, d, next, code, want, wantCode)
	}
	p.deeds, p.codes = append(p.deeds, d), append(p.codes, code)
	if stepped {
		p.order = append(p.order, d.A)
	}
	if code == impl.WdBad {
		return
	}
	if p.f = next; !impl.FlockOk(next) {
		t.Fatalf("%v made what is not FlockOk: %v", d, next)
	}
	for id := range next.Cores {
		if s := seatAt(next, id); !rightSeat(s, next.World.Size) || !cacheByWords(s.Core.Cache, s.Node.Frames) {
			t.Fatalf("%v made a core that is not CoreOk: %v", d, s)
		}
	}
}

func (p *flockRow) wantRuns(t *testing.T, r *rand.Rand) {
	t.Helper()
	whole := flockThen{p.f, p.codes, p.order}
	if got := ranFlock(p.first, p.deeds); !sameThen(got, whole) {
		t.Fatalf("the run is not what its deeds are, one behind the other: %v, not %v", got, whole)
	}
	for _, half := range []int{0, 1, len(p.deeds) / 2, r.Intn(len(p.deeds) + 1), len(p.deeds) - 1, len(p.deeds)} {
		one := ranFlock(p.first, p.deeds[:half])
		two := ranFlock(one.Flock, p.deeds[half:])
		both := flockThen{two.Flock, append(one.Codes, two.Codes...), append(one.Order, two.Order...)}
		if !sameThen(both, whole) {
			t.Fatalf("the run is not its halves at %d: %v, not %v", half, both, whole)
		}
	}
}

// The promise: a run is its deeds one behind the other, and its halves; over rows
// of deeds, with packets that are lost, doubled and turned round, a flock that was
// right stays so, and each core with its node.
func TestARunIsItsHalves(t *testing.T) {
	t.Parallel()
	steps, waits, refused := 0, 0, 0
	for seed := range 48 {
		r := rand.New(rand.NewSource(int64(1300 + seed)))
		size := seed%impl.MaxNodes + 1
		first := drawnFlock(r, size)
		if seed < 32 {
			first, _ = drawnStart(t, r, size)
		}
		p := &flockRow{first: first, f: first}
		for len(p.deeds) < impl.MaxDeeds {
			p.do(t, likelyDeed(r, p.f))
		}
		p.wantRuns(t, r)
		steps += len(p.order)
		for i, d := range p.deeds {
			if d.Kind == impl.DoRun && p.codes[i] == impl.WdDone {
				waits++
			}
			if p.codes[i] != impl.WdDone {
				refused++
			}
		}
	}
	if waits -= steps; steps < 300 || waits < 1000 || refused < 1000 {
		t.Error("too little was done to tell anything:", steps, waits, refused)
	}
}

// Every cut of one row: the halves are the run, whichever they are.
func TestARunIsItsHalvesAtEachCut(t *testing.T) {
	for size := 1; size <= impl.MaxNodes; size++ {
		r := rand.New(rand.NewSource(int64(130 + size)))
		first, _ := drawnStart(t, r, size)
		p := &flockRow{first: first, f: first}
		for range 60 {
			p.do(t, likelyDeed(r, p.f))
		}
		for cut := range len(p.deeds) + 1 {
			one := ranFlock(first, p.deeds[:cut])
			two := ranFlock(one.Flock, p.deeds[cut:])
			both := flockThen{two.Flock, append(one.Codes, two.Codes...), append(one.Order, two.Order...)}
			if !sameThen(both, flockThen{p.f, p.codes, p.order}) {
				t.Fatalf("the run is not its halves at %d: %v", cut, both)
			}
		}
	}
}

// Long rows from new flocks on: what the harts did by the order that is told is
// what they do on one flat memory, whatever the net did.
func TestAFlockIsOnOneFlatMemory(t *testing.T) {
	t.Parallel()
	steps := 0
	for seed := range 60 {
		r := rand.New(rand.NewSource(int64(seed)))
		f, g := drawnStart(t, r, seed%impl.MaxNodes+1)
		for range 12 {
			for range 100 {
				d := likelyDeed(r, f)
				next, code, order := impl.FlockRun(f, []impl.Deed{d})
				if len(code) != 1 {
					t.Fatal("codes", code)
				}
				f, g.Order = next, append(g.Order, order...)
			}
			if !impl.FlockOk(f) || !impl.Sane(f.World) {
				t.Fatal("no longer right:", f)
			}
			want := ran(g)
			for id, c := range f.Cores {
				if !sameHart(c.Hart, want.Harts[id]) {
					t.Fatalf("hart %d is %v, on one memory %v", id, c.Hart, want.Harts[id])
				}
			}
			for page := range 6 {
				if words := impl.Truth(f.World, page); !slices.Equal(words, want.Mem[4*page:4*page+4]) {
					t.Fatalf("page %d is %v, on one memory %v", page, words, want.Mem[4*page:4*page+4])
				}
			}
		}
		steps += len(g.Order)
	}
	if steps < 500 {
		t.Error("too few steps to tell anything:", steps)
	}
}

// A saga is deeds in a flock, each told by hand.
type saga struct {
	t *testing.T
	f impl.Flock
}

func newSaga(t *testing.T, size int, mem []int, starts ...int) *saga {
	f, ok := impl.FlockNew(size, mem, starts)
	if !ok {
		t.Fatal("there is no such flock")
	}
	return &saga{t, f}
}

func (p *saga) do(code int, list ...impl.Deed) []int {
	p.t.Helper()
	next := ranFlock(p.f, list)
	if !slices.Equal(next.Codes, slices.Repeat([]int{code}, len(list))) || !impl.FlockOk(next.Flock) {
		p.t.Fatalf("%v have the codes %v, not %d each: %v", list, next.Codes, code, next.Flock)
	}
	p.f = next.Flock
	return next.Order
}

// runs is a step that is done: where it goes on then, and what is kept, by where
// it begins.
func (p *saga) runs(who, pc int, starts ...int) {
	p.t.Helper()
	if order := p.do(impl.WdDone, run(who)); !slices.Equal(order, []int{who}) {
		p.t.Fatal(who, "was to run, and", order, "did:", p.f.Cores[who])
	}
	if got := p.f.Cores[who].Hart.Pc; got != pc {
		p.t.Fatal(who, "goes on at", got, "not at", pc)
	}
	p.keeps(who, starts...)
}

// waits is a step that waits for a page, to own or not.
func (p *saga) waits(who, page int, own bool) {
	p.t.Helper()
	before := p.f.World.Nodes[who]
	if order := p.do(impl.WdDone, run(who)); len(order) != 0 {
		p.t.Fatal(who, "was to wait, and", order, "ran")
	}
	kind := impl.MgShare
	if own {
		kind = impl.MgOwn
	}
	want := before
	if !before.Frames[page].Asked {
		want = askingFor(before, p.f.World.Size, page, kind)
	}
	if !sameNode(p.f.World.Nodes[who], want) {
		p.t.Fatalf("%d is %v, and is to have asked for page %d: %v", who, p.f.World.Nodes[who], page, want)
	}
}

// carry sends the first that is queued, gives it, and acks it; the net is empty
// before and behind it.
func (p *saga) carry(from, to int, kind int) {
	p.t.Helper()
	queue := p.f.World.Nodes[from].Out[to].Queue
	if len(queue) == 0 || queue[0].Kind != kind {
		p.t.Fatal(from, "has queued for", to, queue, "and not first kind", kind)
	}
	p.do(impl.WdDone, deed(impl.DoSend, from, to, 0), deed(impl.DoGive, 0, 0, 0), deed(impl.DoAck, to, from, 0), deed(impl.DoGive, 0, 0, 0))
}

func (p *saga) keeps(who int, starts ...int) {
	p.t.Helper()
	var kept []int
	for _, b := range p.f.Cores[who].Cache {
		kept = append(kept, b.Start)
	}
	if !slices.Equal(kept, starts) {
		p.t.Fatal(who, "keeps", kept, "not", starts)
	}
}

func (p *saga) ends(who, state int, regs ...int) {
	p.t.Helper()
	h := p.f.Cores[who].Hart
	if h.State != state || !slices.Equal(h.Regs, regs) {
		p.t.Fatalf("%d ends as %v, not in state %d with %v", who, h, state, regs)
	}
	p.do(impl.WdIdle, run(who))
}

func (p *saga) page(page int, words ...int) {
	p.t.Helper()
	if got := impl.Truth(p.f.World, page); !slices.Equal(got, words) {
		p.t.Fatal("page", page, "is", got, "not", words)
	}
}

func words(places map[int]impl.Ins) []int {
	mem := make([]int, 24)
	for at, x := range places {
		mem[at] = sumOf(x)
	}
	return mem
}

// Hart 0 goes round in page 0 and keeps it; hart 1 writes a halt into it.
func TestAHartWritesOverWhatAnotherKeeps(t *testing.T) {
	p := newSaga(t, 2, words(map[int]impl.Ins{
		0: {Op: impl.InMore, R: 2, A: 2, N: 1},
		1: {Op: impl.InJump, N: 0},
		4: {Op: impl.InLoad, R: 1, N: 11},
		5: {Op: impl.InStore, B: 1, N: 1},
		6: {Op: impl.InJump, N: 5},
		// A word that is written into a program.
		11: {Op: impl.InHalt},
	}), 0, 4)
	p.waits(0, 0, false)
	p.carry(0, 0, impl.MgShare)
	p.carry(0, 0, impl.MgData)
	p.runs(0, 1, 0)
	p.runs(0, 0, 0)
	p.waits(1, 1, false)
	p.waits(1, 1, false)
	p.carry(1, 1, impl.MgShare)
	p.carry(1, 1, impl.MgData)
	p.waits(1, 2, false)
	p.keeps(1, 4)
	p.carry(1, 0, impl.MgShare)
	p.carry(0, 1, impl.MgData)
	p.keeps(1, 4)
	p.runs(1, 5, 4)
	p.waits(1, 0, true)
	p.carry(1, 0, impl.MgOwn)
	// Page 0 is node 0's to read until it hears that it is gone.
	p.runs(0, 1, 0)
	p.carry(0, 0, impl.MgGone)
	p.keeps(0)
	p.keeps(1, 4)
	p.waits(0, 0, false)
	p.carry(0, 0, impl.MgAck)
	p.carry(0, 1, impl.MgData)
	p.keeps(1, 4)
	p.runs(1, 6, 4)
	p.page(0, sumOf(impl.Ins{Op: impl.InMore, R: 2, A: 2, N: 1}), haltWord, 0, 0)
	// Hart 0 has asked again: it is fetched back, and taken apart anew.
	p.carry(0, 0, impl.MgShare)
	p.carry(0, 1, impl.MgFetch)
	p.keeps(1, 4)
	p.carry(1, 0, impl.MgBack)
	p.carry(0, 0, impl.MgData)
	p.runs(0, 1, 1)
	p.ends(0, impl.HtHalt, 0, 0, 2, 0)
	p.runs(1, 5, 4)
	p.waits(1, 0, true)
}

// Both harts are in one page, which each has to write in turn: hart 1 turns the
// place that hart 0 comes to, while hart 0 keeps it, and then its own.
func TestTwoHartsInOnePage(t *testing.T) {
	jump := impl.Ins{Op: impl.InJump, N: 8}
	p := newSaga(t, 2, words(map[int]impl.Ins{
		8:  {Op: impl.InSwap, R: 1, B: 0, N: 16},
		9:  jump,
		10: {Op: impl.InSet, R: 3, N: 2},
		11: {Op: impl.InSwap, R: 2, B: 3, N: 9},
		12: {Op: impl.InStore, B: 0, N: 8},
		13: {Op: impl.InJump, N: 10},
	}), 9, 10)
	for who := range 2 {
		p.waits(who, 2, false)
		p.carry(who, 0, impl.MgShare)
		p.carry(0, who, impl.MgData)
	}
	p.runs(0, 8, 9)
	p.runs(1, 11, 10)
	p.waits(1, 2, true)
	p.keeps(1, 10)
	p.waits(0, 4, true)
	p.keeps(0, 9, 8)
	p.carry(1, 0, impl.MgOwn)
	p.carry(0, 0, impl.MgOwn)
	// It came for page 4 behind what is gone of page 2: that goes first.
	p.carry(0, 0, impl.MgGone)
	p.keeps(0)
	p.keeps(1, 10)
	p.carry(0, 0, impl.MgData)
	p.carry(0, 0, impl.MgAck)
	p.carry(0, 1, impl.MgData)
	p.keeps(1)
	p.runs(1, 12)
	p.page(2, sumOf(impl.Ins{Op: impl.InSwap, R: 1, B: 0, N: 16}), sumOf(jump)+2, sumOf(impl.Ins{Op: impl.InSet, R: 3, N: 2}), sumOf(impl.Ins{Op: impl.InSwap, R: 2, B: 3, N: 9}))
	if regs := p.f.Cores[1].Hart.Regs; !slices.Equal(regs, []int{0, 0, sumOf(jump), 2}) {
		t.Fatal("hart 1 has", regs)
	}
	p.waits(0, 2, false)
	p.keeps(0)
	p.carry(0, 0, impl.MgShare)
	p.carry(0, 1, impl.MgFetch)
	p.carry(1, 0, impl.MgBack)
	p.carry(0, 0, impl.MgData)
	p.runs(0, 9, 8)
	// 8200 is InJump of 8 (op 8); two more is InSub: registers 0, 0, 0 .. with N 8,
	// which it does not name, so it is no place.
	p.runs(0, 9, 8)
	p.ends(0, impl.HtFault, 0, 0, 0, 0)
	p.waits(1, 3, false)
	p.carry(1, 1, impl.MgShare)
	p.carry(1, 1, impl.MgData)
	p.waits(1, 2, true)
	p.keeps(1, 12)
}

// Three nodes count at one address, each with the page to write in turn; not one
// step is lost.
func TestThreeHartsThatCount(t *testing.T) {
	p := newSaga(t, 3, words(map[int]impl.Ins{
		0: {Op: impl.InSet, R: 1, N: 1},
		1: {Op: impl.InSwap, R: 2, B: 1, N: 22},
		2: {Op: impl.InJump, N: 1},
	}))
	for who := range 3 {
		p.waits(who, 0, false)
		p.carry(who, 0, impl.MgShare)
		p.carry(0, who, impl.MgData)
		p.runs(who, 1, 0)
	}
	count := 0
	for round := range 4 {
		for who := range 3 {
			if round > 0 {
				p.runs(who, 1, 0)
			}
			p.waits(who, 5, true)
			p.carry(who, 2, impl.MgOwn)
			if count > 0 {
				owner := (who + 2) % 3
				p.carry(2, owner, impl.MgFetch)
				p.carry(owner, 2, impl.MgBack)
			}
			p.carry(2, who, impl.MgData)
			p.runs(who, 2, 0)
			if got := p.f.Cores[who].Hart.Regs; !slices.Equal(got, []int{0, 1, count, 0}) {
				t.Fatal(who, "has", got, "behind", count)
			}
			count++
			p.page(5, 0, 0, count, 0)
		}
	}
}

// A message that came twice is one: what was taken apart behind it stays.
func TestAMessageThatCameTwice(t *testing.T) {
	p := newSaga(t, 2, words(map[int]impl.Ins{
		0: {Op: impl.InMore, R: 2, A: 2, N: 1},
		1: {Op: impl.InJump, N: 0},
	}))
	p.waits(1, 0, false)
	p.carry(1, 0, impl.MgShare)
	p.do(impl.WdDone, deed(impl.DoSend, 0, 1, 0), deed(impl.DoCopy, 0, 0, 0), deed(impl.DoSend, 0, 1, 0))
	p.do(impl.WdDone, deed(impl.DoGive, 1, 0, 0))
	p.runs(1, 1, 0)
	p.do(impl.WdDone, deed(impl.DoGive, 0, 0, 0))
	p.keeps(1, 0)
	p.runs(1, 0, 0)
	p.do(impl.WdDone, deed(impl.DoGive, 0, 0, 0))
	p.keeps(1, 0)
	if got := p.f.World.Nodes[1].In[0].Got; got != 1 || len(p.f.World.Net) != 0 {
		t.Error("Got is", got, "and on its way is", p.f.World.Net)
	}
}

// What is gone came late a second time, when the page is there again.
func TestWhatIsGoneCameTwice(t *testing.T) {
	p := newSaga(t, 2, words(map[int]impl.Ins{
		0: {Op: impl.InMore, R: 2, A: 2, N: 1},
		1: {Op: impl.InJump, N: 0},
		4: {Op: impl.InStore, N: 3},
	}), 0, 4)
	p.waits(0, 0, false)
	p.carry(0, 0, impl.MgShare)
	p.carry(0, 0, impl.MgData)
	p.runs(0, 1, 0)
	p.waits(1, 1, false)
	p.carry(1, 1, impl.MgShare)
	p.carry(1, 1, impl.MgData)
	p.waits(1, 0, true)
	p.carry(1, 0, impl.MgOwn)
	// Twice on its way, and given once.
	p.do(impl.WdDone, deed(impl.DoSend, 0, 0, 0), deed(impl.DoCopy, 0, 0, 0), deed(impl.DoGive, 0, 0, 0))
	p.keeps(0)
	late := p.f.World.Net[0]
	if late.Msg.Kind != impl.MgGone {
		t.Fatal("on its way is", late)
	}
	p.do(impl.WdDone, deed(impl.DoLose, 0, 0, 0), deed(impl.DoAck, 0, 0, 0), deed(impl.DoGive, 0, 0, 0))
	p.waits(0, 0, false)
	p.carry(0, 0, impl.MgAck)
	p.carry(0, 1, impl.MgData)
	p.runs(1, 5, 4)
	p.carry(0, 0, impl.MgShare)
	p.carry(0, 1, impl.MgFetch)
	p.carry(1, 0, impl.MgBack)
	p.carry(0, 0, impl.MgData)
	p.runs(0, 0, 1)
	p.f.World.Net = []impl.Packet{late}
	p.do(impl.WdDone, deed(impl.DoGive, 0, 0, 0))
	p.keeps(0, 1)
	p.runs(0, 1, 1, 0)
}

// Two messages are turned round: the one that came ahead of its turn purges
// nothing, and does so when it comes again.
func TestMessagesThatAreTurnedRound(t *testing.T) {
	p := newSaga(t, 2, words(map[int]impl.Ins{
		8: {Op: impl.InLoad, R: 1, N: 3},
		9: {Op: impl.InHalt},
	}), 8, 8)
	p.waits(1, 2, false)
	p.carry(1, 0, impl.MgShare)
	p.carry(0, 1, impl.MgData)
	p.waits(1, 0, false)
	p.keeps(1, 8)
	p.carry(1, 0, impl.MgShare)
	p.do(impl.WdDone, deed(impl.DoWant, 0, 2, 1))
	p.carry(0, 0, impl.MgOwn)
	// For node 1: MgData of page 0, then MgGone of page 2.
	p.do(impl.WdDone, deed(impl.DoSend, 0, 1, 0), deed(impl.DoSend, 0, 1, 1), deed(impl.DoGive, 1, 0, 0))
	p.keeps(1, 8)
	p.do(impl.WdDone, deed(impl.DoGive, 0, 0, 0))
	p.keeps(1, 8)
	p.runs(1, 9, 8)
	p.do(impl.WdDone, deed(impl.DoSend, 0, 1, 1), deed(impl.DoGive, 0, 0, 0))
	p.keeps(1)
	p.waits(1, 2, false)
}

// flocksOfAllSorts are right ones of that many nodes, and some that are not.
func flocksOfAllSorts(size int) []impl.Flock {
	list := append(rightFlocks(size)[:10], keepsAll(size, 1, 0, size-1, impl.Msg{Kind: impl.MgGone, Page: 1}), runner(size), impl.Flock{})
	for i, f := range fewWrongFlocks(size, 5) {
		if i%12 == 0 {
			list = append(list, f)
		}
	}
	r := rand.New(rand.NewSource(131))
	for range 12 {
		list = append(list, drawnFlock(r, size))
	}
	return list
}

// flockAnswers are what the functions of the chapter answer of one flock.
type flockAnswers struct {
	Ok    bool
	Done  []impl.Flock
	Codes []int
	Runs  []flockThen
}

func someFlockDeeds(size int) []impl.Deed {
	return append(memoryDeeds(size), run(0), run(size-1), run(size), deed(8, 0, 0, 0), run(0))
}

func askFlock(f impl.Flock, deeds []impl.Deed) flockAnswers {
	a := flockAnswers{Ok: impl.FlockOk(f)}
	for _, d := range deeds {
		g, code := impl.FlockDo(f, d)
		a.Done, a.Codes = append(a.Done, g), append(a.Codes, code)
	}
	a.Runs = append(a.Runs, ranFlock(f, deeds), ranFlock(f, nil), ranFlock(f, make([]impl.Deed, impl.MaxDeeds+1)))
	return a
}

func TestFlockAnswersAreNewMemory(t *testing.T) {
	t.Parallel()
	for size := 1; size <= impl.MaxNodes; size++ {
		codes := map[int]int{}
		for _, f := range flocksOfAllSorts(size) {
			given := roomy(flockAnd{f, someFlockDeeds(size)})
			before := whole(given)
			a, b := askFlock(given.Flock, given.List), askFlock(given.Flock, given.List)
			wantNew(t, []flockAnswers{a, b}, given)
			wantUnwritten(t, given, before)
			for _, code := range a.Codes {
				codes[code]++
			}
		}
		if len(codes) != 5 {
			t.Error("not each code is among them:", codes)
		}
	}
}

// A flock whose lists are one list has an answer in which they are not.
func TestFlockListsAreOneEach(t *testing.T) {
	list := []int{setWord, swapWord, sumOf(impl.Ins{Op: impl.InStore, N: 2}), haltWord}
	block := blockAt(0, setPlace, swapPlace, impl.Ins{Op: impl.InStore, N: 2}, haltPlace)
	w := oneList()
	for id := range w.Nodes {
		for page := range w.Nodes[id].Frames {
			w.Nodes[id].Frames[page] = impl.Frame{State: impl.StWrite, List: list}
		}
	}
	core := coreOf(impl.Hart{Regs: list}, block, block)
	f := impl.Flock{World: w, Cores: slices.Repeat([]impl.Core{core}, 4)}
	before := whole(f)
	wantFlockOk(t, f, true)
	for _, d := range someFlockDeeds(4) {
		got, _ := impl.FlockDo(f, d)
		wantNew(t, got, f)
	}
	wantNew(t, ranFlock(f, someFlockDeeds(4)), f)
	wantNew(t, ranFlock(f, []impl.Deed{run(0), run(1), run(2), run(3), run(0)}), f)
	wantNew(t, ranFlock(f, make([]impl.Deed, impl.MaxDeeds+1)), f)
	wantUnwritten(t, f, before)
	mem := slices.Repeat([]int{3}, 24)
	g, _ := impl.FlockNew(4, mem, mem[:4])
	wantNew(t, g, flockStart{mem, mem})
	if codes := ranFlock(f, []impl.Deed{run(0)}); len(codes.Codes) != 1 || len(codes.Order) != 1 {
		t.Error("codes and order", codes.Codes, codes.Order)
	}
}

func spoilFlock(f impl.Flock) {
	for id, n := range f.World.Nodes {
		spoil(seat{Node: n})
		f.World.Nodes[id].Id = -4
	}
	for _, c := range f.Cores {
		spoil(seat{Core: c})
	}
	for i, p := range f.World.Net {
		clear(p.Msg.List)
		f.World.Net[i].To = -8
	}
}

// Whatever becomes of what was handed in, or of an answer, another answer is as
// it was; and nothing is kept from one call to another.
func TestFlocksAreAnsweredTheSameAgain(t *testing.T) {
	t.Parallel()
	for size := 1; size <= impl.MaxNodes; size++ {
		deeds := someFlockDeeds(size)
		flocks := flocksOfAllSorts(size)
		var first []flockAnswers
		for _, f := range flocks {
			first = append(first, askFlock(f, deeds))
		}
		kept := cloneOf(first)
		for i := len(flocks) - 1; i >= 0; i-- {
			for range 2 {
				handed := cloneOf(flocks[i])
				again := askFlock(handed, slices.Clone(deeds))
				if !reflect.DeepEqual(cloneOf(again), kept[i]) {
					t.Fatalf("%v is answered by %v, and again by %v", flocks[i], kept[i], again)
				}
				spoilFlock(handed)
				if !reflect.DeepEqual(cloneOf(again), kept[i]) {
					t.Fatalf("an answer turned with what was handed in: %v, before %v", again, kept[i])
				}
				for _, f := range again.Done {
					spoilFlock(f)
				}
				for _, then := range again.Runs {
					spoilFlock(then.Flock)
					clear(then.Codes)
					clear(then.Order)
				}
			}
		}
		if !reflect.DeepEqual(cloneOf(first), kept) {
			t.Error("an answer turned with another one")
		}
	}
}

// What is answered does not hang on how goroutines run: one long run, many times
// over, alone and beside others.
func TestARunIsTheSameManyTimesOver(t *testing.T) {
	defer runtime.GOMAXPROCS(runtime.GOMAXPROCS(0))
	for size := 1; size <= impl.MaxNodes; size++ {
		r := rand.New(rand.NewSource(int64(1340 + size)))
		first, _ := drawnStart(t, r, size)
		p := &flockRow{first: first, f: first}
		for len(p.deeds) < 250 {
			p.do(t, likelyDeed(r, p.f))
		}
		want := flockThen{p.f, p.codes, p.order}
		for i := range 40 {
			runtime.GOMAXPROCS(1 + i%6)
			others := make(chan flockThen, 4)
			for range 4 {
				go func() { others <- ranFlock(first, p.deeds) }()
			}
			for range 4 {
				if got := <-others; !sameThen(got, want) {
					t.Fatalf("the run is %v, and was %v", got, want)
				}
			}
		}
	}
}

// When a call has answered, none of its goroutines goes on.
func TestNobodyStaysBehind(t *testing.T) {
	before := runtime.NumGoroutine()
	for range 300 {
		for _, f := range []impl.Flock{runner(4), fullFlock(3), bareFlock(1), {}} {
			impl.FlockDo(f, run(0))
			impl.FlockDo(f, deed(8, 0, 0, 0))
			impl.FlockDo(f, run(9))
			impl.FlockRun(f, []impl.Deed{run(0), run(7), deed(impl.DoGive, 0, 0, 0), {}})
			impl.FlockRun(f, nil)
		}
	}
	// One that has told all may still be about to end.
	for range 1000 {
		if runtime.NumGoroutine() <= before {
			return
		}
		runtime.Gosched()
	}
	if now := runtime.NumGoroutine(); now > before+8 {
		t.Error(now, "goroutines, and", before, "before")
	}
}

// Whatever is handed in: an answer, and no panic; what is not right by the words
// is WdBad.
func TestFlocksAnswerAtAnyArguments(t *testing.T) {
	t.Parallel()
	r := rand.New(rand.NewSource(132))
	odd := append([]int{0, 1, 2, 3, 4, 5, 6, 7, 23, 24, setWord, 65535, 65536, 100000}, farNumbers...)
	number := func() int { return odd[r.Intn(len(odd))] }
	codes := map[int]int{}
	for range 3000 {
		size := r.Intn(impl.MaxNodes) + 1
		f := drawnFlock(r, size)
		id := r.Intn(size)
		for range r.Intn(3) {
			switch r.Intn(9) {
			case 0:
				f.Cores[id].Hart.Pc = number()
			case 1:
				f.Cores[id].Hart.State = number()
			case 2:
				f.Cores[id].Cache = append(f.Cores[id].Cache, blockAt(number(), drawnPlace(r)))
			case 3:
				f.World.Nodes[id].Id = number()
			case 4:
				f.World.Size = number()
			case 5:
				f.World.Net = append(f.World.Net, impl.Packet{From: number(), To: number(), N: number(), Msg: impl.Msg{Kind: number()}})
			case 6:
				f.World.Nodes[id].Frames = f.World.Nodes[id].Frames[:r.Intn(7)]
			case 7:
				f.World.Nodes[id].In = append(f.World.Nodes[id].In, impl.Receiver{Got: number()})[:size]
			default:
				f.World.Nodes[id].Out[r.Intn(size)].Base = number()
			}
		}
		right := impl.WorldOk(f.World)
		for id, c := range f.Cores {
			n := f.World.Nodes[id]
			right = right && impl.HartOk(c.Hart) && cacheByWords(c.Cache, n.Frames)
		}
		d := deed(number(), number(), number(), number())
		if r.Intn(2) == 0 {
			d = deed(1+r.Intn(7), r.Intn(size+1), r.Intn(size+1), r.Intn(3))
		}
		want, wantCode := impl.Flock{}, impl.WdBad
		if right {
			want, wantCode, _ = flockByWords(f, d)
		}
		got, code := impl.FlockDo(f, d)
		if impl.FlockOk(f) != right || code != wantCode || !sameFlock(got, want) {
			t.Errorf("FlockDo(%v, %v) is %v, %d, not %v, %d", f, d, got, code, want, wantCode)
		}
		then := ranFlock(f, []impl.Deed{d, d})
		if !right && (len(then.Codes)+len(then.Order) != 0 || !sameFlock(then.Flock, f)) {
			t.Errorf("FlockRun(%v, %v) is %v", f, d, then)
		}
		codes[code]++
	}
	if len(codes) != 5 || codes[impl.WdBad] < 500 {
		t.Error("too few of a kind to tell anything:", codes)
	}
}
