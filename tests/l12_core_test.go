package tests

import (
	"math"
	"math/rand"
	"reflect"
	"slices"
	"testing"

	"loop.example/g00281/impl"
)

// A seat is a core and the node that it is at.
type seat struct {
	Core impl.Core
	Node impl.Node
}

func coreOf(h impl.Hart, list ...impl.Block) impl.Core { return impl.Core{Hart: h, Cache: list} }

func sameCore(a, b impl.Core) bool { return sameHart(a.Hart, b.Hart) && sameBlocks(a.Cache, b.Cache) }

func sameSeat(a, b seat) bool { return sameCore(a.Core, b.Core) && sameNode(a.Node, b.Node) }

func rightSeat(s seat, nodes int) bool { return impl.CoreOk(s.Core, s.Node, nodes) }

func stepOf(s seat, nodes int) (seat, int) {
	c, n, code := impl.CoreStep(s.Core, s.Node, nodes)
	return seat{c, n}, code
}

// nodeWith is a right node that has something of each sort, and the pages of
// those words in those states, of which none is asked for.
func nodeWith(id, nodes int, mem []int, states ...int) impl.Node {
	n := fullNode(id, nodes)
	n.Frames = framesOf(mem, states...)
	for page := range n.Frames {
		n.Frames[page].Asked = false
	}
	return n
}

// plainWords are no places, and no two of them the same.
func plainWords() []int {
	mem := make([]int, 24)
	for at := range mem {
		mem[at] = plainWord(at)
	}
	return mem
}

func plainWord(at int) int { return 16 * (at + 1) }

// plainBlock is what is taken apart of plainWords at an address, and plainBlocks
// some, each of the next one of those pages.
func plainBlock(at int) impl.Block { return blockAt(at, noPlace) }

func plainBlocks(count int, pages ...int) []impl.Block {
	var list []impl.Block
	for i := range count {
		list = append(list, plainBlock(4*pages[i%len(pages)]+i/len(pages)))
	}
	return list
}

func pagesBut(those ...int) []int {
	var list []int
	for page := range 6 {
		if !slices.Contains(those, page) {
			list = append(list, page)
		}
	}
	return list
}

func wantCoreOk(t *testing.T, s seat, nodes int, want bool) {
	t.Helper()
	given := roomy(s)
	before := whole(given)
	for range 2 {
		if rightSeat(given, nodes) != want {
			t.Errorf("CoreOk(%v, %v, %d) is not %v", s.Core, s.Node, nodes, want)
		}
	}
	wantUnwritten(t, given, before)
}

// wantCoreStep asks all that holds of each step, too, and answers what it did.
func wantCoreStep(t *testing.T, s seat, nodes int, want seat, wantCode int) seat {
	t.Helper()
	given := roomy(s)
	before := whole(given)
	got, code := stepOf(given, nodes)
	if code != wantCode || !sameSeat(got, want) {
		t.Errorf("CoreStep(%v, %v, %d) is\n%v, %d, not\n%v, %d", s.Core, s.Node, nodes, got, code, want, wantCode)
	}
	wantNew(t, got, given)
	wantUnwritten(t, given, before)
	if rightSeat(s, nodes) != rightSeat(got, nodes) {
		t.Errorf("CoreStep(%v, %v, %d) is %v: CoreOk turned", s.Core, s.Node, nodes, got)
	}
	return got
}

// wantBadStep asks both functions of what is not CoreOk.
func wantBadStep(t *testing.T, s seat, nodes int) {
	t.Helper()
	wantCoreOk(t, s, nodes, false)
	wantCoreStep(t, s, nodes, seat{}, impl.RnBad)
}

// askingFor is n with a page asked for by a message of that kind.
func askingFor(n impl.Node, nodes, page, kind int) impl.Node {
	n = turned(n, func(n *impl.Node) { n.Frames[page].Asked = true })
	return telling(n, impl.Told{To: homesOfPages[nodes][page], Msg: impl.Msg{Kind: kind, Page: page}})
}

func TestCoreConstants(t *testing.T) {
	if got := [...]int{impl.RnDone, impl.RnBad, impl.RnOver, impl.RnWait}; got != [...]int{0, 1, 2, 3} {
		t.Error("constants", got)
	}
}

func TestCoreOkOfAllThatIsRight(t *testing.T) {
	harts := append(runningHarts(), idleHarts()...)
	for nodes := 1; nodes <= impl.MaxNodes; nodes++ {
		for id := range nodes {
			for i, h := range harts {
				n := nodeWith(id, nodes, cacheWords, impl.StRead, impl.StWrite)
				wantCoreOk(t, seat{coreOf(h, someBlocks(i%6, i%24)...), n}, nodes, true)
				n = nodeWith(id, nodes, cacheWords, impl.StNone, impl.StWrite)
				wantCoreOk(t, seat{coreOf(h, cacheBlocks[4+i%4], cacheBlocks[20+i%4]), n}, nodes, true)
				wantCoreOk(t, seat{coreOf(h), newNode(id, nodes)}, nodes, true)
			}
			for _, n := range rightNodes(nodes) {
				wantCoreOk(t, seat{coreOf(harts[id]), n}, nodes, true)
			}
		}
	}
}

// Neither by the node nor by how many nodes there are alone.
func TestCoresAtWrongNodes(t *testing.T) {
	for nodes := 1; nodes <= impl.MaxNodes; nodes++ {
		for i, n := range append(wrongNodes(nodes), impl.Node{}) {
			wantBadStep(t, seat{coreOf(runningHarts()[i%10]), n}, nodes)
		}
		for i, n := range rightNodes(nodes) {
			for _, other := range append([]int{nodes - 1, nodes + 1}, noNodes...) {
				wantBadStep(t, seat{coreOf(runningHarts()[i%10]), n}, other)
			}
		}
	}
	for _, nodes := range []int{0, impl.MaxNodes + 1} {
		wantBadStep(t, seat{coreOf(impl.HartNew(0)), newNode(0, nodes)}, nodes)
	}
}

// What is kept would be right by the frames, but for another part of the node.
func TestCoresAtNodesWhoseFramesAreRight(t *testing.T) {
	for nodes := 1; nodes <= impl.MaxNodes; nodes++ {
		right := nodeWith(0, nodes, cacheWords, impl.StRead, impl.StWrite)
		c := coreOf(impl.HartNew(5), someBlocks(5, 0)...)
		wantCoreOk(t, seat{c, right}, nodes, true)
		turns := []func(n *impl.Node){
			func(n *impl.Node) { n.Id = nodes },
			func(n *impl.Node) { n.Id = -1 },
			func(n *impl.Node) { n.Homes = n.Homes[:5] },
			func(n *impl.Node) { n.Homes[5].Acks = -1 },
			func(n *impl.Node) { n.Out = n.Out[:nodes-1] },
			func(n *impl.Node) { n.Out[nodes-1].Base = -1 },
			func(n *impl.Node) { n.In = append(n.In, impl.Receiver{}) },
			func(n *impl.Node) { n.In[0].Got = impl.MaxSeq + 1 },
			func(n *impl.Node) { n.Frames = append(n.Frames, impl.Frame{}) },
		}
		for _, turn := range turns {
			wantBadStep(t, seat{c, turned(right, turn)}, nodes)
		}
	}
}

func TestCoresWithWrongHarts(t *testing.T) {
	for i, h := range wrongHarts() {
		nodes := i%impl.MaxNodes + 1
		n := nodeWith(i%nodes, nodes, cacheWords, impl.StRead, impl.StWrite)
		wantBadStep(t, seat{coreOf(h), n}, nodes)
		wantBadStep(t, seat{coreOf(h, someBlocks(i%6, i%24)...), n}, nodes)
		wantBadStep(t, seat{coreOf(h), newNode(0, nodes)}, nodes)
	}
}

// wrongCaches are not CacheOk by the words of cacheWords, each for one reason.
func wrongCaches() [][]impl.Block {
	var list [][]impl.Block
	for i, b := range append(blocksNotOk(), strayBlocks()...) {
		list = append(list, []impl.Block{b}, withBlockAt(someBlocks(i%5, i%24), i%(i%5+1), b))
	}
	for count := 6; count <= 12; count++ {
		list = append(list, someBlocks(count, count), slices.Repeat(cacheBlocks[4:5], count))
	}
	return list
}

func TestCoresWithWrongCaches(t *testing.T) {
	for i, list := range wrongCaches() {
		nodes := i%impl.MaxNodes + 1
		n := nodeWith(i%nodes, nodes, cacheWords, impl.StRead, impl.StWrite)
		wantBadStep(t, seat{coreOf(impl.HartNew(i%24), list...), n}, nodes)
		wantBadStep(t, seat{coreOf(idleHarts()[i%20], list...), n}, nodes)
	}
}

// What is kept of a page goes with that page alone.
func TestCoresThatKeepWhatIsNotThere(t *testing.T) {
	for start, b := range cacheBlocks {
		for page := range 6 {
			n := nodeWith(0, 2, cacheWords, impl.StRead, impl.StWrite)
			n.Frames[page] = impl.Frame{Asked: start%2 == 0}
			s := seat{coreOf(hartAt((start+page)%24, 1, 2, 3, 4), b), n}
			if page == start/4 {
				wantBadStep(t, s, 2)
			} else {
				wantCoreOk(t, s, 2, true)
			}
		}
	}
}

// A word was written over: a block that comes to it is not what stands there.
func TestCoresThatKeepWhatStoodThere(t *testing.T) {
	for at := range cacheWords {
		for _, b := range cacheBlocks[at/4*4 : at+1] {
			n := nodeWith(0, 1, withWord(cacheWords, at, subWord), impl.StWrite)
			s := seat{coreOf(impl.HartNew(at), b), n}
			if b.Start+len(b.List) > at {
				wantBadStep(t, s, 1)
			} else {
				wantCoreOk(t, s, 1, true)
			}
		}
	}
}

// Each of the three right and wrong; what does not run is RnBad first, too.
func TestCoreOkOfEachOfThree(t *testing.T) {
	h := hartAt(4, 1, 2, 3, 4)
	node := nodeWith(1, 2, cacheWords, impl.StWrite, impl.StRead)
	harts := map[bool][]impl.Hart{
		true:  {h, inState(h, impl.HtHalt), inState(h, impl.HtFault)},
		false: {hartAt(24, 1, 2, 3, 4), inState(h, 3), inState(hartAt(4, 1, 2, 3), impl.HtHalt)},
	}
	lists := map[bool][][]impl.Block{
		true:  {nil, cacheBlocks[4:6], cacheBlocks[:5]},
		false: {{blockAt(4, addPlace)}, {{}}, cacheBlocks[:6]},
	}
	nodes := map[bool]impl.Node{
		true:  node,
		false: turned(node, func(n *impl.Node) { n.In[1].Got = -1 }),
	}
	for which := range 8 {
		hartOk, cacheOk, nodeOk := which&1 == 0, which&2 == 0, which&4 == 0
		for _, h := range harts[hartOk] {
			for _, list := range lists[cacheOk] {
				s := seat{coreOf(h, list...), nodes[nodeOk]}
				if which == 0 {
					wantCoreOk(t, s, 2, true)
				} else {
					wantBadStep(t, s, 2)
				}
			}
		}
	}
	wantBadStep(t, seat{}, 0)
	wantBadStep(t, seat{}, 1)
}

// Whatever it stands at, and whether that is there: nothing is wanted, nothing
// taken apart.
func TestStepsThatAreOver(t *testing.T) {
	for i, h := range idleHarts() {
		nodes := i%impl.MaxNodes + 1
		id := i % nodes
		some := nodeWith(id, nodes, cacheWords, impl.StWrite, impl.StRead)
		for _, s := range []seat{
			{coreOf(h), newNode(id, nodes)},
			{coreOf(h), fullNode(id, nodes)},
			{coreOf(h), some},
			{coreOf(h, someBlocks(i%6, i)...), some},
			{coreOf(h, someBlocks(5, i)...), some},
		} {
			wantCoreStep(t, s, nodes, s, impl.RnOver)
		}
		for pc := range 24 {
			h.Pc = pc
			s := seat{coreOf(h, cacheBlocks[(pc+4)%24]), some}
			wantCoreStep(t, s, nodes, s, impl.RnOver)
		}
	}
}

// pcSeats are a hart at an address whose page is not there, with others that
// are, and something of those kept or not.
func pcSeats(id, nodes, pc int) []seat {
	page := pc / 4
	var list []seat
	for i, state := range []int{impl.StNone, impl.StRead, impl.StWrite} {
		n := nodeWith(id, nodes, plainWords(), state)
		n.Frames[page] = impl.Frame{}
		h := hartAt(pc, pc, 65535, 4*i, 9)
		list = append(list, seat{coreOf(h), n})
		if state != impl.StNone {
			list = append(list, seat{coreOf(h, plainBlocks(1+2*i, pagesBut(page)...)...), n})
		}
	}
	return list
}

// That page alone is wanted, to read, and all else is as it was.
func TestStepsWaitForThePlaceThatTheyAreAt(t *testing.T) {
	for nodes := 1; nodes <= impl.MaxNodes; nodes++ {
		for id := range nodes {
			for pc := range 24 {
				page := pc / 4
				for _, s := range pcSeats(id, nodes, pc) {
					asked := seat{s.Core, askingFor(s.Node, nodes, page, impl.MgShare)}
					wantCoreStep(t, s, nodes, asked, impl.RnWait)
					// It is asked for already: once is enough.
					wantCoreStep(t, asked, nodes, asked, impl.RnWait)
				}
			}
		}
	}
}

// Where it can't be asked for it waits likewise; nothing is asked of another
// node, and nothing of another page.
func TestStepsWaitForThePlaceThatCanNotBeAskedFor(t *testing.T) {
	for nodes := 1; nodes <= impl.MaxNodes; nodes++ {
		for pc := range 24 {
			home := homesOfPages[nodes][pc/4]
			for i, s := range pcSeats(pc%nodes, nodes, pc) {
				for _, line := range jammedSenders() {
					jammed := seat{s.Core, withOut(s.Node, home, line)}
					wantCoreStep(t, jammed, nodes, jammed, impl.RnWait)
				}
				s.Node = withOut(s.Node, home, lastRoom()[i%4])
				asked := seat{s.Core, askingFor(s.Node, nodes, pc/4, impl.MgShare)}
				wantCoreStep(t, s, nodes, asked, impl.RnWait)
			}
		}
	}
}

// Where the page is there, to read or to write, nothing is asked for, whether
// something was asked ahead of it, and though no other page is there.
func TestStepsGoOnWhereThePlaceIsThere(t *testing.T) {
	for pc, b := range cacheBlocks {
		if b.List[0] == swapPlace {
			continue
		}
		for _, state := range []int{impl.StRead, impl.StWrite} {
			for _, asked := range []bool{false, true} {
				n := nodeWith(0, 2, cacheWords, impl.StNone)
				n.Frames[pc/4] = frameOf(state, asked, pageWords(cacheWords, pc)...)
				s := seat{coreOf(hartAt(pc, 5, 6, 0, 8)), n}
				want, _ := workOf(s.Core.Hart, b.List[0], 0)
				wantCoreStep(t, s, 2, seat{coreOf(want, b), n}, impl.RnDone)
			}
		}
	}
}

// workOf is Work as the words go, also of what is no place.
func workOf(h impl.Hart, x impl.Ins, got int) (impl.Hart, int) {
	if x == noPlace {
		return inState(h, impl.HtFault), -1
	}
	return workByWords(h, x, got)
}

// Each is kept already: by the block that begins there, or by one that begins
// ahead of it in the page.
func TestStepsByWhatIsKept(t *testing.T) {
	for _, b := range cacheBlocks {
		for i, x := range b.List {
			pc := b.Start + i
			n := nodeWith(1, 3, cacheWords, impl.StWrite)
			for count := range 5 {
				others := someBlocks(count, pc+5)
				list := withBlockAt(others, pc%(count+1), b)
				h := hartAt(pc, 0, 6, 0, 8)
				s := seat{coreOf(h, list...), n}
				if x == swapPlace {
					want, put := workOf(h, x, cacheWords[20])
					wantCoreStep(t, s, 3, seat{coreOf(want, withoutPage(list, 5)...), written(n, 20, put)}, impl.RnDone)
					continue
				}
				want, _ := workOf(h, x, 0)
				wantCoreStep(t, s, 3, seat{coreOf(want, list...), n}, impl.RnDone)
			}
		}
	}
}

func written(n impl.Node, at, w int) impl.Node {
	return turned(n, func(n *impl.Node) { n.Frames[at/4].List[at%4] = w })
}

func withoutPage(list []impl.Block, page int) []impl.Block {
	return slices.DeleteFunc(slices.Clone(list), func(b impl.Block) bool { return b.Start/4 == page })
}

// withKept is a list with one more behind all, of MaxCache without the first.
func withKept(list []impl.Block, b impl.Block) []impl.Block {
	list = append(slices.Clone(list), b)
	return list[max(0, len(list)-5):]
}

// What is kept has others, of this page and of other pages, and not what is at
// Pc: that is added behind all, from Pc on.
func TestStepsAddWhatIsNotKept(t *testing.T) {
	for pc, b := range cacheBlocks {
		if b.List[0] == swapPlace {
			continue
		}
		n := nodeWith(0, 1, cacheWords, impl.StRead)
		h := hartAt(pc, 0, 6, 0, 8)
		want, _ := workOf(h, b.List[0], 0)
		for count := range 6 {
			for from := range 24 {
				list := someBlocks(count, from)
				if _, has := findByWords(list, pc); has {
					continue
				}
				wantCoreStep(t, seat{coreOf(h, list...), n}, 1, seat{coreOf(want, withKept(list, b)...), n}, impl.RnDone)
			}
		}
	}
}

// The first one goes of MaxCache, also where it is of the same page, and all
// others stay in their order. Each line was worked out by hand.
func TestStepsAddToWhatIsFull(t *testing.T) {
	b := cacheBlocks
	cases := []struct {
		pc         int
		list, want []impl.Block
	}{
		{4, nil, []impl.Block{b[4]}},
		{4, []impl.Block{b[5]}, []impl.Block{b[5], b[4]}},
		{4, []impl.Block{b[6], b[5], b[7], b[8]}, []impl.Block{b[6], b[5], b[7], b[8], b[4]}},
		{4, []impl.Block{b[6], b[5], b[7], b[8], b[12]}, []impl.Block{b[5], b[7], b[8], b[12], b[4]}},
		{4, []impl.Block{b[0], b[5], b[0], b[0], b[0]}, []impl.Block{b[5], b[0], b[0], b[0], b[4]}},
		{5, []impl.Block{b[0], b[6], b[0], b[0], b[0]}, []impl.Block{b[6], b[0], b[0], b[0], b[5]}},
		{5, []impl.Block{b[4], b[6], b[0], b[0], b[0]}, []impl.Block{b[4], b[6], b[0], b[0], b[0]}},
		{5, []impl.Block{b[0], b[6], b[0], b[0], b[4]}, []impl.Block{b[0], b[6], b[0], b[0], b[4]}},
		{0, []impl.Block{b[1], b[2], b[3], b[23], b[22]}, []impl.Block{b[2], b[3], b[23], b[22], b[0]}},
		{23, []impl.Block{b[0], b[1], b[2], b[3], b[4]}, []impl.Block{b[1], b[2], b[3], b[4], b[23]}},
		{23, []impl.Block{b[20], b[1], b[2], b[3], b[4]}, []impl.Block{b[20], b[1], b[2], b[3], b[4]}},
		{10, []impl.Block{b[9], b[1], b[2], b[3], b[4]}, []impl.Block{b[9], b[1], b[2], b[3], b[4]}},
		{16, []impl.Block{b[17], b[18], b[19], b[17], b[18]}, []impl.Block{b[18], b[19], b[17], b[18], b[16]}},
	}
	for _, c := range cases {
		for _, states := range [][]int{{impl.StRead}, {impl.StWrite}, {impl.StRead, impl.StWrite}} {
			n := nodeWith(2, 4, cacheWords, states...)
			h := hartAt(c.pc, 7, 6, 5, 4)
			x, _ := impl.Decode(cacheWords[c.pc])
			want, _ := workOf(h, x, 0)
			wantCoreStep(t, seat{coreOf(h, c.list...), n}, 4, seat{coreOf(want, c.want...), n}, impl.RnDone)
		}
	}
}

// targetPlace has that address as its Target, with register 2.
func targetPlace(op, at, reg int) impl.Ins {
	x := impl.Ins{Op: op, A: 2, N: leftBy(at-reg, 24)}
	if op != impl.InStore {
		x.R = 1
	}
	if op != impl.InLoad {
		x.B = 3
	}
	return x
}

var targetOps = []int{impl.InLoad, impl.InStore, impl.InSwap}

// targetKinds is what a step asks for by its op and by the state of its
// Target's frame (0: nothing), written out by hand.
var targetKinds = map[int][3]int{
	impl.InLoad:  {impl.MgShare, 0, 0},
	impl.InStore: {impl.MgOwn, impl.MgOwn, 0},
	impl.InSwap:  {impl.MgOwn, impl.MgOwn, 0},
}

// An aim is a place with a Target, at an address, in plainWords.
type aim struct {
	op, pc, at int
	hart       impl.Hart
	words      []int
	block      impl.Block
}

func newAim(op, pc, at, salt int) aim {
	reg := []int{0, 1, 23, 30, 65472}[salt%5]
	x := targetPlace(op, at, reg)
	a := aim{op: op, pc: pc, at: at, hart: hartAt(pc, 11, 12, reg, 65530-7*salt), block: blockAt(pc, x)}
	a.words = withWord(plainWords(), pc, sumOf(x))
	if pc%4 < 3 {
		a.block.List = append(a.block.List, noPlace)
	}
	return a
}

// done is what a step makes of it, where all that it needs is there.
func (a aim) done(list []impl.Block, n impl.Node) seat {
	h := a.hart
	h.Pc = leftBy(a.pc+1, 24)
	there, b := a.words[a.at], h.Regs[3]
	switch a.op {
	case impl.InLoad:
		return seat{coreOf(withReg(h, 1, there), list...), n}
	case impl.InStore:
		return seat{coreOf(h, withoutPage(list, a.at/4)...), written(n, a.at, b)}
	}
	return seat{coreOf(withReg(h, 1, there), withoutPage(list, a.at/4)...), written(n, a.at, leftBy(there+b, 65536))}
}

// want is what a step answers where Pc's page is there.
func (a aim) want(list []impl.Block, n impl.Node, nodes int) (seat, int) {
	if _, has := findByWords(list, a.pc); !has {
		list = withKept(list, a.block)
	}
	f := n.Frames[a.at/4]
	kind := targetKinds[a.op][f.State]
	if kind == 0 {
		return a.done(list, n), impl.RnDone
	}
	home := n.Out[homesOfPages[nodes][a.at/4]]
	if !f.Asked && len(home.Queue) < 30 && home.Base+len(home.Queue) < 100000 {
		n = askingFor(n, nodes, a.at/4, kind)
	}
	return seat{coreOf(a.hart, list...), n}, impl.RnWait
}

// Each op, from each page to each page, with Target's frame in each state, asked
// for and not; with nothing kept, with others, and with all that can be.
func TestStepsWithATarget(t *testing.T) {
	codes := map[int]int{}
	for salt := range 3 * 6 * 6 * 3 * 2 {
		op, from, to := targetOps[salt%3], salt/3%6, salt/18%6
		state, asked := salt/108%3, salt/324 == 1
		nodes := salt%impl.MaxNodes + 1
		a := newAim(op, 4*from+salt%4, 4*to+salt/7%4, salt)
		if a.pc == a.at || from == to && state == impl.StNone {
			continue
		}
		n := nodeWith(salt%nodes, nodes, a.words, impl.StRead)
		n.Frames[to] = frameOf(state, asked, pageWords(a.words, a.at)...)
		others := pagesBut(from, to)
		for _, list := range [][]impl.Block{nil, {a.block}, plainBlocks(4, others...), plainBlocks(5, others...), append(plainBlocks(4, others...), a.block)} {
			want, code := a.want(list, n, nodes)
			wantCoreStep(t, seat{coreOf(a.hart, list...), n}, nodes, want, code)
			codes[code]++
			if code == impl.RnWait {
				// Until it comes nothing more is asked, and nothing more is kept.
				wantCoreStep(t, want, nodes, want, impl.RnWait)
			}
		}
	}
	if codes[impl.RnDone] < 500 || codes[impl.RnWait] < 500 {
		t.Error("too few of a kind to tell anything:", codes)
	}
}

// What is to be asked for can't be: it waits likewise, with what it added.
func TestStepsWithATargetThatCanNotBeAskedFor(t *testing.T) {
	waited := 0
	for salt := range 3 * 6 * 6 * 2 {
		op, from, to, state := targetOps[salt%3], salt/3%6, salt/18%6, salt/108
		nodes := salt%impl.MaxNodes + 1
		a := newAim(op, 4*from+salt%4, 4*to+(salt+1)%4, salt)
		if from == to && state == impl.StNone || targetKinds[op][state] == 0 {
			continue
		}
		n := nodeWith(salt%nodes, nodes, a.words, impl.StWrite)
		n.Frames[to] = frameOf(state, false, pageWords(a.words, a.at)...)
		home := homesOfPages[nodes][to]
		for _, line := range jammedSenders() {
			jammed := withOut(n, home, line)
			want := seat{coreOf(a.hart, a.block), jammed}
			wantCoreStep(t, seat{coreOf(a.hart), jammed}, nodes, want, impl.RnWait)
			waited++
		}
		for _, line := range lastRoom() {
			room := withOut(n, home, line)
			want := seat{coreOf(a.hart, a.block), askingFor(room, nodes, to, targetKinds[op][state])}
			wantCoreStep(t, seat{coreOf(a.hart), room}, nodes, want, impl.RnWait)
		}
	}
	if waited < 300 {
		t.Error("too few waited to tell anything:", waited)
	}
}

// Both pages in each state: what is at Pc is wanted first, and that alone; then
// what its Target needs. Written out by hand: the page (0 of Pc, 1 of Target)
// and the kind that is asked for.
func TestWhatIsWantedFirst(t *testing.T) {
	type ask struct{ page, kind int }
	none := ask{-1, 0}
	share, toShare, toOwn := ask{0, impl.MgShare}, ask{1, impl.MgShare}, ask{1, impl.MgOwn}
	asks := map[int][3][3]ask{
		impl.InLoad:  {{share, share, share}, {toShare, none, none}, {toShare, none, none}},
		impl.InStore: {{share, share, share}, {toOwn, toOwn, none}, {toOwn, toOwn, none}},
		impl.InSwap:  {{share, share, share}, {toOwn, toOwn, none}, {toOwn, toOwn, none}},
	}
	for op, states := range asks {
		for here, row := range states {
			for there, want := range row {
				for salt := range 30 {
					from, to := salt%6, (salt+1+salt/6)%6
					nodes := salt%impl.MaxNodes + 1
					a := newAim(op, 4*from+salt%4, 4*to+salt/3%4, salt)
					n := nodeWith(salt%nodes, nodes, a.words, impl.StNone)
					n.Frames[from] = frameOf(here, false, pageWords(a.words, a.pc)...)
					n.Frames[to] = frameOf(there, false, pageWords(a.words, a.at)...)
					s := seat{coreOf(a.hart), n}
					then := seat{coreOf(a.hart, a.block), n}
					switch want.page {
					case -1:
						wantCoreStep(t, s, nodes, a.done(then.Core.Cache, n), impl.RnDone)
						continue
					case 0:
						then = seat{s.Core, askingFor(n, nodes, from, want.kind)}
					default:
						then.Node = askingFor(n, nodes, to, want.kind)
					}
					wantCoreStep(t, s, nodes, then, impl.RnWait)
				}
			}
		}
	}
}

// The place and its Target in one page: it is there to read, at least.
func TestStepsWithATargetInTheirOwnPage(t *testing.T) {
	for salt := range 3 * 24 * 4 {
		op, pc := targetOps[salt%3], salt/3%24
		a := newAim(op, pc, pc/4*4+salt/72, salt)
		for _, state := range []int{impl.StRead, impl.StWrite} {
			for _, asked := range []bool{false, true} {
				n := nodeWith(0, 2, a.words, impl.StNone)
				n.Frames[pc/4] = frameOf(state, asked, pageWords(a.words, pc)...)
				for _, list := range [][]impl.Block{nil, {a.block}, {a.block, a.block}} {
					want, code := a.want(list, n, 2)
					wantCoreStep(t, seat{coreOf(a.hart, list...), n}, 2, want, code)
				}
			}
		}
	}
}

// arriving is a seat at which a message from home is heard.
func arriving(t *testing.T, s seat, nodes int, m impl.Msg) seat {
	t.Helper()
	n, ok := impl.NodeHear(s.Node, nodes, homesOfPages[nodes][m.Page], m)
	if !ok {
		t.Fatal("not heard:", m)
	}
	return seat{impl.CoreHear(s.Core, m), n}
}

// A need is a page, and whether it must be there to write.
type need struct {
	page int
	own  bool
}

// A step that waited goes on when the page has come, as if it had not waited.
func TestStepsThatWaitedGoOn(t *testing.T) {
	for salt := range 3 * 6 * 6 {
		op, from, to := targetOps[salt%3], salt/3%6, salt/18
		nodes := salt%impl.MaxNodes + 1
		a := newAim(op, 4*from+salt%4, 4*to+(salt+2)%4, salt)
		id := salt % nodes
		s := seat{coreOf(a.hart), newNode(id, nodes)}
		needs := []need{{from, false}}
		if own := op != impl.InLoad; own || from != to {
			needs = append(needs, need{to, own})
		}
		for _, need := range needs {
			var code int
			if s, code = stepOf(s, nodes); code != impl.RnWait || !s.Node.Frames[need.page].Asked {
				t.Fatal("it does not wait for", need, s, code)
			}
			s = arriving(t, s, nodes, dataOf(need.page, need.own, a.words[4*need.page:4*need.page+4]...))
		}
		list := s.Core.Cache
		if len(list) == 0 {
			list = []impl.Block{a.block}
		}
		wantCoreStep(t, s, nodes, a.done(list, s.Node), impl.RnDone)
	}
}

// Every right place at its corners: those without a Target go on with no other
// page there; the others wait for theirs.
func TestStepsOfEachOp(t *testing.T) {
	for i, x := range append(rightPlaces(), noPlace) {
		pc := i * 7 % 24
		mem := withWord(plainWords(), pc, sumOf(x))
		n := nodeWith(0, 1, mem, impl.StNone)
		n.Frames[pc/4] = frameOf(impl.StRead, false, pageWords(mem, pc)...)
		for _, h := range runningHarts() {
			h.Pc = pc
			s := seat{coreOf(h), n}
			kept := coreOf(h, impl.BlockOf(pageWords(mem, pc), pc))
			if hasTarget(x.Op) {
				at := targetByWords(x, h.Regs)
				kind := targetKinds[x.Op][n.Frames[at/4].State]
				if kind == 0 {
					kept.Hart, _ = workOf(h, x, mem[at])
					wantCoreStep(t, s, 1, seat{kept, n}, impl.RnDone)
				} else {
					wantCoreStep(t, s, 1, seat{kept, askingFor(n, 1, at/4, kind)}, impl.RnWait)
				}
				continue
			}
			kept.Hart, _ = workOf(h, x, 0)
			wantCoreStep(t, s, 1, seat{kept, n}, impl.RnDone)
		}
	}
}

// What Work does, op by op; each line was worked out by hand.
func TestWhatAStepDoesToTheHart(t *testing.T) {
	h := hartAt(6, 0, 40, 65535, 2)
	cases := []struct {
		x    impl.Ins
		want impl.Hart
	}{
		{impl.Ins{Op: impl.InSet, R: 1, N: 63}, hartAt(7, 0, 63, 65535, 2)},
		{impl.Ins{Op: impl.InAdd, R: 0, A: 2, B: 3}, hartAt(7, 1, 40, 65535, 2)},
		{impl.Ins{Op: impl.InSub, R: 3, A: 0, B: 1}, hartAt(7, 0, 40, 65535, 65496)},
		{impl.Ins{Op: impl.InMore, R: 2, A: 2, N: 1}, hartAt(7, 0, 40, 0, 2)},
		{impl.Ins{Op: impl.InLoad, R: 1, A: 3, N: 7}, hartAt(7, 0, plainWord(9), 65535, 2)},
		{impl.Ins{Op: impl.InStore, A: 1, B: 2, N: 0}, hartAt(7, 0, 40, 65535, 2)},
		{impl.Ins{Op: impl.InSwap, R: 2, A: 2, B: 2, N: 12}, hartAt(7, 0, 40, plainWord(11), 2)},
		{impl.Ins{Op: impl.InZero, A: 0, N: 30}, hartAt(6, 0, 40, 65535, 2)},
		{impl.Ins{Op: impl.InZero, A: 1, N: 30}, hartAt(7, 0, 40, 65535, 2)},
		{impl.Ins{Op: impl.InJump, N: 50}, hartAt(2, 0, 40, 65535, 2)},
		{impl.Ins{Op: impl.InHalt}, inState(h, impl.HtHalt)},
		{noPlace, inState(h, impl.HtFault)},
	}
	for _, c := range cases {
		mem := withWord(plainWords(), 6, sumOf(c.x))
		s := seat{coreOf(h), nodeWith(0, 1, mem, impl.StWrite)}
		got, code := stepOf(s, 1)
		if code != impl.RnDone || !sameHart(got.Core.Hart, c.want) {
			t.Errorf("%+v makes %v of %v (%d), not %v", c.x, got.Core.Hart, h, code, c.want)
		}
	}
}

// nodeTurns are the addresses at which the words of two nodes' frames differ.
func nodeTurns(a, b impl.Node) []int { return turnedWords(nodeWords(a), nodeWords(b)) }

// nodeWords are those of all frames, -1 where there is none.
func nodeWords(n impl.Node) []int {
	var list []int
	for _, f := range n.Frames {
		if f.State == impl.StNone {
			list = append(list, -1, -1, -1, -1)
		}
		list = append(list, f.List...)
	}
	return list
}

// To each address, from each: that word alone, of that frame alone, and what
// was kept of that page alone is gone.
func TestWhatIsWrittenAndWhatIsPurged(t *testing.T) {
	for pc := range 24 {
		for at := range 24 {
			for _, op := range []int{impl.InStore, impl.InSwap} {
				a := newAim(op, pc, at, pc+at)
				n := nodeWith(0, 1, a.words, impl.StWrite)
				list := []impl.Block{plainBlock((at + 4) % 24), plainBlock(at), a.block, plainBlock((at + 8) % 24), plainBlock(at/4*4 + (at+1)%4)}
				for i, b := range list {
					list[i] = impl.BlockOf(pageWords(a.words, b.Start), b.Start)
				}
				s := seat{coreOf(a.hart, list...), n}
				got := wantCoreStep(t, s, 1, a.done(list, n), impl.RnDone)
				if turns := nodeTurns(n, got.Node); !slices.Equal(turns, []int{at}) {
					t.Errorf("%d from %d: words at %v turned", at, pc, turns)
				}
				for page := range 6 {
					had := slices.ContainsFunc(list, func(b impl.Block) bool { return b.Start/4 == page })
					has := slices.ContainsFunc(got.Core.Cache, func(b impl.Block) bool { return b.Start/4 == page })
					if has != (had && page != at/4) {
						t.Errorf("%d from %d: of page %d is kept %v, before %v", at, pc, page, got.Core.Cache, list)
					}
				}
			}
		}
	}
}

// The word that stood there is written again: its page is purged, too. What
// only reads purges nothing.
func TestWhatIsWrittenAsItWas(t *testing.T) {
	for at := range 24 {
		pc := (at + 5) % 24
		for _, op := range targetOps {
			a := newAim(op, pc, at, 0)
			n := nodeWith(0, 1, a.words, impl.StWrite)
			h := withReg(a.hart, 3, a.words[at])
			if op == impl.InSwap {
				h = withReg(a.hart, 3, 0)
			}
			list := []impl.Block{plainBlock(at), a.block}
			got, code := stepOf(seat{coreOf(h, list...), n}, 1)
			left := withoutPage(list, at/4)
			if op == impl.InLoad {
				left = list
			}
			if code != impl.RnDone || !sameNode(got.Node, n) || !sameBlocks(got.Core.Cache, left) {
				t.Errorf("op %d of %d: %v, %d", op, at, got, code)
			}
		}
	}
}

// A tale is steps of one hart at a node that has all pages to write, each told
// by hand: where it goes on then, and what is kept, by where it begins.
type tale struct {
	t *testing.T
	s seat
}

func newTale(t *testing.T, h impl.Hart, places map[int]impl.Ins) *tale {
	mem := make([]int, 24)
	for at, x := range places {
		mem[at] = wordOfPlace(t, x)
	}
	return &tale{t, seat{coreOf(h), nodeWith(0, 1, mem, impl.StWrite)}}
}

func (p *tale) step(pc int, starts ...int) {
	p.t.Helper()
	got, code := stepOf(p.s, 1)
	var kept []int
	for _, b := range got.Core.Cache {
		kept = append(kept, b.Start)
	}
	if code != impl.RnDone || got.Core.Hart.Pc != pc || !slices.Equal(kept, starts) || !rightSeat(got, 1) {
		p.t.Fatalf("a step of %v is %v, %d, not at %d with %v kept", p.s.Core, got.Core, code, pc, starts)
	}
	p.s = got
}

func (p *tale) end(state int, regs ...int) {
	p.t.Helper()
	h := p.s.Core.Hart
	if h.State != state || !slices.Equal(h.Regs, regs) {
		p.t.Fatalf("the hart ends as %v, not in state %d with %v", h, state, regs)
	}
	if got, code := stepOf(p.s, 1); code != impl.RnOver || !sameSeat(got, p.s) {
		p.t.Fatalf("behind its end: %v, %d", got, code)
	}
}

// It writes a halt over itself: when it comes there again it halts.
func TestAPlaceThatWritesOverItself(t *testing.T) {
	p := newTale(t, hartAt(0, 0, haltWord, 0, 0), map[int]impl.Ins{
		0: {Op: impl.InStore, B: 1, N: 0},
		1: {Op: impl.InMore, R: 2, A: 2, N: 1},
		2: {Op: impl.InJump, N: 0},
	})
	p.step(1)
	p.step(2, 1)
	p.step(0, 1)
	p.step(0, 1, 0)
	p.end(impl.HtHalt, 0, haltWord, 1, 0)
}

// It adds to itself, so that it is another place each time: what it was stands
// in register 2 behind it.
func TestAPlaceThatAddsToItself(t *testing.T) {
	swap := impl.Ins{Op: impl.InSwap, R: 2, A: 0, B: 1, N: 4}
	p := newTale(t, hartAt(4, 0, 16, 0, 0), map[int]impl.Ins{4: swap, 5: {Op: impl.InJump, N: 4}})
	p.step(5)
	p.step(4, 5)
	p.step(5)
	if h := p.s.Core.Hart; !slices.Equal(h.Regs, []int{0, 16, sumOf(swap), sumOf(swap) + 16}) {
		t.Fatal("behind two of them:", h)
	}
	p.step(4, 5)
	// It is one of register 1 now: it adds at 20, and stays as it is.
	p.step(5, 5, 4)
	p.step(4, 5, 4)
	p.step(5, 5, 4)
	if words := nodeWords(p.s.Node); words[4] != sumOf(swap)+32 || words[20] != 32 || p.s.Core.Hart.Regs[0] != 16 {
		t.Fatal("behind four of them:", p.s.Core.Hart, words)
	}
}

// The next place of its own block is what it wrote, not what was taken apart.
func TestAPlaceThatWritesOverTheNextOne(t *testing.T) {
	set := impl.Ins{Op: impl.InSet, R: 3, N: 63}
	p := newTale(t, hartAt(4, 0, sumOf(set), 0, 0), map[int]impl.Ins{
		4: {Op: impl.InStore, B: 1, N: 5},
		5: {Op: impl.InSet, R: 3, N: 1},
		6: {Op: impl.InHalt},
	})
	p.step(5)
	p.step(6, 5)
	p.step(6, 5)
	p.end(impl.HtHalt, 0, sumOf(set), 0, 63)
}

// One further behind it: the block that is added in between has it already.
func TestAPlaceThatWritesOverOneBehindIt(t *testing.T) {
	p := newTale(t, hartAt(19, 0, haltWord, 0, 0), map[int]impl.Ins{
		19: {Op: impl.InMore, R: 2, A: 2, N: 1},
		20: {Op: impl.InMore, R: 2, A: 2, N: 2},
		21: {Op: impl.InStore, B: 1, N: 23},
		22: {Op: impl.InMore, R: 2, A: 2, N: 4},
		23: {Op: impl.InMore, R: 2, A: 2, N: 8},
	})
	p.step(20, 19)
	p.step(21, 19, 20)
	p.step(22, 19)
	p.step(23, 19, 22)
	p.step(23, 19, 22)
	p.end(impl.HtHalt, 0, haltWord, 7, 0)
}

// A block of another page is kept, written over, and taken apart anew; what is
// kept of the page that writes stays.
func TestAPlaceThatWritesOverAnotherBlock(t *testing.T) {
	p := newTale(t, hartAt(8, 0, haltWord, 0, 0), map[int]impl.Ins{
		0:  {Op: impl.InStore, B: 1, N: 9},
		1:  {Op: impl.InJump, N: 8},
		8:  {Op: impl.InMore, R: 2, A: 2, N: 1},
		9:  {Op: impl.InMore, R: 3, A: 3, N: 1},
		10: {Op: impl.InJump, N: 0},
	})
	p.step(9, 8)
	p.step(10, 8)
	p.step(0, 8)
	p.step(1, 0)
	p.step(8, 0)
	p.step(9, 0, 8)
	p.step(9, 0, 8)
	p.end(impl.HtHalt, 0, haltWord, 2, 1)
}

// It writes what is no place where it goes on: it faults there.
func TestAPlaceThatWritesNoPlace(t *testing.T) {
	p := newTale(t, hartAt(3, 0, 0, 65535, 0), map[int]impl.Ins{
		3: {Op: impl.InStore, B: 2, N: 4},
		4: {Op: impl.InJump, N: 3},
	})
	p.step(4, 3)
	p.step(4, 3, 4)
	p.end(impl.HtFault, 0, 0, 65535, 0)
}

// A word of data in the page of the program: it is purged for that, too, and
// taken apart as it was.
func TestAPlaceThatWritesBesideItself(t *testing.T) {
	p := newTale(t, hartAt(12, 0, 1, 0, 0), map[int]impl.Ins{
		12: {Op: impl.InSwap, R: 2, B: 1, N: 15},
		13: {Op: impl.InJump, N: 12},
	})
	for i := range 5 {
		p.step(13)
		if words := p.s.Node.Frames[3].List; words[3] != i+1 {
			t.Fatal("counted to", words)
		}
		p.step(12, 13)
	}
}

// To the first and the last address, and round from the last to the first.
func TestStepsToTheFirstAndTheLastAddress(t *testing.T) {
	p := newTale(t, hartAt(7, 0, 0, 5, 0), map[int]impl.Ins{
		7:  {Op: impl.InJump, N: 23},
		23: {Op: impl.InMore, R: 1, A: 1, N: 1},
		0:  {Op: impl.InZero, A: 3, N: 47},
	})
	p.step(23, 7)
	p.step(0, 7, 23)
	p.step(23, 7, 23, 0)
	p.step(0, 7, 23, 0)
	ends := map[int]int{0: 0, 23: 23, 24: 0, 25: 1, 47: 23, 48: 0, 63: 15}
	for n, want := range ends {
		for _, pc := range []int{0, 3, 22, 23} {
			for _, x := range []impl.Ins{{Op: impl.InJump, N: n}, {Op: impl.InZero, A: 1, N: n}} {
				p := newTale(t, hartAt(pc, 1, 0, 3, 4), map[int]impl.Ins{pc: x})
				p.step(want, pc)
			}
		}
	}
	// From the last to the first: another page, which may not be there.
	mem := withWord(plainWords(), 23, setWord)
	n := nodeWith(1, 2, mem, impl.StNone)
	n.Frames[5] = frameOf(impl.StRead, false, mem[20:]...)
	s := seat{coreOf(hartAt(23, 1, 2, 3, 4)), n}
	s = wantCoreStep(t, s, 2, seat{coreOf(hartAt(0, 1, 2, 5, 4), blockAt(23, setPlace)), n}, impl.RnDone)
	wantCoreStep(t, s, 2, seat{s.Core, askingFor(n, 2, 0, impl.MgShare)}, impl.RnWait)
}

// hearsFrom are the kinds by which what is kept goes.
var hearsFrom = []int{impl.MgData, impl.MgGone, impl.MgFetch}

func wantCoreHears(t *testing.T, c impl.Core, m impl.Msg, want impl.Core) {
	t.Helper()
	type hearing struct {
		Core impl.Core
		Msg  impl.Msg
	}
	given := roomy(hearing{c, m})
	before := whole(given)
	got := impl.CoreHear(given.Core, given.Msg)
	if !sameCore(got, want) {
		t.Errorf("CoreHear(%v, %v) is %v, not %v", c, m, got, want)
	}
	wantNew(t, got, given)
	wantUnwritten(t, given, before)
}

// Every kind, of each page, to own and not: what is kept of that page goes, by
// three kinds alone.
func TestCoreHear(t *testing.T) {
	for _, m := range rightHeard() {
		for page := range 6 {
			m.Page = page
			for i, h := range append(runningHarts(), idleHarts()...) {
				c := coreOf(h, someBlocks(i%6, i+page)...)
				want := c
				if slices.Contains(hearsFrom, m.Kind) {
					want.Cache = withoutPage(c.Cache, page)
				}
				wantCoreHears(t, c, m, want)
			}
			all := coreOf(impl.HartNew(3), cacheBlocks[4*page], cacheBlocks[4*page+1], cacheBlocks[4*page+3], cacheBlocks[4*page])
			want := all
			if slices.Contains(hearsFrom, m.Kind) {
				want.Cache = nil
			}
			wantCoreHears(t, all, m, want)
		}
	}
}

// Each line was worked out by hand.
func TestCoreHearByHand(t *testing.T) {
	b := cacheBlocks
	list := []impl.Block{b[9], b[4], b[11], b[0], b[20]}
	cases := []struct {
		m    impl.Msg
		want []impl.Block
	}{
		{dataOf(2, true, 1, 2, 3, 4), []impl.Block{b[4], b[0], b[20]}},
		{dataOf(2, false, 1, 2, 3, 4), []impl.Block{b[4], b[0], b[20]}},
		{impl.Msg{Kind: impl.MgGone, Page: 2}, []impl.Block{b[4], b[0], b[20]}},
		{impl.Msg{Kind: impl.MgFetch, Page: 2}, []impl.Block{b[4], b[0], b[20]}},
		{impl.Msg{Kind: impl.MgFetch, Page: 2, Own: true}, []impl.Block{b[4], b[0], b[20]}},
		{impl.Msg{Kind: impl.MgGone}, []impl.Block{b[9], b[4], b[11], b[20]}},
		{impl.Msg{Kind: impl.MgGone, Page: 5}, []impl.Block{b[9], b[4], b[11], b[0]}},
		{impl.Msg{Kind: impl.MgGone, Page: 3}, list},
		{impl.Msg{Kind: impl.MgShare, Page: 2}, list},
		{impl.Msg{Kind: impl.MgOwn, Page: 2}, list},
		{impl.Msg{Kind: impl.MgAck, Page: 2}, list},
		{backOf(2, 1, 2, 3, 4), list},
	}
	for _, c := range cases {
		wantCoreHears(t, coreOf(hartAt(4, 1, 2, 3, 4), list...), c.m, coreOf(hartAt(4, 1, 2, 3, 4), c.want...))
	}
}

// Of pages that are none nothing is kept, so all stays.
func TestCoreHearOfNoPage(t *testing.T) {
	for _, page := range append(notPages, 255, 65536, -5) {
		for i, m := range append(rightHeard(), impl.Msg{Kind: 8}, impl.Msg{}) {
			m.Page = page
			c := coreOf(runningHarts()[i%10], someBlocks(i%6, i)...)
			wantCoreHears(t, c, m, c)
		}
	}
}

// Numbers of kinds that are none; some are one behind a turn of 256 or 65536.
func TestCoreHearOfNoKind(t *testing.T) {
	for _, kind := range append([]int{0, 8, 9, 10, 11, 12, 14, -2, -3, -4, -6, 259, 260, 262, 65539, 65540, 65542, 1<<32 + 3, math.MinInt + 4}, farNumbers...) {
		for page := range 6 {
			c := coreOf(impl.HartNew(page), someBlocks(5, page)...)
			wantCoreHears(t, c, impl.Msg{Kind: kind, Page: page}, c)
			wantCoreHears(t, c, impl.Msg{Kind: kind, Page: page, Own: true, List: []int{1, 2, 3, 4}}, c)
		}
	}
}

// The kind and the page count, and nothing else: not whether it is MsgOk, nor
// whether the core is right.
func TestCoreHearOfWhatIsWrong(t *testing.T) {
	harts := append(wrongHarts(), runningHarts()...)
	for i, m := range append(wrongHeard(), wrongMsgs...) {
		for _, list := range [][]impl.Block{someBlocks(i%6, i), someBlocks(9, i), strayBlocks()[:6]} {
			c := coreOf(harts[i%len(harts)], list...)
			want := c
			if slices.Contains(hearsFrom, m.Kind) {
				want.Cache = withoutPage(list, m.Page)
			}
			wantCoreHears(t, c, m, want)
		}
	}
	// A block that is not BlockOk has no page (chapter 10), wherever it begins.
	for i, b := range blocksNotOk() {
		right := cacheBlocks[i%24]
		c := coreOf(wrongHarts()[i%10], b, right, b)
		for page := range 6 {
			want := c
			if page == right.Start/4 {
				want.Cache = []impl.Block{b, b}
			}
			wantCoreHears(t, c, impl.Msg{Kind: hearsFrom[i%3], Page: page}, want)
			wantCoreHears(t, c, impl.Msg{Kind: impl.MgAck, Page: page}, c)
		}
		wantCoreHears(t, c, impl.Msg{Kind: hearsFrom[i%3], Page: -1}, coreOf(c.Hart, right))
	}
}

// coreByWords is CoreStep as the document's words go, of a right core. What
// stands at Pc is taken from the frame, whatever is kept: the promise is that
// this is the same.
func coreByWords(s seat, nodes int) (seat, int) {
	h := s.Core.Hart
	if h.State != impl.HtRun {
		return s, impl.RnOver
	}
	here := s.Node.Frames[h.Pc/4]
	if here.State == impl.StNone {
		n, _ := wantWordByWord(s.Node, nodes, h.Pc/4, false)
		return seat{s.Core, n}, impl.RnWait
	}
	list := s.Core.Cache
	if _, has := findByWords(list, h.Pc); !has {
		list = withKept(list, impl.BlockOf(here.List, h.Pc))
	}
	x, _ := impl.Decode(here.List[h.Pc%4])
	if !hasTarget(x.Op) {
		h, _ = workOf(h, x, 0)
		return seat{coreOf(h, list...), s.Node}, impl.RnDone
	}
	at := targetByWords(x, h.Regs)
	there, own := s.Node.Frames[at/4], x.Op != impl.InLoad
	if there.State == impl.StNone || own && there.State == impl.StRead {
		n, _ := wantWordByWord(s.Node, nodes, at/4, own)
		return seat{coreOf(h, list...), n}, impl.RnWait
	}
	h, put := workOf(h, x, there.List[at%4])
	if put == -1 {
		return seat{coreOf(h, list...), s.Node}, impl.RnDone
	}
	return seat{coreOf(h, withoutPage(list, at/4)...), written(s.Node, at, put)}, impl.RnDone
}

// drawnSeat is any right one, with some pages there and some of them kept.
func drawnSeat(r *rand.Rand, nodes int) seat {
	mem := drawnMemory(r)
	n := someNode(r, nodes)
	for page, f := range drawnFrames(r, mem) {
		f.Asked = r.Intn(3) == 0
		n.Frames[page] = f
	}
	c := coreOf(drawnHart(r))
	for range r.Intn(8) {
		start := r.Intn(24)
		c.Cache = impl.CacheAdd(c.Cache, impl.BlockOf(n.Frames[start/4].List, start))
	}
	if r.Intn(10) == 0 {
		c.Hart.State = 1 + r.Intn(2)
	}
	return seat{c, n}
}

func TestCoreStepsAsTheWordsGo(t *testing.T) {
	r := rand.New(rand.NewSource(12))
	codes := map[int]int{}
	for range 8000 {
		nodes := r.Intn(impl.MaxNodes) + 1
		s := drawnSeat(r, nodes)
		want, wantCode := coreByWords(s, nodes)
		got, code := stepOf(s, nodes)
		if code != wantCode || !sameSeat(got, want) {
			t.Fatalf("CoreStep(%v, %v, %d) is\n%v, %d, not\n%v, %d", s.Core, s.Node, nodes, got, code, want, wantCode)
		}
		codes[code]++
	}
	if codes[impl.RnBad] != 0 || min(codes[impl.RnDone], codes[impl.RnOver], codes[impl.RnWait]) < 500 {
		t.Error("too few of a kind to tell anything:", codes)
	}
}

// heardMsg is any right message, with words that are mostly places.
func heardMsg(r *rand.Rand) impl.Msg {
	m := someMsg(r)
	if hasList(m.Kind) {
		m.List = drawnMemory(r)[:4]
	}
	return m
}

// The promise: over rows of steps and of messages that the node hears, and the
// core with it, what is kept is what stands in the pages there; each step is
// what the words make of what stands there.
func TestWhatIsKeptIsWhatStandsInThePages(t *testing.T) {
	count := map[string]int{}
	for seed := range 60 {
		r := rand.New(rand.NewSource(int64(120 + seed)))
		nodes := seed%impl.MaxNodes + 1
		s := drawnSeat(r, nodes)
		for range 150 {
			was := cloneOf(s)
			if r.Intn(3) > 0 {
				want, wantCode := coreByWords(s, nodes)
				var code int
				if s, code = stepOf(s, nodes); code != wantCode || !sameSeat(s, want) {
					t.Fatalf("a step of %v is %v, %d, not %v, %d", was, s, code, want, wantCode)
				}
				count[[]string{"done", "bad", "over", "wait"}[code]]++
				if code == impl.RnOver || r.Intn(20) == 0 {
					s.Core.Hart = drawnHart(r)
				}
			} else {
				m := heardMsg(r)
				from := homesOfPages[nodes][m.Page]
				if r.Intn(4) == 0 {
					from = r.Intn(nodes)
				}
				s.Node, _ = impl.NodeHear(s.Node, nodes, from, m)
				if !rightSeat(s, nodes) {
					count["stale"]++
				}
				s.Core = impl.CoreHear(s.Core, m)
			}
			if !rightSeat(s, nodes) || !cacheByWords(s.Core.Cache, s.Node.Frames) {
				t.Fatalf("no longer CoreOk: %v, before %v", s, was)
			}
			if len(s.Core.Cache) == 5 {
				count["full"]++
			}
		}
	}
	for _, name := range []string{"done", "over", "wait", "stale", "full"} {
		if count[name] < 60 {
			t.Error("too few of", name, "to tell anything:", count)
		}
	}
}

// A node that has all pages to write is one flat memory.
func TestACoreWithAllPagesIsOnOneFlatMemory(t *testing.T) {
	r := rand.New(rand.NewSource(1200))
	wrote, steps := 0, 0
	for range 400 {
		f := flat{drawnMemory(r), drawnHart(r)}
		s := seat{coreOf(f.Hart), nodeWith(0, 1, f.Mem, impl.StWrite)}
		for range 25 {
			next := stepped(f)
			got, code := stepOf(s, 1)
			if over := f.Hart.State != impl.HtRun; over != (code == impl.RnOver) || !over && code != impl.RnDone {
				t.Fatalf("a step of %v is %d", s, code)
			}
			if !slices.Equal(nodeWords(got.Node), next.Mem) || !sameHart(got.Core.Hart, next.Hart) {
				t.Fatalf("a step of %v is %v, on one memory %v", s, got, next)
			}
			if !slices.Equal(f.Mem, next.Mem) {
				wrote++
			}
			if code == impl.RnOver {
				break
			}
			f, s = next, got
			steps++
		}
	}
	if wrote < 300 || steps < 2000 {
		t.Error("too little was done to tell anything:", wrote, steps)
	}
}

// A coresModel is nodes with a core each, whose lines are carried as they are
// queued, held against one flat memory.
type coresModel struct {
	*nodesModel
	cores []impl.Core
	mem   []int
	harts []impl.Hart
	done  int
	wait  int
}

func newCoresModel(t *testing.T, r *rand.Rand, count int) *coresModel {
	p := &coresModel{nodesModel: newNodesModel(t, count), mem: drawnMemory(r)}
	for id, n := range p.nodes {
		for page := range n.Homes {
			p.nodes[id].Homes[page].List = slices.Clone(p.mem[4*page : 4*page+4])
		}
		p.harts = append(p.harts, drawnHart(r))
		p.cores = append(p.cores, coreOf(p.harts[id]))
	}
	p.tellWords()
	return p
}

func (p *coresModel) tellWords() {
	for at, w := range p.mem {
		p.words[at/4][at%4] = w
	}
}

func (p *coresModel) run(who int) {
	s, code := stepOf(seat{p.cores[who], p.nodes[who]}, len(p.nodes))
	p.cores[who], p.nodes[who] = s.Core, s.Node
	switch code {
	case impl.RnDone:
		p.mem, p.harts[who] = impl.FlatStep(p.mem, p.harts[who])
		p.tellWords()
		p.done++
	case impl.RnWait:
		p.wait++
	case impl.RnBad:
		p.t.Fatal("a right core is bad:", who, s)
	}
	if !sameHart(p.cores[who].Hart, p.harts[who]) {
		p.t.Fatal("core", who, "is", p.cores[who], "on one memory", p.harts[who])
	}
}

func (p *coresModel) carryToCore(from, to int) {
	queue := p.nodes[from].Out[to].Queue
	if len(queue) == 0 {
		return
	}
	m := queue[0]
	p.carry(from, to)
	p.cores[to] = impl.CoreHear(p.cores[to], m)
}

func TestCoresGoOnTogether(t *testing.T) {
	for count := 1; count <= impl.MaxNodes; count++ {
		done, wait := 0, 0
		for seed := range 40 {
			r := rand.New(rand.NewSource(int64(seed)))
			p := newCoresModel(t, r, count)
			for range 400 {
				if who := r.Intn(count); r.Intn(3) == 0 {
					p.run(who)
				} else {
					p.carryToCore(who, r.Intn(count))
				}
				p.look()
			}
			for id, c := range p.cores {
				wantCoreOk(t, seat{c, p.nodes[id]}, count, true)
			}
			done, wait = done+p.done, wait+p.wait
		}
		if done < 200 || wait < 200 {
			t.Error("too little was done to tell anything:", count, done, wait)
		}
	}
}

// seatsOfAllSorts are such of each code, of that many nodes.
func seatsOfAllSorts(nodes int) []seat {
	list := []seat{{}, {Node: newNode(0, nodes)}, {Core: coreOf(impl.HartNew(0))}, {Core: coreOf(impl.HartNew(0)), Node: newNode(nodes-1, nodes)}}
	r := rand.New(rand.NewSource(121))
	for range 60 {
		list = append(list, drawnSeat(r, nodes))
	}
	some := nodeWith(0, nodes, cacheWords, impl.StRead, impl.StWrite)
	for i := range 24 {
		list = append(list, seat{coreOf(hartAt(i, 1, 2, 3, 4), someBlocks(i%6, i)...), some})
	}
	for _, op := range targetOps {
		for salt := range 12 {
			a := newAim(op, salt, 5*salt%24, salt)
			list = append(list, seat{coreOf(a.hart, a.block), nodeWith(0, nodes, a.words, impl.StWrite)}, seat{coreOf(a.hart), nodeWith(0, nodes, a.words, impl.StRead)})
		}
	}
	for i, h := range wrongHarts()[:12] {
		list = append(list, seat{coreOf(h, someBlocks(i%6, i)...), some})
	}
	for _, cache := range wrongCaches()[:12] {
		list = append(list, seat{coreOf(impl.HartNew(0), cache...), some})
	}
	for _, n := range wrongNodes(nodes)[:12] {
		list = append(list, seat{coreOf(impl.HartNew(0)), n})
	}
	return list
}

// coreAnswers are what the functions of the chapter answer of one seat.
type coreAnswers struct {
	Ok    bool
	Step  seat
	Code  int
	Heard []impl.Core
}

func askCore(s seat, nodes int) coreAnswers {
	var a coreAnswers
	a.Ok = rightSeat(s, nodes)
	a.Step, a.Code = stepOf(s, nodes)
	for i, kind := range append([]int{0, 8}, wireKinds...) {
		a.Heard = append(a.Heard, impl.CoreHear(s.Core, impl.Msg{Kind: kind, Page: i % 6}))
	}
	return a
}

func TestCoreAnswersAreNewMemory(t *testing.T) {
	for nodes := 1; nodes <= impl.MaxNodes; nodes++ {
		codes := map[int]int{}
		for _, s := range seatsOfAllSorts(nodes) {
			given := roomy(s)
			before := whole(given)
			a, b := askCore(given, nodes), askCore(given, nodes)
			wantNew(t, []coreAnswers{a, b}, given)
			wantUnwritten(t, given, before)
			codes[a.Code]++
		}
		if len(codes) != 4 {
			t.Error("not each code is among them:", codes)
		}
	}
}

// A seat whose lists are one list has an answer in which they are not.
func TestCoreListsAreOneEach(t *testing.T) {
	words := []int{setWord, swapWord, sumOf(impl.Ins{Op: impl.InStore, N: 2}), haltWord}
	block := blockAt(0, setPlace, swapPlace, impl.Ins{Op: impl.InStore, N: 2}, haltPlace)
	m := impl.Msg{Kind: impl.MgBack, Page: 2, List: words}
	for _, state := range []int{impl.StRead, impl.StWrite} {
		n := newNode(2, 4)
		for page := range n.Frames {
			n.Frames[page] = impl.Frame{State: state, List: words}
			n.Homes[page].List = words
		}
		for who := range n.Out {
			n.Out[who].Queue = []impl.Msg{m, m}
		}
		for pc := range 4 {
			s := seat{coreOf(impl.Hart{Regs: words, Pc: pc}, block, block, blockAt(1, block.List[1:]...)), n}
			before := whole(s)
			if !rightSeat(s, 4) {
				t.Fatal("not right:", s)
			}
			got, code := stepOf(s, 4)
			if code != impl.RnDone && (state == impl.StWrite || code != impl.RnWait) {
				t.Error("code", code)
			}
			wantNew(t, got, s)
			wantNew(t, impl.CoreHear(s.Core, m), s)
			wantNew(t, impl.CoreHear(s.Core, impl.Msg{Kind: impl.MgGone, Page: 1}), s)
			wantUnwritten(t, s, before)
		}
	}
}

// Whatever becomes of what was handed in, or of an answer, another answer is as
// it was; and nothing is kept from one call to another.
func TestCoresAreAnsweredTheSameAgain(t *testing.T) {
	for nodes := 1; nodes <= impl.MaxNodes; nodes++ {
		seats := seatsOfAllSorts(nodes)
		var first []coreAnswers
		for _, s := range seats {
			first = append(first, askCore(s, nodes))
		}
		kept := cloneOf(first)
		for i := len(seats) - 1; i >= 0; i-- {
			for range 2 {
				given := cloneOf(seats[i])
				again := askCore(given, nodes)
				if !reflect.DeepEqual(cloneOf(again), kept[i]) {
					t.Fatalf("%v is answered by %v, and again by %v", seats[i], kept[i], again)
				}
				spoil(given)
				if !reflect.DeepEqual(cloneOf(again), kept[i]) {
					t.Fatalf("an answer turned with what was handed in: %v, before %v", again, kept[i])
				}
				spoil(again.Step)
				for _, c := range again.Heard {
					spoil(seat{Core: c})
				}
			}
		}
		if !reflect.DeepEqual(cloneOf(first), kept) {
			t.Error("an answer turned with another one")
		}
	}
}

// spoil writes over every list of a seat.
func spoil(s seat) {
	for i := range s.Core.Hart.Regs {
		s.Core.Hart.Regs[i] = -5
	}
	for i, b := range s.Core.Cache {
		clear(b.List)
		s.Core.Cache[i].Start = -9
	}
	for page, f := range s.Node.Frames {
		clear(f.List)
		s.Node.Frames[page].State = 7
	}
	for _, h := range s.Node.Homes {
		clear(h.List)
		clear(h.Readers)
		clear(h.Queue)
	}
	for _, line := range s.Node.Out {
		clear(line.Queue)
	}
	for i := range s.Node.In {
		s.Node.In[i].Got = -3
	}
}

// Whatever is handed in: an answer, and no panic; what is not right by the words
// is RnBad.
func TestCoresAnswerAtAnyArguments(t *testing.T) {
	r := rand.New(rand.NewSource(122))
	odd := append([]int{0, 1, 2, 3, 4, 5, 6, 23, 24, setWord, 65535, 65536, 100000}, farNumbers...)
	number := func() int { return odd[r.Intn(len(odd))] }
	codes := map[int]int{}
	for range 6000 {
		nodes := r.Intn(impl.MaxNodes) + 1
		s := drawnSeat(r, nodes)
		for range r.Intn(3) {
			switch r.Intn(9) {
			case 0:
				s.Core.Hart.Pc = number()
			case 1:
				s.Core.Hart.State = number()
			case 2:
				s.Core.Hart.Regs = []int{number(), number(), number(), number(), number()}[:r.Intn(6)]
			case 3:
				s.Core.Cache = append(s.Core.Cache, blockAt(number(), drawnPlace(r), impl.Ins{Op: number(), N: number()}))
			case 4:
				s.Node.Id = number()
			case 5:
				s.Node.Frames = append(s.Node.Frames, impl.Frame{State: number()})[r.Intn(3):]
			case 6:
				s.Node.Out = s.Node.Out[:r.Intn(len(s.Node.Out)+1)]
			case 7:
				nodes = number()
			default:
				s.Node.Homes = s.Node.Homes[:r.Intn(len(s.Node.Homes)+1)]
			}
		}
		right := impl.NodeOk(s.Node, nodes) && impl.HartOk(s.Core.Hart) && cacheByWords(s.Core.Cache, s.Node.Frames)
		want, wantCode := seat{}, impl.RnBad
		if right {
			want, wantCode = coreByWords(s, nodes)
		}
		got, code := stepOf(s, nodes)
		if rightSeat(s, nodes) != right || code != wantCode || !sameSeat(got, want) {
			t.Errorf("CoreStep(%v, %d) is %v, %d, not %v, %d", s, nodes, got, code, want, wantCode)
		}
		m := impl.Msg{Kind: r.Intn(9), Page: number(), Own: r.Intn(2) == 0, List: []int{number(), number()}}
		if c := impl.CoreHear(s.Core, m); !sameHart(c.Hart, s.Core.Hart) || len(c.Cache) > len(s.Core.Cache) {
			t.Errorf("CoreHear(%v, %v) is %v", s.Core, m, c)
		}
		codes[code]++
	}
	if len(codes) != 4 || codes[impl.RnBad] < 1000 {
		t.Error("too few of a kind to tell anything:", codes)
	}
}
