package tests

import (
	"fmt"
	"math"
	"math/rand"
	"reflect"
	"runtime"
	"slices"
	"testing"

	"loop.example/g00281/impl"
)

// A calmThen is what Rounds answers.
type calmThen struct {
	Flock impl.Flock
	Order []int
}

func rounded(f impl.Flock, n int) calmThen {
	g, order := impl.Rounds(f, n)
	return calmThen{g, order}
}

func sameCalm(a, b calmThen) bool {
	return sameFlock(a.Flock, b.Flock) && slices.Equal(a.Order, b.Order)
}

// wantCalm asks for all that holds of each Calm, too.
func wantCalm(t *testing.T, f, want impl.Flock) {
	t.Helper()
	given := roomy(f)
	before := whole(given)
	one, two := impl.Calm(given), impl.Calm(given)
	if !sameFlock(one, want) || !sameFlock(two, want) {
		t.Errorf("Calm(%v) is\n%v and\n%v, not\n%v", f, one, two, want)
	}
	if impl.FlockOk(one) != impl.FlockOk(f) {
		t.Errorf("Calm(%v) is %v: FlockOk turned", f, one)
	}
	wantNew(t, []impl.Flock{one, two}, given)
	wantUnwritten(t, given, before)
}

// wantRounds asks for all that holds of each Rounds, too.
func wantRounds(t *testing.T, f impl.Flock, n int, want calmThen) {
	t.Helper()
	given := roomy(f)
	before := whole(given)
	one, two := rounded(given, n), rounded(given, n)
	if !sameCalm(one, want) || !sameCalm(two, want) {
		t.Errorf("Rounds(%v, %d) is\n%v and\n%v, not\n%v", f, n, one, two, want)
	}
	if impl.FlockOk(one.Flock) != impl.FlockOk(f) {
		t.Errorf("Rounds(%v, %d) is %v: FlockOk turned", f, n, one)
	}
	wantNew(t, []calmThen{one, two}, given)
	wantUnwritten(t, given, before)
}

func wantRunning(t *testing.T, f impl.Flock, want int) {
	t.Helper()
	given := roomy(f)
	before := whole(given)
	for range 2 {
		if got := impl.Running(given); got != want {
			t.Errorf("Running(%v) is %d, not %d", f, got, want)
		}
	}
	wantUnwritten(t, given, before)
}

// queuedIn is how many messages all nodes have queued.
func queuedIn(w impl.World) int {
	count := 0
	for _, n := range w.Nodes {
		for _, line := range n.Out {
			count += len(line.Queue)
		}
	}
	return count
}

// wantAllIsWell asks of a flock behind which a row lies that nothing is queued or
// on its way, that nobody waits for a page, and that the flock is right.
func wantAllIsWell(t *testing.T, f impl.Flock) {
	t.Helper()
	if len(f.World.Net) != 0 || queuedIn(f.World) != 0 {
		t.Fatalf("%d are on their way and %d are queued: %v", len(f.World.Net), queuedIn(f.World), f)
	}
	for id, n := range f.World.Nodes {
		for page := range 6 {
			if h := n.Homes[page]; n.Frames[page].Asked || h.Busy || len(h.Queue) != 0 {
				t.Fatalf("node %d, page %d: somebody waits: %v, %v", id, page, n.Frames[page], h)
			}
		}
	}
	if sane, why := saneByWords(f.World); !sane || !impl.Sane(f.World) || !impl.FlockOk(f) {
		t.Fatalf("no longer right (%s): %v", why, f)
	}
}

// A doer does deeds one behind the other, of which none may be refused.
type doer func(t *testing.T, f impl.Flock, list []impl.Deed) impl.Flock

// byDo is each by FlockDo; what is given stands at the last place.
func byDo(t *testing.T, f impl.Flock, list []impl.Deed) impl.Flock {
	t.Helper()
	for _, d := range list {
		if d.Kind == impl.DoGive && d.A != len(f.World.Net)-1 {
			t.Fatalf("%v is not of the last place: %v", d, f.World.Net)
		}
		next, code := impl.FlockDo(f, d)
		if code != impl.WdDone {
			t.Fatalf("FlockDo(%v, %v) is refused: %d", f, d, code)
		}
		f = next
	}
	return f
}

// byRun is the same, much faster: a run is its deeds one behind the other.
func byRun(t *testing.T, f impl.Flock, list []impl.Deed) impl.Flock {
	t.Helper()
	then := ranFlock(f, list)
	if !slices.Equal(then.Codes, make([]int, len(list))) {
		t.Fatalf("FlockRun(%v, %v) has the codes %v", f, list, then.Codes)
	}
	return then.Flock
}

// lineDeeds are what Calm does to one line on which so many are queued.
func lineDeeds(a, b, count int) []impl.Deed {
	var list []impl.Deed
	for c := range count {
		list = append(list, deed(impl.DoSend, a, b, c), deed(impl.DoGive, 0, 0, 0))
	}
	return append(list, deed(impl.DoAck, b, a, 0), deed(impl.DoGive, 0, 0, 0))
}

// toldOnce is what Calm does once to all lines.
func toldOnce(t *testing.T, f impl.Flock, do doer) impl.Flock {
	t.Helper()
	for a := range f.World.Size {
		for b := range f.World.Size {
			f = do(t, f, lineDeeds(a, b, len(f.World.Nodes[a].Out[b].Queue)))
		}
	}
	return f
}

// toldSoOften is f with nothing on its way, and then all lines told so often, as
// long as something is queued; and how often that was.
func toldSoOften(t *testing.T, f impl.Flock, most int, do doer) (impl.Flock, int) {
	t.Helper()
	f = overWorld(f, withNet(f.World))
	times := 0
	for times < most && queuedIn(f.World) > 0 {
		f = toldOnce(t, f, do)
		times++
	}
	return f, times
}

// calmBy is Calm as the document's words go, of a right flock.
func calmBy(t *testing.T, f impl.Flock, do doer) impl.Flock {
	t.Helper()
	g, _ := toldSoOften(t, f, 40, do)
	return g
}

// roundsBy is Rounds as the document's words go, of a right flock; and how often
// a step waited so often in its round, and was tried again.
func roundsBy(t *testing.T, f impl.Flock, n int, do doer) (calmThen, [4]int) {
	t.Helper()
	then := calmThen{Flock: calmBy(t, f, do)}
	waited := [4]int{}
	for range max(0, min(n, 60)) {
		for id := range f.World.Size {
			for again := 0; ; again++ {
				run := ranFlock(then.Flock, []impl.Deed{run(id)})
				then = calmThen{run.Flock, append(then.Order, run.Order...)}
				if waits := run.Codes[0] == impl.WdDone && len(run.Order) == 0; !waits || again == 3 {
					waited[again]++
					break
				}
				then.Flock = calmBy(t, then.Flock, do)
			}
		}
	}
	return then, waited
}

func TestCalmConstants(t *testing.T) {
	if impl.MaxCalm != 40 || impl.MaxRounds != 60 {
		t.Error("MaxCalm", impl.MaxCalm, "MaxRounds", impl.MaxRounds)
	}
}

// Nothing is queued, and so nothing turns.
func TestCalmOfNewFlocks(t *testing.T) {
	for size := 1; size <= impl.MaxNodes; size++ {
		for _, mem := range [][]int{make([]int, 24), plainWords(), cacheWords, slices.Repeat([]int{65535}, 24)} {
			for _, starts := range [][]int{nil, {5, 23, 0, 11}} {
				f, ok := impl.FlockNew(size, mem, starts)
				if !ok {
					t.Fatal("there is no flock of", size)
				}
				wantCalm(t, f, f)
				wantRounds(t, f, 0, calmThen{f, nil})
			}
		}
		for i, h := range append(runningHarts(), idleHarts()...) {
			f := withCore(bareFlock(size), i%size, coreOf(h))
			wantCalm(t, f, f)
		}
	}
}

// unqueued is f with nothing queued: each line has come as far as it was queued.
func unqueued(f impl.Flock) impl.Flock {
	return inFlock(f, func(f *impl.Flock) {
		for _, n := range f.World.Nodes {
			for to, line := range n.Out {
				n.Out[to] = impl.Sender{Base: line.Base + len(line.Queue)}
			}
		}
	})
}

// What is on its way is gone, and not given: also what would be the next one, and
// would turn a frame, a home or what is kept.
func TestCalmOfWhatIsOnItsWay(t *testing.T) {
	for size := 1; size <= impl.MaxNodes; size++ {
		full := unqueued(fullFlock(size))
		for _, f := range []impl.Flock{bareFlock(size), full} {
			gone := overWorld(f, withNet(f.World))
			wantCalm(t, gone, gone)
			for count := range impl.MaxNet + 1 {
				if count < 4 || count > impl.MaxNet-2 {
					wantCalm(t, overWorld(f, withNet(f.World, packets(count, size)...)), gone)
				}
			}
		}
		for i, kind := range append(wireKinds, wireKinds...) {
			m := rightMsg(kind)
			m.Page = i % 6
			f := unqueued(keepsAll(size, m.Page, homesOfPages[size][m.Page], i%size, m))
			if given, _ := impl.FlockDo(f, deed(impl.DoGive, 0, 0, 0)); sameFlock(given, overWorld(f, withNet(f.World))) {
				t.Fatal("that would not turn anything if it were given:", m)
			}
			wantCalm(t, f, overWorld(f, withNet(f.World)))
			wantRounds(t, f, -1, calmThen{overWorld(f, withNet(f.World)), nil})
		}
	}
}

// Zero, and no order, however many rounds.
func TestCalmOfWrongFlocks(t *testing.T) {
	t.Parallel()
	for size := 1; size <= impl.MaxNodes; size++ {
		for i, f := range append(fewWrongFlocks(size, 2), impl.Flock{}, impl.Flock{Cores: coresFor(size)}) {
			wantCalm(t, f, impl.Flock{})
			wantRounds(t, f, []int{3, -1, 0, 1, 60, 61, math.MinInt, math.MaxInt}[i%8], calmThen{})
		}
		for _, f := range wrongFlocks(size) {
			if g, order := impl.Rounds(f, 2); !sameFlock(g, impl.Flock{}) || len(order) != 0 || !sameFlock(impl.Calm(f), impl.Flock{}) {
				t.Errorf("of what is not FlockOk there is something: %v", f)
			}
		}
	}
	for _, n := range append([]int{0, 1, 2, 59, 60, 61}, farNumbers...) {
		wantRounds(t, impl.Flock{}, n, calmThen{})
		wantRounds(t, withCore(fullFlock(2), 1, impl.Core{}), n, calmThen{})
	}
}

// One asks for one page: two messages, each on its line.
func TestCalmOfOneQuestion(t *testing.T) {
	for _, own := range []bool{false, true} {
		f := newFlock(2, cacheWords, hartAt(0, 0, 0, 0, 0), hartAt(0, 0, 0, 0, 0))
		want := cloneOf(f)
		m := impl.Msg{Kind: impl.MgShare, Page: 2}
		want.World.Nodes[1].Frames[2] = frameOf(impl.StRead, false, cacheWords[8:12]...)
		want.World.Nodes[0].Homes[2].Readers[1] = true
		if own {
			m.Kind = impl.MgOwn
			want.World.Nodes[1].Frames[2].State = impl.StWrite
			want.World.Nodes[0].Homes[2].Readers[1] = false
			want.World.Nodes[0].Homes[2].Owner = 1
		}
		f.World.Nodes[1].Frames[2].Asked = true
		f.World.Nodes[1].Out[0].Queue = []impl.Msg{m}
		for id := range 2 {
			want.World.Nodes[id].Out[1-id].Base = 1
			want.World.Nodes[id].In[1-id].Got = 1
		}
		wantCalm(t, f, want)
		// Whatever is on its way: lost, doubled, an Ack of what never came.
		lost := carrying(f.World, impl.Packet{From: 1, Msg: m}, impl.Packet{From: 1, Msg: m}, impl.Packet{To: 1, Ack: true, N: 1})
		wantCalm(t, overWorld(f, lost), want)
		// It was given, and the Ack was lost: it is sent again, and is nothing new.
		heard, _ := impl.FlockDo(overWorld(f, lost), deed(impl.DoGive, 1, 0, 0))
		wantCalm(t, heard, want)
	}
}

// Both want the page to write, one of them at the page's home, by a line to itself.
func TestCalmOfTwoThatWantOnePage(t *testing.T) {
	f := newFlock(2, cacheWords, hartAt(0, 0, 0, 0, 0), hartAt(0, 0, 0, 0, 0))
	want := cloneOf(f)
	for id := range 2 {
		f.World.Nodes[id].Frames[4].Asked = true
		f.World.Nodes[id].Out[0].Queue = []impl.Msg{{Kind: impl.MgOwn, Page: 4}}
	}
	// On the line of node 0 to itself: MgOwn, MgData, MgFetch, MgBack.
	want.World.Nodes[0].Out[0].Base, want.World.Nodes[0].In[0].Got = 4, 4
	want.World.Nodes[0].Out[1].Base, want.World.Nodes[1].In[0].Got = 1, 1
	want.World.Nodes[1].Out[0].Base, want.World.Nodes[0].In[1].Got = 1, 1
	want.World.Nodes[0].Homes[4].Owner = 1
	want.World.Nodes[1].Frames[4] = frameOf(impl.StWrite, false, cacheWords[16:20]...)
	wantCalm(t, f, want)
	wantCalm(t, want, want)
}

// All want one page to write: they have it in the order in which their lines are
// told, so the last one has it in the end.
func TestWhichNodeIsToldFirst(t *testing.T) {
	for size := 1; size <= impl.MaxNodes; size++ {
		for page, home := range homesOfPages[size] {
			f := newFlock(size, cacheWords, slices.Repeat([]impl.Hart{hartAt(0, 0, 0, 0, 0)}, size)...)
			for id := size - 1; id >= 0; id-- {
				f = byDo(t, f, []impl.Deed{deed(impl.DoWant, id, page, 1)})
			}
			g := impl.Calm(f)
			wantAllIsWell(t, g)
			for id, n := range g.World.Nodes {
				if has := n.Frames[page].State; has != impl.StNone && id != size-1 || id == size-1 && has != impl.StWrite {
					t.Errorf("page %d, which is at home at %d, is at node %d in state %d", page, home, id, has)
				}
			}
			if owner := g.World.Nodes[home].Homes[page].Owner; owner != size-1 {
				t.Errorf("the Owner of page %d is %d, not %d", page, owner, size-1)
			}
			wantCalm(t, f, calmBy(t, f, byDo))
		}
	}
}

// Each node has asked for each page, to write or to read by a pattern: what there
// is then is told by who asked last to write, and who to read behind it.
func TestCalmOfMuchThatIsQueued(t *testing.T) {
	for size := 2; size <= impl.MaxNodes; size++ {
		for salt := range 8 {
			f := newFlock(size, cacheWords, slices.Repeat([]impl.Hart{hartAt(0, 0, 0, 0, 0)}, size)...)
			toWrite := func(id, page int) bool { return (id*id+page*3+salt)%[]int{1, 2, 3, 5}[salt%4] == 0 }
			for id := range size {
				for page := range 6 {
					own := 0
					if toWrite(id, page) {
						own = 1
					}
					f = byDo(t, f, []impl.Deed{deed(impl.DoWant, id, page, own)})
				}
			}
			if queuedIn(f.World) != 6*size {
				t.Fatal("queued", queuedIn(f.World))
			}
			wantCalm(t, f, calmBy(t, f, byDo))
			g := impl.Calm(f)
			wantAllIsWell(t, g)
			for page := range 6 {
				last := 0
				for id := range size {
					if toWrite(id, page) {
						last = id
					}
				}
				for id, n := range g.World.Nodes {
					want := impl.StRead
					if id < last {
						want = impl.StNone
					} else if id == size-1 && id == last && toWrite(id, page) {
						want = impl.StWrite
					}
					if has := n.Frames[page].State; has != want {
						t.Errorf("of %d, salt %d: node %d has page %d in state %d, not %d", size, salt, id, page, has, want)
					}
				}
			}
		}
	}
}

// carryUnacked has each line tell what the other end has not Got, until nothing
// goes on; nothing is acked, so what was told stays queued.
func (p *judgedRow) carryUnacked() {
	p.t.Helper()
	for moved := true; moved; {
		moved = false
		for a := range p.f.World.Size {
			for b := range p.f.World.Size {
				got, line := p.f.World.Nodes[b].In[a].Got, p.f.World.Nodes[a].Out[b]
				if got < line.Base+len(line.Queue) {
					p.do(deed(impl.DoSend, a, b, got-line.Base))
					p.do(deed(impl.DoGive, len(p.f.World.Net)-1, 0, 0))
					moved = moved || p.f.World.Nodes[b].In[a].Got > got
				}
			}
		}
	}
}

// A page goes to and fro and nothing is acked, until queues are full and what
// should be told can't be: then no line goes on but by Calm.
func TestCalmOfFullQueues(t *testing.T) {
	for size := 1; size <= impl.MaxNodes; size++ {
		for page := range 6 {
			p := newRow(t, size, cacheWords, nil)
			full := func() bool {
				for _, n := range p.f.World.Nodes {
					for _, line := range n.Out {
						if len(line.Queue) == impl.MaxQueue {
							return true
						}
					}
				}
				return false
			}
			for i := 0; !full() && i < 200; i++ {
				p.do(deed(impl.DoWant, i%size, (page+i/size%2*size)%6, (i+1)%2))
				p.do(deed(impl.DoWant, (i+1)%size, page, 1))
				if size == 1 {
					// It has all that it wants for good: its queue can't become full.
					break
				}
				p.carryUnacked()
			}
			if size > 1 && !full() {
				t.Fatal("no queue is full:", p.f)
			}
			wantCalm(t, p.f, calmBy(t, p.f, byRun))
			mem := impl.Memory(p.f.World)
			p.f = impl.Calm(p.f)
			wantAllIsWell(t, p.f)
			wantMemory(t, p.f.World, mem)
			p.wantOneMemory(cacheWords)
		}
	}
}

// Full queues by hand, all of it heard already: nothing but acks is missing.
func TestCalmOfFullQueuesThatWereHeard(t *testing.T) {
	for size := 1; size <= impl.MaxNodes; size++ {
		f := bareFlock(size)
		want := cloneOf(f)
		for a := range size {
			for b := range size {
				f.World.Nodes[a].Out[b] = senderOf(7, impl.MaxQueue)
				f.World.Nodes[b].In[a].Got = 7 + impl.MaxQueue
				want.World.Nodes[a].Out[b].Base = 7 + impl.MaxQueue
				want.World.Nodes[b].In[a].Got = 7 + impl.MaxQueue
			}
		}
		wantCalm(t, f, want)
		wantCalm(t, overWorld(f, crowded(f.World)), want)
	}
}

// Lines that never go on: Calm ends, and what is queued stays so.
func TestCalmOfLinesThatCanNotGoOn(t *testing.T) {
	for size := 1; size <= impl.MaxNodes; size++ {
		for a := range size {
			for b := range size {
				for _, count := range []int{1, 2, 9, impl.MaxQueue} {
					base := 50
					for _, got := range []int{0, 1, base - 1, base + count + 1, base + count + 2, impl.MaxSeq} {
						f := bareFlock(size)
						f.World = withLine(f.World, a, b, senderOf(base, count))
						f.World.Nodes[b].In[a].Got = got
						wantCalm(t, overWorld(f, crowded(f.World)), f)
						wantCalm(t, f, f)
					}
				}
				// What should be told can't be queued: there are no numbers left for it.
				f := bareFlock(size)
				f.World = withLine(f.World, a, b, impl.Sender{Base: 3, Queue: []impl.Msg{{Kind: impl.MgShare, Page: b}, {Kind: impl.MgAck}}})
				f.World.Nodes[b].In[a].Got = 3
				f.World = withLine(f.World, b, a, impl.Sender{Base: impl.MaxSeq})
				f.World.Nodes[a].In[b].Got = impl.MaxSeq
				if a != b {
					wantCalm(t, f, f)
				}
			}
		}
	}
	stuck := bareFlock(2)
	stuck.World = withLine(stuck.World, 0, 1, senderOf(50, 2))
	if g, times := toldSoOften(t, stuck, 40, byDo); times != 40 || !sameFlock(g, stuck) {
		t.Error("that line goes on:", times, g)
	}
}

// slowFlock is one node with a line to itself that is full but for one: each time
// that it is told, one message is heard, which makes one more, and for that one
// alone there is room. Behind so many of these come who waits for a page to write,
// one behind the other. To be told all takes as often as there are shares, twice as
// often as there wait, and four times more.
func slowFlock(shares, waiting int) impl.Flock {
	f := bareFlock(1)
	n := f.World.Nodes[0]
	n.Homes[1] = queued(homeOf(1, 0), slices.Repeat([]impl.Wait{own(0)}, waiting)...)
	n.Frames[1] = frameOf(impl.StWrite, false, 1, 2, 3, 4)
	list := slices.Repeat([]impl.Msg{{Kind: impl.MgShare}}, shares)
	list = append(list, impl.Msg{Kind: impl.MgOwn, Page: 1})
	n.Out[0].Queue = filledUp(list, impl.MaxQueue-1)
	return f
}

// filledUp is a queue of that length, with messages behind all that turn nothing.
func filledUp(list []impl.Msg, length int) []impl.Msg {
	for len(list) < length {
		list = append(list, impl.Msg{Kind: impl.MgAck, Page: 2})
	}
	return list
}

// A limit that is met exactly is enough; by one more something is left, and Calm
// again goes on from there.
func TestCalmEndsByMaxCalm(t *testing.T) {
	t.Parallel()
	for _, c := range []struct{ shares, waiting, times int }{
		{0, 0, 4}, {7, 3, 17}, {28, 3, 38}, {13, 11, 39}, {27, 4, 39}, {14, 11, 40}, {28, 4, 40},
		{15, 11, 41}, {27, 5, 41}, {16, 11, 42}, {28, 5, 42}, {28, 9, 50}, {28, 11, 54},
	} {
		f := slowFlock(c.shares, c.waiting)
		if _, times := toldSoOften(t, f, 1000, byRun); times != c.times {
			t.Fatalf("%v are told all by %d times", c, times)
		}
		g := calmBy(t, f, byDo)
		wantCalm(t, f, g)
		if left := queuedIn(g.World) > 0; left != (c.times > 40) {
			t.Errorf("%v: behind Calm something is queued: %v", c, left)
		}
		again := impl.Calm(impl.Calm(f))
		if queuedIn(again.World) != 0 {
			t.Errorf("%v: behind two of them something is queued: %v", c, again)
		}
		wantCalm(t, g, again)
	}
}

// relayFlock is three nodes with six lines that are full but for one, or full. Each
// is slow, as in slowFlock, and its first message can't be heard as long as the one
// ahead of it is slow: 0 to 0, between 0 and 1, 1 to 1, between 1 and 2, 2 to 2.
// When it was told five times as often as there are shares, and not before, hart 0
// has the page that it stands in, which it had asked for; it loads from another one.
func relayFlock(shares int) impl.Flock {
	mem := words(map[int]impl.Ins{20: {Op: impl.InLoad, R: 1, N: 18}})
	mem[18] = 1234
	f := newFlock(3, mem, hartAt(20, 0, 0, 0, 0), inState(hartAt(0, 0, 0, 0, 0), impl.HtHalt), inState(hartAt(0, 0, 0, 0, 0), impl.HtFault))
	many := func(kind, page int) []impl.Msg { return slices.Repeat([]impl.Msg{{Kind: kind, Page: page}}, shares) }
	for id, n := range f.World.Nodes {
		self := many(impl.MgShare, id)
		if id == 2 {
			self = append(self, impl.Msg{Kind: impl.MgShare, Page: 5})
			n.Homes[5].Queue = []impl.Wait{share(0)}
		} else {
			n.Homes[id+3].Queue = []impl.Wait{share(id), share(id)}
		}
		n.Out[id].Queue = filledUp(self, 29)
		if id > 0 {
			n.Homes[id].Queue = []impl.Wait{share(id - 1), share(id - 1)}
			n.Out[id-1].Queue = filledUp(append([]impl.Msg{{Kind: impl.MgShare, Page: id + 2}}, many(impl.MgShare, id-1)...), 30)
			f.World.Nodes[id-1].Out[id].Queue = filledUp(many(impl.MgGone, id-1), 29)
		}
	}
	f.World.Nodes[0].Frames[5].Asked = true
	return f
}

func TestCalmOfSlowLines(t *testing.T) {
	t.Parallel()
	for _, shares := range []int{1, 3, 7, 8, 9, 16, 25} {
		f := relayFlock(shares)
		ahead, _ := toldSoOften(t, f, 5*shares-1, byRun)
		all, times := toldSoOften(t, f, 1000, byRun)
		if ahead.World.Nodes[0].Frames[5].State != impl.StNone || all.World.Nodes[0].Frames[5].State != impl.StRead || times != 5*shares {
			t.Fatalf("%d shares: told all by %d times: %v", shares, times, all)
		}
		do := byRun
		if shares < 9 {
			do = byDo
		}
		wantCalm(t, f, calmBy(t, f, do))
		if got := impl.Calm(f).World.Nodes[0].Frames[5].State; (got == impl.StRead) != (shares <= 8) {
			t.Errorf("%d shares: behind Calm page 5 is in state %d", shares, got)
		}
	}
}

// A step that waits is tried three times again, Calm ahead of each, and no more:
// when all of these have told their lines, and the page is there ahead of the last
// one but one, there is time for the other page, too.
func TestAStepIsTriedThreeTimesAgain(t *testing.T) {
	t.Parallel()
	for _, c := range []struct {
		shares, again int
		order         []int
	}{
		{8, 1, []int{0}}, {9, 2, []int{0}}, {16, 2, []int{0}}, {17, 3, []int{0}}, {24, 3, []int{0}}, {25, 3, nil}, {28, 3, nil},
	} {
		f := relayFlock(c.shares)
		want, waited := roundsBy(t, f, 1, byRun)
		if !slices.Equal(want.Order, c.order) || waited[c.again] == 0 {
			t.Fatalf("%v: as the words go the order is %v, waited %v", c, want.Order, waited)
		}
		wantRounds(t, f, 1, want)
		got := rounded(f, 1)
		if done := got.Flock.Cores[0].Hart.Regs[1] == 1234; done != (len(c.order) == 1) || !slices.Equal(got.Order, c.order) {
			t.Errorf("%v: the order is %v, and hart 0 is %v", c, got.Order, got.Flock.Cores[0].Hart)
		}
		// In the next round it is done at once, or the one behind it: that faults.
		if next := rounded(got.Flock, 1); !slices.Equal(next.Order, []int{0}) {
			t.Errorf("%v: the next order is %v", c, next.Order)
		}
	}
}

// Rows of deeds, the net bad: behind Calm nothing is queued and nothing on its way;
// memory and harts are what they were; it is what its deeds are.
func TestCalmOfARow(t *testing.T) {
	t.Parallel()
	count := map[string]int{}
	for seed := range 100 {
		r := rand.New(rand.NewSource(int64(1500 + seed)))
		size := seed%impl.MaxNodes + 1
		mem := drawnMemory(r)
		p := newRow(t, size, mem, drawnStarts(r, size))
		draw := briskDeed
		if seed%5 == 0 {
			draw = likelyDeed
		}
		for range 4 {
			for range 10 + r.Intn(90) {
				p.do(draw(r, p.f))
			}
			before := cloneOf(p.f)
			g := impl.Calm(p.f)
			wantAllIsWell(t, g)
			if got, was := impl.Memory(g.World), impl.Memory(before.World); !slices.Equal(got, was) || len(was) != 24 {
				t.Fatalf("Calm turned the memory %v: %v", was, got)
			}
			for id, c := range g.Cores {
				if !impl.SameHart(c.Hart, before.Cores[id].Hart) {
					t.Fatalf("Calm turned hart %d: %v, not %v", id, c.Hart, before.Cores[id].Hart)
				}
			}
			do := byRun
			if seed%4 == 3 {
				do = byDo
			}
			if want := calmBy(t, before, do); !sameFlock(g, want) || !sameFlock(impl.Calm(g), g) {
				t.Fatalf("Calm(%v) is\n%v, not\n%v", before, g, want)
			}
			p.tallyCalm(count)
			// Every other time the row goes on from there.
			if r.Intn(2) == 0 {
				p.f = g
			}
		}
		p.wantOneMemory(mem)
	}
	for _, name := range []string{"queued", "on its way", "asked", "heard and not acked", "twice on its way", "turned round", "line to itself"} {
		if count[name] < 40 {
			t.Error("too few of", name, count)
		}
	}
}

// tallyCalm counts what Calm finds.
func (p *judgedRow) tallyCalm(count map[string]int) {
	w := p.f.World
	count["queued"] += queuedIn(w)
	count["on its way"] += len(w.Net)
	for i, x := range w.Net {
		for _, y := range w.Net[:i] {
			if samePacket(x, y) {
				count["twice on its way"]++
			}
			if x.From == y.From && x.To == y.To && x.N < y.N {
				count["turned round"]++
			}
		}
	}
	for id, n := range w.Nodes {
		count["line to itself"] += len(n.Out[id].Queue)
		for page := range 6 {
			if n.Frames[page].Asked {
				count["asked"]++
			}
		}
		for to, line := range n.Out {
			count["heard and not acked"] += w.Nodes[to].In[id].Got - line.Base
		}
	}
}

// talkingFlock is any right one, most of them such as no run comes to, with much
// that is queued, lines that are full, and some that can't go on.
func talkingFlock(r *rand.Rand, size int) impl.Flock {
	f := drawnFlock(r, size)
	for from := range size {
		for to := range size {
			s := impl.Sender{Base: r.Intn(20)}
			for range min(30, r.Intn([]int{1, 4, 9, 40}[r.Intn(4)])) {
				s.Queue = append(s.Queue, heardMsg(r))
			}
			f.World.Nodes[from].Out[to] = s
			got := s.Base + r.Intn(2)*r.Intn(len(s.Queue)+1)
			if r.Intn(12) == 0 {
				got = max(0, got+r.Intn(7)-3)
			}
			f.World.Nodes[to].In[from].Got = got
		}
	}
	return f
}

// Drawn flocks: Calm is what its deeds are, each told by FlockDo.
func TestCalmIsItsDeeds(t *testing.T) {
	t.Parallel()
	r := rand.New(rand.NewSource(15))
	count := map[string]int{}
	for i := range 400 {
		size := i%impl.MaxNodes + 1
		f := talkingFlock(r, size)
		do := byRun
		if i%6 == 0 {
			do = byDo
		}
		want, times := toldSoOften(t, f, 40, do)
		got := impl.Calm(f)
		if !sameFlock(got, want) {
			t.Fatalf("Calm(%v) is\n%v, not\n%v", f, got, want)
		}
		if !impl.FlockOk(got) || len(got.World.Net) != 0 {
			t.Fatalf("Calm(%v) is not right: %v", f, got)
		}
		count[fmt.Sprint("size ", size, " left ", queuedIn(want.World) > 0)]++
		if times > 2 && times < 40 {
			count["some times"]++
		}
	}
	for _, name := range []string{"size 1 left true", "size 1 left false", "size 2 left true", "size 2 left false", "size 3 left true", "size 4 left true", "some times"} {
		if count[name] < 3 {
			t.Error("too few of", name, count)
		}
	}
}

// Drawn flocks, let go on: Rounds is what its deeds are.
func TestRoundsAreTheirDeeds(t *testing.T) {
	t.Parallel()
	r := rand.New(rand.NewSource(151))
	waited, steps := [4]int{}, 0
	for i := range 60 {
		size := i%impl.MaxNodes + 1
		f := talkingFlock(r, size)
		n := 1 + r.Intn(3)
		want, times := roundsBy(t, f, n, byRun)
		if got := rounded(f, n); !sameCalm(got, want) {
			t.Fatalf("Rounds(%v, %d) is\n%v, not\n%v", f, n, got, want)
		}
		for again, count := range times {
			waited[again] += count
		}
		steps += len(want.Order)
	}
	if steps < 40 || waited[0] < 40 || waited[1] == 0 || waited[3] < 40 {
		t.Error("too few of a kind to tell anything:", steps, waited)
	}
}

// inTurns is what harts do on one flat memory where each that runs does one step in
// each round, ascending; and who did, in order.
func inTurns(mem []int, harts []impl.Hart, n int) flatRun {
	g := flatRun{Mem: mem, Harts: slices.Clone(harts)}
	for range n {
		for id := range g.Harts {
			if g.Harts[id].State == impl.HtRun {
				f := stepByWords(flat{g.Mem, g.Harts[id]})
				g.Mem, g.Harts[id] = f.Mem, f.Hart
				g.Order = append(g.Order, id)
			}
		}
	}
	return g
}

func hartsIn(f impl.Flock) []impl.Hart {
	var list []impl.Hart
	for _, c := range f.Cores {
		list = append(list, c.Hart)
	}
	return list
}

// wantInTurns asks of a flock that a row of deeds made that in so many rounds each
// hart that runs does a step in each, as on one flat memory; it answers what there
// is then.
func wantInTurns(t *testing.T, f impl.Flock, n int) calmThen {
	t.Helper()
	before := flatRun{Mem: impl.Memory(f.World), Harts: hartsIn(f)}
	want := inTurns(before.Mem, before.Harts, max(0, min(n, 60)))
	got := rounded(f, n)
	if !slices.Equal(got.Order, want.Order) {
		t.Fatalf("Rounds(%v, %d) has the order\n%v, not\n%v", f, n, got.Order, want.Order)
	}
	before.Order = got.Order
	for _, flat := range []flatRun{want, ran(before), runByWords(before)} {
		if mem := impl.Memory(got.Flock.World); !slices.Equal(mem, flat.Mem) {
			t.Fatalf("Rounds(%v, %d): the memory is\n%v, on one memory\n%v", f, n, mem, flat.Mem)
		}
		if !slices.EqualFunc(hartsIn(got.Flock), flat.Harts, impl.SameHart) {
			t.Fatalf("Rounds(%v, %d): the harts are\n%v, on one memory\n%v", f, n, hartsIn(got.Flock), flat.Harts)
		}
	}
	wantAllIsWell(t, got.Flock)
	running := 0
	for _, h := range want.Harts {
		if h.State == 0 {
			running++
		}
	}
	wantRunning(t, got.Flock, running)
	return got
}

// endless is a memory in which each hart, wherever it starts, counts and stores for
// ever; no two pages are left alone.
func endless() []int {
	return words(map[int]impl.Ins{
		0: {Op: impl.InMore, R: 1, A: 1, N: 1},
		1: {Op: impl.InStore, A: 0, B: 1, N: 20},
		2: {Op: impl.InMore, R: 0, A: 0, N: 3},
		3: {Op: impl.InSwap, R: 2, A: 0, B: 1, N: 9},
		4: {Op: impl.InSet, R: 0, N: 2},
		5: {Op: impl.InLoad, R: 3, A: 0, N: 19},
		6: {Op: impl.InJump, N: 0},
	})
}

// None below 0, none of 0, and at most MaxRounds.
func TestRoundsByHowMany(t *testing.T) {
	t.Parallel()
	for size := 1; size <= impl.MaxNodes; size++ {
		f, _ := impl.FlockNew(size, endless(), []int{0, 2, 5, 1})
		for _, n := range []int{0, -1, -2, -60, math.MinInt, math.MinInt + 1} {
			wantRounds(t, f, n, calmThen{f, nil})
		}
		for _, n := range []int{1, 2, 3, 7, 30, 58, 59, 60} {
			if got := wantInTurns(t, f, n); len(got.Order) != size*n {
				t.Errorf("%d rounds of %d have %d steps", n, size, len(got.Order))
			}
		}
		most := rounded(f, 60)
		for _, n := range []int{60, 61, 62, 100, 120, 2000, 1 << 32, 1<<32 + 1, math.MaxInt - 1, math.MaxInt} {
			wantRounds(t, f, n, most)
		}
		if less := rounded(f, 59); sameFlock(less.Flock, most.Flock) {
			t.Error("the last round turns nothing")
		}
	}
}

// Calm comes ahead of all, also where there is no round.
func TestRoundsOfNoneAreCalm(t *testing.T) {
	for seed := range 24 {
		r := rand.New(rand.NewSource(int64(1520 + seed)))
		size := seed%impl.MaxNodes + 1
		f := briskRow(t, r, size, drawnMemory(r), nil, 60).f
		g := talkingFlock(r, size)
		for _, n := range []int{0, -1, math.MinInt} {
			wantRounds(t, f, n, calmThen{impl.Calm(f), nil})
			wantRounds(t, g, n, calmThen{impl.Calm(g), nil})
		}
	}
}

// inStates are copies of f, one for each way in which its harts run, halted or
// failed.
func inStates(f impl.Flock) []impl.Flock {
	list := []impl.Flock{f}
	for id := range f.Cores {
		var more []impl.Flock
		for _, g := range list {
			for _, state := range hartStates {
				more = append(more, inFlock(g, func(g *impl.Flock) { g.Cores[id].Hart.State = state }))
			}
		}
		list = more
	}
	return list
}

// Harts that halted or failed do nothing, and are nobody's turn; nothing is asked
// for by them.
func TestRoundsOfHartsThatDoNotRun(t *testing.T) {
	for size := 1; size <= impl.MaxNodes; size++ {
		first, _ := impl.FlockNew(size, endless(), nil)
		for _, f := range inStates(first) {
			got := wantInTurns(t, f, 3)
			for id, c := range f.Cores {
				if c.Hart.State != impl.HtRun && !sameSeatButHomes(seatAt(got.Flock, id), seatAt(f, id)) {
					t.Errorf("hart %d does not run, and turned: %v", id, seatAt(got.Flock, id))
				}
			}
			if impl.Running(f) == 0 {
				wantRounds(t, f, 60, calmThen{f, nil})
			}
		}
	}
}

// sameSeatButHomes says whether a core and its frames are the same: as a home a
// node serves others.
func sameSeatButHomes(a, b seat) bool {
	return sameCore(a.Core, b.Core) && slices.EqualFunc(a.Node.Frames, b.Node.Frames, sameFrame)
}

// Harts that come to an end while others go on: a word that is no place, and halt.
func TestRoundsOfHartsThatEnd(t *testing.T) {
	mem := words(map[int]impl.Ins{
		0: {Op: impl.InSet, R: 1, N: 1},
		1: {Op: impl.InSet, R: 2, N: 2},
		2: {Op: impl.InHalt},
		4: {Op: impl.InSet, R: 3, N: 3},
		8: {Op: impl.InJump, N: 8},
	})
	f, _ := impl.FlockNew(4, mem, []int{0, 4, 8, 2})
	cases := []struct {
		order   []int
		running int
	}{
		{[]int{0, 1, 2, 3}, 3}, {[]int{0, 1, 2}, 2}, {[]int{0, 2}, 1}, {[]int{2}, 1}, {[]int{2}, 1},
	}
	var order []int
	for i, c := range cases {
		order = append(order, c.order...)
		got := wantInTurns(t, f, i+1)
		if !slices.Equal(got.Order, order) || impl.Running(got.Flock) != c.running {
			t.Errorf("%d rounds: the order is %v, and %d run", i+1, got.Order, impl.Running(got.Flock))
		}
	}
	last := rounded(f, 5).Flock
	for id, want := range []impl.Hart{
		inState(hartAt(2, 0, 1, 2, 0), impl.HtHalt), inState(hartAt(5, 0, 0, 0, 3), impl.HtFault),
		hartAt(8, 0, 0, 0, 0), inState(hartAt(2, 0, 0, 0, 0), impl.HtHalt),
	} {
		if !sameHart(last.Cores[id].Hart, want) {
			t.Errorf("hart %d is %v, not %v", id, last.Cores[id].Hart, want)
		}
	}
}

// Hart 1 waits for the page that hart 0 has to write, has written and goes on
// writing, and loads it in each round.
func TestRoundsOfAHartThatWaitsForAPageToWrite(t *testing.T) {
	mem := words(map[int]impl.Ins{
		0: {Op: impl.InMore, R: 1, A: 1, N: 1},
		1: {Op: impl.InStore, B: 1, N: 20},
		2: {Op: impl.InJump, N: 0},
		8: {Op: impl.InLoad, R: 2, N: 20},
		9: {Op: impl.InJump, N: 8},
	})
	for size := 2; size <= impl.MaxNodes; size++ {
		f, _ := impl.FlockNew(size, mem, []int{0, 8, 8, 8})
		for i, c := range []struct{ word, found int }{{0, 0}, {1, 0}, {1, 1}, {1, 1}, {2, 2}, {2, 2}, {2, 2}, {3, 2}, {3, 3}} {
			got := wantInTurns(t, f, i+1)
			if words := impl.Truth(got.Flock.World, 5); words[0] != c.word {
				t.Errorf("of %d, %d rounds: at 20 stands %d, not %d", size, i+1, words[0], c.word)
			}
			for id := 1; id < size; id++ {
				if found := got.Flock.Cores[id].Hart.Regs[2]; found != c.found {
					t.Errorf("of %d, %d rounds: hart %d found %d, not %d", size, i+1, id, found, c.found)
				}
			}
		}
	}
	// Its page is at another one to write, ahead of all.
	f, _ := impl.FlockNew(2, mem, []int{8, 8})
	f = byDo(t, f, []impl.Deed{deed(impl.DoWant, 1, 2, 1)})
	f = impl.Calm(f)
	if f.World.Nodes[1].Frames[2].State != impl.StWrite {
		t.Fatal("page 2 is not node 1's to write:", f)
	}
	if got := wantInTurns(t, f, 1); !slices.Equal(got.Order, []int{0, 1}) {
		t.Error("the order is", got.Order)
	}
}

// Two stand in pages of their own, and each writes into the other one's page, so
// that each has to take from the other what it goes on by.
func TestRoundsOfTwoThatWaitForEachOther(t *testing.T) {
	mem := words(map[int]impl.Ins{
		0: {Op: impl.InSwap, R: 2, B: 1, N: 7},
		1: {Op: impl.InMore, R: 1, A: 1, N: 1},
		2: {Op: impl.InJump, N: 0},
		4: {Op: impl.InSwap, R: 2, B: 1, N: 3},
		5: {Op: impl.InMore, R: 1, A: 1, N: 2},
		6: {Op: impl.InJump, N: 4},
	})
	for size := 2; size <= impl.MaxNodes; size++ {
		f, _ := impl.FlockNew(size, mem, []int{0, 4, 0, 4})
		for n := range 40 {
			if got := wantInTurns(t, f, n); len(got.Order) != n*size {
				t.Errorf("of %d, %d rounds: the order is %v", size, n, got.Order)
			}
		}
		// Each has asked for the other one's page to write, and nothing has come.
		g := byDo(t, f, []impl.Deed{deed(impl.DoWant, 0, 1, 1), deed(impl.DoWant, 1, 0, 1), run(0), run(1)})
		for n := range 20 {
			wantInTurns(t, g, n)
		}
		g = impl.Calm(g)
		if g.World.Nodes[0].Frames[1].State != impl.StWrite && g.World.Nodes[1].Frames[0].State != impl.StWrite {
			t.Fatal("neither has the other one's page:", g)
		}
		wantInTurns(t, g, 30)
	}
	// Two in one page, both write into it.
	one := words(map[int]impl.Ins{
		8:  {Op: impl.InSwap, R: 2, B: 1, N: 11},
		9:  {Op: impl.InMore, R: 1, A: 1, N: 1},
		10: {Op: impl.InJump, N: 8},
	})
	f, _ := impl.FlockNew(3, one, []int{8, 9, 8})
	wantInTurns(t, f, 60)
}

// Programs that are written over while they run.
func TestRoundsOfProgramsThatAreWrittenOver(t *testing.T) {
	t.Parallel()
	for name, mem := range writesOver() {
		t.Run(name, func(t *testing.T) {
			written := 0
			for size := 1; size <= impl.MaxNodes; size++ {
				f, _ := impl.FlockNew(size, mem, nil)
				for _, n := range []int{1, 2, 5, 13, 60} {
					got := wantInTurns(t, f, n)
					written += len(turnedWords(impl.Memory(got.Flock.World), mem))
				}
			}
			if written < 8 {
				t.Error("too little was written to tell anything:", written)
			}
		})
	}
}

// The promise, over drawn memories and drawn rows: calm, nothing is queued, and each
// hart that runs does a step in each round, whatever the net did ahead of it; and
// rounds are their halves.
func TestEachHartGoesOn(t *testing.T) {
	t.Parallel()
	steps, ended := 0, 0
	for seed := range 90 {
		r := rand.New(rand.NewSource(int64(1540 + seed)))
		size := seed%impl.MaxNodes + 1
		mem, starts := drawnMemory(r), drawnStarts(r, size)
		f, _ := impl.FlockNew(size, mem, starts)
		if seed%3 > 0 {
			f = briskRow(t, r, size, mem, starts, 20+r.Intn(150)).f
		}
		n := []int{1, 4, 20, 60}[r.Intn(4)]
		got := wantInTurns(t, f, n)
		one := r.Intn(n + 1)
		half := rounded(f, one)
		rest := rounded(half.Flock, n-one)
		if both := (calmThen{rest.Flock, append(half.Order, rest.Order...)}); !sameCalm(both, got) {
			t.Fatalf("%d rounds are not %d and the rest: %v, not %v", n, one, both, got)
		}
		steps += len(got.Order)
		ended += size - impl.Running(got.Flock)
	}
	if steps < 800 || ended < 40 {
		t.Error("too little was done to tell anything:", steps, ended)
	}
}

// Rows and rounds one behind the other: all that was done, in the order that both
// tell, is one flat memory.
func TestRoundsAmongDeeds(t *testing.T) {
	t.Parallel()
	steps := 0
	for seed := range 40 {
		r := rand.New(rand.NewSource(int64(1560 + seed)))
		size := seed%impl.MaxNodes + 1
		mem := []([]int){drawnMemory(r), adders(1, 2, 3, 4), endless(), writesOver()["grows"]}[seed/4%4]
		p := newRow(t, size, mem, drawnStarts(r, size))
		for range 6 {
			for range 40 {
				p.do(briskDeed(r, p.f))
			}
			got := rounded(p.f, r.Intn(6))
			p.f, p.order = got.Flock, append(p.order, got.Order...)
			steps += len(got.Order)
			wantAllIsWell(t, p.f)
			p.wantOneMemory(mem)
		}
	}
	if steps < 500 {
		t.Error("too few steps to tell anything:", steps)
	}
}

// Each hart adds so often and halts: nothing that is added is lost, and all come to
// an end in as many rounds as one has steps.
func TestNothingThatIsAddedInRoundsIsLost(t *testing.T) {
	t.Parallel()
	for size := 1; size <= impl.MaxNodes; size++ {
		for _, c := range []struct{ number, times int }{{1, 0}, {1, 1}, {1, 5}, {7, 9}, {63, 11}, {63, 30}} {
			program := words(map[int]impl.Ins{
				0: {Op: impl.InSet, R: 1, N: c.times},
				1: {Op: impl.InSet, R: 2, N: c.number},
				2: {Op: impl.InZero, A: 1, N: 8},
				3: {Op: impl.InSwap, R: 3, B: 2, N: 20},
				4: {Op: impl.InSet, R: 3, N: 1},
				5: {Op: impl.InSub, R: 1, A: 1, B: 3},
				6: {Op: impl.InJump, N: 2},
				8: {Op: impl.InHalt},
			})
			f, _ := impl.FlockNew(size, program, nil)
			need := 2 + 5*c.times + 2
			done, steps := 0, 0
			for impl.Running(f) > 0 {
				n := []int{60, 7, 1, 31}[size-1]
				got := rounded(f, n)
				f, done, steps = got.Flock, done+n, steps+len(got.Order)
				if done > need+60 {
					t.Fatalf("of %d, %v: they don't come to an end: %v", size, c, f)
				}
			}
			if done < need || done-need >= 60 || steps != size*need {
				t.Errorf("of %d, %v: %d rounds and %d steps", size, c, done, steps)
			}
			wantMemory(t, f.World, withWord(program, 20, size*c.number*c.times%65536))
			wantAllIsWell(t, f)
			wantRounds(t, f, 60, calmThen{f, nil})
		}
	}
}

// The same behind rows of deeds on a bad net, in which some was added already.
func TestNothingThatIsAddedIsLostBehindARow(t *testing.T) {
	t.Parallel()
	for seed := range 32 {
		r := rand.New(rand.NewSource(int64(1580 + seed)))
		size := seed%impl.MaxNodes + 1
		mem := addingProgram(t)
		p := briskRow(t, r, size, mem, nil, r.Intn(300))
		for impl.Running(p.f) > 0 {
			if len(p.order) > 14*size {
				t.Fatal("so many steps:", len(p.order))
			}
			got := rounded(p.f, 1+r.Intn(5))
			if len(got.Order) == 0 {
				t.Fatal("nobody goes on:", p.f)
			}
			p.f, p.order = got.Flock, append(p.order, got.Order...)
		}
		if len(p.order) != 14*size {
			t.Error("so many steps:", len(p.order), "of", size)
		}
		wantMemory(t, p.f.World, withWord(mem, 20, 3*size))
		p.wantOneMemory(mem)
	}
}

// None, some and all, whatever else there is.
func TestRunning(t *testing.T) {
	for size := 1; size <= impl.MaxNodes; size++ {
		counts := map[int]int{}
		for _, f := range slices.Concat(inStates(bareFlock(size)), inStates(fullFlock(size))) {
			want := 0
			for _, c := range f.Cores {
				if c.Hart.State == 0 {
					want++
				}
			}
			wantRunning(t, f, want)
			counts[want]++
		}
		if len(counts) != size+1 {
			t.Error("not each count is among them:", counts)
		}
	}
}

// Of what is not FlockOk: how many harts run, by what each says of itself.
func TestRunningOfWrongFlocks(t *testing.T) {
	wantRunning(t, impl.Flock{}, 0)
	wantRunning(t, impl.Flock{World: newWorld(3)}, 0)
	wantRunning(t, impl.Flock{Cores: coresFor(3)}, 3)
	for _, state := range append([]int{3, 4, 256}, farNumbers...) {
		f := bareFlock(3)
		f.Cores[1].Hart.State = state
		wantRunning(t, f, 2)
	}
	for size := 1; size <= impl.MaxNodes; size++ {
		for _, f := range append(fewWrongFlocks(size, 4), flocksInWrongWorlds(size)[:6]...) {
			want := 0
			for _, c := range f.Cores {
				if c.Hart.State == 0 {
					want++
				}
			}
			wantRunning(t, f, want)
		}
	}
	// More than there can be nodes.
	many := impl.Flock{}
	for i := range 30 {
		many.Cores = append(many.Cores, coreOf(inState(impl.HartNew(i), i%3)))
	}
	wantRunning(t, many, 10)
}

// calmAnswers are what the functions of the chapter answer of one flock.
type calmAnswers struct {
	Calm    impl.Flock
	Rounds  []calmThen
	Running int
}

func askCalm(f impl.Flock) calmAnswers {
	a := calmAnswers{Calm: impl.Calm(f), Running: impl.Running(f)}
	for _, n := range []int{-1, 0, 1, 3} {
		a.Rounds = append(a.Rounds, rounded(f, n))
	}
	return a
}

// calmFlocks are of all sorts: such that a row made, such that none did, wrong ones.
func calmFlocks(t *testing.T, size int) []impl.Flock {
	t.Helper()
	r := rand.New(rand.NewSource(int64(1590 + size)))
	list := append(flocksOfAllSorts(size), slowFlock(20, 11), relayFlock(5))
	for range 4 {
		list = append(list, talkingFlock(r, size))
		list = append(list, briskRow(t, r, size, endless(), nil, 80).f)
	}
	return list
}

func TestCalmAnswersAreNewMemory(t *testing.T) {
	t.Parallel()
	for size := 1; size <= impl.MaxNodes; size++ {
		for _, f := range calmFlocks(t, size) {
			given := roomy(f)
			before := whole(given)
			a, b := askCalm(given), askCalm(given)
			wantNew(t, []calmAnswers{a, b}, given)
			wantUnwritten(t, given, before)
		}
	}
}

// A flock whose lists are one list has an answer in which they are not.
func TestCalmListsAreOneEach(t *testing.T) {
	list := []int{setWord, swapWord, sumOf(impl.Ins{Op: impl.InStore, N: 2}), haltWord}
	block := blockAt(0, setPlace, swapPlace, impl.Ins{Op: impl.InStore, N: 2}, haltPlace)
	w := oneList()
	for id := range w.Nodes {
		for page := range w.Nodes[id].Frames {
			w.Nodes[id].Frames[page] = impl.Frame{State: impl.StWrite, List: list}
		}
	}
	core := coreOf(impl.Hart{Regs: list}, block, block)
	f := impl.Flock{World: w, Cores: slices.Repeat([]impl.Core{core}, 4)}
	before := whole(f)
	wantFlockOk(t, f, true)
	wantNew(t, askCalm(f), f)
	wantUnwritten(t, f, before)
}

func spoilCalm(a calmAnswers) {
	spoilFlock(a.Calm)
	for _, then := range a.Rounds {
		spoilFlock(then.Flock)
		clear(then.Order)
	}
}

// Whatever becomes of what was handed in, or of an answer, another answer is as it
// was; and nothing is kept from one call to another.
func TestCalmIsAnsweredTheSameAgain(t *testing.T) {
	t.Parallel()
	for size := 1; size <= impl.MaxNodes; size++ {
		flocks := calmFlocks(t, size)
		var first []calmAnswers
		for _, f := range flocks {
			first = append(first, askCalm(f))
		}
		kept := cloneOf(first)
		for i := len(flocks) - 1; i >= 0; i-- {
			for range 2 {
				handed := cloneOf(flocks[i])
				again := askCalm(handed)
				if !reflect.DeepEqual(cloneOf(again), kept[i]) {
					t.Fatalf("%v is answered by %v, and again by %v", flocks[i], kept[i], again)
				}
				spoilFlock(handed)
				if !reflect.DeepEqual(cloneOf(again), kept[i]) {
					t.Fatalf("an answer turned with what was handed in: %v, before %v", again, kept[i])
				}
				spoilCalm(again)
			}
		}
		if !reflect.DeepEqual(cloneOf(first), kept) {
			t.Error("an answer turned with another one")
		}
	}
}

// What is answered does not hang on how goroutines run: many times over, alone and
// beside others.
func TestCalmIsTheSameManyTimesOver(t *testing.T) {
	defer runtime.GOMAXPROCS(runtime.GOMAXPROCS(0))
	for size := 1; size <= impl.MaxNodes; size++ {
		r := rand.New(rand.NewSource(int64(1595 + size)))
		for _, f := range []impl.Flock{briskRow(t, r, size, endless(), nil, 100).f, talkingFlock(r, size)} {
			calm, want := impl.Calm(f), rounded(f, 5)
			for i := range 12 {
				runtime.GOMAXPROCS(1 + i%6)
				others := make(chan calmThen, 3)
				for range 3 {
					go func() { others <- rounded(f, 5) }()
				}
				if got := impl.Calm(f); !sameFlock(got, calm) {
					t.Fatalf("Calm is %v, and was %v", got, calm)
				}
				for range 3 {
					if got := <-others; !sameCalm(got, want) {
						t.Fatalf("the rounds are %v, and were %v", got, want)
					}
				}
			}
		}
	}
}

// When a call has answered, none of its goroutines goes on.
func TestNobodyStaysBehindCalm(t *testing.T) {
	before := runtime.NumGoroutine()
	for range 60 {
		for _, f := range []impl.Flock{runner(4), slowFlock(28, 11), bareFlock(1), {}} {
			impl.Calm(f)
			impl.Rounds(f, 2)
			impl.Rounds(f, -1)
			impl.Running(f)
		}
	}
	// One that has told all may still be about to end.
	for range 1000 {
		if runtime.NumGoroutine() <= before {
			return
		}
		runtime.Gosched()
	}
	if now := runtime.NumGoroutine(); now > before+8 {
		t.Error(now, "goroutines, and", before, "before")
	}
}

// hurtFlock is f with one number in it that is another one, or a list too long.
func hurtFlock(r *rand.Rand, f impl.Flock, number int) impl.Flock {
	f = cloneOf(f)
	id := r.Intn(len(f.Cores))
	n := &f.World.Nodes[id]
	switch r.Intn(9) {
	case 0:
		f.Cores[id].Hart.Pc = number
	case 1:
		f.Cores[id].Hart.State = number
	case 2:
		n.Id = number
	case 3:
		f.World.Size = number
	case 4:
		f.World.Net = append(f.World.Net, impl.Packet{From: number, To: number, N: number})
	case 5:
		n.Homes[r.Intn(6)].Now.Who = number
	case 6:
		n.In[r.Intn(len(n.In))].Got = number
	case 7:
		n.Frames[r.Intn(6)].State = number
	default:
		n.Out[r.Intn(len(n.Out))].Base = number
	}
	return f
}

// Whatever is handed in: an answer, and no panic; of what is not FlockOk nothing.
func TestCalmAnswersAtAnyArguments(t *testing.T) {
	t.Parallel()
	r := rand.New(rand.NewSource(152))
	odd := append([]int{0, 1, 2, 3, 4, 5, 6, 7, 23, 24, 100, 65535, 65536, 100000}, farNumbers...)
	number := func() int { return odd[r.Intn(len(odd))] }
	count := map[bool]int{}
	for i := range 1200 {
		size := i%impl.MaxNodes + 1
		f := talkingFlock(r, size)
		for range r.Intn(3) {
			f = hurtFlock(r, f, number())
		}
		n := number()
		if n > 3 && i%20 > 0 {
			n = 1
		}
		right := impl.FlockOk(f)
		calm, then := impl.Calm(f), rounded(f, n)
		if right && (!impl.FlockOk(calm) || !impl.FlockOk(then.Flock) || len(calm.World.Net) != 0) {
			t.Fatalf("of %v Calm is %v and Rounds %v", f, calm, then)
		}
		if !right && (!sameFlock(calm, impl.Flock{}) || !sameCalm(then, calmThen{})) {
			t.Fatalf("of what is not FlockOk Calm is %v and Rounds %v: %v", calm, then, f)
		}
		if running := impl.Running(f); running < 0 || running > size {
			t.Fatalf("%d run of %d", running, size)
		}
		count[right]++
	}
	if count[true] < 200 || count[false] < 200 {
		t.Error("too few of a kind to tell anything:", count)
	}
}
