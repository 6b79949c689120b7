package tests

import (
	"fmt"
	"math"
	"math/rand"
	"slices"
	"testing"

	"loop.example/g00281/impl"
)

func samePacket(a, b impl.Packet) bool {
	return a.From == b.From && a.To == b.To && a.Ack == b.Ack && a.N == b.N && sameMsg(a.Msg, b.Msg)
}

func sameWorld(a, b impl.World) bool {
	return a.Size == b.Size && slices.EqualFunc(a.Nodes, b.Nodes, sameNode) && slices.EqualFunc(a.Net, b.Net, samePacket)
}

func deed(kind, a, b, c int) impl.Deed { return impl.Deed{Kind: kind, A: a, B: b, C: c} }

// newWorld is a new world in memory of its own, written out by hand.
func newWorld(size int) impl.World {
	w := impl.World{Size: size}
	for id := range size {
		w.Nodes = append(w.Nodes, newNode(id, size))
	}
	return w
}

// packets are that many right ones, no two of them the same.
func packets(count, size int) []impl.Packet {
	var list []impl.Packet
	for i := range count {
		p := impl.Packet{From: i % size, To: i / size % size, N: 50000 + i}
		if p.Ack = i%3 == 2; !p.Ack {
			p.Msg = numbered(p.N)
		}
		list = append(list, p)
	}
	return list
}

// lineFrom and gotOf are told apart by who and to whom, so that no line can
// stand for another one.
func lineFrom(who, to int) impl.Sender { return senderOf(100*who+10*to, 2+to) }

func gotOf(who, from int) int { return 1000*(who+1) + 70*from }

// fullWorld is a right world that has something of each sort.
func fullWorld(size int) impl.World {
	w := impl.World{Size: size, Net: packets(5, size)}
	for id := range size {
		n := fullNode(id, size)
		for who := range size {
			n.Out[who] = lineFrom(id, who)
			n.In[who].Got = gotOf(id, who)
		}
		w.Nodes = append(w.Nodes, n)
	}
	return w
}

// inWorld is a copy of w with something done to it.
func inWorld(w impl.World, turn func(w *impl.World)) impl.World {
	w = cloneOf(w)
	turn(&w)
	return w
}

func withNet(w impl.World, net ...impl.Packet) impl.World {
	return inWorld(w, func(w *impl.World) { w.Net = net })
}

// carrying is w with these on their way behind all.
func carrying(w impl.World, list ...impl.Packet) impl.World {
	return inWorld(w, func(w *impl.World) { w.Net = append(w.Net, list...) })
}

// crowded is w with as many on their way as there can be.
func crowded(w impl.World) impl.World { return withNet(w, packets(impl.MaxNet, w.Size)...) }

func without(w impl.World, at int) impl.World {
	return inWorld(w, func(w *impl.World) { w.Net = slices.Delete(w.Net, at, at+1) })
}

func withNode(w impl.World, n impl.Node) impl.World {
	return inWorld(w, func(w *impl.World) { w.Nodes[n.Id] = n })
}

func withLine(w impl.World, who, to int, s impl.Sender) impl.World {
	return withNode(w, withOut(w.Nodes[who], to, s))
}

func withGot(w impl.World, who, from, got int) impl.World {
	return inWorld(w, func(w *impl.World) { w.Nodes[who].In[from].Got = got })
}

func TestWorldConstants(t *testing.T) {
	kinds := []int{impl.DoSend, impl.DoAck, impl.DoGive, impl.DoLose, impl.DoCopy, impl.DoWant}
	if !slices.Equal(kinds, []int{1, 2, 3, 4, 5, 6}) {
		t.Error("kinds", kinds)
	}
	codes := []int{impl.WdDone, impl.WdBad, impl.WdNone, impl.WdIdle, impl.WdFull}
	if !slices.Equal(codes, []int{0, 1, 2, 3, 4}) {
		t.Error("codes", codes)
	}
	if impl.MaxDeeds != 400 {
		t.Error("MaxDeeds", impl.MaxDeeds)
	}
}

func TestWorldNew(t *testing.T) {
	for size := 1; size <= impl.MaxNodes; size++ {
		w, ok := impl.WorldNew(size)
		if !ok || !sameWorld(w, newWorld(size)) || !impl.WorldOk(w) {
			t.Errorf("WorldNew(%d) is %v, %v", size, w, ok)
		}
	}
	for _, size := range noNodes {
		if w, ok := impl.WorldNew(size); ok || !sameWorld(w, impl.World{}) {
			t.Errorf("WorldNew(%d) is %v, %v, not zero and false", size, w, ok)
		}
	}
}

// edgePackets are right ones at the edges of what a packet may be.
func edgePackets(size int) []impl.Packet {
	last := size - 1
	list := []impl.Packet{{Ack: true}, {From: last, To: last, Ack: true, N: impl.MaxSeq}, {Ack: true, Msg: impl.Msg{List: []int{}}}}
	for _, kind := range wireKinds {
		list = append(list, impl.Packet{Msg: rightMsg(kind)}, impl.Packet{From: last, To: last, N: impl.MaxSeq, Msg: rightMsg(kind)})
	}
	return list
}

// wrongPackets are such that are not PacketOk, each by one thing alone.
func wrongPackets(size int) []impl.Packet {
	var list []impl.Packet
	for _, far := range append([]int{-2, size, size + 1, 256}, farNumbers...) {
		list = append(list, packetsOf(far, 0, 0)...)
		list = append(list, packetsOf(size-1, far, 0)...)
	}
	for _, n := range append([]int{-2, impl.MaxSeq + 1}, farNumbers...) {
		list = append(list, packetsOf(0, size-1, n)...)
	}
	for _, m := range wrongMsgs {
		list = append(list, impl.Packet{Msg: m})
	}
	for _, m := range append([]impl.Msg{{Page: 1}, {Own: true}, {List: []int{0}}, rightMsg(impl.MgShare)}, wrongMsgs[1:]...) {
		list = append(list, impl.Packet{Ack: true, Msg: m})
	}
	return list
}

func rightWorlds(size int) []impl.World {
	full := fullWorld(size)
	list := []impl.World{newWorld(size), full, withNet(full, packets(impl.MaxNet-1, size)...), crowded(full), withNet(full, edgePackets(size)...)}
	for _, n := range rightNodes(size) {
		list = append(list, withNode(full, n))
	}
	return list
}

// wrongWorlds are such that are not WorldOk, each by one thing alone.
func wrongWorlds(size int) []impl.World {
	var list []impl.World
	with := func(turn func(w *impl.World)) {
		list = append(list, inWorld(newWorld(size), turn), inWorld(fullWorld(size), turn))
	}
	for _, other := range append([]int{size - 1, size + 1}, noNodes...) {
		with(func(w *impl.World) { w.Size = other })
	}
	with(func(w *impl.World) { w.Nodes = nil })
	with(func(w *impl.World) { w.Nodes = w.Nodes[:size-1] })
	with(func(w *impl.World) { w.Nodes = append(w.Nodes, newNode(size-1, size)) })
	with(func(w *impl.World) { w.Nodes = append(w.Nodes, newNode(size, size+1)) })
	for place := range size {
		with(func(w *impl.World) { w.Nodes[place] = impl.Node{Id: place} })
		for _, id := range append([]int{place - 1, place + 1, size}, farNumbers...) {
			with(func(w *impl.World) { w.Nodes[place].Id = id })
		}
	}
	for i, n := range wrongNodes(size) {
		place := i % size
		if n.Id >= 0 && n.Id < size {
			n.Id = place
		}
		list = append(list, inWorld(fullWorld(size), func(w *impl.World) { w.Nodes[place] = n }))
	}
	with(func(w *impl.World) { w.Net = packets(impl.MaxNet+1, size) })
	with(func(w *impl.World) { w.Net = packets(2*impl.MaxNet, size) })
	for i, p := range wrongPackets(size) {
		net := packets(7, size)
		net[i%len(net)] = p
		list = append(list, withNet(fullWorld(size), net...), withNet(newWorld(size), p))
	}
	for _, place := range []int{0, 20, impl.MaxNet - 1} {
		with(func(w *impl.World) {
			w.Net = packets(impl.MaxNet, size)
			w.Net[place].To = size
		})
	}
	return list
}

func TestWorldOk(t *testing.T) {
	for size := 1; size <= impl.MaxNodes; size++ {
		for _, w := range rightWorlds(size) {
			if !impl.WorldOk(w) {
				t.Errorf("WorldOk(%v) is false", w)
			}
		}
		for _, w := range wrongWorlds(size) {
			if impl.WorldOk(w) {
				t.Errorf("WorldOk(%v) is true", w)
			}
		}
	}
	if impl.WorldOk(impl.World{}) {
		t.Error("WorldOk of zero is true")
	}
}

func TestWorldOkEdges(t *testing.T) {
	for size := -1; size <= impl.MaxNodes+2; size++ {
		for count := range impl.MaxNodes + 3 {
			want := size == count && size >= 1 && size <= impl.MaxNodes
			w := newWorld(count)
			if w.Size = size; impl.WorldOk(w) != want {
				t.Errorf("WorldOk of Size %d and %d nodes is not %v", size, count, want)
			}
		}
	}
	for size := 1; size <= impl.MaxNodes; size++ {
		for place := range size {
			for id := -1; id <= size; id++ {
				w := newWorld(size)
				if w.Nodes[place].Id = id; impl.WorldOk(w) != (id == place) {
					t.Errorf("WorldOk of Id %d as number %d is not %v", id, place, id == place)
				}
			}
		}
		for count := range 2*impl.MaxNet + 1 {
			if w := withNet(newWorld(size), packets(count, size)...); impl.WorldOk(w) != (count <= impl.MaxNet) {
				t.Errorf("WorldOk of %d packets is not %v", count, count <= impl.MaxNet)
			}
		}
	}
}

// wantDo asks the same of a run of that one deed.
func wantDo(t *testing.T, w impl.World, d impl.Deed, want impl.World, wantCode int) {
	t.Helper()
	got, code := impl.WorldDo(w, d)
	if code != wantCode || !sameWorld(got, want) {
		t.Errorf("WorldDo(%v, %v) is\n%v, %v, not\n%v, %v", w, d, got, code, want, wantCode)
	}
	right := impl.WorldOk(w)
	if code != impl.WdBad && !impl.WorldOk(got) {
		t.Errorf("WorldDo(%v, %v) is no longer right: %v", w, d, got)
	}
	behind, wantCodes := want, []int{wantCode}
	if wantCode == impl.WdBad {
		behind = w
	}
	if !right {
		wantCodes = nil
	}
	if run, codes := impl.WorldRun(w, []impl.Deed{d}); !slices.Equal(codes, wantCodes) || !sameWorld(run, behind) {
		t.Errorf("WorldRun(%v, %v) is\n%v, %v, not\n%v, %v", w, d, run, codes, behind, wantCodes)
	}
}

func wantDone(t *testing.T, w impl.World, d impl.Deed, want impl.World) {
	t.Helper()
	wantDo(t, w, d, want, impl.WdDone)
}

func wantRefused(t *testing.T, w impl.World, d impl.Deed, code int) {
	t.Helper()
	wantDo(t, w, d, w, code)
}

func wantBad(t *testing.T, w impl.World, d impl.Deed) {
	t.Helper()
	wantDo(t, w, d, impl.World{}, impl.WdBad)
}

// nets are such with room for one more.
func nets(size int) [][]impl.Packet {
	return [][]impl.Packet{nil, packets(1, size), packets(5, size), packets(impl.MaxNet-1, size)}
}

func TestSend(t *testing.T) {
	for size := 1; size <= impl.MaxNodes; size++ {
		for _, net := range nets(size) {
			w := withNet(fullWorld(size), net...)
			for a := range size {
				for b := range size {
					for c := range 2 + b {
						n := 100*a + 10*b + c
						wantDone(t, w, deed(impl.DoSend, a, b, c), carrying(w, impl.Packet{From: a, To: b, N: n, Msg: numbered(n)}))
					}
				}
			}
		}
	}
}

// What was sent is still queued, and may be sent again; messages of each kind.
func TestSendOfEachKindTwice(t *testing.T) {
	w := newWorld(3)
	for _, kind := range wireKinds {
		w.Nodes[2].Out[1].Queue = append(w.Nodes[2].Out[1].Queue, rightMsg(kind))
	}
	w.Nodes[2].Out[1].Base = 4000
	for c, kind := range wireKinds {
		for range 2 {
			then := carrying(w, impl.Packet{From: 2, To: 1, N: 4000 + c, Msg: rightMsg(kind)})
			wantDone(t, w, deed(impl.DoSend, 2, 1, c), then)
			w = then
		}
	}
}

func TestSendAtTheEndsOfALine(t *testing.T) {
	for _, s := range []impl.Sender{{}, {Base: impl.MaxSeq}, senderOf(0, 1), senderOf(0, impl.MaxQueue), senderOf(impl.MaxSeq-3, 3), senderOf(impl.MaxSeq-impl.MaxQueue, impl.MaxQueue)} {
		w := withLine(fullWorld(2), 0, 1, s)
		for c, m := range s.Queue {
			wantDone(t, w, deed(impl.DoSend, 0, 1, c), carrying(w, impl.Packet{From: 0, To: 1, N: s.Base + c, Msg: m}))
		}
		for _, c := range append([]int{-2, len(s.Queue), len(s.Queue) + 1, impl.MaxSeq}, farNumbers...) {
			wantRefused(t, w, deed(impl.DoSend, 0, 1, c), impl.WdIdle)
		}
	}
}

func TestAck(t *testing.T) {
	for size := 1; size <= impl.MaxNodes; size++ {
		for _, net := range nets(size) {
			w := withNet(fullWorld(size), net...)
			for a := range size {
				for b := range size {
					for _, c := range append([]int{0, 1, 2}, farNumbers...) {
						wantDone(t, w, deed(impl.DoAck, a, b, c), carrying(w, impl.Packet{From: a, To: b, Ack: true, N: gotOf(a, b)}))
					}
				}
			}
		}
	}
	for _, got := range []int{0, 1, impl.MaxSeq - 1, impl.MaxSeq} {
		w := withGot(newWorld(2), 0, 1, got)
		wantDone(t, w, deed(impl.DoAck, 0, 1, 0), carrying(w, impl.Packet{From: 0, To: 1, Ack: true, N: got}))
	}
}

// among is w with p on its way as the first, a middle and the last one, and at
// which place.
func among(w impl.World, p impl.Packet) map[int]impl.World {
	list := map[int]impl.World{}
	for _, at := range []int{0, 3, impl.MaxNet - 1} {
		list[at] = withNet(w, slices.Insert(packets(impl.MaxNet-1, w.Size), at, p)...)
	}
	return list
}

// wantGiven asks that a given packet is on its way no more, wherever it stood,
// and that the nodes are those of want then.
func wantGiven(t *testing.T, w impl.World, p impl.Packet, want impl.World) {
	t.Helper()
	for at, w := range among(w, p) {
		then := withNet(want, packets(impl.MaxNet-1, w.Size)...)
		for _, c := range []int{0, 1, -1, math.MaxInt} {
			wantDone(t, w, deed(impl.DoGive, at, c, c), then)
		}
	}
	wantDone(t, withNet(w, p), deed(impl.DoGive, 0, math.MinInt, 7), withNet(want))
}

func TestGiveAnAck(t *testing.T) {
	for size := 1; size <= impl.MaxNodes; size++ {
		w := fullWorld(size)
		for from := range size {
			for to := range size {
				s := lineFrom(to, from)
				end := s.Base + len(s.Queue)
				for n := max(s.Base-2, 0); n <= end+2; n++ {
					then := w
					if n >= s.Base && n <= end {
						then = withLine(w, to, from, senderOf(n, end-n))
					}
					wantGiven(t, w, impl.Packet{From: from, To: to, Ack: true, N: n}, then)
				}
			}
		}
	}
	for _, n := range []int{impl.MaxSeq - 2, impl.MaxSeq - 1, impl.MaxSeq} {
		w := withLine(fullWorld(3), 2, 1, senderOf(impl.MaxSeq-1, 1))
		then := w
		if n >= impl.MaxSeq-1 {
			then = withLine(w, 2, 1, senderOf(n, impl.MaxSeq-n))
		}
		wantGiven(t, w, impl.Packet{From: 1, To: 2, Ack: true, N: n}, then)
	}
}

// heardBy is w with n as it is behind hearing of from, whose next one then is
// the one behind got.
func heardBy(w impl.World, n impl.Node, from, got int) impl.World {
	return withGot(withNode(w, n), n.Id, from, got+1)
}

// wantUncounted asks that what is not the next one is lost, and no more: it
// came already, or one ahead of it is missing.
func wantUncounted(t *testing.T, w impl.World, p impl.Packet) {
	t.Helper()
	got := p.N
	for _, n := range []int{got - 1, got + 1, 0, got / 2, got + 10, impl.MaxSeq} {
		if p.N = n; n != got && n >= 0 && n <= impl.MaxSeq {
			wantDone(t, withNet(w, p), deed(impl.DoGive, 0, 0, 0), withNet(w))
		}
	}
}

func TestGiveToAHome(t *testing.T) {
	for _, c := range nodeHeardCases {
		t.Run(c.name, func(t *testing.T) {
			full := fullWorld(4)
			n := withHome(full.Nodes[2], 2, c.home)
			for _, got := range []int{0, 1, gotOf(2, c.from), impl.MaxSeq - 1} {
				w := withGot(withNode(full, n), 2, c.from, got)
				then := heardBy(w, telling(withHome(w.Nodes[2], 2, c.then), c.told...), c.from, got)
				p := impl.Packet{From: c.from, To: 2, N: got, Msg: c.m}
				wantGiven(t, w, p, then)
				wantUncounted(t, w, p)
			}
			// All that there can be have come: there is no next one.
			w := withGot(withNode(full, n), 2, c.from, impl.MaxSeq)
			wantGiven(t, w, impl.Packet{From: c.from, To: 2, N: impl.MaxSeq, Msg: c.m}, w)
			// At a node that is not its home it is counted, and turns nothing else.
			for _, to := range []int{0, 1, 3} {
				w := withNode(full, withHome(full.Nodes[to], 2, c.home))
				got := gotOf(to, c.from)
				wantGiven(t, w, impl.Packet{From: c.from, To: to, N: got, Msg: c.m}, heardBy(w, w.Nodes[to], c.from, got))
			}
		})
	}
}

func TestGiveFromAHome(t *testing.T) {
	for size := 1; size <= impl.MaxNodes; size++ {
		for page, home := range homesOfPages[size] {
			for to := range size {
				for _, c := range fromHomeCases(page) {
					full := fullWorld(size)
					w := withNode(full, withFrame(full.Nodes[to], page, frameOf(c.state, true, 4, 3, 2, 1)))
					then := withFrame(w.Nodes[to], page, c.then)
					for _, m := range c.told {
						then = telling(then, impl.Told{To: home, Msg: m})
					}
					for from := range size {
						got := gotOf(to, from)
						want := heardBy(w, w.Nodes[to], from, got)
						p := impl.Packet{From: from, To: to, N: got, Msg: c.m}
						if from == home {
							want = heardBy(w, then, from, got)
							wantUncounted(t, w, p)
						}
						wantDone(t, withNet(w, p), deed(impl.DoGive, 0, 0, 0), withNet(want))
					}
				}
			}
		}
	}
}

// What a node can't hear is not counted, either: it is lost, and may come
// again when there is room.
func TestGiveWhatCanNotBeHeard(t *testing.T) {
	for _, c := range nodeHeardCases {
		if len(c.told) == 0 {
			continue
		}
		for _, s := range jammedSenders() {
			full := fullWorld(4)
			last := c.told[len(c.told)-1].To
			w := withNode(full, withOut(withHome(full.Nodes[2], 2, c.home), last, s))
			wantGiven(t, w, impl.Packet{From: c.from, To: 2, N: gotOf(2, c.from), Msg: c.m}, w)
		}
	}
	for size := 1; size <= impl.MaxNodes; size++ {
		for page, home := range homesOfPages[size] {
			for to := range size {
				full := fullWorld(size)
				n := withFrame(full.Nodes[to], page, frameOf(impl.StWrite, false, 4, 3, 2, 1))
				w := withNode(full, withOut(n, home, senderOf(9, impl.MaxQueue)))
				got := gotOf(to, home)
				wantGiven(t, w, impl.Packet{From: home, To: to, N: got, Msg: impl.Msg{Kind: impl.MgFetch, Page: page, Own: true}}, w)
				wantGiven(t, w, impl.Packet{From: home, To: to, N: got, Msg: impl.Msg{Kind: impl.MgGone, Page: page}}, w)
			}
		}
	}
}

func TestGiveAgainWhenThereIsRoom(t *testing.T) {
	w := newWorld(3)
	w.Nodes[1].Out[2] = senderOf(0, impl.MaxQueue)
	w.Nodes[2].Out[1].Queue = []impl.Msg{{Kind: impl.MgOwn, Page: 4}}
	deeds := []impl.Deed{
		deed(impl.DoSend, 2, 1, 0), deed(impl.DoGive, 0, 0, 0),
		deed(impl.DoAck, 1, 2, 0), deed(impl.DoGive, 0, 0, 0),
	}
	then, codes := impl.WorldRun(w, deeds)
	if !slices.Equal(codes, make([]int, 4)) || !sameWorld(then, w) {
		t.Fatalf("what could not be heard turned something: %v, %v", then, codes)
	}
	w.Nodes[1].Out[2] = senderOf(1, impl.MaxQueue-1)
	then, codes = impl.WorldRun(w, deeds)
	want := cloneOf(w)
	want.Nodes[1].Homes[4].Owner = 2
	want.Nodes[1].In[2].Got = 1
	want.Nodes[1].Out[2].Queue = append(want.Nodes[1].Out[2].Queue, impl.Msg{Kind: impl.MgData, Page: 4, Own: true, List: []int{0, 0, 0, 0}})
	want.Nodes[2].Out[1] = impl.Sender{Base: 1}
	if !slices.Equal(codes, make([]int, 4)) || !sameWorld(then, want) {
		t.Errorf("what was heard then is\n%v, %v, not\n%v", then, codes, want)
	}
}

func TestLoseAndCopy(t *testing.T) {
	for size := 1; size <= impl.MaxNodes; size++ {
		for _, count := range []int{1, 2, 5, impl.MaxNet - 1, impl.MaxNet} {
			w := withNet(fullWorld(size), packets(count, size)...)
			for at := range count {
				wantDone(t, w, deed(impl.DoLose, at, -1, math.MaxInt), without(w, at))
				if count == impl.MaxNet {
					wantRefused(t, w, deed(impl.DoCopy, at, 0, 0), impl.WdFull)
				} else {
					wantDone(t, w, deed(impl.DoCopy, at, math.MinInt, -1), carrying(w, w.Net[at]))
				}
			}
		}
	}
}

func TestPlacesOfNet(t *testing.T) {
	for size := 1; size <= impl.MaxNodes; size++ {
		for _, count := range []int{0, 1, 5, impl.MaxNet - 1, impl.MaxNet} {
			w := withNet(fullWorld(size), packets(count, size)...)
			for _, kind := range []int{impl.DoGive, impl.DoLose, impl.DoCopy} {
				for _, at := range append([]int{-2, count, count + 1, 256}, farNumbers...) {
					wantRefused(t, w, deed(kind, at, 0, 0), impl.WdNone)
				}
			}
			for at := range count {
				if _, code := impl.WorldDo(w, deed(impl.DoGive, at, 0, 0)); code != impl.WdDone {
					t.Errorf("DoGive of place %d of %d is %d", at, count, code)
				}
			}
		}
	}
}

// notOwn are values of C by which a DoWant is not to own.
var notOwn = []int{0, 2, -1, 256, math.MinInt, math.MaxInt}

func TestDoWant(t *testing.T) {
	for size := 1; size <= impl.MaxNodes; size++ {
		for who := range size {
			for page, home := range homesOfPages[size] {
				for _, c := range wantCases {
					full := fullWorld(size)
					n := withFrame(full.Nodes[who], page, frameOf(c.state, false, 9, 8, 7, 6))
					asked := withFrame(n, page, frameOf(c.state, true, 9, 8, 7, 6))
					then := telling(asked, impl.Told{To: home, Msg: impl.Msg{Kind: c.kind, Page: page}})
					values := notOwn
					if c.own {
						values = []int{1}
					}
					for _, value := range values {
						d := deed(impl.DoWant, who, page, value)
						wantRefused(t, withNode(full, asked), d, impl.WdIdle)
						if w := withNode(full, n); c.kind == 0 {
							wantRefused(t, w, d, impl.WdIdle)
						} else {
							wantDone(t, w, d, withNode(w, then))
							wantRefused(t, withNode(w, then), d, impl.WdIdle)
						}
					}
				}
			}
		}
	}
}

func TestDoWantThatCanNotBe(t *testing.T) {
	for size := 1; size <= impl.MaxNodes; size++ {
		for who := range size {
			for _, w := range []impl.World{newWorld(size), fullWorld(size), crowded(newWorld(size))} {
				for _, page := range append([]int{-impl.Pages, impl.Pages, impl.Pages + 1, 256}, farNumbers...) {
					wantRefused(t, w, deed(impl.DoWant, who, page, 0), impl.WdIdle)
					wantRefused(t, w, deed(impl.DoWant, who, page, 1), impl.WdIdle)
				}
			}
			for page, home := range homesOfPages[size] {
				for _, s := range jammedSenders() {
					w := withLine(newWorld(size), who, home, s)
					wantRefused(t, w, deed(impl.DoWant, who, page, 0), impl.WdIdle)
					wantRefused(t, w, deed(impl.DoWant, who, page, 1), impl.WdIdle)
				}
			}
		}
	}
}

// How much is on its way is nothing to what is only asked for.
func TestDoWantInACrowdedWorld(t *testing.T) {
	w := crowded(newWorld(3))
	n := withFrame(w.Nodes[0], 5, impl.Frame{Asked: true})
	then := telling(n, impl.Told{To: 2, Msg: impl.Msg{Kind: impl.MgOwn, Page: 5}})
	wantDone(t, w, deed(impl.DoWant, 0, 5, 1), withNode(w, then))
}

func noNodesOf(size int) []int {
	return append([]int{-2, size, size + 1, impl.MaxNodes, 256}, farNumbers...)
}

func TestDeedsOfNoNode(t *testing.T) {
	for size := 1; size <= impl.MaxNodes; size++ {
		for _, w := range []impl.World{newWorld(size), fullWorld(size), crowded(fullWorld(size))} {
			for _, none := range noNodesOf(size) {
				for _, c := range []int{-1, 0, 1, 100, math.MaxInt} {
					for who := range size {
						wantRefused(t, w, deed(impl.DoSend, none, who, c), impl.WdNone)
						wantRefused(t, w, deed(impl.DoSend, who, none, c), impl.WdNone)
						wantRefused(t, w, deed(impl.DoAck, none, who, c), impl.WdNone)
						wantRefused(t, w, deed(impl.DoAck, who, none, c), impl.WdNone)
					}
					wantRefused(t, w, deed(impl.DoSend, none, none, c), impl.WdNone)
					wantRefused(t, w, deed(impl.DoAck, none, none, c), impl.WdNone)
					for _, page := range []int{-1, 0, impl.Pages - 1, impl.Pages, math.MaxInt} {
						wantRefused(t, w, deed(impl.DoWant, none, page, c), impl.WdNone)
					}
				}
			}
		}
	}
}

// noKinds are none of a deed.
var noKinds = append([]int{-2, 0, 7, 8, 256, 257}, farNumbers...)

func TestDeedsOfNoKind(t *testing.T) {
	for size := 1; size <= impl.MaxNodes; size++ {
		for _, w := range []impl.World{newWorld(size), fullWorld(size), crowded(fullWorld(size))} {
			for _, kind := range noKinds {
				for _, a := range append([]int{0, size - 1, size}, farNumbers...) {
					wantBad(t, w, deed(kind, a, 0, 0))
					wantBad(t, w, deed(kind, 0, a, 0))
					wantBad(t, w, deed(kind, a, a, a))
				}
			}
		}
	}
}

// Which code counts where more than one would fit, in a world of two nodes in
// which node 0 has three queued for node 1, with room on the net or without.
var firstCodes = []struct {
	name string
	full bool
	d    impl.Deed
	code int
}{
	{"no kind and no node", false, deed(0, -1, -1, -1), impl.WdBad},
	{"no kind, no node, no room", true, deed(7, 2, 2, -1), impl.WdBad},
	{"no kind, and a page and a node that are", true, deed(7, 0, 1, 0), impl.WdBad},
	{"send, A is none, and C, no room", true, deed(impl.DoSend, -1, 1, -1), impl.WdNone},
	{"send, A is none, C is none", false, deed(impl.DoSend, 2, 1, 3), impl.WdNone},
	{"send, B is none, and C, no room", true, deed(impl.DoSend, 0, 2, 3), impl.WdNone},
	{"send, B is none, C below 0", false, deed(impl.DoSend, 0, -1, -1), impl.WdNone},
	{"send, B is none, no room", true, deed(impl.DoSend, 0, 2, 0), impl.WdNone},
	{"send, C below 0, no room", true, deed(impl.DoSend, 0, 1, -1), impl.WdIdle},
	{"send, C is one behind, no room", true, deed(impl.DoSend, 0, 1, 3), impl.WdIdle},
	{"send, C as great as can be, no room", true, deed(impl.DoSend, 0, 1, math.MaxInt), impl.WdIdle},
	{"send, the last one, no room", true, deed(impl.DoSend, 0, 1, 2), impl.WdFull},
	{"send, the last one, room", false, deed(impl.DoSend, 0, 1, 2), impl.WdDone},
	{"ack, A is none, no room", true, deed(impl.DoAck, 2, 1, 0), impl.WdNone},
	{"ack, B is none, no room", true, deed(impl.DoAck, 0, 2, 0), impl.WdNone},
	{"ack, no room", true, deed(impl.DoAck, 0, 1, -1), impl.WdFull},
	{"ack, C below 0", false, deed(impl.DoAck, 0, 1, -1), impl.WdDone},
	{"give, no place, no room", true, deed(impl.DoGive, impl.MaxNet, 0, 0), impl.WdNone},
	{"give, B is none, no room", true, deed(impl.DoGive, impl.MaxNet-1, 2, -1), impl.WdDone},
	{"lose, no place, no room", true, deed(impl.DoLose, -1, 0, 0), impl.WdNone},
	{"lose, B is none, no room", true, deed(impl.DoLose, 0, 2, -1), impl.WdDone},
	{"copy, no place, no room", true, deed(impl.DoCopy, impl.MaxNet, 0, 0), impl.WdNone},
	{"copy, below all places, no room", true, deed(impl.DoCopy, -1, 0, 0), impl.WdNone},
	{"copy, no room, B is none", true, deed(impl.DoCopy, 0, 2, -1), impl.WdFull},
	{"copy, A is no node, but a place", false, deed(impl.DoCopy, impl.MaxNet-2, 2, -1), impl.WdDone},
	{"want, A is none, no page, no room", true, deed(impl.DoWant, 2, impl.Pages, 1), impl.WdNone},
	{"want, no page, no room", true, deed(impl.DoWant, 1, impl.Pages, 1), impl.WdIdle},
	{"want, it has asked, no room", true, deed(impl.DoWant, 0, 3, 1), impl.WdIdle},
	{"want, B is no node, but a page, no room", true, deed(impl.DoWant, 0, 5, 1), impl.WdDone},
}

func TestWhichCodeComesFirst(t *testing.T) {
	for _, c := range firstCodes {
		t.Run(c.name, func(t *testing.T) {
			w := withLine(newWorld(2), 0, 1, senderOf(0, 3))
			w.Nodes[0].Frames[3].Asked = true
			w.Net = packets(impl.MaxNet-1, 2)
			if c.full {
				w.Net = packets(impl.MaxNet, 2)
			}
			switch got, code := impl.WorldDo(w, c.d); {
			case code != c.code:
				t.Errorf("WorldDo(.., %v) is %d, not %d", c.d, code, c.code)
			case code == impl.WdDone:
				if sameWorld(got, w) {
					t.Errorf("WorldDo(.., %v) turned nothing", c.d)
				}
			case code == impl.WdBad:
				wantBad(t, w, c.d)
			default:
				wantRefused(t, w, c.d, c.code)
			}
			// A world that is not right comes ahead of all of it.
			w.Nodes[1].Id = 0
			wantBad(t, w, c.d)
		})
	}
}

func deedsOfAllSorts(size int) []impl.Deed {
	var list []impl.Deed
	for kind := -1; kind <= impl.DoWant+1; kind++ {
		list = append(list, deed(kind, 0, 0, 0), deed(kind, size-1, 0, 1), deed(kind, 0, size-1, 0), deed(kind, -1, size, -1))
		for _, far := range farNumbers {
			list = append(list, deed(kind, far, 0, 0), deed(kind, 0, far, 0), deed(kind, 0, 0, far), deed(kind, far, far, far))
		}
	}
	return list
}

func TestDeedsInWrongWorlds(t *testing.T) {
	for size := 1; size <= impl.MaxNodes; size++ {
		deeds := deedsOfAllSorts(size)
		for i, w := range append(wrongWorlds(size), impl.World{}) {
			for k := range 12 {
				wantBad(t, w, deeds[(12*i+k)%len(deeds)])
			}
		}
	}
	for _, d := range deedsOfAllSorts(1) {
		wantBad(t, impl.World{}, d)
		wantBad(t, newWorld(impl.MaxNodes+1), d)
	}
}

// somePacket is any that is right, many of them such as are due at the node
// that they are for.
func somePacket(r *rand.Rand, w impl.World) impl.Packet {
	p := impl.Packet{From: r.Intn(w.Size), To: r.Intn(w.Size), Ack: r.Intn(3) == 0, N: r.Intn(impl.MaxSeq + 1)}
	m := someMsg(r)
	if home := homesOfPages[w.Size][m.Page]; r.Intn(2) == 0 {
		if forHome(m.Kind) {
			p.To = home
		} else {
			p.From = home
		}
	}
	due := r.Intn(4) > 0
	if p.Ack {
		if s := w.Nodes[p.To].Out[p.From]; due {
			p.N = min(s.Base+r.Intn(len(s.Queue)+2), impl.MaxSeq)
		}
		return p
	}
	if p.Msg = m; due {
		p.N = w.Nodes[p.To].In[p.From].Got
	}
	return p
}

// someWorld is any world that is WorldOk, most of them such as no run comes to.
func someWorld(r *rand.Rand, size int) impl.World {
	w := impl.World{Size: size}
	for id := range size {
		n := someNode(r, size)
		n.Id = id
		w.Nodes = append(w.Nodes, n)
	}
	for range []int{0, 1, 6, impl.MaxNet - 1, impl.MaxNet}[r.Intn(5)] {
		w.Net = append(w.Net, somePacket(r, w))
	}
	return w
}

// someDeed is one that most worlds of that size may do, or may not by little.
func someDeed(r *rand.Rand, w impl.World) impl.Deed {
	node := func() int { return r.Intn(w.Size+2) - r.Intn(2) }
	switch kind := r.Intn(impl.DoWant) + 1; kind {
	case impl.DoGive, impl.DoLose, impl.DoCopy:
		return deed(kind, r.Intn(len(w.Net)+2)-r.Intn(2), node(), node())
	case impl.DoWant:
		return deed(kind, node(), r.Intn(impl.Pages+2)-r.Intn(2), r.Intn(4)-1)
	default:
		return deed(kind, node(), node(), r.Intn(5)-r.Intn(2))
	}
}

// doneByWords is WorldDo as the document's words go, for a right world and a
// Kind that is one.
func doneByWords(w impl.World, d impl.Deed) (impl.World, int) {
	isNode := func(i int) bool { return 0 <= i && i <= w.Size-1 }
	full := len(w.Net) == impl.MaxNet
	switch d.Kind {
	case impl.DoGive, impl.DoLose, impl.DoCopy:
		if d.A < 0 || d.A > len(w.Net)-1 {
			return w, impl.WdNone
		}
		if d.Kind == impl.DoLose {
			return without(w, d.A), impl.WdDone
		}
		if d.Kind == impl.DoGive {
			return givenByWords(without(w, d.A), w.Net[d.A]), impl.WdDone
		}
		if full {
			return w, impl.WdFull
		}
		return carrying(w, w.Net[d.A]), impl.WdDone
	case impl.DoWant:
		if !isNode(d.A) {
			return w, impl.WdNone
		}
		n, ok := wantWordByWord(w.Nodes[d.A], w.Size, d.B, d.C == 1)
		if !ok {
			return w, impl.WdIdle
		}
		return withNode(w, n), impl.WdDone
	}
	if !isNode(d.A) || !isNode(d.B) {
		return w, impl.WdNone
	}
	p := impl.Packet{From: d.A, To: d.B, Ack: true, N: w.Nodes[d.A].In[d.B].Got}
	if d.Kind == impl.DoSend {
		s := w.Nodes[d.A].Out[d.B]
		if d.C < 0 || d.C > len(s.Queue)-1 {
			return w, impl.WdIdle
		}
		p = impl.Packet{From: d.A, To: d.B, N: s.Base + d.C, Msg: s.Queue[d.C]}
	}
	if full {
		return w, impl.WdFull
	}
	return carrying(w, p), impl.WdDone
}

func givenByWords(w impl.World, p impl.Packet) impl.World {
	to := cloneOf(w.Nodes[p.To])
	if p.Ack {
		if s := &to.Out[p.From]; p.N >= s.Base && p.N <= s.Base+len(s.Queue) {
			s.Base, s.Queue = p.N, s.Queue[p.N-s.Base:]
		}
		return withNode(w, to)
	}
	if got := to.In[p.From].Got; p.N == got && got < impl.MaxSeq {
		if n, ok := nodeWordByWord(to, w.Size, p.From, p.Msg); ok {
			return heardBy(w, n, p.From, got)
		}
	}
	return w
}

func TestDeedsAsTheWordsGo(t *testing.T) {
	r := rand.New(rand.NewSource(8))
	count := map[string]int{}
	for i := range 8000 {
		w := someWorld(r, i%impl.MaxNodes+1)
		d := someDeed(r, w)
		want, code := doneByWords(w, d)
		wantDo(t, w, d, want, code)
		count[fmt.Sprint("kind ", d.Kind, " code ", code)]++
		if d.Kind == impl.DoGive && code == impl.WdDone {
			turned := !slices.EqualFunc(w.Nodes, want.Nodes, sameNode)
			count[fmt.Sprint("ack ", w.Net[d.A].Ack, " turned ", turned)]++
		}
	}
	for _, name := range []string{
		"kind 1 code 0", "kind 1 code 2", "kind 1 code 3", "kind 1 code 4", "kind 2 code 0", "kind 2 code 2", "kind 2 code 4",
		"kind 3 code 0", "kind 3 code 2", "kind 4 code 0", "kind 4 code 2", "kind 5 code 0", "kind 5 code 2", "kind 5 code 4",
		"kind 6 code 0", "kind 6 code 2", "kind 6 code 3",
		"ack true turned true", "ack true turned false", "ack false turned true", "ack false turned false",
	} {
		if count[name] < 20 {
			t.Error("too few of", name, count)
		}
	}
}

// Over drawn rows of deeds a world that is right stays so, and what is refused
// turns nothing; a run of them is the same, and so are its halves.
func TestARightWorldStaysRight(t *testing.T) {
	for seed := range 40 {
		r := rand.New(rand.NewSource(int64(seed)))
		first := newWorld(seed%impl.MaxNodes + 1)
		if seed >= 20 {
			first = someWorld(r, seed%impl.MaxNodes+1)
		}
		w := first
		var deeds []impl.Deed
		var codes []int
		for len(deeds) < impl.MaxDeeds {
			d := someDeed(r, w)
			if r.Intn(20) == 0 {
				d.Kind = noKinds[r.Intn(len(noKinds))]
			}
			next, code := impl.WorldDo(w, d)
			deeds, codes = append(deeds, d), append(codes, code)
			switch {
			case code == impl.WdBad:
				if !sameWorld(next, impl.World{}) {
					t.Fatalf("WdBad, but not zero: %v", next)
				}
				continue
			case code != impl.WdDone && !sameWorld(next, w):
				t.Fatalf("%v was refused by %d, but turned %v to %v", d, code, w, next)
			case !impl.WorldOk(next):
				t.Fatalf("%v made %v of %v, which is not WorldOk", d, next, w)
			}
			w = next
		}
		if run, told := impl.WorldRun(first, deeds); !sameWorld(run, w) || !slices.Equal(told, codes) {
			t.Fatal("the run is not what its deeds are, one behind the other")
		}
		half := r.Intn(len(deeds) + 1)
		one, told := impl.WorldRun(first, deeds[:half])
		two, more := impl.WorldRun(one, deeds[half:])
		if !sameWorld(two, w) || !slices.Equal(append(told, more...), codes) {
			t.Fatal("the run is not its halves")
		}
	}
}

// A page that node 0 has to write goes from it to node 1, each message by
// hand; the first one is lost, another one doubled, and one comes too early.
func TestARunByHand(t *testing.T) {
	words := []int{5, 6, 7, 8}
	w := newWorld(2)
	w.Nodes[0].Frames[1] = frameOf(impl.StWrite, false, words...)
	w.Nodes[1].Homes[1].Owner = 0
	deeds := []impl.Deed{
		deed(impl.DoWant, 1, 1, 1), // node 1 asks itself
		deed(impl.DoWant, 1, 3, 0), // and for another page
		deed(impl.DoWant, 1, 1, 1),
		deed(impl.DoSend, 1, 1, 1), // the second one, too early
		deed(impl.DoGive, 0, 0, 0),
		deed(impl.DoSend, 1, 1, 0),
		deed(impl.DoLose, 0, 0, 0),
		deed(impl.DoGive, 0, 0, 0),
		deed(impl.DoSend, 1, 1, 0),
		deed(impl.DoCopy, 0, 0, 0),
		deed(impl.DoGive, 1, 0, 0), // MgFetch is queued to node 0
		deed(impl.DoSend, 1, 0, 0),
		deed(impl.DoGive, 1, 0, 0), // MgBack is queued to node 1
		deed(impl.DoSend, 0, 1, 1),
		deed(impl.DoSend, 0, 1, 0),
		deed(impl.DoGive, 1, 0, 0), // MgData is queued to node 1 itself
		deed(0, 0, 0, 0),
		deed(impl.DoAck, 1, 0, 0),
		deed(impl.DoGive, 1, 0, 0),
	}
	wantCodes := []int{0, 0, impl.WdIdle, 0, 0, 0, 0, impl.WdNone, 0, 0, 0, 0, 0, impl.WdIdle, 0, 0, impl.WdBad, 0, 0}
	want := newWorld(2)
	want.Nodes[1].Homes[1] = impl.Home{List: words, Owner: 1, Readers: []bool{false, false}}
	want.Nodes[1].Frames[1].Asked = true
	want.Nodes[1].Frames[3].Asked = true
	want.Nodes[1].Out[1] = impl.Sender{Queue: []impl.Msg{{Kind: impl.MgOwn, Page: 1}, {Kind: impl.MgShare, Page: 3}, {Kind: impl.MgData, Page: 1, Own: true, List: words}}}
	want.Nodes[1].Out[0] = impl.Sender{Queue: []impl.Msg{{Kind: impl.MgFetch, Page: 1, Own: true}}}
	want.Nodes[1].In = []impl.Receiver{{Got: 1}, {Got: 1}}
	want.Nodes[0].In[1].Got = 1
	want.Nodes[0].Out[1] = impl.Sender{Base: 1}
	want.Net = []impl.Packet{{From: 1, To: 1, N: 0, Msg: impl.Msg{Kind: impl.MgOwn, Page: 1}}}
	wantRun(t, w, deeds, want, wantCodes)
}

func wantRun(t *testing.T, w impl.World, deeds []impl.Deed, want impl.World, wantCodes []int) {
	t.Helper()
	got, codes := impl.WorldRun(w, deeds)
	if !slices.Equal(codes, wantCodes) || !sameWorld(got, want) {
		t.Errorf("WorldRun(%v, %v) is\n%v, %v, not\n%v, %v", w, deeds, got, codes, want, wantCodes)
	}
}

// What is not done leaves the world as it was, so that those behind it go on.
func TestRunGoesOnBehindWhatIsRefused(t *testing.T) {
	w := withLine(newWorld(2), 0, 1, senderOf(0, 2))
	first := impl.Packet{From: 0, To: 1, N: 0, Msg: numbered(0)}
	second := impl.Packet{From: 0, To: 1, N: 1, Msg: numbered(1)}
	deeds := []impl.Deed{
		deed(impl.DoSend, 0, 1, 1), deed(math.MaxInt, 0, 0, 0), deed(impl.DoSend, 0, 1, 2), deed(impl.DoSend, 2, 1, 0),
		deed(impl.DoCopy, 1, 0, 0), deed(impl.DoSend, 0, 1, 0), deed(impl.DoWant, 0, impl.Pages, 0), deed(impl.DoLose, 2, 0, 0),
	}
	wantRun(t, w, deeds, carrying(w, second, first), []int{0, impl.WdBad, impl.WdIdle, impl.WdNone, impl.WdNone, 0, impl.WdIdle, impl.WdNone})
	var many []impl.Deed
	var codes []int
	want := w
	for i := range impl.MaxDeeds {
		many = append(many, deed(impl.DoSend, 0, 1, 1))
		if i < impl.MaxNet {
			codes, want = append(codes, impl.WdDone), carrying(want, second)
		} else {
			codes = append(codes, impl.WdFull)
		}
	}
	wantRun(t, w, many, want, codes)
	wantRun(t, w, many[1:], want, codes[:impl.MaxDeeds-1])
}

func TestRunsOfTooManyDeeds(t *testing.T) {
	for size := 1; size <= impl.MaxNodes; size++ {
		for _, w := range []impl.World{newWorld(size), fullWorld(size), crowded(fullWorld(size))} {
			for _, count := range []int{impl.MaxDeeds + 1, impl.MaxDeeds + 2, 3 * impl.MaxDeeds} {
				wantRun(t, w, make([]impl.Deed, count), w, nil)
				wantRun(t, w, slices.Repeat([]impl.Deed{deed(impl.DoAck, 0, 0, 0)}, count), w, nil)
			}
			wantRun(t, w, nil, w, nil)
			wantRun(t, w, []impl.Deed{}, w, nil)
			// So many that are no deed are refused one by one.
			wantRun(t, w, make([]impl.Deed, impl.MaxDeeds), w, slices.Repeat([]int{impl.WdBad}, impl.MaxDeeds))
		}
	}
}

func TestRunsOfWrongWorlds(t *testing.T) {
	for size := 1; size <= impl.MaxNodes; size++ {
		deeds := deedsOfAllSorts(size)
		for _, w := range append(wrongWorlds(size), impl.World{}) {
			wantRun(t, w, nil, w, nil)
			wantRun(t, w, deeds, w, nil)
			wantRun(t, w, make([]impl.Deed, impl.MaxDeeds+1), w, nil)
		}
	}
	wantRun(t, newWorld(impl.MaxNodes+1), deedsOfAllSorts(1), newWorld(impl.MaxNodes+1), nil)
}

// settle carries all that is queued, in turn, until nothing is.
func settle(t *testing.T, w impl.World) impl.World {
	t.Helper()
	w.Net = nil
	for range 100 {
		idle := true
		for a := range w.Size {
			for b := range w.Size {
				var deeds []impl.Deed
				for c := range w.Nodes[a].Out[b].Queue {
					idle = false
					deeds = append(deeds, deed(impl.DoSend, a, b, c), deed(impl.DoGive, 0, 0, 0))
				}
				var codes []int
				w, codes = impl.WorldRun(w, append(deeds, deed(impl.DoAck, b, a, 0), deed(impl.DoGive, 0, 0, 0)))
				if slices.Max(codes) != impl.WdDone {
					t.Fatal("refused", codes)
				}
			}
		}
		if idle {
			return w
		}
	}
	t.Fatal("something is still queued")
	return w
}

// Whatever the net did before, each is given what it asked for in the end.
func TestWhateverWasLostComesAgain(t *testing.T) {
	for seed := range 40 {
		r := rand.New(rand.NewSource(int64(seed)))
		w := newWorld(seed%impl.MaxNodes + 1)
		heard := 0
		for range 8 {
			for range 100 {
				w, _ = impl.WorldRun(w, []impl.Deed{someDeed(r, w)})
			}
			w = settle(t, w)
			for _, n := range w.Nodes {
				for page, f := range n.Frames {
					if f.Asked {
						t.Fatal("node", n.Id, "was not given page", page)
					}
				}
				heard += n.In[0].Got
			}
		}
		if heard < 50 {
			t.Error("too little was heard to tell anything:", heard)
		}
	}
}

// A worldAnd is what WorldRun is given, a worldThen what it answers.
type worldAnd struct {
	W    impl.World
	List []impl.Deed
}

type worldThen struct {
	W     impl.World
	Codes []int
}

// oneList is a right world in which all lists that can be are one list, so
// that an answer that takes over any two of them is seen.
func oneList() impl.World {
	words := []int{1, 2, 3, 4}
	m := impl.Msg{Kind: impl.MgBack, Page: 2, List: words}
	w := newWorld(4)
	frames, homes, queue := make([]impl.Frame, impl.Pages), newHomes(impl.Pages, 4), []impl.Msg{m, m, m}
	out, in := make([]impl.Sender, 4), make([]impl.Receiver, 4)
	for page := range impl.Pages {
		frames[page] = impl.Frame{State: impl.StRead, List: words}
		homes[page] = busyFor(after(homeOf(4, 0), words), 1, false, 0, share(3))
	}
	for who := range out {
		out[who].Queue = queue
	}
	for id := range w.Nodes {
		w.Nodes[id] = impl.Node{Id: id, Frames: frames, Homes: homes, Out: out, In: in}
	}
	for i := range 6 {
		w.Net = append(w.Net, impl.Packet{From: i % 4, To: 2, Msg: m}, impl.Packet{From: i % 4, To: i % 3, N: i % 2, Ack: true})
	}
	return w
}

// memoryDeeds are such that many worlds of that size do.
func memoryDeeds(size int) []impl.Deed {
	list := []impl.Deed{deed(0, 0, 0, 0), deed(impl.DoSend, -1, 0, 0), deed(impl.DoSend, 0, size-1, 1), deed(impl.DoSend, 0, 0, 90), deed(impl.DoAck, size-1, 0, 0), deed(impl.DoAck, size, 0, 0)}
	for at := range 4 {
		list = append(list, deed(impl.DoGive, at, 0, 0), deed(impl.DoCopy, at, 0, 0), deed(impl.DoLose, at, 0, 0))
	}
	return append(list, deed(impl.DoWant, size-1, 1, 1), deed(impl.DoWant, 0, 2, 0), deed(impl.DoWant, 0, 7, 1))
}

func memoryWorlds(size int) []impl.World {
	wrong := wrongWorlds(size)
	list := append(rightWorlds(size)[:6], wrong[:4]...)
	list = append(list, wrong[len(wrong)-8:]...)
	r := rand.New(rand.NewSource(9))
	for range 6 {
		list = append(list, someWorld(r, size))
	}
	if size == 4 {
		list = append(list, oneList())
		for _, c := range nodeHeardCases {
			w := withNode(newWorld(4), withHome(newNode(2, 4), 2, c.home))
			list = append(list, withNet(w, impl.Packet{From: c.from, To: 2, Msg: c.m}))
		}
	}
	return list
}

func TestWorldAnswersAreNewMemory(t *testing.T) {
	for size := 1; size <= impl.MaxNodes; size++ {
		one, _ := impl.WorldNew(size)
		two, _ := impl.WorldNew(size)
		wantNew(t, one, two)
		deeds := memoryDeeds(size)
		for _, w := range memoryWorlds(size) {
			// What has the same memory twice would not have it in a copy.
			if !sharesWithin(w) {
				w = roomy(w)
			}
			for _, d := range deeds {
				got, _ := impl.WorldDo(w, d)
				wantNew(t, got, w)
			}
			for _, list := range [][]impl.Deed{nil, deeds, make([]impl.Deed, impl.MaxDeeds+1)} {
				given := worldAnd{w, roomy(list)}
				got, codes := impl.WorldRun(w, given.List)
				wantNew(t, worldThen{got, codes}, given)
			}
		}
	}
}

// A packet has words of its own: not those of the queue that it was sent from,
// nor those of the packet that it doubles.
func TestPacketsHaveWordsOfTheirOwn(t *testing.T) {
	w := withLine(newWorld(2), 0, 1, senderOf(0, 1))
	w, codes := impl.WorldRun(w, []impl.Deed{
		deed(impl.DoSend, 0, 1, 0), deed(impl.DoSend, 0, 1, 0), deed(impl.DoCopy, 0, 0, 0), deed(impl.DoCopy, 2, 0, 0),
	})
	if !slices.Equal(codes, make([]int, 4)) || len(w.Net) != 4 {
		t.Fatal(codes, w.Net)
	}
	wantNew(t, w, worldAnd{})
	w.Nodes[0].Out[1].Queue[0].List[0] = 77
	w.Net[3].Msg.List[0] = 88
	for _, p := range w.Net[:3] {
		if !sameMsg(p.Msg, numbered(0)) {
			t.Error("a packet turned with another one's words:", p)
		}
	}
}

func TestWorldsWriteIntoNoArgument(t *testing.T) {
	for size := 1; size <= impl.MaxNodes; size++ {
		for _, w := range memoryWorlds(size) {
			given := roomy(worldAnd{w, memoryDeeds(size)})
			before := whole(given)
			impl.WorldOk(given.W)
			for _, d := range given.List {
				impl.WorldDo(given.W, d)
			}
			impl.WorldRun(given.W, given.List)
			impl.WorldRun(given.W, given.List[:0])
			wantUnwritten(t, given, before)
		}
	}
}

// What is done to a world behind a call is not seen in what it answered.
func TestTwoDeedsOfOneWorld(t *testing.T) {
	w := withNet(fullWorld(2), packets(3, 2)...)
	kept := cloneOf(w)
	one, _ := impl.WorldDo(w, deed(impl.DoSend, 0, 1, 2))
	two, _ := impl.WorldDo(w, deed(impl.DoLose, 0, 0, 0))
	three, _ := impl.WorldDo(w, deed(impl.DoSend, 0, 2, 0))
	four, _ := impl.WorldRun(w, make([]impl.Deed, impl.MaxDeeds+1))
	w.Nodes[0].Out[1].Queue[2].List[0]++
	w.Nodes[1].Homes[0].List[0]++
	w.Nodes[1].In[0].Got++
	w.Nodes[0].Id = 1
	clear(w.Net)
	if !sameWorld(one, carrying(kept, impl.Packet{From: 0, To: 1, N: 12, Msg: numbered(12)})) {
		t.Error("send", one)
	}
	if !sameWorld(two, without(kept, 0)) {
		t.Error("lose", two)
	}
	if !sameWorld(three, kept) || !sameWorld(four, kept) {
		t.Error("refused", three, four)
	}
}
