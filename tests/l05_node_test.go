package tests

import (
	"fmt"
	"math/rand"
	"slices"
	"testing"

	"loop.example/g00281/impl"
)

// homesOfPages is which node has a page's home, by how many nodes there are,
// written out by hand.
var homesOfPages = [impl.MaxNodes + 1][impl.Pages]int{
	1: {0, 0, 0, 0, 0, 0},
	2: {0, 1, 0, 1, 0, 1},
	3: {0, 1, 2, 0, 1, 2},
	4: {0, 1, 2, 3, 0, 1},
}

func sameNode(a, b impl.Node) bool {
	return a.Id == b.Id && slices.EqualFunc(a.Frames, b.Frames, sameFrame) && slices.EqualFunc(a.Homes, b.Homes, sameHome) &&
		slices.EqualFunc(a.Out, b.Out, sameSender) && slices.Equal(a.In, b.In)
}

func newHomes(count, nodes int) []impl.Home {
	list := make([]impl.Home, count)
	for i := range list {
		list[i] = impl.Home{List: []int{0, 0, 0, 0}, Owner: nobody, Readers: make([]bool, nodes)}
	}
	return list
}

// newNode is a new node in memory of its own, written out by hand.
func newNode(id, nodes int) impl.Node {
	return impl.Node{Id: id, Frames: make([]impl.Frame, impl.Pages), Homes: newHomes(impl.Pages, nodes), Out: make([]impl.Sender, nodes), In: make([]impl.Receiver, nodes)}
}

// fullNode is a right node that has something of each sort.
func fullNode(id, nodes int) impl.Node {
	n := newNode(id, nodes)
	for page := range impl.Pages {
		n.Frames[page] = frameOf(frameStates[page%3], page%2 == 0, page, 22, impl.MaxWord, 44)
	}
	last := nodes - 1
	n.Homes[0] = homeOf(nodes, nobody, 0, last)
	n.Homes[1] = homeOf(nodes, last)
	n.Homes[2] = busyFor(homeOf(nodes, nobody), 0, true, 1, waits(3, nodes)...)
	n.Homes[3] = busyFor(homeOf(nodes, 0), last, false, 0, share(0))
	for who := range nodes {
		n.Out[who] = senderOf(10*who, 2+who)
		n.In[who] = impl.Receiver{Got: 7 * who}
	}
	return n
}

// turned is a copy of n with something done to it.
func turned(n impl.Node, turn func(n *impl.Node)) impl.Node {
	n = cloneOf(n)
	turn(&n)
	return n
}

func withOut(n impl.Node, to int, s impl.Sender) impl.Node {
	return turned(n, func(n *impl.Node) { n.Out[to] = s })
}

func withFrame(n impl.Node, page int, f impl.Frame) impl.Node {
	return turned(n, func(n *impl.Node) { n.Frames[page] = f })
}

func withHome(n impl.Node, page int, h impl.Home) impl.Node {
	return turned(n, func(n *impl.Node) { n.Homes[page] = h })
}

// telling is n with these queued behind what it has to tell.
func telling(n impl.Node, told ...impl.Told) impl.Node {
	return turned(n, func(n *impl.Node) {
		for _, told := range told {
			n.Out[told.To].Queue = append(n.Out[told.To].Queue, told.Msg)
		}
	})
}

func TestNodeNew(t *testing.T) {
	for nodes := 1; nodes <= impl.MaxNodes; nodes++ {
		for id := range nodes {
			n, ok := impl.NodeNew(id, nodes)
			if !ok || !sameNode(n, newNode(id, nodes)) || !impl.NodeOk(n, nodes) {
				t.Errorf("NodeNew(%d, %d) is %v, %v", id, nodes, n, ok)
			}
			for page, f := range n.Frames {
				if f.State != impl.StNone || f.Asked || len(f.List) > 0 || !sameHome(n.Homes[page], impl.HomeNew(nodes)) {
					t.Errorf("NodeNew(%d, %d) has %v, %v of page %d", id, nodes, f, n.Homes[page], page)
				}
			}
		}
	}
}

func wantNoNode(t *testing.T, id, nodes int) {
	t.Helper()
	if n, ok := impl.NodeNew(id, nodes); ok || !sameNode(n, impl.Node{}) {
		t.Errorf("NodeNew(%d, %d) is %v, %v, not zero and false", id, nodes, n, ok)
	}
}

func TestNodeNewOfNoNode(t *testing.T) {
	for nodes := 1; nodes <= impl.MaxNodes; nodes++ {
		for _, id := range append([]int{-2, nodes, nodes + 1, 256}, farNumbers...) {
			wantNoNode(t, id, nodes)
		}
	}
	for _, nodes := range noNodes {
		for _, id := range append([]int{0, 1, impl.MaxNodes - 1, impl.MaxNodes, nodes - 1}, farNumbers...) {
			wantNoNode(t, id, nodes)
		}
	}
}

// rightNodes are such of that number of nodes, with lines at their edges, too.
func rightNodes(nodes int) []impl.Node {
	var list []impl.Node
	for id := range nodes {
		full := fullNode(id, nodes)
		list = append(list, newNode(id, nodes), full)
		for _, s := range []impl.Sender{{Base: impl.MaxSeq}, senderOf(0, impl.MaxQueue-1), senderOf(0, impl.MaxQueue), senderOf(impl.MaxSeq-3, 3), senderOf(impl.MaxSeq-impl.MaxQueue, impl.MaxQueue)} {
			list = append(list, withOut(full, 0, s), withOut(full, nodes-1, s))
		}
	}
	return list
}

// wrongNodes are such that are not NodeOk of that many nodes, each by one
// thing alone.
func wrongNodes(nodes int) []impl.Node {
	var list []impl.Node
	with := func(turn func(n *impl.Node)) {
		list = append(list, turned(newNode(nodes-1, nodes), turn), turned(fullNode(0, nodes), turn))
	}
	for _, id := range append([]int{-2, nodes, nodes + 1, 256}, farNumbers...) {
		with(func(n *impl.Node) { n.Id = id })
	}
	for _, size := range []int{0, impl.Pages - 1, impl.Pages + 1, 2 * impl.Pages} {
		with(func(n *impl.Node) { n.Frames = make([]impl.Frame, size) })
		with(func(n *impl.Node) { n.Homes = newHomes(size, nodes) })
	}
	for _, size := range []int{0, nodes - 1, nodes + 1, 2 * nodes} {
		if size != nodes {
			with(func(n *impl.Node) { n.Out = make([]impl.Sender, size) })
			with(func(n *impl.Node) { n.In = make([]impl.Receiver, size) })
		}
	}
	for _, got := range append([]int{impl.MaxSeq + 1, impl.MaxSeq + 2}, farNumbers...) {
		for who := range nodes {
			with(func(n *impl.Node) { n.In[who].Got = got })
		}
	}
	for i, f := range wrongFrames() {
		with(func(n *impl.Node) { n.Frames[i%impl.Pages] = f })
	}
	for i, h := range append(wrongHomes(nodes), impl.Home{}) {
		with(func(n *impl.Node) { n.Homes[i%impl.Pages] = h })
	}
	for i, s := range wrongSenders() {
		with(func(n *impl.Node) { n.Out[i%nodes] = s })
	}
	// Whatever the place: the first, the last and each between.
	for page := range impl.Pages {
		with(func(n *impl.Node) { n.Frames[page].State = impl.StWrite + 1 })
		with(func(n *impl.Node) { n.Homes[page].Acks = nodes + 1 })
	}
	for who := range nodes {
		with(func(n *impl.Node) { n.Out[who] = impl.Sender{Base: impl.MaxSeq + 1} })
	}
	return list
}

func TestNodeOk(t *testing.T) {
	for nodes := 1; nodes <= impl.MaxNodes; nodes++ {
		for _, n := range rightNodes(nodes) {
			if !impl.NodeOk(n, nodes) {
				t.Errorf("NodeOk(%v, %d) is false", n, nodes)
			}
			for _, other := range append([]int{nodes - 1, nodes + 1}, noNodes...) {
				if impl.NodeOk(n, other) {
					t.Errorf("NodeOk(%v, %d) is true", n, other)
				}
			}
		}
		for _, n := range append(wrongNodes(nodes), impl.Node{}) {
			if impl.NodeOk(n, nodes) {
				t.Errorf("NodeOk(%v, %d) is true", n, nodes)
			}
		}
	}
	if impl.NodeOk(impl.Node{}, 0) || impl.NodeOk(newNode(0, 0), 0) || impl.NodeOk(newNode(0, impl.MaxNodes+1), impl.MaxNodes+1) {
		t.Error("NodeOk of a wrong number of nodes")
	}
}

func TestNodeOkEdges(t *testing.T) {
	for nodes := 1; nodes <= impl.MaxNodes; nodes++ {
		for i := -1; i <= nodes+1; i++ {
			n := turned(newNode(0, nodes), func(n *impl.Node) { n.Id = i })
			if want := i >= 0 && i < nodes; impl.NodeOk(n, nodes) != want {
				t.Errorf("NodeOk of %d nodes and Id %d is not %v", nodes, i, want)
			}
		}
		for size := range 2*impl.Pages + 1 {
			want := size == impl.Pages
			n := newNode(0, nodes)
			n.Frames = make([]impl.Frame, size)
			if impl.NodeOk(n, nodes) != want {
				t.Errorf("NodeOk of %d frames is not %v", size, want)
			}
			n = newNode(0, nodes)
			n.Homes = newHomes(size, nodes)
			if impl.NodeOk(n, nodes) != want {
				t.Errorf("NodeOk of %d homes is not %v", size, want)
			}
		}
		for size := range 2*impl.MaxNodes + 1 {
			n := newNode(0, nodes)
			n.Out = make([]impl.Sender, size)
			if want := size == nodes; impl.NodeOk(n, nodes) != want {
				t.Errorf("NodeOk of %d nodes and %d senders is not %v", nodes, size, want)
			}
			n = newNode(0, nodes)
			n.In = make([]impl.Receiver, size)
			if want := size == nodes; impl.NodeOk(n, nodes) != want {
				t.Errorf("NodeOk of %d nodes and %d receivers is not %v", nodes, size, want)
			}
		}
		for _, got := range []int{-1, 0, 1, impl.MaxSeq - 1, impl.MaxSeq, impl.MaxSeq + 1} {
			for who := range nodes {
				n := newNode(0, nodes)
				n.In[who].Got = got
				if want := got >= 0 && got <= impl.MaxSeq; impl.NodeOk(n, nodes) != want {
					t.Errorf("NodeOk of Got %d is not %v", got, want)
				}
			}
		}
	}
}

func wantWant(t *testing.T, n impl.Node, nodes, page int, own bool, want impl.Node, wantOk bool) {
	t.Helper()
	got, ok := impl.Want(n, nodes, page, own)
	if ok != wantOk || !sameNode(got, want) {
		t.Errorf("Want(%v, %d, %d, %v) is\n%v, %v, not\n%v, %v", n, nodes, page, own, got, ok, want, wantOk)
	}
	if impl.NodeOk(n, nodes) != impl.NodeOk(got, nodes) {
		t.Errorf("Want(%v, %d, %d, %v) is %v: NodeOk turned", n, nodes, page, own, got)
	}
}

func wantUnwanted(t *testing.T, n impl.Node, nodes, page int, own bool) {
	t.Helper()
	wantWant(t, n, nodes, page, own, n, false)
}

// Of each frame what it may want, written out by hand.
var wantCases = []struct {
	state int
	own   bool
	kind  int
}{
	{impl.StNone, false, impl.MgShare},
	{impl.StNone, true, impl.MgOwn},
	{impl.StRead, true, impl.MgOwn},
	{impl.StRead, false, 0},
	{impl.StWrite, false, 0},
	{impl.StWrite, true, 0},
}

func TestWant(t *testing.T) {
	for nodes := 1; nodes <= impl.MaxNodes; nodes++ {
		for id := range nodes {
			for page, home := range homesOfPages[nodes] {
				for _, c := range wantCases {
					n := withFrame(fullNode(id, nodes), page, frameOf(c.state, false, 9, 8, 7, 6))
					asked := withFrame(n, page, frameOf(c.state, true, 9, 8, 7, 6))
					if c.kind == 0 {
						wantUnwanted(t, n, nodes, page, c.own)
					} else {
						then := telling(asked, impl.Told{To: home, Msg: impl.Msg{Kind: c.kind, Page: page}})
						wantWant(t, n, nodes, page, c.own, then, true)
						// It has asked now: once is enough, for more, too.
						wantUnwanted(t, then, nodes, page, false)
						wantUnwanted(t, then, nodes, page, true)
					}
					wantUnwanted(t, asked, nodes, page, c.own)
				}
			}
		}
	}
}

func TestWantOfNoPage(t *testing.T) {
	for nodes := 1; nodes <= impl.MaxNodes; nodes++ {
		for _, n := range []impl.Node{newNode(0, nodes), fullNode(nodes-1, nodes)} {
			for _, page := range append([]int{-impl.Pages, impl.Pages, impl.Pages + 1, 256}, farNumbers...) {
				wantUnwanted(t, n, nodes, page, false)
				wantUnwanted(t, n, nodes, page, true)
			}
		}
		for _, page := range []int{0, impl.Pages - 1} {
			if _, ok := impl.Want(newNode(0, nodes), nodes, page, true); !ok {
				t.Error("Want of page", page, "is false")
			}
		}
	}
}

func TestWantOfWrongNodes(t *testing.T) {
	for nodes := 1; nodes <= impl.MaxNodes; nodes++ {
		for _, n := range append(wrongNodes(nodes), impl.Node{}) {
			for _, page := range []int{-1, 0, 1, impl.Pages - 1, impl.Pages} {
				wantUnwanted(t, n, nodes, page, true)
			}
			for _, far := range farNumbers {
				wantUnwanted(t, n, far, far, false)
			}
		}
		for _, other := range append([]int{nodes - 1, nodes + 1}, noNodes...) {
			for page := range impl.Pages {
				wantUnwanted(t, newNode(0, nodes), other, page, true)
			}
		}
	}
	wantUnwanted(t, newNode(0, 0), 0, 0, true)
	wantUnwanted(t, newNode(0, impl.MaxNodes+1), impl.MaxNodes+1, 0, true)
}

// jammedSenders are right ones behind which nothing can be queued.
func jammedSenders() []impl.Sender {
	return []impl.Sender{{Base: impl.MaxSeq}, senderOf(0, impl.MaxQueue), senderOf(500, impl.MaxQueue), senderOf(impl.MaxSeq-1, 1), senderOf(impl.MaxSeq-impl.MaxQueue, impl.MaxQueue)}
}

// lastRoom are right ones behind which one more can be queued, and no more.
func lastRoom() []impl.Sender {
	return []impl.Sender{{Base: impl.MaxSeq - 1}, senderOf(0, impl.MaxQueue-1), senderOf(impl.MaxSeq-3, 2), senderOf(impl.MaxSeq-impl.MaxQueue, impl.MaxQueue-1)}
}

func TestWantThatCanNotBeQueued(t *testing.T) {
	for nodes := 1; nodes <= impl.MaxNodes; nodes++ {
		for page, home := range homesOfPages[nodes] {
			for _, id := range []int{0, nodes - 1} {
				for _, s := range jammedSenders() {
					n := newNode(id, nodes)
					wantUnwanted(t, withOut(n, home, s), nodes, page, true)
					wantUnwanted(t, withOut(n, home, s), nodes, page, false)
					// Another line's jam is nothing to this one.
					for who := range nodes {
						if who != home {
							n.Out[who] = s
						}
					}
					asked := withFrame(n, page, impl.Frame{Asked: true})
					wantWant(t, n, nodes, page, true, telling(asked, impl.Told{To: home, Msg: impl.Msg{Kind: impl.MgOwn, Page: page}}), true)
				}
				for _, s := range lastRoom() {
					n := withOut(newNode(id, nodes), home, s)
					then := telling(withFrame(n, page, impl.Frame{Asked: true}), impl.Told{To: home, Msg: impl.Msg{Kind: impl.MgShare, Page: page}})
					wantWant(t, n, nodes, page, false, then, true)
				}
			}
		}
	}
}

func wantNodeHears(t *testing.T, n impl.Node, nodes, from int, m impl.Msg, want impl.Node, wantOk bool) {
	t.Helper()
	got, ok := impl.NodeHear(n, nodes, from, m)
	if ok != wantOk || !sameNode(got, want) {
		t.Errorf("NodeHear(%v, %d, %d, %v) is\n%v, %v, not\n%v, %v", n, nodes, from, m, got, ok, want, wantOk)
	}
	if impl.NodeOk(n, nodes) != impl.NodeOk(got, nodes) {
		t.Errorf("NodeHear(%v, %d, %d, %v) is %v: NodeOk turned", n, nodes, from, m, got)
	}
}

// wantNothingTurned is what is heard, though it turns nothing.
func wantNothingTurned(t *testing.T, n impl.Node, nodes, from int, m impl.Msg) {
	t.Helper()
	wantNodeHears(t, n, nodes, from, m, n, true)
}

func wantNodeUnheard(t *testing.T, n impl.Node, nodes, from int, m impl.Msg) {
	t.Helper()
	wantNodeHears(t, n, nodes, from, m, n, false)
}

// A nodeHeard is what node 2 of four, the home of page 2, hears of that page.
type nodeHeard struct {
	name string
	home impl.Home
	from int
	m    impl.Msg
	then impl.Home
	told []impl.Told
}

var nodeHeardCases = []nodeHeard{
	{"share of nobody", homeOf(4, nobody), 3, shareMsg, homeOf(4, nobody, 3), []impl.Told{dataTo(3, false, homeWords)}},
	{"own of nobody", homeOf(4, nobody), 1, ownMsg, homeOf(4, 1), []impl.Told{dataTo(1, true, homeWords)}},
	{"its own share", homeOf(4, nobody, 0), 2, shareMsg, homeOf(4, nobody, 0, 2), []impl.Told{dataTo(2, false, homeWords)}},
	{"its own wish to own", homeOf(4, 2), 2, ownMsg, busyFor(homeOf(4, 2), 2, true, 0), []impl.Told{fetchFrom(2, true)}},
	{"own of readers", homeOf(4, nobody, 0, 2, 3), 1, ownMsg, busyFor(homeOf(4, nobody), 1, true, 3), []impl.Told{goneTo(0), goneTo(2), goneTo(3)}},
	{"share of an owner", homeOf(4, 3), 0, shareMsg, busyFor(homeOf(4, 3), 0, false, 0), []impl.Told{fetchFrom(3, false)}},
	{"share that waits", busyFor(homeOf(4, 3), 0, false, 0), 1, shareMsg, busyFor(homeOf(4, 3), 0, false, 0, share(1)), nil},
	{"own that can not wait", busyFor(homeOf(4, 3), 0, false, 0, waits(impl.MaxWait, 4)...), 1, ownMsg, busyFor(homeOf(4, 3), 0, false, 0, waits(impl.MaxWait, 4)...), nil},
	{"an ack", busyFor(homeOf(4, nobody), 1, true, 2), 0, ackMsg, busyFor(homeOf(4, nobody), 1, true, 1), nil},
	{"the last ack", busyFor(homeOf(4, nobody), 1, true, 1), 0, ackMsg, homeOf(4, 1), []impl.Told{dataTo(1, true, homeWords)}},
	{"the last ack, and who waits", busyFor(homeOf(4, nobody), 1, true, 1, share(3)), 0, ackMsg, busyFor(homeOf(4, 1), 3, false, 0), []impl.Told{dataTo(1, true, homeWords), fetchFrom(1, false)}},
	{"an ack too many", homeOf(4, nobody, 1), 0, ackMsg, homeOf(4, nobody, 1), nil},
	{"back to own", busyFor(homeOf(4, 0), 3, true, 0), 0, backMsg, after(homeOf(4, 3), backWords), []impl.Told{dataTo(3, true, backWords)}},
	{"back of another one", busyFor(homeOf(4, 0), 3, true, 0), 1, backMsg, busyFor(homeOf(4, 0), 3, true, 0), nil},
	{"back to read, and who waits", busyFor(homeOf(4, 0), 1, false, 0, share(3), share(1), own(3)), 0, backMsg,
		after(busyFor(homeOf(4, nobody, 3), 3, true, 2), backWords),
		[]impl.Told{dataTo(1, false, backWords), dataTo(3, false, backWords), dataTo(1, false, backWords), goneTo(0), goneTo(1)}},
}

func TestNodeHearsAsHome(t *testing.T) {
	for _, c := range nodeHeardCases {
		t.Run(c.name, func(t *testing.T) {
			for _, plain := range []impl.Node{newNode(2, 4), fullNode(2, 4)} {
				n := withHome(plain, 2, c.home)
				wantNodeHears(t, n, 4, c.from, c.m, telling(withHome(n, 2, c.then), c.told...), true)
			}
			// At a node that is not its home, nothing turns.
			for _, id := range []int{0, 1, 3} {
				wantNothingTurned(t, withHome(fullNode(id, 4), 2, c.home), 4, c.from, c.m)
			}
		})
	}
}

// Of each page, and each number of nodes: its home hears what asks for it, and
// nobody else does.
func TestWhoseHomeItIs(t *testing.T) {
	for nodes := 1; nodes <= impl.MaxNodes; nodes++ {
		for page, home := range homesOfPages[nodes] {
			for id := range nodes {
				for from := range nodes {
					m := impl.Msg{Kind: impl.MgOwn, Page: page}
					n := withHome(fullNode(id, nodes), page, homeOf(nodes, nobody))
					if id != home {
						wantNothingTurned(t, n, nodes, from, m)
						continue
					}
					then := withHome(n, page, homeOf(nodes, from))
					then = telling(then, impl.Told{To: from, Msg: impl.Msg{Kind: impl.MgData, Page: page, Own: true, List: homeWords}})
					wantNodeHears(t, n, nodes, from, m, then, true)
				}
			}
		}
	}
}

// A fromHome is what a frame that is Asked hears from home, by hand: what it
// is then, whether that is Asked, and what is told.
type fromHome struct {
	state int
	m     impl.Msg
	then  impl.Frame
	told  []impl.Msg
}

func fromHomeCases(page int) []fromHome {
	words := []int{4, 3, 2, 1}
	gone := impl.Msg{Kind: impl.MgGone, Page: page}
	fetch := impl.Msg{Kind: impl.MgFetch, Page: page}
	fetchOwn := impl.Msg{Kind: impl.MgFetch, Page: page, Own: true}
	data := impl.Msg{Kind: impl.MgData, Page: page, List: []int{5, 6, 7, 8}}
	dataOwn := impl.Msg{Kind: impl.MgData, Page: page, Own: true, List: []int{5, 6, 7, 8}}
	ack := []impl.Msg{{Kind: impl.MgAck, Page: page}}
	back := []impl.Msg{{Kind: impl.MgBack, Page: page, List: words}}
	list := []fromHome{
		{impl.StWrite, fetch, frameOf(impl.StRead, true, words...), back},
		{impl.StWrite, fetchOwn, frameOf(impl.StNone, true), back},
		{impl.StRead, fetch, frameOf(impl.StRead, true, words...), nil},
		{impl.StRead, fetchOwn, frameOf(impl.StRead, true, words...), nil},
		{impl.StNone, fetch, frameOf(impl.StNone, true), nil},
	}
	for _, state := range frameStates {
		list = append(list,
			fromHome{state, data, frameOf(impl.StRead, false, 5, 6, 7, 8), nil},
			fromHome{state, dataOwn, frameOf(impl.StWrite, false, 5, 6, 7, 8), nil},
			fromHome{state, gone, frameOf(impl.StNone, true), ack})
	}
	return list
}

func TestNodeHearsFromHome(t *testing.T) {
	for nodes := 1; nodes <= impl.MaxNodes; nodes++ {
		for page, home := range homesOfPages[nodes] {
			for id := range nodes {
				for _, c := range fromHomeCases(page) {
					n := withFrame(fullNode(id, nodes), page, frameOf(c.state, true, 4, 3, 2, 1))
					for from := range nodes {
						if from != home {
							wantNothingTurned(t, n, nodes, from, c.m)
							continue
						}
						then := withFrame(n, page, c.then)
						for _, m := range c.told {
							then = telling(then, impl.Told{To: home, Msg: m})
						}
						wantNodeHears(t, n, nodes, from, c.m, then, true)
					}
				}
			}
		}
	}
}

// What a node can't tell it does not hear, whichever line it is; what goes
// over other lines does not matter.
func TestNodeThatCanNotTell(t *testing.T) {
	for _, c := range nodeHeardCases {
		need := map[int]int{}
		for _, told := range c.told {
			need[told.To]++
		}
		for who := range 4 {
			for _, s := range jammedSenders() {
				n := withOut(withHome(fullNode(2, 4), 2, c.home), who, s)
				if need[who] > 0 {
					wantNodeUnheard(t, n, 4, c.from, c.m)
				} else {
					wantNodeHears(t, n, 4, c.from, c.m, telling(withHome(n, 2, c.then), c.told...), true)
				}
			}
			for _, s := range lastRoom() {
				n := withOut(withHome(fullNode(2, 4), 2, c.home), who, s)
				if need[who] > 1 {
					wantNodeUnheard(t, n, 4, c.from, c.m)
				} else {
					wantNodeHears(t, n, 4, c.from, c.m, telling(withHome(n, 2, c.then), c.told...), true)
				}
			}
		}
	}
}

func TestNodeThatCanNotTellHome(t *testing.T) {
	for nodes := 1; nodes <= impl.MaxNodes; nodes++ {
		for page, home := range homesOfPages[nodes] {
			for _, c := range fromHomeCases(page) {
				for _, s := range append(jammedSenders(), lastRoom()...) {
					n := withFrame(withOut(fullNode(nodes-1, nodes), home, s), page, frameOf(c.state, true, 4, 3, 2, 1))
					room := len(s.Queue) < impl.MaxQueue && s.Base+len(s.Queue) < impl.MaxSeq
					if len(c.told) > 0 && !room {
						wantNodeUnheard(t, n, nodes, home, c.m)
						continue
					}
					then := withFrame(n, page, c.then)
					for _, m := range c.told {
						then = telling(then, impl.Told{To: home, Msg: m})
					}
					wantNodeHears(t, n, nodes, home, c.m, then, true)
				}
			}
		}
	}
}

// What was not heard is heard as if it came for the first time, once there is
// room to tell.
func TestNodeHearsWhenThereIsRoomAgain(t *testing.T) {
	n := withOut(withHome(newNode(2, 4), 2, homeOf(4, nobody, 0, 2, 3)), 3, senderOf(40, impl.MaxQueue))
	n, ok := impl.NodeHear(n, 4, 1, ownMsg)
	if ok {
		t.Fatal("heard", n)
	}
	n.Out[3] = impl.Acked(n.Out[3], 41)
	want := telling(withHome(n, 2, busyFor(homeOf(4, nobody), 1, true, 3)), goneTo(0), goneTo(2), goneTo(3))
	wantNodeHears(t, n, 4, 1, ownMsg, want, true)
}

func TestNodeHearsNothingThatIsWrong(t *testing.T) {
	for nodes := 1; nodes <= impl.MaxNodes; nodes++ {
		for _, n := range []impl.Node{newNode(0, nodes), fullNode(nodes-1, nodes)} {
			for _, m := range append(wrongForHome(), wrongHeard()...) {
				if impl.MsgOk(m) {
					continue
				}
				for from := range nodes {
					wantNodeUnheard(t, n, nodes, from, m)
				}
			}
			for _, m := range rightHeard() {
				for _, from := range append([]int{-2, nodes, nodes + 1, impl.MaxNodes, 256}, farNumbers...) {
					wantNodeUnheard(t, n, nodes, from, m)
				}
				for _, other := range append([]int{nodes - 1, nodes + 1}, noNodes...) {
					wantNodeUnheard(t, n, other, 0, m)
				}
			}
		}
	}
}

func TestWrongNodesHearNothing(t *testing.T) {
	for nodes := 1; nodes <= impl.MaxNodes; nodes++ {
		for _, n := range append(wrongNodes(nodes), impl.Node{}) {
			for _, kind := range wireKinds {
				for page := range impl.Pages {
					m := rightMsg(kind)
					m.Page = page
					wantNodeUnheard(t, n, nodes, homesOfPages[nodes][page], m)
				}
			}
			for _, far := range farNumbers {
				wantNodeUnheard(t, n, far, far, impl.Msg{Kind: far, Page: far})
			}
		}
	}
	for _, m := range rightHeard() {
		wantNodeUnheard(t, newNode(0, 0), 0, 0, m)
		wantNodeUnheard(t, newNode(0, impl.MaxNodes+1), impl.MaxNodes+1, 0, m)
	}
}

// someSender is any right one, many of them with little room.
func someSender(r *rand.Rand) impl.Sender {
	switch r.Intn(6) {
	case 0:
		return senderOf(r.Intn(100), impl.MaxQueue-r.Intn(3))
	case 1:
		return senderOf(impl.MaxSeq-impl.MaxQueue, impl.MaxQueue-r.Intn(3))
	case 2:
		return impl.Sender{Base: impl.MaxSeq - r.Intn(3)}
	}
	return senderOf(r.Intn(1000), r.Intn(5))
}

// someNode is any node that is NodeOk, most of them such as no run comes to.
func someNode(r *rand.Rand, nodes int) impl.Node {
	n := newNode(r.Intn(nodes), nodes)
	for page := range impl.Pages {
		n.Frames[page] = frameOf(r.Intn(3), r.Intn(2) == 0, r.Intn(impl.MaxWord+1), page, 0, impl.MaxWord)
		n.Homes[page] = someHome(r, nodes)
	}
	for who := range nodes {
		n.Out[who] = someSender(r)
		n.In[who].Got = r.Intn(impl.MaxSeq + 1)
	}
	return n
}

// someMsg is any message that is MsgOk.
func someMsg(r *rand.Rand) impl.Msg {
	m := rightMsg(wireKinds[r.Intn(len(wireKinds))])
	m.Page = r.Intn(impl.Pages)
	m.Own = hasOwn(m.Kind) && r.Intn(2) == 0
	return m
}

// queuedTo is n with all of it queued, and whether there was room.
func queuedTo(n impl.Node, told []impl.Told) (impl.Node, bool) {
	then := telling(n, told...)
	for _, s := range then.Out {
		if len(s.Queue) > impl.MaxQueue || s.Base+len(s.Queue) > impl.MaxSeq {
			return n, false
		}
	}
	return then, true
}

// nodeWordByWord is NodeHear as the document's words go, for right arguments.
func nodeWordByWord(n impl.Node, nodes, from int, m impl.Msg) (impl.Node, bool) {
	home := homesOfPages[nodes][m.Page]
	then := cloneOf(n)
	var told []impl.Told
	switch {
	case forHome(m.Kind) && n.Id == home:
		then.Homes[m.Page], told = wordByWord(n.Homes[m.Page], nodes, m.Page, from, m)
	case !forHome(m.Kind) && from == home:
		f, answer, ok := impl.FrameHear(n.Frames[m.Page], m)
		then.Frames[m.Page] = f
		if ok {
			told = append(told, impl.Told{To: home, Msg: answer})
		}
	}
	if then, ok := queuedTo(then, told); ok {
		return then, true
	}
	return n, false
}

func TestNodeHearsAsTheWordsGo(t *testing.T) {
	r := rand.New(rand.NewSource(5))
	count := map[string]int{}
	for range 20000 {
		nodes := r.Intn(impl.MaxNodes) + 1
		n, from, m := someNode(r, nodes), r.Intn(nodes), someMsg(r)
		if r.Intn(2) == 0 {
			n.Id, from = homesOfPages[nodes][m.Page], homesOfPages[nodes][m.Page]
		}
		want, ok := nodeWordByWord(n, nodes, from, m)
		wantNodeHears(t, n, nodes, from, m, want, ok)
		count[fmt.Sprint("kind ", m.Kind, " turned ", !sameNode(want, n), " heard ", ok)]++
	}
	for _, kind := range wireKinds {
		for _, how := range []string{" turned true heard true", " turned false heard true", " turned false heard false"} {
			if kind == impl.MgData && how == " turned false heard false" {
				continue
			}
			if name := fmt.Sprint("kind ", kind, how); count[name] < 20 {
				t.Error("too few of", name, count)
			}
		}
	}
}

// wantWordByWord is Want as the document's words go, for a right node.
func wantWordByWord(n impl.Node, nodes, page int, own bool) (impl.Node, bool) {
	if page < 0 || page >= impl.Pages {
		return n, false
	}
	kind, enough := impl.MgShare, impl.StRead
	if own {
		kind, enough = impl.MgOwn, impl.StWrite
	}
	f := n.Frames[page]
	then, ok := queuedTo(n, []impl.Told{{To: homesOfPages[nodes][page], Msg: impl.Msg{Kind: kind, Page: page}}})
	if !ok || f.Asked || f.State >= enough {
		return n, false
	}
	then.Frames[page].Asked = true
	return then, true
}

func TestWantAsTheWordsGo(t *testing.T) {
	r := rand.New(rand.NewSource(6))
	for range 10000 {
		nodes := r.Intn(impl.MaxNodes) + 1
		n, page, own := someNode(r, nodes), r.Intn(impl.Pages), r.Intn(2) == 0
		want, ok := wantWordByWord(n, nodes, page, own)
		wantWant(t, n, nodes, page, own, want, ok)
	}
}

// A node that is right stays so over whatever is told to it and asked of it.
func TestARightNodeStaysRight(t *testing.T) {
	refused := 0
	for seed := range 60 {
		r := rand.New(rand.NewSource(int64(seed)))
		nodes := seed%impl.MaxNodes + 1
		n := newNode(r.Intn(nodes), nodes)
		if seed >= 30 {
			n = someNode(r, nodes)
		}
		for range 400 {
			was := cloneOf(n)
			var ok bool
			switch r.Intn(8) {
			case 0:
				n, ok = impl.Want(n, nodes, r.Intn(impl.Pages), r.Intn(2) == 0)
			case 1:
				who := r.Intn(nodes)
				n.Out[who] = impl.Acked(n.Out[who], n.Out[who].Base+r.Intn(3))
				ok = true
			default:
				from := r.Intn(nodes)
				n, ok = impl.NodeHear(n, nodes, from, someMsg(r))
			}
			if !impl.NodeOk(n, nodes) {
				t.Fatalf("no longer NodeOk: %v, before %v", n, was)
			}
			if !ok {
				refused++
				if !sameNode(n, was) {
					t.Fatalf("refused, but turned: %v, before %v", n, was)
				}
			}
			if n.Id != was.Id || !slices.Equal(n.In, was.In) {
				t.Fatal("Id or In turned", n, was)
			}
		}
	}
	if refused < 500 {
		t.Error("too little was refused to tell anything:", refused)
	}
}

// A nodesModel is nodes whose lines are carried as they are queued, one
// message at a time; so few are asked for at once that each can be told.
type nodesModel struct {
	t     *testing.T
	nodes []impl.Node
	words [impl.Pages][impl.Words]int
	given int
}

func newNodesModel(t *testing.T, count int) *nodesModel {
	p := &nodesModel{t: t}
	for id := range count {
		n, _ := impl.NodeNew(id, count)
		p.nodes = append(p.nodes, n)
	}
	return p
}

// carry lets to hear the first that from has queued for it.
func (p *nodesModel) carry(from, to int) {
	s := p.nodes[from].Out[to]
	if len(s.Queue) == 0 {
		return
	}
	n, ok := impl.NodeHear(p.nodes[to], len(p.nodes), from, s.Queue[0])
	p.nodes[to] = n
	if !ok {
		p.t.Fatal("node", to, "can not hear", s.Queue[0], "of node", from, n)
	}
	p.given++
	out := p.nodes[from].Out
	out[to] = impl.Acked(out[to], out[to].Base+1)
}

func (p *nodesModel) write(who, page, i, w int) {
	f, ok := impl.FrameWrite(p.nodes[who].Frames[page], i, w)
	if ok {
		p.nodes[who].Frames[page] = f
		p.words[page][i] = w
	}
}

func (p *nodesModel) look() {
	for id, n := range p.nodes {
		if n.Id != id || !impl.NodeOk(n, len(p.nodes)) {
			p.t.Fatal("node", id, "is no longer right:", n)
		}
	}
	for page := range impl.Pages {
		writers, readers := 0, 0
		for _, n := range p.nodes {
			f := n.Frames[page]
			if f.State == impl.StWrite {
				writers++
			} else if f.State == impl.StRead {
				readers++
			}
			if f.State != impl.StNone && !slices.Equal(f.List, p.words[page][:]) {
				p.t.Fatal("page", page, "is", f, "where its words are", p.words[page])
			}
		}
		if writers > 1 || writers == 1 && readers > 0 {
			p.t.Fatal("page", page, "has", writers, "who write and", readers, "who read")
		}
	}
}

func (p *nodesModel) goOn(r *rand.Rand) {
	who, page := r.Intn(len(p.nodes)), r.Intn(impl.Pages)
	switch r.Intn(4) {
	case 0:
		p.nodes[who], _ = impl.Want(p.nodes[who], len(p.nodes), page, r.Intn(2) == 0)
	case 1:
		p.write(who, page, r.Intn(impl.Words), r.Intn(impl.MaxWord+1))
	default:
		p.carry(who, r.Intn(len(p.nodes)))
	}
}

func (p *nodesModel) finish() {
	for range 500 {
		for from := range p.nodes {
			for to := range p.nodes {
				p.carry(from, to)
			}
		}
	}
	p.look()
	for _, n := range p.nodes {
		for _, s := range n.Out {
			if len(s.Queue) > 0 {
				p.t.Fatal("still queued", s)
			}
		}
		for page, f := range n.Frames {
			if f.Asked {
				p.t.Fatal("node", n.Id, "was not given page", page)
			}
		}
	}
}

func TestNodesGoOnTogether(t *testing.T) {
	for count := 1; count <= impl.MaxNodes; count++ {
		given := 0
		for seed := range 12 {
			r := rand.New(rand.NewSource(int64(seed)))
			p := newNodesModel(t, count)
			for range 1200 {
				p.goOn(r)
				p.look()
			}
			p.finish()
			given += p.given
		}
		if count > 1 && given < 2000 {
			t.Error("too little was given to tell anything:", given)
		}
	}
}

// A nodeAnd is what NodeHear is given.
type nodeAnd struct {
	N impl.Node
	M impl.Msg
}

func nodesOfAllSorts(nodes int) []impl.Node {
	list := append(rightNodes(nodes), wrongNodes(nodes)...)
	r := rand.New(rand.NewSource(7))
	for range 20 {
		list = append(list, someNode(r, nodes))
	}
	return list
}

func TestNodeAnswersAreNewMemory(t *testing.T) {
	msgs := append(rightHeard(), wrongForHome()[:3]...)
	for nodes := 1; nodes <= impl.MaxNodes; nodes++ {
		for id := range nodes {
			n, _ := impl.NodeNew(id, nodes)
			again, _ := impl.NodeNew(id, nodes)
			wantNew(t, n, again)
		}
		for i, n := range nodesOfAllSorts(nodes) {
			n = roomy(n)
			for _, own := range []bool{false, true} {
				got, _ := impl.Want(n, nodes, i%impl.Pages, own)
				wantNew(t, got, n)
			}
			g := nodeAnd{n, roomy(msgs[i%len(msgs)])}
			g.M.Page = i / nodes % impl.Pages
			got, _ := impl.NodeHear(n, nodes, i%nodes, g.M)
			wantNew(t, got, g)
		}
	}
}

// Where many are told the same words at once, each has a list of its own; and
// a node whose lists are one list gives an answer in which they are not.
func TestNodeListsAreOneEach(t *testing.T) {
	for _, c := range nodeHeardCases {
		g := nodeAnd{withHome(fullNode(2, 4), 2, c.home), c.m}
		got, ok := impl.NodeHear(g.N, 4, c.from, g.M)
		if !ok {
			t.Fatal(c.name)
		}
		wantNew(t, got, g)
	}
	words := []int{1, 2, 3, 4}
	m := impl.Msg{Kind: impl.MgBack, Page: 2, List: words}
	n := newNode(2, 4)
	for page := range impl.Pages {
		n.Frames[page] = impl.Frame{State: impl.StWrite, List: words}
		n.Homes[page] = after(busyFor(homeOf(4, 0), 1, false, 0, share(3)), words)
	}
	for who := range n.Out {
		n.Out[who].Queue = []impl.Msg{m, m}
	}
	for _, heard := range []impl.Msg{m, ackMsg, {Kind: impl.MgFetch, Page: 2}, {Kind: impl.MgData, Page: 2, List: words}, {}} {
		for from := range 4 {
			got, _ := impl.NodeHear(n, 4, from, heard)
			wantNew(t, got, nodeAnd{n, heard})
		}
	}
	got, _ := impl.Want(n, 4, 2, true)
	wantNew(t, got, n)
}

func TestNodesWriteIntoNoArgument(t *testing.T) {
	msgs := append(rightHeard(), wrongForHome()[:3]...)
	for nodes := 1; nodes <= impl.MaxNodes; nodes++ {
		for i, n := range nodesOfAllSorts(nodes) {
			g := roomy(nodeAnd{n, msgs[i%len(msgs)]})
			g.M.Page = i / nodes % impl.Pages
			before := whole(g)
			impl.NodeOk(g.N, nodes)
			impl.Want(g.N, nodes, i%impl.Pages, true)
			impl.Want(g.N, nodes, i%impl.Pages, false)
			for from := range nodes {
				impl.NodeHear(g.N, nodes, from, g.M)
			}
			wantUnwritten(t, g, before)
		}
	}
	for _, c := range nodeHeardCases {
		g := roomy(nodeAnd{withHome(fullNode(2, 4), 2, c.home), c.m})
		before := whole(g)
		impl.NodeHear(g.N, 4, c.from, g.M)
		wantUnwritten(t, g, before)
		g = roomy(nodeAnd{withOut(g.N, 3, senderOf(0, impl.MaxQueue)), c.m})
		before = whole(g)
		impl.NodeHear(g.N, 4, c.from, g.M)
		wantUnwritten(t, g, before)
	}
}

// What is done to a node behind a call is not seen in what it answered.
func TestTwoHearingsOfOneNode(t *testing.T) {
	n := fullNode(2, 4)
	n.Homes[2] = homeOf(4, nobody, 0, 3)
	kept := cloneOf(n)
	one, _ := impl.NodeHear(n, 4, 1, shareMsg)
	two, _ := impl.NodeHear(n, 4, 1, ownMsg)
	three, _ := impl.NodeHear(n, 4, 4, ownMsg)
	n.Homes[2].List[0]++
	n.Frames[1].List[0]++
	n.Out[1].Queue[0].List[0]++
	clear(n.Out[3].Queue)
	n.In[0].Got++
	if !sameNode(one, telling(withHome(kept, 2, homeOf(4, nobody, 0, 1, 3)), dataTo(1, false, homeWords))) {
		t.Error("share", one)
	}
	if !sameNode(two, telling(withHome(kept, 2, busyFor(homeOf(4, nobody), 1, true, 2)), goneTo(0), goneTo(3))) {
		t.Error("own", two)
	}
	if !sameNode(three, kept) {
		t.Error("nobody", three)
	}
}
