package tests

import (
	"math/rand"
	"slices"
	"testing"

	"loop.example/g00281/impl"
)

const nobody = -1

func sameHome(a, b impl.Home) bool {
	return slices.Equal(a.List, b.List) && a.Owner == b.Owner && slices.Equal(a.Readers, b.Readers) &&
		a.Busy == b.Busy && a.Now == b.Now && a.Acks == b.Acks && slices.Equal(a.Queue, b.Queue)
}

func sameTold(a, b impl.Told) bool { return a.To == b.To && sameMsg(a.Msg, b.Msg) }

// homeOf is a right home of so many nodes at which nothing is under way.
func homeOf(nodes int, owner int, readers ...int) impl.Home {
	h := impl.Home{List: []int{11, 0, impl.MaxWord, 44}, Owner: owner, Readers: make([]bool, nodes)}
	for _, who := range readers {
		h.Readers[who] = true
	}
	return h
}

// busyFor is h with something under way, for whom and with so many to come.
func busyFor(h impl.Home, who int, own bool, acks int, queue ...impl.Wait) impl.Home {
	h.Busy, h.Now, h.Acks, h.Queue = true, impl.Wait{Who: who, Own: own}, acks, queue
	return h
}

func share(who int) impl.Wait { return impl.Wait{Who: who} }

func own(who int) impl.Wait { return impl.Wait{Who: who, Own: true} }

// waits is a queue of that many, of all nodes in turn.
func waits(count int, nodes int) []impl.Wait {
	list := make([]impl.Wait, count)
	for i := range list {
		list[i] = impl.Wait{Who: i % nodes, Own: i%3 == 0}
	}
	return list
}

var noNodes = append([]int{-impl.MaxNodes, 0, impl.MaxNodes + 1, 2 * impl.MaxNodes, 256}, farNumbers...)

// rightHomes are homes of that many nodes, idle and busy, some of them such as
// no run comes to.
func rightHomes(nodes int) []impl.Home {
	last := nodes - 1
	idle := []impl.Home{impl.HomeNew(nodes), homeOf(nodes, nobody), homeOf(nodes, nobody, 0), homeOf(nodes, nobody, last), homeOf(nodes, 0), homeOf(nodes, last), homeOf(nodes, last, 0, last)}
	all := homeOf(nodes, nobody)
	for who := range nodes {
		all.Readers[who] = true
	}
	idle = append(idle, all)
	var list []impl.Home
	for _, h := range idle {
		for _, queue := range [][]impl.Wait{nil, {}, {share(last)}, {own(last), share(0), own(0)}, waits(impl.MaxWait-1, nodes), waits(impl.MaxWait, nodes)} {
			for _, acks := range []int{0, 1, nodes} {
				h.Queue, h.Acks = queue, acks
				list = append(list, h, busyFor(h, 0, false, acks, queue...), busyFor(h, last, true, acks, queue...), busyFor(h, last, false, acks, queue...))
			}
		}
	}
	return list
}

// wrongHomes are such that are not HomeOk of that many nodes, each for one
// reason alone.
func wrongHomes(nodes int) []impl.Home {
	var list []impl.Home
	with := func(turn func(h *impl.Home)) {
		for _, h := range []impl.Home{homeOf(nodes, nobody, 0), busyFor(homeOf(nodes, 0), nodes-1, true, 0, own(0), share(0))} {
			h = whole(h)
			turn(&h)
			list = append(list, h)
		}
	}
	for _, size := range []int{0, 1, impl.Words - 1, impl.Words + 1, 2 * impl.Words} {
		with(func(h *impl.Home) { h.List = make([]int, size) })
	}
	for place := range impl.Words {
		for _, w := range noWordAtAll {
			with(func(h *impl.Home) { h.List[place] = w })
		}
	}
	for _, far := range append([]int{-2, nodes, nodes + 1}, farNumbers[1:]...) {
		with(func(h *impl.Home) { h.Owner = far })
	}
	for _, size := range []int{0, nodes - 1, nodes + 1, 2 * nodes, 300} {
		if size != nodes {
			with(func(h *impl.Home) { h.Readers = make([]bool, size) })
		}
	}
	for _, far := range append([]int{nodes, nodes + 1}, farNumbers...) {
		with(func(h *impl.Home) { h.Now.Who = far })
		with(func(h *impl.Home) { h.Queue = []impl.Wait{share(far)} })
		with(func(h *impl.Home) { h.Queue = []impl.Wait{own(0), share(0), own(far)} })
		with(func(h *impl.Home) { h.Queue = append([]impl.Wait{own(far)}, waits(impl.MaxWait-1, nodes)...) })
	}
	for _, far := range append([]int{nodes + 1, nodes + 2}, farNumbers...) {
		with(func(h *impl.Home) { h.Acks = far })
	}
	for _, size := range []int{impl.MaxWait + 1, 2 * impl.MaxWait} {
		with(func(h *impl.Home) { h.Queue = waits(size, nodes) })
	}
	return list
}

func TestHomeConstants(t *testing.T) {
	if impl.MaxWait != 12 {
		t.Error("MaxWait", impl.MaxWait)
	}
}

func TestHomeOk(t *testing.T) {
	for nodes := 1; nodes <= impl.MaxNodes; nodes++ {
		for _, h := range rightHomes(nodes) {
			if !impl.HomeOk(h, nodes) {
				t.Errorf("HomeOk(%v, %d) is false", h, nodes)
			}
		}
		for _, h := range wrongHomes(nodes) {
			if impl.HomeOk(h, nodes) {
				t.Errorf("HomeOk(%v, %d) is true", h, nodes)
			}
		}
	}
}

// Here a home has as many Readers as it is said to have nodes, so that it is
// the number of nodes alone that is wrong.
func TestHomeOkByNodes(t *testing.T) {
	for readers := range 2 * impl.MaxNodes {
		h := homeOf(readers, nobody)
		for nodes := -1; nodes <= 2*impl.MaxNodes; nodes++ {
			want := nodes == readers && nodes >= 1 && nodes <= impl.MaxNodes
			if impl.HomeOk(h, nodes) != want {
				t.Errorf("HomeOk of %d readers and %d nodes is not %v", readers, nodes, want)
			}
		}
		for _, nodes := range farNumbers {
			if impl.HomeOk(h, nodes) {
				t.Errorf("HomeOk of %d readers and %d nodes is true", readers, nodes)
			}
		}
	}
	if impl.HomeOk(impl.Home{}, 0) || impl.HomeOk(impl.Home{}, 1) {
		t.Error("a zero home is HomeOk")
	}
}

func TestHomeOkEdges(t *testing.T) {
	for nodes := 1; nodes <= impl.MaxNodes; nodes++ {
		for n := -3; n <= nodes+3; n++ {
			h := homeOf(nodes, n)
			if want := n >= -1 && n <= nodes-1; impl.HomeOk(h, nodes) != want {
				t.Errorf("HomeOk of %d nodes and Owner %d is not %v", nodes, n, want)
			}
			h = homeOf(nodes, nobody)
			h.Acks = n
			if want := n >= 0 && n <= nodes; impl.HomeOk(h, nodes) != want {
				t.Errorf("HomeOk of %d nodes and %d Acks is not %v", nodes, n, want)
			}
			node := n >= 0 && n <= nodes-1
			for _, busy := range []bool{false, true} {
				h = homeOf(nodes, nobody)
				h.Busy, h.Now.Who = busy, n
				if impl.HomeOk(h, nodes) != node {
					t.Errorf("HomeOk of %d nodes and Now of %d, Busy %v, is not %v", nodes, n, busy, node)
				}
			}
			h = homeOf(nodes, nobody)
			h.Queue = []impl.Wait{own(n)}
			if impl.HomeOk(h, nodes) != node {
				t.Errorf("HomeOk of %d nodes where %d waits is not %v", nodes, n, node)
			}
		}
		for count := range impl.MaxWait + 4 {
			h := homeOf(nodes, nobody)
			h.Queue = waits(count, nodes)
			if want := count <= impl.MaxWait; impl.HomeOk(h, nodes) != want {
				t.Errorf("HomeOk of %d nodes where %d wait is not %v", nodes, count, want)
			}
		}
	}
	for _, w := range []int{-1, 0, 1, impl.MaxWord, impl.MaxWord + 1} {
		h := homeOf(2, nobody)
		h.List[3] = w
		if want := w >= 0 && w <= impl.MaxWord; impl.HomeOk(h, 2) != want {
			t.Errorf("HomeOk of the word %d is not %v", w, want)
		}
	}
}

func TestHomeNew(t *testing.T) {
	for nodes := 1; nodes <= impl.MaxNodes; nodes++ {
		want := impl.Home{List: []int{0, 0, 0, 0}, Owner: -1, Readers: make([]bool, nodes)}
		if got := impl.HomeNew(nodes); !sameHome(got, want) || !impl.HomeOk(got, nodes) {
			t.Errorf("HomeNew(%d) is %v, not %v", nodes, got, want)
		}
	}
	for _, nodes := range noNodes {
		if got := impl.HomeNew(nodes); !sameHome(got, impl.Home{}) {
			t.Errorf("HomeNew(%d) is %v, not zero", nodes, got)
		}
	}
}

func wantHomeHears(t *testing.T, h impl.Home, nodes int, page int, from int, m impl.Msg, want impl.Home, wantTold []impl.Told) {
	t.Helper()
	got, told := impl.HomeHear(h, nodes, page, from, m)
	if !sameHome(got, want) || !slices.EqualFunc(told, wantTold, sameTold) {
		t.Errorf("HomeHear(%v, %d, %d, %d, %v) is\n%v, %v, not\n%v, %v", h, nodes, page, from, m, got, told, want, wantTold)
	}
	if impl.HomeOk(h, nodes) != impl.HomeOk(got, nodes) {
		t.Errorf("HomeHear(%v, %d, %d, %d, %v) is %v: HomeOk turned", h, nodes, page, from, m, got)
	}
	for _, told := range told {
		if !impl.MsgOk(told.Msg) || told.To < 0 || told.To >= nodes {
			t.Errorf("HomeHear(%v, %d, %d, %d, %v) tells %v, which nobody can hear", h, nodes, page, from, m, told)
		}
	}
}

func wantHomeUnturned(t *testing.T, h impl.Home, nodes int, page int, from int, m impl.Msg) {
	t.Helper()
	wantHomeHears(t, h, nodes, page, from, m, h, nil)
}

// A heard is a home of four nodes, what it hears about page 2, and what is
// then, all of it written out by hand.
type heard struct {
	name string
	home impl.Home
	from int
	m    impl.Msg
	then impl.Home
	told []impl.Told
}

func wantAllHeard(t *testing.T, cases []heard) {
	t.Helper()
	for _, c := range cases {
		t.Run(c.name, func(t *testing.T) {
			wantHomeHears(t, c.home, 4, 2, c.from, c.m, c.then, c.told)
		})
	}
}

var (
	homeWords = []int{11, 0, impl.MaxWord, 44}
	backWords = []int{impl.MaxWord, 6, 0, 8}
)

var (
	shareMsg = impl.Msg{Kind: impl.MgShare, Page: 2}
	ownMsg   = impl.Msg{Kind: impl.MgOwn, Page: 2}
	ackMsg   = impl.Msg{Kind: impl.MgAck, Page: 2}
	backMsg  = impl.Msg{Kind: impl.MgBack, Page: 2, List: backWords}
)

func dataTo(to int, own bool, words []int) impl.Told {
	return impl.Told{To: to, Msg: impl.Msg{Kind: impl.MgData, Page: 2, Own: own, List: words}}
}

func goneTo(to int) impl.Told {
	return impl.Told{To: to, Msg: impl.Msg{Kind: impl.MgGone, Page: 2}}
}

func fetchFrom(to int, own bool) impl.Told {
	return impl.Told{To: to, Msg: impl.Msg{Kind: impl.MgFetch, Page: 2, Own: own}}
}

// after is h with those words, as MgBack leaves them.
func after(h impl.Home, words []int) impl.Home {
	h.List = words
	return h
}

func queued(h impl.Home, queue ...impl.Wait) impl.Home {
	h.Queue = queue
	return h
}

func TestHomeIsAsked(t *testing.T) {
	wantAllHeard(t, []heard{
		{"share of nobody", homeOf(4, nobody), 3, shareMsg, homeOf(4, nobody, 3), []impl.Told{dataTo(3, false, homeWords)}},
		{"own of nobody", homeOf(4, nobody), 3, ownMsg, homeOf(4, 3), []impl.Told{dataTo(3, true, homeWords)}},
		{"share of others", homeOf(4, nobody, 0, 3), 1, shareMsg, homeOf(4, nobody, 0, 1, 3), []impl.Told{dataTo(1, false, homeWords)}},
		{"share of a reader", homeOf(4, nobody, 0, 3), 3, shareMsg, homeOf(4, nobody, 0, 3), []impl.Told{dataTo(3, false, homeWords)}},
		{"own of others", homeOf(4, nobody, 0, 3), 1, ownMsg, busyFor(homeOf(4, nobody), 1, true, 2), []impl.Told{goneTo(0), goneTo(3)}},
		{"own of a reader among others", homeOf(4, nobody, 0, 1, 2, 3), 2, ownMsg, busyFor(homeOf(4, nobody, 2), 2, true, 3), []impl.Told{goneTo(0), goneTo(1), goneTo(3)}},
		{"own of all others", homeOf(4, nobody, 1, 2, 3), 0, ownMsg, busyFor(homeOf(4, nobody), 0, true, 3), []impl.Told{goneTo(1), goneTo(2), goneTo(3)}},
		{"own of the only reader", homeOf(4, nobody, 1), 1, ownMsg, homeOf(4, 1), []impl.Told{dataTo(1, true, homeWords)}},
		{"share of an owner", homeOf(4, 3), 0, shareMsg, busyFor(homeOf(4, 3), 0, false, 0), []impl.Told{fetchFrom(3, false)}},
		{"own of an owner", homeOf(4, 0), 2, ownMsg, busyFor(homeOf(4, 0), 2, true, 0), []impl.Told{fetchFrom(0, true)}},
		{"own by the owner", homeOf(4, 2), 2, ownMsg, busyFor(homeOf(4, 2), 2, true, 0), []impl.Told{fetchFrom(2, true)}},
		{"share by the owner", homeOf(4, 2), 2, shareMsg, busyFor(homeOf(4, 2), 2, false, 0), []impl.Told{fetchFrom(2, false)}},
		// An owner is asked ahead of readers, and these stay.
		{"own of an owner and readers", homeOf(4, 2, 0, 3), 1, ownMsg, busyFor(homeOf(4, 2, 0, 3), 1, true, 0), []impl.Told{fetchFrom(2, true)}},
	})
}

func TestHomeIsAskedWhileBusy(t *testing.T) {
	full := waits(impl.MaxWait, 4)
	most := waits(impl.MaxWait-1, 4)
	wantAllHeard(t, []heard{
		{"share waits", busyFor(homeOf(4, nobody), 1, true, 2), 3, shareMsg, busyFor(homeOf(4, nobody), 1, true, 2, share(3)), nil},
		{"own waits", busyFor(homeOf(4, 2), 1, false, 0, share(3)), 0, ownMsg, busyFor(homeOf(4, 2), 1, false, 0, share(3), own(0)), nil},
		{"who is under way waits again", busyFor(homeOf(4, 2), 1, false, 0, own(1)), 1, ownMsg, busyFor(homeOf(4, 2), 1, false, 0, own(1), own(1)), nil},
		{"the last one that can wait", busyFor(homeOf(4, 2), 1, false, 0, most...), 3, ownMsg, busyFor(homeOf(4, 2), 1, false, 0, append(slices.Clone(most), own(3))...), nil},
		{"share of a full queue", busyFor(homeOf(4, 2), 1, false, 0, full...), 3, shareMsg, busyFor(homeOf(4, 2), 1, false, 0, full...), nil},
		{"own of a full queue", busyFor(homeOf(4, nobody), 1, true, 1, full...), 3, ownMsg, busyFor(homeOf(4, nobody), 1, true, 1, full...), nil},
		{"share of an idle home's full queue", queued(homeOf(4, nobody), full...), 3, shareMsg, queued(homeOf(4, nobody), full...), nil},
		{"own of an idle home's full queue", queued(homeOf(4, 1), full...), 3, ownMsg, queued(homeOf(4, 1), full...), nil},
	})
}

func TestHomeIsAcked(t *testing.T) {
	idle := homeOf(4, nobody, 1)
	idle.Acks = 2
	wantAllHeard(t, []heard{
		{"not the last one", busyFor(homeOf(4, nobody), 1, true, 3, own(2)), 0, ackMsg, busyFor(homeOf(4, nobody), 1, true, 2, own(2)), nil},
		{"one but the last one", busyFor(homeOf(4, nobody), 1, true, 2), 0, ackMsg, busyFor(homeOf(4, nobody), 1, true, 1), nil},
		{"the last one", busyFor(homeOf(4, nobody), 1, true, 1), 3, ackMsg, homeOf(4, 1), []impl.Told{dataTo(1, true, homeWords)}},
		{"the last one, for a reader", busyFor(homeOf(4, nobody, 1), 1, true, 1), 3, ackMsg, homeOf(4, 1), []impl.Told{dataTo(1, true, homeWords)}},
		{"the last one, not to own", busyFor(homeOf(4, nobody, 0), 1, false, 1), 3, ackMsg, homeOf(4, nobody, 0, 1), []impl.Told{dataTo(1, false, homeWords)}},
		{"the last one, where there is an owner", busyFor(homeOf(4, 2, 0), 1, true, 1), 3, ackMsg, homeOf(4, 1, 0), []impl.Told{dataTo(1, true, homeWords)}},
		{"none is to come", busyFor(homeOf(4, 2), 1, true, 0, own(3)), 2, ackMsg, busyFor(homeOf(4, 2), 1, true, 0, own(3)), nil},
		{"nothing is under way", homeOf(4, nobody, 1), 1, ackMsg, homeOf(4, nobody, 1), nil},
		{"nothing is under way, some are to come", idle, 1, ackMsg, idle, nil},
		{"nothing is under way, some wait", queued(homeOf(4, nobody), own(1)), 1, ackMsg, queued(homeOf(4, nobody), own(1)), nil},
		{"who waits is next", busyFor(homeOf(4, nobody), 1, true, 1, own(2), share(3)), 0, ackMsg, busyFor(homeOf(4, 1), 2, true, 0, share(3)),
			[]impl.Told{dataTo(1, true, homeWords), fetchFrom(1, true)}},
		{"who waits to read is next", busyFor(homeOf(4, nobody), 1, true, 1, share(0)), 0, ackMsg, busyFor(homeOf(4, 1), 0, false, 0),
			[]impl.Told{dataTo(1, true, homeWords), fetchFrom(1, false)}},
	})
}

func TestHomeHasItBack(t *testing.T) {
	idle := queued(homeOf(4, 2), own(1))
	wantAllHeard(t, []heard{
		{"to read", busyFor(homeOf(4, 2), 1, false, 0), 2, backMsg, after(homeOf(4, nobody, 1, 2), backWords), []impl.Told{dataTo(1, false, backWords)}},
		{"to own", busyFor(homeOf(4, 2), 1, true, 0), 2, backMsg, after(homeOf(4, 1), backWords), []impl.Told{dataTo(1, true, backWords)}},
		{"to own, of a reader", busyFor(homeOf(4, 2, 0, 1), 1, true, 0), 2, backMsg, after(homeOf(4, 1, 0), backWords), []impl.Told{dataTo(1, true, backWords)}},
		{"to read, for the owner", busyFor(homeOf(4, 2), 2, false, 0), 2, backMsg, after(homeOf(4, nobody, 2), backWords), []impl.Told{dataTo(2, false, backWords)}},
		{"to own, for the owner", busyFor(homeOf(4, 2), 2, true, 0), 2, backMsg, after(homeOf(4, 2), backWords), []impl.Told{dataTo(2, true, backWords)}},
		{"of the first node", busyFor(homeOf(4, 0), 3, false, 0), 0, backMsg, after(homeOf(4, nobody, 0, 3), backWords), []impl.Told{dataTo(3, false, backWords)}},
		{"of another one", busyFor(homeOf(4, 2), 1, false, 0), 1, backMsg, busyFor(homeOf(4, 2), 1, false, 0), nil},
		{"of nobody's", busyFor(homeOf(4, nobody), 1, false, 0), 1, backMsg, busyFor(homeOf(4, nobody), 1, false, 0), nil},
		{"some acks are to come", busyFor(homeOf(4, 2), 1, true, 1, own(3)), 2, backMsg, busyFor(homeOf(4, 2), 1, true, 1, own(3)), nil},
		{"all acks are to come", busyFor(homeOf(4, 2), 1, true, 4), 2, backMsg, busyFor(homeOf(4, 2), 1, true, 4), nil},
		{"nothing is under way", homeOf(4, 2), 2, backMsg, homeOf(4, 2), nil},
		{"nothing is under way, some wait", idle, 2, backMsg, idle, nil},
	})
}

func TestHomeGivesSeveralInOneCall(t *testing.T) {
	wantAllHeard(t, []heard{
		{"readers in turn", busyFor(homeOf(4, 0), 1, false, 0, share(3), share(2), share(3)), 0, backMsg, after(homeOf(4, nobody, 0, 1, 2, 3), backWords),
			[]impl.Told{dataTo(1, false, backWords), dataTo(3, false, backWords), dataTo(2, false, backWords), dataTo(3, false, backWords)}},
		{"readers, then one to own", busyFor(homeOf(4, 0), 1, false, 0, share(3), own(3), share(2)), 0, backMsg,
			after(busyFor(homeOf(4, nobody, 3), 3, true, 2, share(2)), backWords),
			[]impl.Told{dataTo(1, false, backWords), dataTo(3, false, backWords), goneTo(0), goneTo(1)}},
		{"own behind own", busyFor(homeOf(4, 0), 1, true, 0, own(2), own(3)), 0, backMsg, after(busyFor(homeOf(4, 1), 2, true, 0, own(3)), backWords),
			[]impl.Told{dataTo(1, true, backWords), fetchFrom(1, true)}},
		{"an idle home with some who wait", queued(homeOf(4, nobody), share(2), own(2)), 0, shareMsg, busyFor(homeOf(4, 2), 0, false, 0),
			[]impl.Told{dataTo(2, false, homeWords), dataTo(2, true, homeWords), fetchFrom(2, false)}},
		{"an idle home with all but one who wait", queued(homeOf(4, 1, 0), waits(impl.MaxWait-1, 4)...), 2, shareMsg,
			busyFor(homeOf(4, 1, 0), 0, true, 0, append(waits(impl.MaxWait-1, 4)[1:], share(2))...), []impl.Told{fetchFrom(1, true)}},
	})
}

// All who wait read: as many as there can be are given in one call, in turn.
func TestHomeGivesAllThatCanWait(t *testing.T) {
	h := homeOf(4, nobody)
	var want []impl.Told
	for i := range impl.MaxWait {
		h.Queue = append(h.Queue, share((i+1)%4))
		want = append(want, dataTo((i+1)%4, false, homeWords))
	}
	h.Queue = h.Queue[:impl.MaxWait-1]
	wantHomeHears(t, h, 4, 2, impl.MaxWait%4, shareMsg, homeOf(4, nobody, 0, 1, 2, 3), want)
}

// Acks that stand where nothing is under way are turned by none but one who is
// to own where nobody else does.
func TestHomeWithAcksLeftOver(t *testing.T) {
	left := func(h impl.Home) impl.Home {
		h.Acks = 3
		return h
	}
	wantAllHeard(t, []heard{
		{"share", left(homeOf(4, nobody)), 1, shareMsg, left(homeOf(4, nobody, 1)), []impl.Told{dataTo(1, false, homeWords)}},
		{"own", left(homeOf(4, nobody)), 1, ownMsg, homeOf(4, 1), []impl.Told{dataTo(1, true, homeWords)}},
		{"own of a reader", left(homeOf(4, nobody, 2)), 1, ownMsg, busyFor(homeOf(4, nobody), 1, true, 1), []impl.Told{goneTo(2)}},
		{"share of an owner", left(homeOf(4, 2)), 1, shareMsg, busyFor(homeOf(4, 2), 1, false, 3), []impl.Told{fetchFrom(2, false)}},
	})
}

func TestHomeOfOneNode(t *testing.T) {
	one := []impl.Told{dataTo(0, true, homeWords)}
	wantHomeHears(t, homeOf(1, nobody), 1, 2, 0, ownMsg, homeOf(1, 0), one)
	wantHomeHears(t, homeOf(1, nobody, 0), 1, 2, 0, ownMsg, homeOf(1, 0), one)
	wantHomeHears(t, homeOf(1, nobody), 1, 2, 0, shareMsg, homeOf(1, nobody, 0), []impl.Told{dataTo(0, false, homeWords)})
}

func TestHomeTellsOfItsPage(t *testing.T) {
	for page := range impl.Pages {
		for _, h := range []impl.Home{homeOf(4, nobody), homeOf(4, 2), homeOf(4, nobody, 0, 1, 3), busyFor(homeOf(4, nobody), 0, true, 1, own(1)), busyFor(homeOf(4, 1), 0, false, 0, own(2))} {
			for _, m := range []impl.Msg{ownMsg, shareMsg, ackMsg, backMsg} {
				m.Page = page
				_, told := impl.HomeHear(h, 4, page, 1, m)
				for _, told := range told {
					if told.Msg.Page != page {
						t.Errorf("HomeHear(%v) of page %d tells %v", h, page, told)
					}
				}
			}
		}
	}
}

func TestHomeHearsNothingOfOtherKinds(t *testing.T) {
	for nodes := 1; nodes <= impl.MaxNodes; nodes++ {
		for _, h := range rightHomes(nodes) {
			for _, m := range rightHeard() {
				if !forHome(m.Kind) {
					wantHomeUnturned(t, h, nodes, 1, 0, m)
				}
			}
		}
	}
}

// wrongForHome are messages that are not MsgOk, most of them of a kind that a
// home hears.
func wrongForHome() []impl.Msg {
	list := slices.Clone(wrongMsgs)
	for _, kind := range []int{impl.MgShare, impl.MgOwn, impl.MgAck, impl.MgBack} {
		for _, page := range append([]int{impl.Pages, impl.MaxSeq}, farNumbers...) {
			m := rightMsg(kind)
			m.Page = page
			list = append(list, m)
		}
		m := rightMsg(kind)
		m.Own = true
		list = append(list, m)
		for size := range impl.Words + 2 {
			if hasList(kind) != (size == impl.Words) && (hasList(kind) || size > 0) {
				list = append(list, impl.Msg{Kind: kind, Page: 1, List: make([]int, size)})
			}
		}
	}
	for place := range impl.Words {
		for _, w := range noWordAtAll {
			m := rightMsg(impl.MgBack)
			m.List = slices.Clone(m.List)
			m.List[place] = w
			list = append(list, m)
		}
	}
	for _, kind := range append([]int{0, impl.MgBack + 1}, farNumbers...) {
		list = append(list, impl.Msg{Kind: kind, Page: 1})
	}
	return list
}

// turnedBy are homes of two nodes that right messages of those kinds from node
// 1 about page 1 do turn, so that a wrong thing is seen.
func turnedBy() []impl.Home {
	return []impl.Home{homeOf(2, nobody), homeOf(2, 1), homeOf(2, nobody, 0, 1), busyFor(homeOf(2, nobody), 0, true, 1), busyFor(homeOf(2, 1), 0, true, 0), busyFor(homeOf(2, 1), 0, false, 0, own(1))}
}

func TestHomesThatTurn(t *testing.T) {
	turned := map[int]int{}
	for _, h := range turnedBy() {
		for _, m := range rightHeard() {
			if got, _ := impl.HomeHear(h, 2, 1, 1, m); !sameHome(got, h) {
				turned[m.Kind]++
			}
		}
	}
	for _, kind := range wireKinds {
		if forHome(kind) != (turned[kind] > 0) {
			t.Error("kind", kind, "turned", turned[kind], "homes")
		}
	}
}

func TestHomeHearsNothingThatIsWrong(t *testing.T) {
	for _, h := range turnedBy() {
		for _, m := range wrongForHome() {
			wantHomeUnturned(t, h, 2, 1, 1, m)
			wantHomeUnturned(t, h, 2, m.Page, 1, m)
		}
		for _, m := range rightHeard() {
			for _, page := range append([]int{0, 2, impl.Pages - 1, impl.Pages, 257}, farNumbers...) {
				wantHomeUnturned(t, h, 2, page, 1, m)
			}
			for _, from := range append([]int{2, 3, impl.MaxNodes, 257}, farNumbers...) {
				wantHomeUnturned(t, h, 2, 1, from, m)
			}
			for _, nodes := range append([]int{1, 3}, noNodes...) {
				wantHomeUnturned(t, h, nodes, 1, 0, m)
				wantHomeUnturned(t, h, nodes, 1, 1, m)
			}
		}
	}
}

func TestWrongHomesHearNothing(t *testing.T) {
	for nodes := 1; nodes <= impl.MaxNodes; nodes++ {
		for _, h := range append(wrongHomes(nodes), impl.Home{}) {
			for from := range nodes {
				for _, m := range rightHeard() {
					wantHomeUnturned(t, h, nodes, 1, from, m)
				}
			}
			for _, m := range wrongForHome() {
				wantHomeUnturned(t, h, nodes, 1, 0, m)
			}
			for _, far := range farNumbers {
				wantHomeUnturned(t, h, far, far, far, impl.Msg{Kind: far, Page: far})
			}
		}
	}
	// Right but for how many nodes there are.
	for _, nodes := range []int{0, impl.MaxNodes + 1} {
		for _, m := range rightHeard() {
			wantHomeUnturned(t, homeOf(nodes, nobody), nodes, 1, 0, m)
		}
	}
}

// wordByWord is HomeHear as the document's words go, for right arguments.
func wordByWord(h impl.Home, nodes int, page int, from int, m impl.Msg) (impl.Home, []impl.Told) {
	h = impl.Home{List: slices.Clone(h.List), Owner: h.Owner, Readers: slices.Clone(h.Readers), Busy: h.Busy, Now: h.Now, Acks: h.Acks, Queue: slices.Clone(h.Queue)}
	var told []impl.Told
	given := func() {
		told = append(told, impl.Told{To: h.Now.Who, Msg: impl.Msg{Kind: impl.MgData, Page: page, Own: h.Now.Own, List: slices.Clone(h.List)}})
		h.Readers[h.Now.Who] = !h.Now.Own
		if h.Now.Own {
			h.Owner = h.Now.Who
		}
		h.Busy, h.Now = false, impl.Wait{}
	}
	switch {
	case (m.Kind == impl.MgShare || m.Kind == impl.MgOwn) && len(h.Queue) < impl.MaxWait:
		h.Queue = append(h.Queue, impl.Wait{Who: from, Own: m.Kind == impl.MgOwn})
	case m.Kind == impl.MgAck && h.Busy && h.Acks > 0:
		if h.Acks--; h.Acks == 0 {
			given()
		}
	case m.Kind == impl.MgBack && h.Busy && from == h.Owner && h.Acks == 0:
		h.List = slices.Clone(m.List)
		h.Readers[from] = h.Readers[from] || !h.Now.Own
		h.Owner = -1
		given()
	default:
		return h, nil
	}
	for !h.Busy && len(h.Queue) > 0 {
		h.Now, h.Busy, h.Queue = h.Queue[0], true, h.Queue[1:]
		gone := 0
		switch {
		case h.Owner != -1:
			told = append(told, impl.Told{To: h.Owner, Msg: impl.Msg{Kind: impl.MgFetch, Page: page, Own: h.Now.Own}})
			continue
		case h.Now.Own:
			for who := range nodes {
				if h.Readers[who] && who != h.Now.Who {
					told = append(told, impl.Told{To: who, Msg: impl.Msg{Kind: impl.MgGone, Page: page}})
					h.Readers[who] = false
					gone++
				}
			}
			h.Acks = gone
		}
		if gone == 0 {
			given()
		}
	}
	return h, told
}

// someHome is any home that is HomeOk, most of them such as no run comes to.
func someHome(r *rand.Rand, nodes int) impl.Home {
	h := homeOf(nodes, r.Intn(nodes+1)-1)
	if r.Intn(2) == 0 {
		h.Owner = nobody
	}
	for who := range h.Readers {
		h.Readers[who] = r.Intn(2) == 0
	}
	h.Busy = r.Intn(3) > 0
	h.Now = impl.Wait{Who: r.Intn(nodes), Own: r.Intn(2) == 0}
	h.Acks = r.Intn(nodes + 1)
	if r.Intn(2) == 0 {
		h.Acks = r.Intn(2)
	}
	for range r.Intn(impl.MaxWait + 1) {
		h.Queue = append(h.Queue, impl.Wait{Who: r.Intn(nodes), Own: r.Intn(3) == 0})
	}
	return h
}

func TestHomeHearsAsTheWordsGo(t *testing.T) {
	r := rand.New(rand.NewSource(4))
	longest := 0
	for range 60000 {
		nodes := r.Intn(impl.MaxNodes) + 1
		h, from, m := someHome(r, nodes), r.Intn(nodes), rightMsg(wireKinds[r.Intn(len(wireKinds))])
		if m.Kind == impl.MgBack && h.Owner >= 0 && r.Intn(4) > 0 {
			from = h.Owner
		}
		want, told := wordByWord(h, nodes, 1, from, m)
		wantHomeHears(t, h, nodes, 1, from, m, want, told)
		longest = max(longest, len(told))
	}
	if longest < 10 {
		t.Error("too little was told to tell anything:", longest)
	}
}

// A homeModel is one page, its home and nodes with lines between them that
// keep their order: what chapter 2 makes of a net.
type homeModel struct {
	t      *testing.T
	home   impl.Home
	frames []impl.Frame
	toHome [][]impl.Msg
	toNode [][]impl.Msg
	words  []int
	turn   []impl.Wait
	given  int
}

func newHomeModel(t *testing.T, nodes int) *homeModel {
	return &homeModel{t: t, home: impl.HomeNew(nodes), frames: make([]impl.Frame, nodes), toHome: make([][]impl.Msg, nodes), toNode: make([][]impl.Msg, nodes), words: make([]int, impl.Words)}
}

// ask is what a node does: it asks once, for more than it has.
func (p *homeModel) ask(who int, own bool) {
	f := &p.frames[who]
	if f.Asked || f.State == impl.StWrite || f.State == impl.StRead && !own {
		return
	}
	f.Asked = true
	m := impl.Msg{Kind: impl.MgShare, Page: 2}
	if own {
		m.Kind = impl.MgOwn
	}
	p.toHome[who] = append(p.toHome[who], m)
}

func (p *homeModel) write(who int, i int, w int) {
	f, ok := impl.FrameWrite(p.frames[who], i, w)
	if ok {
		p.frames[who] = f
		p.words[i] = w
	}
}

func (p *homeModel) nodeHears(who int) {
	if len(p.toNode[who]) == 0 {
		return
	}
	f, told, ok := impl.FrameHear(p.frames[who], p.toNode[who][0])
	p.toNode[who] = p.toNode[who][1:]
	p.frames[who] = f
	if ok {
		p.toHome[who] = append(p.toHome[who], told)
	}
}

func (p *homeModel) homeHears(from int) {
	if len(p.toHome[from]) == 0 {
		return
	}
	m := p.toHome[from][0]
	p.toHome[from] = p.toHome[from][1:]
	if m.Kind == impl.MgShare || m.Kind == impl.MgOwn {
		p.turn = append(p.turn, impl.Wait{Who: from, Own: m.Kind == impl.MgOwn})
	}
	h, told := impl.HomeHear(p.home, len(p.frames), 2, from, m)
	p.home = h
	for _, told := range told {
		p.tell(told)
	}
}

// tell asks that each is given in turn, as it had asked.
func (p *homeModel) tell(told impl.Told) {
	p.toNode[told.To] = append(p.toNode[told.To], told.Msg)
	if told.Msg.Kind != impl.MgData {
		return
	}
	if len(p.turn) == 0 || p.turn[0] != (impl.Wait{Who: told.To, Own: told.Msg.Own}) {
		p.t.Fatal("given", told, "where it is the turn of", p.turn)
	}
	if !slices.Equal(told.Msg.List, p.words) {
		p.t.Fatal("given", told, "where the words are", p.words)
	}
	p.turn = p.turn[1:]
	p.given++
}

// look asks that who may write is alone, and that whoever has it has its words.
func (p *homeModel) look() {
	writers, readers := 0, 0
	for who, f := range p.frames {
		if f.State == impl.StWrite {
			writers++
		}
		if f.State == impl.StRead {
			readers++
		}
		if f.State != impl.StNone && !slices.Equal(f.List, p.words) {
			p.t.Fatal("node", who, "has", f.List, "where the words are", p.words)
		}
	}
	if writers > 1 || writers == 1 && readers > 0 {
		p.t.Fatal("there are", writers, "that write and", readers, "that read:", p.frames)
	}
	if !impl.HomeOk(p.home, len(p.frames)) {
		p.t.Fatal("not HomeOk", p.home)
	}
}

func (p *homeModel) goOn(r *rand.Rand) {
	who := r.Intn(len(p.frames))
	switch r.Intn(5) {
	case 0:
		p.ask(who, r.Intn(2) == 0)
	case 1:
		p.write(who, r.Intn(impl.Words), r.Intn(impl.MaxWord+1))
	case 2:
		p.nodeHears(who)
	default:
		p.homeHears(who)
	}
}

// finish lets all that is on its way arrive: nobody is left waiting then.
func (p *homeModel) finish() {
	for range 200 {
		for who := range p.frames {
			p.homeHears(who)
			p.nodeHears(who)
			p.look()
		}
	}
	if len(p.turn) > 0 || p.home.Busy || len(p.home.Queue) > 0 {
		p.t.Fatal("still waiting:", p.turn, p.home)
	}
	for who, f := range p.frames {
		if f.Asked || len(p.toHome[who]) > 0 || len(p.toNode[who]) > 0 {
			p.t.Fatal("node", who, "was not given", f, p.toHome[who], p.toNode[who])
		}
		if p.home.Readers[who] != (f.State == impl.StRead) || (p.home.Owner == who) != (f.State == impl.StWrite) {
			p.t.Fatal("home", p.home, "where node", who, "has", f)
		}
	}
}

func TestEachInTurnToWriteToOneAlone(t *testing.T) {
	for nodes := 1; nodes <= impl.MaxNodes; nodes++ {
		given := 0
		for seed := range 40 {
			r := rand.New(rand.NewSource(int64(seed)))
			p := newHomeModel(t, nodes)
			for range 2500 {
				p.goOn(r)
				p.look()
			}
			p.finish()
			given += p.given
		}
		if nodes > 1 && given < 2000 {
			t.Error("too little was given to tell anything:", given)
		}
	}
}

// The same answer each time, however a map is gone through.
func TestHomeTellsTheSameEachTime(t *testing.T) {
	want := []impl.Told{goneTo(0), goneTo(1), goneTo(3)}
	for range 500 {
		_, told := impl.HomeHear(homeOf(4, nobody, 0, 1, 2, 3), 4, 2, 2, ownMsg)
		if !slices.EqualFunc(told, want, sameTold) {
			t.Fatal("told", told, "not", want)
		}
	}
}

// A homeAnd is what HomeHear is given, or what it answers.
type homeAnd struct {
	H impl.Home
	M impl.Msg
	T []impl.Told
}

func heardOf(g homeAnd, nodes int, from int) homeAnd {
	got, told := impl.HomeHear(g.H, nodes, g.M.Page, from, g.M)
	return homeAnd{H: got, T: told}
}

func TestHomeAnswersAreNewMemory(t *testing.T) {
	for nodes := 1; nodes <= impl.MaxNodes; nodes++ {
		wantNew(t, impl.HomeNew(nodes), impl.HomeNew(nodes))
		for _, h := range append(rightHomes(nodes), wrongHomes(nodes)...) {
			for _, m := range append(rightHeard(), wrongForHome()[:3]...) {
				for from := range nodes {
					g := homeAnd{H: h, M: m}
					wantNew(t, heardOf(g, nodes, from), g)
				}
				g := roomy(homeAnd{H: h, M: m})
				wantNew(t, heardOf(g, nodes, nodes-1), g)
			}
		}
	}
}

// Several are given the same words in one call, and the home keeps them: no
// two of these are one list, and no one is the message's.
func TestHomeWordsAreOneListEach(t *testing.T) {
	g := homeAnd{H: busyFor(homeOf(4, 0), 1, false, 0, share(3), share(2)), M: backMsg}
	a := heardOf(g, 4, 0)
	if len(a.T) != 3 {
		t.Fatal("told", a.T)
	}
	wantNew(t, a, g)
	a.H.List[0] = 77
	a.T[0].Msg.List[1] = 88
	for _, list := range [][]int{a.T[1].Msg.List, a.T[2].Msg.List, g.M.List} {
		if !slices.Equal(list, []int{impl.MaxWord, 6, 0, 8}) {
			t.Error("a list is shared", list)
		}
	}
	// A home and a message that share one list share none then.
	h := busyFor(homeOf(4, 0), 1, false, 0)
	g = homeAnd{H: h, M: impl.Msg{Kind: impl.MgBack, Page: 2, List: h.List}}
	wantNew(t, heardOf(g, 4, 0), g)
}

func TestHomesWriteIntoNoArgument(t *testing.T) {
	for nodes := 1; nodes <= impl.MaxNodes; nodes++ {
		for _, plain := range append(rightHomes(nodes), wrongHomes(nodes)...) {
			for _, m := range append(rightHeard(), wrongForHome()[:3]...) {
				g := roomy(homeAnd{H: plain, M: m})
				before := whole(g)
				impl.HomeOk(g.H, nodes)
				for from := range nodes {
					heardOf(g, nodes, from)
				}
				wantUnwritten(t, g, before)
			}
		}
	}
}

// Two that ask the same home do not see each other, nor what is done to the
// home behind the call.
func TestTwoHearingsOfOneHome(t *testing.T) {
	h := roomy(busyFor(homeOf(4, 2, 1), 1, false, 0, share(3)))
	one, _ := impl.HomeHear(h, 4, 2, 0, shareMsg)
	two, _ := impl.HomeHear(h, 4, 2, 3, ownMsg)
	clear(h.List)
	clear(h.Readers)
	h.Queue[0] = own(0)
	if !sameHome(one, busyFor(homeOf(4, 2, 1), 1, false, 0, share(3), share(0))) || !sameHome(two, busyFor(homeOf(4, 2, 1), 1, false, 0, share(3), own(3))) {
		t.Error(one, two)
	}
}
