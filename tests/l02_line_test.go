package tests

import (
	"math"
	"math/rand"
	"slices"
	"testing"

	"loop.example/g00281/impl"
)

func sameMsgs(a, b []impl.Msg) bool { return slices.EqualFunc(a, b, sameMsg) }

func sameSender(a, b impl.Sender) bool { return a.Base == b.Base && sameMsgs(a.Queue, b.Queue) }

// numbered is a message that tells which one it is.
func numbered(n int) impl.Msg {
	return impl.Msg{Kind: impl.MgBack, Page: n % impl.Pages, List: []int{n % (impl.MaxWord + 1), n / (impl.MaxWord + 1), 0, 7}}
}

func numberedFrom(n, count int) []impl.Msg {
	var list []impl.Msg
	for i := range count {
		list = append(list, numbered(n+i))
	}
	return list
}

func senderOf(base, count int) impl.Sender {
	return impl.Sender{Base: base, Queue: numberedFrom(base, count)}
}

var wrongMsgs = []impl.Msg{
	{},
	{Kind: 8},
	{Kind: -1},
	{Kind: math.MinInt},
	{Kind: math.MaxInt},
	{Kind: impl.MgAck, Page: -1},
	{Kind: impl.MgAck, Page: impl.Pages},
	{Kind: impl.MgAck, Own: true},
	{Kind: impl.MgAck, List: []int{1, 2, 3, 4}},
	{Kind: impl.MgBack},
	{Kind: impl.MgBack, List: []int{1, 2, 3}},
	{Kind: impl.MgBack, List: []int{1, 2, 3, 4, 5}},
	{Kind: impl.MgBack, List: []int{1, 2, 3, impl.MaxWord + 1}},
	{Kind: impl.MgData, List: []int{-1, 2, 3, 4}},
}

// wrongSenders are such that are not SenderOk, each for one reason.
func wrongSenders() []impl.Sender {
	list := []impl.Sender{
		{Base: -1},
		{Base: impl.MaxSeq + 1},
		{Base: math.MinInt},
		{Base: math.MaxInt},
		senderOf(0, impl.MaxQueue+1),
		senderOf(0, 3*impl.MaxQueue),
		senderOf(impl.MaxSeq, 1),
		senderOf(impl.MaxSeq-1, 2),
		senderOf(impl.MaxSeq-impl.MaxQueue+1, impl.MaxQueue),
		{Base: -1, Queue: numberedFrom(0, 2)},
		{Base: math.MinInt, Queue: numberedFrom(0, 2)},
		{Base: math.MaxInt, Queue: numberedFrom(0, 2)},
		{Base: math.MaxInt - 1, Queue: numberedFrom(0, 2)},
	}
	for i, m := range wrongMsgs {
		for _, at := range []int{0, 1, 2} {
			s := senderOf(5, 3)
			s.Queue[at] = m
			list = append(list, s)
		}
		s := senderOf(i, impl.MaxQueue)
		s.Queue[impl.MaxQueue-1] = m
		list = append(list, s)
	}
	return list
}

func TestLineConstants(t *testing.T) {
	if impl.MaxQueue != 30 || impl.MaxNet != 40 {
		t.Error("limits", impl.MaxQueue, impl.MaxNet)
	}
}

func TestSenderOk(t *testing.T) {
	right := []impl.Sender{
		{},
		{Queue: []impl.Msg{}},
		{Base: impl.MaxSeq},
		{Base: impl.MaxSeq, Queue: []impl.Msg{}},
		senderOf(0, 1),
		senderOf(0, impl.MaxQueue-1),
		senderOf(0, impl.MaxQueue),
		senderOf(impl.MaxSeq-1, 1),
		senderOf(impl.MaxSeq-impl.MaxQueue, impl.MaxQueue),
	}
	for _, kind := range wireKinds {
		right = append(right, impl.Sender{Base: 9, Queue: []impl.Msg{rightMsg(kind), rightMsg(kind)}})
	}
	for _, s := range right {
		if !impl.SenderOk(s) {
			t.Errorf("SenderOk(%v) is false", s)
		}
	}
	for _, s := range wrongSenders() {
		if impl.SenderOk(s) {
			t.Errorf("SenderOk(%v) is true", s)
		}
	}
}

// bases are numbers at both ends of what a line can count.
func bases() []int {
	list := []int{0, 1, 2, 127, 128, 5000}
	for base := impl.MaxSeq - impl.MaxQueue - 2; base <= impl.MaxSeq; base++ {
		list = append(list, base)
	}
	return list
}

func TestSenderOkByBaseAndCount(t *testing.T) {
	for _, base := range append(bases(), -2, -1, impl.MaxSeq+1, impl.MaxSeq+2) {
		for count := range impl.MaxQueue + 3 {
			want := base >= 0 && count <= impl.MaxQueue && base+count <= impl.MaxSeq
			s := impl.Sender{Base: base, Queue: numberedFrom(0, count)}
			if impl.SenderOk(s) != want {
				t.Errorf("SenderOk of Base %d and %d messages is not %v", base, count, want)
			}
		}
	}
}

func wantQueued(t *testing.T, s impl.Sender, m impl.Msg) {
	t.Helper()
	got, ok := impl.Queue(s, m)
	want := impl.Sender{Base: s.Base, Queue: append(slices.Clone(s.Queue), m)}
	if !ok || !sameSender(got, want) {
		t.Errorf("Queue(%v, %v) is %v, %v", s, m, got, ok)
	}
	if !impl.SenderOk(got) {
		t.Errorf("Queue(%v, %v) is no longer SenderOk", s, m)
	}
}

func wantNotQueued(t *testing.T, s impl.Sender, m impl.Msg) {
	t.Helper()
	if got, ok := impl.Queue(s, m); ok || !sameSender(got, s) {
		t.Errorf("Queue(%v, %v) is %v, %v, not as it was and false", s, m, got, ok)
	}
}

func TestQueue(t *testing.T) {
	for _, kind := range wireKinds {
		wantQueued(t, impl.Sender{}, rightMsg(kind))
		wantQueued(t, senderOf(7, 2), rightMsg(kind))
	}
	for _, base := range bases() {
		for count := 0; count <= impl.MaxQueue && base+count <= impl.MaxSeq; count++ {
			s := senderOf(base, count)
			if count < impl.MaxQueue && base+count < impl.MaxSeq {
				wantQueued(t, s, numbered(base+count))
			} else {
				wantNotQueued(t, s, numbered(base+count))
			}
		}
	}
}

func TestQueueOfWrongThings(t *testing.T) {
	for _, s := range wrongSenders() {
		wantNotQueued(t, s, numbered(1))
		wantNotQueued(t, s, impl.Msg{})
	}
	for _, m := range wrongMsgs {
		wantNotQueued(t, impl.Sender{}, m)
		wantNotQueued(t, senderOf(4, 3), m)
		wantNotQueued(t, senderOf(0, impl.MaxQueue), m)
		wantNotQueued(t, impl.Sender{Base: impl.MaxSeq}, m)
	}
}

func TestAcked(t *testing.T) {
	for _, base := range bases() {
		for count := 0; count <= impl.MaxQueue && base+count <= impl.MaxSeq; count++ {
			s := senderOf(base, count)
			for n := base - 2; n <= base+count+2; n++ {
				want := s
				if n >= base && n <= base+count {
					want = senderOf(n, base+count-n)
				}
				got := impl.Acked(s, n)
				if !sameSender(got, want) {
					t.Fatalf("Acked(%v, %d) is %v, not %v", s, n, got, want)
				}
				if !impl.SenderOk(got) {
					t.Fatalf("Acked(%v, %d) is no longer SenderOk", s, n)
				}
			}
			for _, n := range []int{-1, math.MinInt, math.MaxInt, impl.MaxSeq + 1} {
				if got := impl.Acked(s, n); !sameSender(got, s) {
					t.Fatalf("Acked(%v, %d) is %v, not as it was", s, n, got)
				}
			}
		}
	}
}

func TestAckedOfWrongSenders(t *testing.T) {
	for _, s := range wrongSenders() {
		ns := []int{0, 1, impl.MaxSeq, impl.MaxSeq + 1, math.MinInt, math.MaxInt}
		for i := -1; i <= len(s.Queue)+1; i++ {
			ns = append(ns, s.Base+i)
		}
		for _, n := range ns {
			if got := impl.Acked(s, n); !sameSender(got, s) {
				t.Errorf("Acked(%v, %d) is %v, not as it was", s, n, got)
			}
		}
	}
}

// A sender that queues, is acknowledged in part and queues again.
func TestQueueAndAckedByTurns(t *testing.T) {
	var s impl.Sender
	next := 0
	for round := range 50 {
		for range 1 + round%7 {
			var ok bool
			if s, ok = impl.Queue(s, numbered(next)); ok {
				next++
			} else if len(s.Queue) != impl.MaxQueue {
				t.Fatal("not queued", s)
			}
		}
		n := s.Base + (round%5)*len(s.Queue)/4
		s = impl.Acked(s, n)
		if !sameSender(s, senderOf(n, next-n)) {
			t.Fatalf("after round %d: %v, not %d messages from %d on", round, s, next-n, n)
		}
	}
}

func wantArrived(t *testing.T, got, n int, want int, wantOk bool) {
	t.Helper()
	r, ok := impl.Arrived(impl.Receiver{Got: got}, n)
	if r.Got != want || ok != wantOk {
		t.Errorf("Arrived of Got %d and %d is %d, %v, not %d, %v", got, n, r.Got, ok, want, wantOk)
	}
}

func TestArrived(t *testing.T) {
	for _, got := range []int{0, 1, 2, 127, 5000, impl.MaxSeq - 2, impl.MaxSeq - 1} {
		wantArrived(t, got, got, got+1, true)
		for _, n := range []int{got - 2, got - 1, got + 1, got + 2, -1, impl.MaxSeq, impl.MaxSeq + 1, math.MinInt, math.MaxInt} {
			if n != got {
				wantArrived(t, got, n, got, false)
			}
		}
	}
	for _, got := range []int{impl.MaxSeq, impl.MaxSeq + 1, math.MaxInt - 1, math.MaxInt} {
		for _, n := range []int{got, got - 1, 0, -1, impl.MaxSeq - 1, math.MinInt, math.MaxInt} {
			wantArrived(t, got, n, got, false)
		}
	}
	for _, got := range []int{-1, -2, math.MinInt} {
		for _, n := range []int{got + 1, 5, impl.MaxSeq, math.MaxInt} {
			wantArrived(t, got, n, got, false)
		}
		// The document asks no more than that n is Got, and Got below MaxSeq.
		wantArrived(t, got, got, got+1, true)
	}
}

func wantPacket(t *testing.T, p impl.Packet, nodes int, want bool) {
	t.Helper()
	if impl.PacketOk(p, nodes) != want {
		t.Errorf("PacketOk(%v, %d) is not %v", p, nodes, want)
	}
}

// packetsOf is a packet with a message, one with a message that has no list,
// and an Ack.
func packetsOf(from, to, n int) []impl.Packet {
	return []impl.Packet{
		{From: from, To: to, N: n, Msg: numbered(3)},
		{From: from, To: to, N: n, Msg: rightMsg(impl.MgShare)},
		{From: from, To: to, N: n, Ack: true},
	}
}

func TestPacketNodes(t *testing.T) {
	for nodes := -2; nodes <= impl.MaxNodes+2; nodes++ {
		for from := -2; from <= impl.MaxNodes+2; from++ {
			for to := -2; to <= impl.MaxNodes+2; to++ {
				want := nodes >= 1 && nodes <= impl.MaxNodes && from >= 0 && from < nodes && to >= 0 && to < nodes
				for _, p := range packetsOf(from, to, 6) {
					wantPacket(t, p, nodes, want)
				}
			}
		}
	}
	for _, far := range []int{math.MinInt, math.MaxInt} {
		for _, nodes := range []int{1, impl.MaxNodes, math.MinInt, math.MaxInt} {
			for _, p := range slices.Concat(packetsOf(far, 0, 0), packetsOf(0, far, 0), packetsOf(far, far, 0)) {
				wantPacket(t, p, nodes, false)
			}
		}
		for _, p := range packetsOf(0, 0, 0) {
			wantPacket(t, p, far, false)
		}
	}
}

func TestPacketNumbers(t *testing.T) {
	for _, n := range []int{0, 1, 127, impl.MaxSeq - 1, impl.MaxSeq} {
		for _, p := range packetsOf(1, 0, n) {
			wantPacket(t, p, 2, true)
		}
	}
	for _, n := range []int{-1, impl.MaxSeq + 1, math.MinInt, math.MaxInt} {
		for _, p := range packetsOf(1, 0, n) {
			wantPacket(t, p, 2, false)
		}
	}
}

func TestPacketMessages(t *testing.T) {
	for _, kind := range wireKinds {
		wantPacket(t, impl.Packet{From: 1, N: 4, Msg: rightMsg(kind)}, 2, true)
		wantPacket(t, impl.Packet{From: 1, N: 4, Ack: true, Msg: rightMsg(kind)}, 2, false)
	}
	for _, m := range wrongMsgs {
		wantPacket(t, impl.Packet{From: 1, N: 4, Msg: m}, 2, false)
	}
	notZero := append([]impl.Msg{{Page: 1}, {Own: true}, {List: []int{0}}, {List: []int{0, 0, 0, 0}}}, wrongMsgs[1:]...)
	for _, m := range notZero {
		wantPacket(t, impl.Packet{From: 1, N: 4, Ack: true, Msg: m}, 2, false)
	}
	wantPacket(t, impl.Packet{From: 1, N: 4, Ack: true, Msg: impl.Msg{List: []int{}}}, 2, true)
}

// A badLine is one line over a net that loses, doubles and turns round: what
// was queued, what is on its way (both ways), and what has arrived.
type badLine struct {
	t       *testing.T
	sender  impl.Sender
	receive impl.Receiver
	first   int
	queued  []impl.Msg
	arrived []impl.Msg
	net     []impl.Packet
}

func newBadLine(t *testing.T, first int) *badLine {
	return &badLine{t: t, sender: impl.Sender{Base: first}, receive: impl.Receiver{Got: first}, first: first}
}

func (l *badLine) queue() {
	m := numbered(len(l.queued))
	s, ok := impl.Queue(l.sender, m)
	if full := len(l.sender.Queue) == impl.MaxQueue || l.first+len(l.queued) == impl.MaxSeq; ok == full {
		l.t.Fatal("queued", ok, l.sender)
	}
	l.sender = s
	if ok {
		l.queued = append(l.queued, m)
	}
}

func (l *badLine) put(p impl.Packet) {
	if !impl.PacketOk(p, 2) {
		l.t.Fatal("PacketOk is false", p)
	}
	if len(l.net) < impl.MaxNet {
		l.net = append(l.net, p)
	}
}

func (l *badLine) send(i int) {
	if i < len(l.sender.Queue) {
		l.put(impl.Packet{From: 0, To: 1, N: l.sender.Base + i, Msg: l.sender.Queue[i]})
	}
}

func (l *badLine) ack() { l.put(impl.Packet{From: 1, To: 0, Ack: true, N: l.receive.Got}) }

func (l *badLine) take(i int) impl.Packet {
	p := l.net[i]
	l.net = slices.Delete(slices.Clone(l.net), i, i+1)
	return p
}

func (l *badLine) give(i int) {
	p := l.take(i)
	if p.Ack {
		l.sender = impl.Acked(l.sender, p.N)
		return
	}
	r, ok := impl.Arrived(l.receive, p.N)
	if ok {
		l.arrived = append(l.arrived, p.Msg)
	} else if r != l.receive {
		l.t.Fatal("a receiver turned", l.receive, r)
	}
	l.receive = r
}

// look asks for the promise, and for what it rests on: nothing is forgotten
// that has not arrived.
func (l *badLine) look() {
	l.t.Helper()
	if len(l.arrived) > len(l.queued) || !sameMsgs(l.arrived, l.queued[:len(l.arrived)]) {
		l.t.Fatalf("arrived %v of %v", l.arrived, l.queued)
	}
	if l.receive.Got != l.first+len(l.arrived) {
		l.t.Fatal("Got", l.receive.Got, "with", len(l.arrived), "from", l.first)
	}
	if !impl.SenderOk(l.sender) || l.sender.Base > l.receive.Got || !sameMsgs(l.sender.Queue, l.queued[l.sender.Base-l.first:]) {
		l.t.Fatal("sender", l.sender)
	}
}

func (l *badLine) turn(r *rand.Rand) {
	switch deed := r.Intn(12); {
	case deed == 0:
		l.queue()
	case deed == 1:
		l.send(r.Intn(impl.MaxQueue))
	case deed == 2:
		l.send(0)
	case deed == 3:
		// Close to what the receiver waits for, so that the line goes on.
		l.send(max(0, l.receive.Got-l.sender.Base+r.Intn(3)-1))
	case deed == 4:
		l.ack()
	case len(l.net) == 0:
	case deed == 5:
		l.put(l.net[r.Intn(len(l.net))])
	case deed == 6:
		l.take(r.Intn(len(l.net)))
	default:
		l.give(r.Intn(len(l.net)))
	}
}

// finish lets all arrive that was queued: a line that is stuck is wrong, too.
func (l *badLine) finish() {
	for len(l.sender.Queue) > 0 {
		before := len(l.sender.Queue)
		l.net = nil
		l.send(l.receive.Got - l.sender.Base)
		l.ack()
		for len(l.net) > 0 {
			l.give(0)
			l.look()
		}
		l.ack()
		l.give(0)
		l.look()
		if len(l.sender.Queue) >= before {
			l.t.Fatal("nothing goes on", l.sender, l.receive)
		}
	}
	if len(l.arrived) != len(l.queued) {
		l.t.Fatal("arrived", len(l.arrived), "of", len(l.queued))
	}
}

func TestWhateverANetDoes(t *testing.T) {
	most := 0
	for seed := range 60 {
		r := rand.New(rand.NewSource(int64(seed)))
		l := newBadLine(t, []int{0, 1, 500, impl.MaxSeq - 40, impl.MaxSeq - 3, impl.MaxSeq}[seed%6])
		for range 3000 {
			l.turn(r)
			l.look()
		}
		most = max(most, len(l.arrived))
		l.finish()
	}
	if most < 100 {
		t.Error("too little arrived to tell anything:", most)
	}
}

// What came already is put on its way again, and what comes too early stays away.
func TestWhatCameAlreadyAndTooEarly(t *testing.T) {
	l := newBadLine(t, 0)
	for range 5 {
		l.queue()
	}
	for _, i := range []int{4, 3, 1, 0, 0, 2, 1, 1, 0, 2, 4, 3, 4, 4} {
		l.send(i)
		l.give(0)
		l.look()
	}
	if len(l.arrived) != 5 {
		t.Error("arrived", l.arrived)
	}
	l.ack()
	l.put(l.net[0])
	l.give(0)
	l.queue()
	l.give(0) // the acknowledgment of five, a second time
	l.look()
	if l.sender.Base != 5 || len(l.sender.Queue) != 1 {
		t.Error("sender", l.sender)
	}
}

// lineSenders are right and wrong ones of many shapes.
func lineSenders() []impl.Sender {
	list := []impl.Sender{{}, {Base: impl.MaxSeq}, senderOf(3, 1), senderOf(3, 5), senderOf(0, impl.MaxQueue), senderOf(impl.MaxSeq-3, 3)}
	return append(list, wrongSenders()...)
}

func lineMsgs() []impl.Msg {
	return append([]impl.Msg{numbered(9), rightMsg(impl.MgData), rightMsg(impl.MgShare)}, wrongMsgs...)
}

func TestLineAnswersAreNewMemory(t *testing.T) {
	type given struct {
		S impl.Sender
		M impl.Msg
	}
	for _, s := range lineSenders() {
		for _, m := range lineMsgs() {
			for _, g := range []given{{s, m}, roomy(given{s, m})} {
				got, _ := impl.Queue(g.S, g.M)
				wantNew(t, got, g)
			}
		}
		for i := -1; i <= len(s.Queue)+1; i++ {
			for _, g := range []impl.Sender{s, roomy(s)} {
				wantNew(t, impl.Acked(g, s.Base+i), g)
			}
		}
	}
}

// Two messages of an argument may have one list between them; those of an
// answer may not.
func TestLineAnswersShareNothingThatArgumentsShare(t *testing.T) {
	m := numbered(2)
	s := impl.Sender{Base: 1, Queue: []impl.Msg{m, m, m}}
	got, ok := impl.Queue(s, m)
	if !ok {
		t.Error("not queued")
	}
	wantNew(t, got, s)
	wantNew(t, impl.Acked(s, 2), s)
	s.Base = -1
	got, _ = impl.Queue(s, m)
	wantNew(t, got, s)
	wantNew(t, impl.Acked(s, 2), s)
}

// Two answers of one argument are two: what is put behind one is not seen in
// the other one.
func TestTwoQueuesOfOneSender(t *testing.T) {
	s := roomy(senderOf(3, 2))
	one, _ := impl.Queue(s, numbered(11))
	two, _ := impl.Queue(s, numbered(12))
	if !sameMsg(one.Queue[2], numbered(11)) || !sameMsg(two.Queue[2], numbered(12)) {
		t.Error(one, two)
	}
	rest := impl.Acked(one, 4)
	more, _ := impl.Queue(rest, numbered(13))
	if len(one.Queue) != 3 || !sameMsg(one.Queue[2], numbered(11)) || !sameMsg(more.Queue[2], numbered(13)) {
		t.Error(one, rest, more)
	}
}

func TestLineWritesIntoNoArgument(t *testing.T) {
	for _, plain := range lineSenders() {
		s := roomy(plain)
		before := whole(s)
		impl.SenderOk(s)
		for _, plain := range lineMsgs() {
			m := roomy(plain)
			kept := whole(m)
			impl.Queue(s, m)
			wantUnwritten(t, m, kept)
		}
		for i := -1; i <= len(s.Queue)+1; i++ {
			impl.Acked(s, s.Base+i)
		}
		wantUnwritten(t, s, before)
	}
	for _, m := range append(lineMsgs(), impl.Msg{}) {
		for _, ack := range []bool{false, true} {
			p := roomy(impl.Packet{From: 1, N: 2, Ack: ack, Msg: m})
			before := whole(p)
			impl.PacketOk(p, 2)
			wantUnwritten(t, p, before)
		}
	}
}
