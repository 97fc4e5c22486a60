package tests

import (
	"bytes"
	"fmt"
	"math"
	"math/rand"
	"reflect"
	"runtime"
	"slices"
	"testing"

	"loop.example/g00263/impl"
)

const (
	doLead = iota
	doSay
	doTake
	doEvent
	doSync
	doSpread
	doDeliver
	doLose
	doGive
	doCrash
	doRise
	doAll
)

// pairMove is a call of one of the functions that a pair is told to. Number is n, at or kept.
type pairMove struct {
	Kind   int
	Node   int64
	Peer   int64
	Number int64
	Keep   bool
	Data   []byte
	Event  impl.Event
}

func pairLead(node int64) pairMove { return pairMove{Kind: doLead, Node: node} }
func pairSay(peer int64, data []byte) pairMove {
	return pairMove{Kind: doSay, Peer: peer, Data: data}
}
func pairTake(node, peer, n int64) pairMove {
	return pairMove{Kind: doTake, Node: node, Peer: peer, Number: n}
}
func pairEvent(node int64, e impl.Event) pairMove {
	return pairMove{Kind: doEvent, Node: node, Event: e}
}
func pairSync(node int64) pairMove   { return pairMove{Kind: doSync, Node: node} }
func pairSpread(node int64) pairMove { return pairMove{Kind: doSpread, Node: node} }
func pairDeliver(at int64, keep bool) pairMove {
	return pairMove{Kind: doDeliver, Number: at, Keep: keep}
}
func pairLose(at int64) pairMove         { return pairMove{Kind: doLose, Number: at} }
func pairGive(node, peer int64) pairMove { return pairMove{Kind: doGive, Node: node, Peer: peer} }
func pairCrash(node, kept int64) pairMove {
	return pairMove{Kind: doCrash, Node: node, Number: kept}
}
func pairRise(node int64) pairMove { return pairMove{Kind: doRise, Node: node} }

func (m pairMove) asksPlace() bool { return m.Kind == doDeliver || m.Kind == doLose }
func (m pairMove) asksNode() bool  { return m.Kind != doSay && !m.asksPlace() }
func (m pairMove) asksPeer() bool  { return m.Kind == doSay || m.Kind == doTake || m.Kind == doGive }

func (m pairMove) done(p impl.Pair) impl.PairResult {
	switch m.Kind {
	case doLead:
		return impl.LeadPair(p, m.Node)
	case doSay:
		return impl.SayPair(p, m.Peer, m.Data)
	case doTake:
		return impl.TakePair(p, m.Node, m.Peer, m.Number)
	case doEvent:
		return impl.EventPair(p, m.Node, m.Event)
	case doSync:
		return impl.SyncPair(p, m.Node)
	case doSpread:
		return impl.SpreadPair(p, m.Node)
	case doDeliver:
		return impl.DeliverPair(p, m.Number, m.Keep)
	case doLose:
		return impl.LosePair(p, m.Number)
	case doGive:
		return impl.GivePair(p, m.Node, m.Peer)
	case doCrash:
		return impl.CrashPair(p, m.Node, m.Number)
	}
	return impl.RisePair(p, m.Node)
}

func wordsPairFault(p impl.Pair) int64 {
	if code := firstCode(wordsSettingsFault(p.Settings), codeIf(len(p.Nodes) != 2 || len(p.Wires) != 3, impl.ErrForm)); code != impl.OK {
		return code
	}
	var codes []int64
	for place, n := range p.Nodes {
		codes = append(codes, wordsNodeFault(n), codeIf(n.Id != int64(place), impl.ErrForm))
	}
	for _, w := range p.Wires {
		codes = append(codes, wordsWireFault(w))
	}
	codes = append(codes, codeIf(len(p.Mails) > 40, impl.ErrMany))
	for _, m := range p.Mails {
		if m.To != 0 && m.To != 1 {
			codes = append(codes, impl.ErrForm)
			break
		}
		codes = append(codes, wordsMailFault(p.Nodes[m.To], m))
	}
	codes = append(codes, codeIf(len(p.Sealed) > 100, impl.ErrMany))
	for _, x := range p.Sealed {
		codes = append(codes, wordsEntryFault(x))
	}
	return firstCode(codes...)
}

// wordsMoveFault is all that is asked ahead of what a function asks of its own.
func wordsMoveFault(p impl.Pair, m pairMove) int64 {
	return firstCode(wordsPairFault(p),
		codeIf(m.asksNode() && m.Node != 0 && m.Node != 1, impl.ErrRange),
		codeIf(m.asksPeer() && m.Peer != 0 && m.Peer != 1 && m.Peer != 2, impl.ErrRange),
		codeIf(m.asksPlace() && (m.Number < 0 || m.Number >= int64(len(p.Mails))), impl.ErrNone))
}

func pairCode(code int64) impl.PairResult { return impl.PairResult{Code: code} }

func pairAnswer(p impl.Pair) impl.PairResult { return impl.PairResult{Pair: p} }

// withNode is the pair where the node has come to what it was told.
func withNode(p impl.Pair, node int64, told impl.NodeResult) impl.PairResult {
	if told.Code != impl.OK {
		return pairCode(told.Code)
	}
	p.Nodes = slices.Clone(p.Nodes)
	p.Nodes[node] = told.Node
	for _, m := range told.Send {
		if len(p.Mails) < 40 {
			p.Mails = append(slices.Clone(p.Mails), m)
		}
	}
	if told.Node.Commit > int64(len(p.Sealed)) {
		p.Sealed = told.Node.Log[:told.Node.Commit]
	}
	return pairAnswer(p)
}

func withWire(p impl.Pair, peer int64, told impl.WireResult) impl.PairResult {
	if told.Code != impl.OK {
		return pairCode(told.Code)
	}
	p.Wires = slices.Clone(p.Wires)
	p.Wires[peer] = told.Wire
	return pairAnswer(p)
}

func withoutMail(p impl.Pair, at int64) impl.Pair {
	var left []impl.Mail
	for place, m := range p.Mails {
		if int64(place) != at {
			left = append(left, m)
		}
	}
	p.Mails = left
	return p
}

// inputIn is what the entries have of the peer, one behind the other.
func inputIn(log []impl.Entry, peer int64) []byte {
	var data []byte
	for _, x := range log {
		if x.Event.Kind == impl.EventInput && x.Event.Peer == peer {
			data = append(data, x.Event.Bytes...)
		}
	}
	return data
}

func eventsIn(log []impl.Entry) []impl.Event {
	var list []impl.Event
	for _, x := range log {
		list = append(list, x.Event)
	}
	return list
}

func wordsLeadPair(p impl.Pair, node int64) impl.PairResult {
	if p.Wires[0].Epoch == 1000 {
		return pairCode(impl.ErrMany)
	}
	epoch := p.Wires[0].Epoch + 1
	led := wordsLead(p.Nodes[node], epoch)
	if led.Code == impl.ErrRange {
		return pairCode(impl.ErrOld)
	}
	got := withNode(p, node, led)
	for peer := range int64(3) {
		if got.Code == impl.OK {
			got = withWire(got.Pair, peer, wordsFenceWire(p.Wires[peer], epoch))
		}
	}
	return got
}

func wordsTakePair(p impl.Pair, node, peer, n int64) impl.PairResult {
	own := p.Nodes[node]
	if !own.Up || own.Role != 1 {
		return pairCode(impl.ErrState)
	}
	told := wordsTakeInput(p.Wires[peer], own.Epoch, int64(len(inputIn(own.Log, peer))), n)
	if told.Code != impl.OK {
		return pairCode(told.Code)
	}
	if len(told.Bytes) == 0 {
		return pairAnswer(p)
	}
	got := withNode(p, node, wordsAddEvent(own, inputOf(peer, told.Bytes...)))
	if got.Code == impl.OK {
		got.Bytes = told.Bytes
	}
	return got
}

func wordsDeliverPair(p impl.Pair, at int64, keep bool) impl.PairResult {
	m, gone := p.Mails[at], withoutMail(p, at)
	told := wordsHearMail(p.Nodes[m.To], m)
	if told.Code != impl.OK {
		return pairAnswer(gone)
	}
	if keep {
		return withNode(p, m.To, told)
	}
	return withNode(gone, m.To, told)
}

func wordsGivePair(p impl.Pair, node, peer int64) impl.PairResult {
	own := p.Nodes[node]
	if !own.Up || own.Role != 1 {
		return pairCode(impl.ErrState)
	}
	agreed := own.Log[:own.Commit]
	out := impl.RunRouter(p.Settings, eventsIn(agreed)).Out[peer]
	if len(out) > 2000 {
		return pairCode(impl.ErrMany)
	}
	got := withWire(p, peer, wordsDeliverOut(p.Wires[peer], own.Epoch, 0, out))
	if got.Code != impl.OK {
		return got
	}
	return withWire(got.Pair, peer, wordsAckInput(got.Pair.Wires[peer], own.Epoch, int64(len(inputIn(agreed, peer)))))
}

// wordsPair is what the document says of a call.
func wordsPair(p impl.Pair, m pairMove) impl.PairResult {
	if code := wordsMoveFault(p, m); code != impl.OK {
		return pairCode(code)
	}
	switch m.Kind {
	case doLead:
		return wordsLeadPair(p, m.Node)
	case doSay:
		return withWire(p, m.Peer, wordsPeerSends(p.Wires[m.Peer], m.Data))
	case doTake:
		return wordsTakePair(p, m.Node, m.Peer, m.Number)
	case doEvent:
		if m.Event.Kind == impl.EventInput {
			return pairCode(impl.ErrForm)
		}
		return withNode(p, m.Node, wordsAddEvent(p.Nodes[m.Node], m.Event))
	case doSync:
		return withNode(p, m.Node, wordsSyncNode(p.Nodes[m.Node]))
	case doSpread:
		return withNode(p, m.Node, wordsSpread(p.Nodes[m.Node]))
	case doDeliver:
		return wordsDeliverPair(p, m.Number, m.Keep)
	case doLose:
		return pairAnswer(withoutMail(p, m.Number))
	case doGive:
		return wordsGivePair(p, m.Node, m.Peer)
	case doCrash:
		return withNode(p, m.Node, wordsCrashNode(p.Nodes[m.Node], m.Number))
	}
	return withNode(p, m.Node, wordsRise(p.Nodes[m.Node]))
}

func samePair(a, b impl.Pair) bool {
	return reflect.DeepEqual(hollow(a.Settings, true), hollow(b.Settings, true)) && slices.EqualFunc(a.Nodes, b.Nodes, sameNode) && slices.EqualFunc(a.Wires, b.Wires, sameWire) &&
		slices.EqualFunc(a.Mails, b.Mails, sameMail) && sameEntries(a.Sealed, b.Sealed)
}

// pairBrief tells a pair with all its numbers, its lists as far as there is room.
func pairBrief(p impl.Pair) string {
	var said []any
	for _, n := range p.Nodes {
		n.Log = nil
		said = append(said, n)
	}
	for _, w := range p.Wires {
		said = append(said, [4]int64{w.Epoch, int64(len(w.Sent)), w.Taken, int64(len(w.Got))})
	}
	return brief(said...) + brief(len(p.Mails), len(p.Sealed), p.Mails, p.Nodes)
}

// wantPair asks of each answer what is promised of all of them, too.
func wantPair(t *testing.T, p impl.Pair, m pairMove, got, want impl.PairResult) {
	t.Helper()
	if got.Code != want.Code || !bytes.Equal(got.Bytes, want.Bytes) || !samePair(got.Pair, want.Pair) {
		t.Fatalf("%+v of %s: %d %d %s, want %d %d %s", m, pairBrief(p), got.Code, got.Bytes, pairBrief(got.Pair), want.Code, want.Bytes, pairBrief(want.Pair))
	}
	if got.Code != impl.OK {
		if !reflect.DeepEqual(got, pairCode(got.Code)) {
			t.Fatalf("%+v of %s: %s is not zero beside its code", m, pairBrief(p), brief(got))
		}
		return
	}
	if code := impl.PairFault(got.Pair); code != impl.OK {
		t.Fatalf("%+v of %s: %s has the fault %d", m, pairBrief(p), pairBrief(got.Pair), code)
	}
	for peer, w := range p.Wires {
		then := got.Pair.Wires[peer]
		if !bytes.HasPrefix(then.Got, w.Got) || !bytes.HasPrefix(then.Sent, w.Sent) || then.Taken < w.Taken || then.Epoch < w.Epoch {
			t.Fatalf("%+v of %s: it is taken back: %s", m, brief(w), brief(then))
		}
	}
	if len(got.Pair.Sealed) < len(p.Sealed) {
		t.Fatalf("%+v of %s: fewer are Sealed: %s", m, pairBrief(p), pairBrief(got.Pair))
	}
}

func wantMove(t *testing.T, p impl.Pair, m pairMove, want impl.PairResult) {
	t.Helper()
	wantPair(t, p, m, m.done(p), want)
}

func wantMoveCode(t *testing.T, p impl.Pair, m pairMove, code int64) {
	t.Helper()
	wantMove(t, p, m, pairCode(code))
}

// wantWords holds a call to the document's words.
func wantWords(t *testing.T, p impl.Pair, m pairMove) impl.PairResult {
	t.Helper()
	got := m.done(p)
	wantPair(t, p, m, got, wordsPair(p, m))
	return got
}

// afterMoves is where a pair comes to by calls that have no code.
func afterMoves(t *testing.T, p impl.Pair, moves ...pairMove) impl.Pair {
	t.Helper()
	for _, m := range moves {
		got := wantWords(t, p, m)
		if got.Code != impl.OK {
			t.Fatalf("%+v of %s has the code %d", m, pairBrief(p), got.Code)
		}
		p = got.Pair
	}
	return p
}

func newPair() impl.Pair {
	return impl.NewPair(someSettings()).Pair
}

// pairOf is of nodes of its own making, and has Sealed what either knows to be agreed.
func pairOf(a, b impl.Node, epochs ...int64) impl.Pair {
	p := impl.Pair{Settings: ruledSettings(), Nodes: []impl.Node{a, b}, Wires: make([]impl.Wire, 3)}
	for peer, epoch := range epochs {
		p.Wires[peer].Epoch = epoch
	}
	p.Sealed = a.Log[:a.Commit]
	if b.Commit > a.Commit {
		p.Sealed = b.Log[:b.Commit]
	}
	return p
}

// richPair has something at each place where there can be something.
func richPair() impl.Pair {
	a, b := activeOf(7, 3, 4, 2, 1, 3, 3, 6, 7, 7), standbyOf(7, 5, 4, 1, 1, 3, 3, 6, 7)
	p := pairOf(a, b)
	p.Wires = []impl.Wire{someWire(7, 50, 4, 7), someWire(7, 61, 30, 59), someWire(7, 200, 200, 130)}
	p.Mails = []impl.Mail{entryTo(b, 7, 4, 6, a.Log[4]), takenTo(a, 7, 4), entryTo(b, 7, 5, 7, a.Log[5]), takenTo(a, 6, 1), appendTo(b, 7, 2, 3)}
	return p
}

// manyMails are so many, to both nodes, no two near each other alike.
func manyMails(n int) []impl.Mail {
	var list []impl.Mail
	for place := range n {
		to := impl.Node{Id: int64(place % 2)}
		switch at := int64(place); place % 3 {
		case 0:
			list = append(list, takenTo(to, 1+at, at))
		case 1:
			list = append(list, appendTo(to, 1+at, at, at))
		default:
			list = append(list, entryTo(to, 1+at, at, 1, newEntry(1+at)))
		}
	}
	return list
}

// rightPairs have nothing, something and all that there may be.
func rightPairs() []impl.Pair {
	list := []impl.Pair{newPair(), impl.NewPair(ruledSettings()).Pair, richPair(), talkingPair(9), talkingPair(3), talkingPair(0)}
	nodes := []impl.Node{{Up: true}, {}, standbyOf(9, 2, 1, 1, 2, 2, 5), activeOf(9, 2, 1, 1, 2, 2, 5), restingOf(5, 1, 2, 2, 5), activeOf(8, 100, 100, 100, times(3, 100)...), standbyOf(8, 99, 0, 0, times(3, 99)...)}
	for _, a := range nodes {
		for _, b := range nodes {
			a.Id, b.Id = 0, 1
			list = append(list, pairOf(a, b, max(a.Epoch, b.Epoch), max(a.Epoch, b.Epoch), max(a.Epoch, b.Epoch)))
		}
	}
	full := richPair()
	full.Mails = manyMails(40)
	full.Wires = []impl.Wire{someWire(7, 2000, 1999, 2000), someWire(1000, 2000, 0, 0), someWire(0, 0, 0, 2000)}
	full.Sealed = logOf(times(6, 100)...)
	return append(list, full)
}

// talk is what peers and a router say to each other.
func talk() []impl.Event {
	return []impl.Event{start(0), hello(0), start(1), hello(1), hears(0, updateMessage(reachOf(tellingAt(4)))), tick(), start(2), hears(1, keepMessage()), stop(0)}
}

func logOfEvents(epoch int64, list ...impl.Event) []impl.Entry {
	var log []impl.Entry
	for _, e := range list {
		log = append(log, impl.Entry{Epoch: epoch, Event: e})
	}
	return log
}

// agreedPair has these events in both logs, the first commit of them agreed; the peers sent just these inputs and 3 bytes more.
func agreedPair(commit int64, events ...impl.Event) impl.Pair {
	log := logOfEvents(2, events...)
	count := int64(len(log))
	p := impl.Pair{Settings: someSettings(), Sealed: log[:commit]}
	p.Nodes = []impl.Node{{Up: true, Role: impl.RoleActive, Epoch: 3, Log: log, Sure: count, Other: commit, Commit: commit}, {Id: 1, Up: true, Epoch: 3, Log: log, Sure: count, Match: count}}
	for peer := range int64(3) {
		p.Wires = append(p.Wires, impl.Wire{Epoch: 3, Sent: append(inputIn(log, peer), 7, 8, 9)})
	}
	return p
}

func talkingPair(commit int64) impl.Pair {
	return agreedPair(commit, talk()...)
}

func outOf(p impl.Pair, commit, peer int64) []byte {
	return impl.RunRouter(p.Settings, eventsIn(p.Nodes[0].Log[:commit])).Out[peer]
}

// wrongMoves are calls of all functions, right and wrong.
func wrongMoves() []pairMove {
	var list []pairMove
	for _, node := range []int64{-1, 0, 1, 2, math.MinInt64, math.MaxInt64} {
		list = append(list, pairLead(node), pairSync(node), pairSpread(node), pairRise(node), pairCrash(node, 0), pairCrash(node, -1), pairEvent(node, tick()), pairEvent(node, inputOf(0, 1)), pairEvent(node, impl.Event{}))
		for _, peer := range []int64{-1, 0, 2, 3} {
			list = append(list, pairTake(node, peer, 1), pairTake(node, peer, 61), pairGive(node, peer))
		}
		list = append(list, pairSay(node, []byte{1}), pairSay(node, bodyOf(2001)), pairDeliver(node, false), pairDeliver(node, true), pairLose(node))
	}
	return list
}

// wantPairFault holds all that ask the fault of a pair to one code, whatever else is wrong.
func wantPairFault(t *testing.T, p impl.Pair, code int64) {
	t.Helper()
	if got := impl.PairFault(p); got != code || wordsPairFault(p) != code {
		t.Errorf("PairFault of %s: %d, want %d", pairBrief(p), got, code)
	}
	if code == impl.OK {
		return
	}
	for _, m := range wrongMoves() {
		wantMoveCode(t, p, m, code)
	}
}

// faultyNodes are with the code that each has.
func faultyNodes() map[int64]impl.Node {
	return map[int64]impl.Node{
		impl.ErrRange: {Up: true, Epoch: 1001}, impl.ErrMany: {Up: true, Epoch: 1, Log: logOf(times(1, 101)...)}, impl.ErrForm: {Role: impl.RoleActive, Epoch: 1}}
}

func faultyWires() map[int64][]impl.Wire {
	return map[int64][]impl.Wire{
		impl.ErrRange: {{Epoch: 1001}, {Epoch: -1}, {Taken: 1}, {Taken: -1}}, impl.ErrMany: {{Sent: make([]byte, 2001)}, {Got: make([]byte, 2001)}}}
}

func faultyEntries() map[int64][]impl.Entry {
	return map[int64][]impl.Entry{
		impl.ErrRange: {{}, tickEntry(1001), tickEntry(-1), {Epoch: 1, Event: start(3)}}, impl.ErrForm: {{Epoch: 1}, {Epoch: 1, Event: inputOf(0)}}, impl.ErrMany: {{Epoch: 1, Event: inputOf(0, make([]byte, 61)...)}}}
}

// bent is a pair of which no list is the one of another pair.
func bent(p impl.Pair, bend func(p *impl.Pair)) impl.Pair {
	p = roomyCopy(p)
	bend(&p)
	return p
}

func TestNumberOfMails(t *testing.T) {
	if impl.MaxMails != 40 {
		t.Errorf("MaxMails is %d", impl.MaxMails)
	}
	for _, p := range rightPairs() {
		wantPairFault(t, p, impl.OK)
	}
}

func TestSettingsOfAPair(t *testing.T) {
	for _, x := range faultySettings() {
		code := wordsSettingsFault(x)
		for _, p := range []impl.Pair{{}, newPair(), richPair(), {Nodes: []impl.Node{{Epoch: -1}, {}}, Wires: make([]impl.Wire, 3)}} {
			p.Settings = x
			if got := impl.PairFault(p); got != code {
				t.Errorf("PairFault with %+v: %d, want %d", x, got, code)
			}
		}
		broken := richPair()
		broken.Settings, broken.Nodes = x, nil
		wantPairFault(t, broken, code)
	}
	wantPairFault(t, impl.Pair{}, impl.ErrRange)
}

func TestHowManyNodesAndWires(t *testing.T) {
	for nodes := range 4 {
		for wires := range 6 {
			p := richPair()
			p.Nodes = append(p.Nodes, turned(p.Nodes[0]))[:nodes]
			p.Wires = slices.Concat(p.Wires, p.Wires)[:wires]
			p.Mails = nil
			wantPairFault(t, p, codeIf(nodes != 2 || wires != 3, impl.ErrForm))
			if nodes == 0 {
				p.Nodes = nil
				wantPairFault(t, p, impl.ErrForm)
			}
			if wires == 0 {
				p.Wires = nil
				wantPairFault(t, p, impl.ErrForm)
			}
		}
	}
	// How many there are is asked ahead of each of them.
	p := richPair()
	p.Nodes, p.Wires = []impl.Node{{Epoch: -1}, {Epoch: -1}}, p.Wires[:2]
	wantPairFault(t, p, impl.ErrForm)
	p.Nodes, p.Wires = []impl.Node{{Epoch: -1}}, richPair().Wires
	wantPairFault(t, p, impl.ErrForm)
	p.Nodes = append(richPair().Nodes, impl.Node{Id: 2})
	wantPairFault(t, p, impl.ErrForm)
}

func TestNodesOfAPair(t *testing.T) {
	for code, n := range faultyNodes() {
		for place := range int64(2) {
			n.Id = place
			wantPairFault(t, bent(richPair(), func(p *impl.Pair) { p.Nodes[place] = n }), code)
			// The fault of a node is asked ahead of its Id.
			n.Id = 1 - place
			wantPairFault(t, bent(richPair(), func(p *impl.Pair) { p.Nodes[place] = n }), code)
		}
	}
	for place := range int64(2) {
		for id, code := range map[int64]int64{-1: impl.ErrRange, 1 - place: impl.ErrForm, place: impl.OK, 2: impl.ErrRange, math.MaxInt64: impl.ErrRange} {
			p := bent(richPair(), func(p *impl.Pair) { p.Nodes[place].Id = id })
			wantPairFault(t, p, code)
		}
	}
	// Node by node: an Id that is not its place is told ahead of what the next one has.
	for _, n := range faultyNodes() {
		n.Id = 1
		wantPairFault(t, bent(richPair(), func(p *impl.Pair) { p.Nodes[0].Id, p.Nodes[1] = 1, n }), impl.ErrForm)
	}
	wantPairFault(t, bent(richPair(), func(p *impl.Pair) { p.Nodes[0].Epoch, p.Nodes[1].Id = 1001, 0 }), impl.ErrRange)
	wantPairFault(t, bent(richPair(), func(p *impl.Pair) { slices.Reverse(p.Nodes) }), impl.ErrForm)
}

func TestWiresOfAPair(t *testing.T) {
	for place := range 3 {
		for code, list := range faultyWires() {
			for _, w := range list {
				wantPairFault(t, bent(richPair(), func(p *impl.Pair) { p.Wires[place] = w }), code)
			}
		}
	}
	ranged, many := impl.Wire{Epoch: 1001}, impl.Wire{Sent: make([]byte, 2001)}
	for first := range 2 {
		for second := first + 1; second < 3; second++ {
			wantPairFault(t, bent(richPair(), func(p *impl.Pair) { p.Wires[first], p.Wires[second] = ranged, many }), impl.ErrRange)
			wantPairFault(t, bent(richPair(), func(p *impl.Pair) { p.Wires[first], p.Wires[second] = many, ranged }), impl.ErrMany)
		}
	}
}

func TestHowManyMailsOfAPair(t *testing.T) {
	for count, code := range map[int]int64{0: 0, 1: 0, 39: 0, 40: 0, 41: impl.ErrMany, 42: impl.ErrMany, 90: impl.ErrMany} {
		p := richPair()
		p.Mails = manyMails(count)
		wantPairFault(t, p, code)
		// How many there are is asked ahead of each of them.
		for i := range p.Mails {
			p.Mails[i].To = 2
		}
		wantPairFault(t, p, firstCode(code, codeIf(count > 0, impl.ErrForm)))
	}
}

func TestMailsOfAPair(t *testing.T) {
	for _, place := range []int{0, 2, 4} {
		for _, to := range append(greatNumbers(), -2, -1, 2, 3) {
			wantPairFault(t, bent(richPair(), func(p *impl.Pair) { p.Mails[place].To = to }), impl.ErrForm)
			// To is asked ahead of all else of the mail.
			wantPairFault(t, bent(richPair(), func(p *impl.Pair) { p.Mails[place].To, p.Mails[place].Epoch = to, 0 }), impl.ErrForm)
		}
		for to := range int64(2) {
			wantPairFault(t, bent(richPair(), func(p *impl.Pair) { p.Mails[place].To = to }), impl.OK)
			n := impl.Node{Id: to, Up: true}
			for _, m := range wrongMails(n) {
				if m.To == to {
					wantPairFault(t, bent(richPair(), func(p *impl.Pair) { p.Mails[place] = m }), wordsMailFault(n, m))
				}
			}
		}
	}
	// Mail by mail: To, then the fault, ahead of the next mail.
	b := impl.Node{Id: 1}
	ranged, many, nowhere := takenTo(b, 0, 0), entryTo(b, 3, 0, 0, impl.Entry{Epoch: 1, Event: inputOf(0, make([]byte, 61)...)}), impl.Mail{Kind: 1, To: 2, Epoch: 1}
	for _, c := range []struct {
		first, second impl.Mail
		code          int64
	}{{ranged, many, impl.ErrRange}, {many, ranged, impl.ErrMany}, {ranged, nowhere, impl.ErrRange}, {nowhere, ranged, impl.ErrForm}, {many, nowhere, impl.ErrMany}, {nowhere, many, impl.ErrForm}} {
		for first := range 4 {
			wantPairFault(t, bent(richPair(), func(p *impl.Pair) { p.Mails[first], p.Mails[first+1] = c.first, c.second }), c.code)
		}
	}
}

func TestSealedOfAPair(t *testing.T) {
	for count, code := range map[int]int64{0: 0, 1: 0, 2: 0, 99: 0, 100: 0, 101: impl.ErrMany, 102: impl.ErrMany, 300: impl.ErrMany} {
		p := richPair()
		p.Sealed = logOf(times(5, count)...)
		wantPairFault(t, p, code)
		p.Sealed = make([]impl.Entry, count)
		wantPairFault(t, p, firstCode(code, codeIf(count > 0, impl.ErrRange)))
	}
	for _, place := range []int{0, 1, 50, 98, 99} {
		for code, list := range faultyEntries() {
			for _, x := range list {
				p := richPair()
				p.Sealed = logOf(times(5, 100)...)
				p.Sealed[place] = x
				wantPairFault(t, p, code)
			}
		}
	}
	// Their epochs need not rise, and they need not be of a log.
	p := newPair()
	p.Sealed = logOf(9, 2, 1000, 1)
	wantPairFault(t, p, impl.OK)
	p.Sealed = append(logOf(9, 2), impl.Entry{Epoch: 1}, tickEntry(0))
	wantPairFault(t, p, impl.ErrForm)
	p.Sealed = append(logOf(9, 2), tickEntry(0), impl.Entry{Epoch: 1})
	wantPairFault(t, p, impl.ErrRange)
}

// TestWhichFaultOfAPairIsTold lays one fault upon the other, from the last that is asked to the first.
func TestWhichFaultOfAPairIsTold(t *testing.T) {
	p := bent(richPair(), func(p *impl.Pair) {})
	wantPairFault(t, p, impl.OK)
	for _, c := range []struct {
		bend func()
		code int64
	}{
		{func() { p.Sealed = append(p.Sealed, tickEntry(0)) }, impl.ErrRange},
		{func() { p.Sealed = append(slices.Repeat(p.Sealed, 30), logOf(times(1, 30)...)...) }, impl.ErrMany},
		{func() { p.Mails[4].Epoch = 0 }, impl.ErrRange},
		{func() { p.Mails[4].To = 2 }, impl.ErrForm},
		{func() { p.Mails = append(p.Mails, manyMails(36)...) }, impl.ErrMany},
		{func() { p.Wires[2].Taken = -1 }, impl.ErrRange},
		{func() { p.Wires[1].Got = make([]byte, 2001) }, impl.ErrMany},
		{func() { p.Nodes[1].Id = 0 }, impl.ErrForm},
		{func() { p.Nodes[1].Epoch = 1001 }, impl.ErrRange},
		{func() { p.Nodes[0].Id = 1 }, impl.ErrForm},
		{func() { p.Nodes[0].Log = logOf(times(1, 101)...) }, impl.ErrMany},
		{func() { p.Wires = p.Wires[:2] }, impl.ErrForm},
		{func() { p.Settings.Next = -1 }, impl.ErrRange},
	} {
		c.bend()
		wantPairFault(t, p, c.code)
	}
}

func TestNewPair(t *testing.T) {
	for _, x := range append(faultySettings(), impl.Settings{}) {
		if got := impl.NewPair(x); !reflect.DeepEqual(got, pairCode(wordsSettingsFault(x))) || got.Code == impl.OK {
			t.Errorf("NewPair of %+v: %s", x, brief(got))
		}
	}
	for _, x := range []impl.Settings{someSettings(), ruledSettings(), {Config: impl.Config{As: 65535, Id: 1, Hold: 0}, Next: 65535}} {
		got := impl.NewPair(x)
		want := impl.Pair{Settings: x, Nodes: []impl.Node{{Id: 0, Up: true}, {Id: 1, Up: true}}, Wires: []impl.Wire{{}, {}, {}}}
		if got.Code != impl.OK || len(got.Bytes) != 0 || !samePair(got.Pair, want) || impl.PairFault(got.Pair) != impl.OK {
			t.Errorf("NewPair of %+v: %s", x, brief(got))
		}
	}
}

func TestNodesThatAreNone(t *testing.T) {
	for _, p := range []impl.Pair{newPair(), richPair(), talkingPair(4), pairOf(impl.Node{}, impl.Node{Id: 1}, 1000)} {
		for _, none := range append(greatNumbers(), -2, -1, 2, 3) {
			for _, m := range []pairMove{pairLead(none), pairSync(none), pairSpread(none), pairRise(none), pairCrash(none, 0), pairCrash(none, none), pairEvent(none, tick()), pairEvent(none, inputOf(0, 1)), pairEvent(none, impl.Event{}),
				pairTake(none, 0, 1), pairTake(none, none, none), pairTake(none, 1, -1), pairGive(none, 0), pairGive(none, 3)} {
				wantMoveCode(t, p, m, impl.ErrRange)
			}
		}
		for node := range int64(2) {
			for kind := range doAll {
				wantWords(t, p, pairMove{Kind: kind, Node: node, Event: tick()})
			}
		}
	}
}

func TestPeersThatAreNone(t *testing.T) {
	for _, p := range []impl.Pair{newPair(), richPair(), talkingPair(4), pairOf(impl.Node{}, impl.Node{Id: 1}, 1000)} {
		for _, none := range append(greatNumbers(), -2, -1, 3, 4) {
			for node := range int64(2) {
				// It is asked ahead of the node's state.
				for _, m := range []pairMove{pairSay(none, nil), pairSay(none, bodyOf(2001)), pairTake(node, none, 1), pairTake(node, none, 61), pairGive(node, none)} {
					wantMoveCode(t, p, m, impl.ErrRange)
				}
			}
		}
		for peer := range int64(3) {
			for node := range int64(2) {
				wantWords(t, p, pairSay(peer, []byte{4, 5}))
				wantWords(t, p, pairTake(node, peer, 2))
				wantWords(t, p, pairGive(node, peer))
			}
		}
	}
}

func TestPlacesThatAreNone(t *testing.T) {
	for _, count := range []int{0, 1, 2, 39, 40} {
		p := richPair()
		p.Mails = manyMails(count)
		last := int64(count)
		for _, at := range append(greatNumbers(), -2, -1, last, last+1, 41) {
			for _, m := range []pairMove{pairDeliver(at, false), pairDeliver(at, true), pairLose(at)} {
				wantMoveCode(t, p, m, impl.ErrNone)
			}
		}
		for at := range last {
			for _, m := range []pairMove{pairDeliver(at, false), pairDeliver(at, true), pairLose(at)} {
				if got := wantWords(t, p, m); got.Code != impl.OK {
					t.Errorf("%+v: code %d", m, got.Code)
				}
			}
		}
	}
}

func TestLeadPair(t *testing.T) {
	led := afterMoves(t, newPair(), pairLead(1))
	if n := led.Nodes[1]; n.Role != impl.RoleActive || n.Epoch != 1 || led.Nodes[0].Epoch != 0 || led.Wires[0].Epoch != 1 || led.Wires[1].Epoch != 1 || led.Wires[2].Epoch != 1 {
		t.Errorf("node 1 leads: %s", pairBrief(led))
	}
	// Mails and Sealed stay, and so does the other node.
	p := richPair()
	want := bent(p, func(p *impl.Pair) {
		p.Nodes[1].Role, p.Nodes[1].Epoch, p.Nodes[1].Match = impl.RoleActive, 8, 0
		for peer := range p.Wires {
			p.Wires[peer].Epoch = 8
		}
	})
	wantMove(t, p, pairLead(1), pairAnswer(want))
	again := bent(p, func(p *impl.Pair) {
		p.Nodes[0].Epoch, p.Nodes[0].Other = 8, 0
		for peer := range p.Wires {
			p.Wires[peer].Epoch = 8
		}
	})
	wantMove(t, p, pairLead(0), pairAnswer(again))
	// What it knew to be agreed it knows still.
	if got := impl.LeadPair(p, 1).Pair; got.Nodes[1].Commit != 1 || len(got.Sealed) != 2 || len(got.Mails) != 5 {
		t.Errorf("a new leader: %s", pairBrief(got))
	}
}

func TestEpochsOfLeadPair(t *testing.T) {
	for fence, code := range map[int64]int64{0: 0, 1: 0, 998: 0, 999: 0, 1000: impl.ErrMany} {
		for node := range int64(2) {
			p := pairOf(impl.Node{Up: true}, impl.Node{Id: 1, Up: true}, fence, fence, fence)
			got := wantWords(t, p, pairLead(node))
			if got.Code != code || code == impl.OK && got.Pair.Nodes[node].Epoch != fence+1 {
				t.Errorf("with a fence of %d: %s", fence, brief(got))
			}
			// It is asked ahead of the node's state.
			p.Nodes[node].Up = false
			wantMoveCode(t, p, pairLead(node), firstCode(code, impl.ErrState))
		}
	}
	// Only an epoch that the node has not heard of yet is its own to lead in.
	for epoch, code := range map[int64]int64{0: 0, 1: 0, 4: 0, 5: 0, 6: impl.ErrOld, 7: impl.ErrOld, 1000: impl.ErrOld} {
		for node := range int64(2) {
			for _, role := range []int64{impl.RoleStandby, impl.RoleActive} {
				p := pairOf(impl.Node{Up: true}, impl.Node{Id: 1, Up: true}, 5, 5, 5)
				p.Nodes[node].Epoch = epoch
				p.Nodes[node].Role = min(role, epoch)
				if got := wantWords(t, p, pairLead(node)); got.Code != code {
					t.Errorf("a node of epoch %d at a fence of 5: %d", epoch, got.Code)
				}
			}
			p := pairOf(impl.Node{Epoch: epoch}, impl.Node{Id: 1, Epoch: epoch}, 5, 5, 5)
			wantMoveCode(t, p, pairLead(node), impl.ErrState)
		}
	}
}

func TestWiresThatAreNotFencedAlike(t *testing.T) {
	for _, c := range []struct {
		fences [3]int64
		code   int64
	}{
		{[3]int64{5, 6, 0}, 0}, {[3]int64{5, 7, 5}, impl.ErrOld}, {[3]int64{5, 5, 7}, impl.ErrOld}, {[3]int64{5, 1000, 0}, impl.ErrOld}, {[3]int64{999, 1000, 1000}, 0}, {[3]int64{0, 1, 1}, 0}, {[3]int64{0, 1, 2}, impl.ErrOld},
		{[3]int64{1000, 5, 5}, impl.ErrMany}, {[3]int64{5, 0, 6}, 0}, {[3]int64{900, 3, 2}, 0},
	} {
		for node := range int64(2) {
			p := pairOf(impl.Node{Up: true}, impl.Node{Id: 1, Up: true}, c.fences[:]...)
			got := wantWords(t, p, pairLead(node))
			if got.Code != c.code {
				t.Errorf("fences of %v: %d", c.fences, got.Code)
			}
			if got.Code == impl.OK {
				for _, w := range got.Pair.Wires {
					if w.Epoch != c.fences[0]+1 {
						t.Errorf("fences of %v: %s", c.fences, brief(got.Pair.Wires))
					}
				}
			}
			// The node's code is told ahead of the wires'.
			p.Nodes[node] = impl.Node{Id: node}
			wantMoveCode(t, p, pairLead(node), firstCode(codeIf(c.fences[0] == 1000, impl.ErrMany), impl.ErrState))
		}
	}
}

func TestSayPair(t *testing.T) {
	for _, p := range rightPairs() {
		for peer := range int64(3) {
			room := 2000 - len(p.Wires[peer].Sent)
			for _, n := range []int{0, 1, 60, 61, room - 1, room, room + 1, 2001} {
				got := wantWords(t, p, pairSay(peer, bodyOf(max(n, 0))))
				if got.Code != codeIf(n > room, impl.ErrMany) {
					t.Errorf("%d bytes where there is room for %d: %d", n, room, got.Code)
				}
			}
			wantMove(t, p, pairSay(peer, nil), pairAnswer(p))
		}
	}
	p := afterMoves(t, newPair(), pairSay(1, []byte("ab")), pairSay(2, []byte("x")), pairSay(1, []byte("c")))
	if string(p.Wires[1].Sent) != "abc" || string(p.Wires[2].Sent) != "x" || len(p.Wires[0].Sent) != 0 {
		t.Errorf("what was sent: %s", brief(p.Wires))
	}
}

// leaderOf leads in epoch 4 with these events in its log; the peers sent "abcdefgh", "ABCDEFGH" and nothing.
func leaderOf(node int64, events ...impl.Event) impl.Pair {
	p := pairOf(impl.Node{Up: true, Epoch: 4}, impl.Node{Id: 1, Up: true, Epoch: 4}, 4, 4, 4)
	p.Nodes[node].Role, p.Nodes[node].Log = impl.RoleActive, logOfEvents(3, events...)
	p.Wires[0].Sent, p.Wires[1].Sent = []byte("abcdefgh"), []byte("ABCDEFGH")
	return p
}

func TestTakePair(t *testing.T) {
	letters := func(peer int64, text string) impl.Event { return inputOf(peer, []byte(text)...) }
	for node := range int64(2) {
		for _, c := range []struct {
			events  []impl.Event
			peer, n int64
			want    string
		}{
			{nil, 0, 3, "abc"}, {nil, 1, 60, "ABCDEFGH"}, {nil, 0, 8, "abcdefgh"}, {nil, 0, 9, "abcdefgh"}, {nil, 0, 0, ""}, {nil, 2, 9, ""},
			{[]impl.Event{letters(0, "abc")}, 0, 2, "de"}, {[]impl.Event{letters(0, "abc")}, 1, 2, "AB"},
			// Input of other peers, and other events, do not count.
			{[]impl.Event{start(0), letters(0, "ab"), letters(1, "ABCD"), tick(), letters(0, "c"), stop(0), letters(2, "zzzzzzzzzzzz")}, 0, 2, "de"},
			{[]impl.Event{start(0), letters(0, "ab"), letters(1, "ABCD"), tick(), letters(0, "c"), stop(0), letters(2, "zzzzzzzzzzzz")}, 1, 3, "EFG"},
			{[]impl.Event{letters(0, "abcdefg")}, 0, 60, "h"}, {[]impl.Event{letters(0, "abcdefgh")}, 0, 60, ""}, {[]impl.Event{letters(0, "abcd"), letters(0, "efgh")}, 0, 1, ""},
		} {
			p := leaderOf(node, c.events...)
			want := bent(p, func(p *impl.Pair) {
				if c.want != "" {
					p.Nodes[node].Log = append(p.Nodes[node].Log, impl.Entry{Epoch: 4, Event: letters(c.peer, c.want)})
				}
			})
			// What the peer was told to be Taken says nothing of what is in the log.
			for _, taken := range []int64{0, 1, int64(len(p.Wires[c.peer].Sent))} {
				if taken <= int64(len(p.Wires[c.peer].Sent)) {
					p.Wires[c.peer].Taken, want.Wires[c.peer].Taken = taken, taken
					wantMove(t, p, pairTake(node, c.peer, c.n), impl.PairResult{Bytes: []byte(c.want), Pair: want})
				}
			}
		}
	}
}

func TestCodesOfTakePair(t *testing.T) {
	for node := range int64(2) {
		p := leaderOf(node, inputOf(0, []byte("abc")...), inputOf(2, 1))
		for n, code := range map[int64]int64{-1: impl.ErrRange, 0: 0, 1: 0, 60: 0, 61: impl.ErrRange, math.MinInt64: impl.ErrRange, math.MaxInt64: impl.ErrRange} {
			for peer := range int64(2) {
				if got := wantWords(t, p, pairTake(node, peer, n)); got.Code != code {
					t.Errorf("%d bytes: code %d", n, got.Code)
				}
				// Who is not up, or no active, is asked for ahead of how many.
				wantMoveCode(t, p, pairTake(1-node, peer, n), impl.ErrState)
				down := bent(p, func(p *impl.Pair) { p.Nodes[1-node] = impl.Node{Id: 1 - node, Epoch: 4} })
				wantMoveCode(t, down, pairTake(1-node, peer, n), impl.ErrState)
				// Who is behind the fence is told so ahead of how many, and also where there is nothing to take.
				fenced := bent(p, func(p *impl.Pair) { p.Wires[peer].Epoch = 5 })
				wantMoveCode(t, fenced, pairTake(node, peer, n), impl.ErrOld)
				wantWords(t, fenced, pairTake(node, 1-peer, n))
				behind := bent(p, func(p *impl.Pair) { p.Wires[peer].Epoch = 3 })
				wantWords(t, behind, pairTake(node, peer, n))
			}
			// There is more in the log than the peer sent.
			wantMoveCode(t, p, pairTake(node, 2, n), impl.ErrRange)
		}
	}
}

func TestTakePairIntoAFullLog(t *testing.T) {
	for count, code := range map[int]int64{98: 0, 99: 0, 100: impl.ErrMany} {
		p := leaderOf(0, slices.Repeat([]impl.Event{tick()}, count)...)
		if got := wantWords(t, p, pairTake(0, 1, 2)); got.Code != code {
			t.Errorf("into a log of %d: %d", count, got.Code)
		}
		// With none to take nothing changes, and nothing is asked of the log.
		wantMove(t, p, pairTake(0, 1, 0), pairAnswer(p))
		wantMove(t, p, pairTake(0, 2, 5), pairAnswer(p))
		wantMoveCode(t, p, pairTake(0, 1, 61), impl.ErrRange)
	}
}

func TestANewLeaderTakesBehindItsOwnLog(t *testing.T) {
	p := afterMoves(t, newPair(), pairLead(0), pairSay(0, []byte("abcdefgh")), pairTake(0, 0, 3), pairSpread(0), pairDeliver(0, false), pairLose(0), pairTake(0, 0, 2))
	// The other one has heard of the first three bytes, not of what came behind them.
	p = afterMoves(t, p, pairCrash(0, 2), pairLead(1))
	got := wantWords(t, p, pairTake(1, 0, 4))
	if string(got.Bytes) != "defg" || len(got.Pair.Nodes[1].Log) != 2 || len(got.Pair.Nodes[0].Log) != 2 {
		t.Errorf("a new leader takes %q: %s", got.Bytes, pairBrief(got.Pair))
	}
	wantMoveCode(t, got.Pair, pairTake(0, 0, 1), impl.ErrState)
}

func TestEventPair(t *testing.T) {
	events := slices.Concat(rightEvents(), faultyEvents())
	for _, p := range rightPairs() {
		for node := range int64(2) {
			for _, e := range events {
				got := wantWords(t, p, pairEvent(node, e))
				// An input has no way in but the wire, whoever is told of it.
				if e.Kind == impl.EventInput && got.Code != impl.ErrForm {
					t.Errorf("an input: code %d", got.Code)
				}
			}
		}
	}
	p := leaderOf(0, tick())
	for _, e := range []impl.Event{start(0), stop(2), tick()} {
		want := bent(p, func(p *impl.Pair) { p.Nodes[0].Log = append(p.Nodes[0].Log, impl.Entry{Epoch: 4, Event: e}) })
		wantMove(t, p, pairEvent(0, e), pairAnswer(want))
		wantMoveCode(t, p, pairEvent(1, e), impl.ErrState)
		down := bent(p, func(p *impl.Pair) { p.Nodes[1] = impl.Node{Id: 1} })
		wantMoveCode(t, down, pairEvent(1, e), impl.ErrState)
		for count, code := range map[int]int64{99: 0, 100: impl.ErrMany} {
			if got := wantWords(t, leaderOf(0, slices.Repeat([]impl.Event{tick()}, count)...), pairEvent(0, e)); got.Code != code {
				t.Errorf("into a log of %d: %d", count, got.Code)
			}
		}
	}
	wantMoveCode(t, p, pairEvent(0, start(3)), impl.ErrRange)
	wantMoveCode(t, p, pairEvent(0, impl.Event{}), impl.ErrForm)
	wantMoveCode(t, p, pairEvent(1, impl.Event{}), impl.ErrState)
}

func TestSyncSpreadCrashAndRisePair(t *testing.T) {
	codes := map[int64]int{}
	for _, a := range allNodes() {
		for _, b := range []impl.Node{{Up: true}, restingOf(5, 1, 2, 2, 5), activeOf(9, 2, 1, 1, 2, 2, 5), standbyOf(7, 3, 2, 2, 1, 3, 3, 6, 7, 7)} {
			nodes := []impl.Node{b, b}
			nodes[a.Id], nodes[1-a.Id].Id = a, 1-a.Id
			p := pairOf(nodes[0], nodes[1])
			p.Mails = manyMails(4)
			moves := []pairMove{pairSync(a.Id), pairSpread(a.Id), pairRise(a.Id)}
			for _, kept := range []int64{-1, 0, 1, int64(len(a.Log)) - a.Sure, int64(len(a.Log)) - a.Sure + 1, math.MinInt64, math.MaxInt64} {
				moves = append(moves, pairCrash(a.Id, kept))
			}
			for _, m := range moves {
				got := wantWords(t, p, m)
				codes[got.Code]++
				if got.Code == impl.OK && (!sameNode(got.Pair.Nodes[1-a.Id], p.Nodes[1-a.Id]) || !slices.EqualFunc(got.Pair.Mails[:4], p.Mails, sameMail)) {
					t.Fatalf("%+v has changed the other node, or mails that were there", m)
				}
			}
		}
	}
	if codes[impl.OK] < 100 || codes[impl.ErrState] < 100 || codes[impl.ErrRange] < 100 {
		t.Errorf("codes: %v", codes)
	}
}

func TestWhatIsSentStandsBehindMails(t *testing.T) {
	p := richPair()
	a, b := p.Nodes[0], p.Nodes[1]
	spread := bent(p, func(p *impl.Pair) { p.Mails = append(p.Mails, entryTo(b, 7, 4, 6, a.Log[4])) })
	wantMove(t, p, pairSpread(0), pairAnswer(spread))
	synced := bent(p, func(p *impl.Pair) { p.Mails = append(p.Mails, takenTo(a, 7, 4)) })
	wantMove(t, p, pairSync(1), pairAnswer(synced))
	// An active that syncs sends nothing, and knows more to be agreed.
	all := bent(p, func(p *impl.Pair) { p.Nodes[0].Sure, p.Nodes[0].Commit, p.Sealed = 6, 4, a.Log[:4] })
	wantMove(t, p, pairSync(0), pairAnswer(all))
	wantMoveCode(t, p, pairSpread(1), impl.ErrState)
	wantMoveCode(t, p, pairRise(0), impl.ErrState)
	crashed := bent(p, func(p *impl.Pair) {
		p.Nodes[0] = impl.Node{Epoch: 7, Log: a.Log[:4], Sure: 4}
	})
	wantMove(t, p, pairCrash(0, 1), pairAnswer(crashed))
	wantMoveCode(t, crashed, pairCrash(0, 0), impl.ErrState)
	wantMoveCode(t, crashed, pairSync(0), impl.ErrState)
	wantMoveCode(t, crashed, pairSpread(0), impl.ErrState)
	risen := bent(crashed, func(p *impl.Pair) { p.Nodes[0].Up = true })
	wantMove(t, crashed, pairRise(0), pairAnswer(risen))
	wantMoveCode(t, p, pairCrash(0, 4), impl.ErrRange)
}

func TestMailsThatHaveNoRoom(t *testing.T) {
	for count, left := range map[int]int{0: 1, 1: 2, 38: 39, 39: 40, 40: 40} {
		p := richPair()
		p.Mails = manyMails(count)
		for _, m := range []pairMove{pairSpread(0), pairSync(1)} {
			got := wantWords(t, p, m)
			if got.Code != impl.OK || len(got.Pair.Mails) != left || !slices.EqualFunc(got.Pair.Mails[:count], p.Mails, sameMail) {
				t.Errorf("%+v with %d mails: %d, %d mails", m, count, got.Code, len(got.Pair.Mails))
			}
			// The rest is as if the mail were sent.
			if synced := impl.SyncNode(p.Nodes[1]).Node; m.Kind == doSync && !sameNode(got.Pair.Nodes[1], synced) {
				t.Errorf("with %d mails: %s", count, brief(got.Pair.Nodes[1]))
			}
		}
	}
	for _, count := range []int{39, 40} {
		for _, at := range []int64{0, 20, int64(count) - 1} {
			p := richPair()
			m := entryTo(p.Nodes[1], 7, 5, 7, p.Nodes[0].Log[5])
			p.Mails = manyMails(count)
			p.Mails[at] = m
			sent := impl.HearMail(p.Nodes[1], m).Send[0]
			gone, kept := wantWords(t, p, pairDeliver(at, false)), wantWords(t, p, pairDeliver(at, true))
			// The mail that is gone makes room; one that is kept does not.
			if len(gone.Pair.Mails) != count || !sameMail(gone.Pair.Mails[count-1], sent) {
				t.Errorf("%d mails, %d is gone: %s", count, at, brief(gone.Pair.Mails))
			}
			if len(kept.Pair.Mails) != 40 || !sameMail(kept.Pair.Mails[at], m) || sameMail(kept.Pair.Mails[39], sent) != (count == 39) {
				t.Errorf("%d mails, %d is kept: %s", count, at, brief(kept.Pair.Mails))
			}
			for _, got := range []impl.PairResult{gone, kept} {
				if len(got.Pair.Nodes[1].Log) != 6 || got.Pair.Nodes[1].Match != 6 {
					t.Errorf("%d mails: what is heard is %s", count, brief(got.Pair.Nodes[1]))
				}
			}
		}
	}
}

// sealedPair has a leader that comes to have agreed to as many entries as there are, by a sync or by the first mail.
func sealedPair(sealed []impl.Entry, byMail bool) impl.Pair {
	a := activeOf(9, 2, 4, 1, 1, 2, 2, 5)
	if byMail {
		a = activeOf(9, 4, 1, 1, 1, 2, 2, 5)
	}
	p := pairOf(a, standbyOf(9, 4, 4, 0, 1, 2, 2, 5))
	p.Mails, p.Sealed = []impl.Mail{takenTo(a, 9, 4)}, sealed
	return p
}

func TestSealed(t *testing.T) {
	log := logOf(1, 2, 2, 5)
	for _, byMail := range []bool{false, true} {
		m := pairSync(0)
		if byMail {
			m = pairDeliver(0, true)
		}
		for count := range 8 {
			// Sealed are as they were where as many are known to be agreed, or fewer.
			sealed := logOf(times(8, count)...)
			got := wantWords(t, sealedPair(sealed, byMail), m)
			want := sealed
			if count < 4 {
				want = log
			}
			if got.Pair.Nodes[0].Commit != 4 || !sameEntries(got.Pair.Sealed, want) {
				t.Errorf("%d were Sealed: %s", count, brief(got.Pair.Sealed))
			}
			if len(got.Pair.Sealed) > 0 && &got.Pair.Sealed[0] == &got.Pair.Nodes[0].Log[0] {
				t.Errorf("%d were Sealed: they are the log", count)
			}
		}
	}
	// As many are Sealed as are agreed, not as many as are in the log, or Sure.
	p := pairOf(activeOf(9, 3, 2, 0, 1, 2, 2, 5), impl.Node{Id: 1, Up: true})
	if got := wantWords(t, p, pairSync(0)); !sameEntries(got.Pair.Sealed, log[:2]) {
		t.Errorf("Sealed are %s", brief(got.Pair.Sealed))
	}
	// A leader that knows of fewer than were Sealed seals nothing.
	p = pairOf(activeOf(9, 3, 2, 0, 1, 2, 2, 5), standbyOf(9, 3, 3, 3, 1, 2, 2))
	if got := wantWords(t, p, pairSync(0)); len(got.Pair.Sealed) != 3 || got.Pair.Nodes[0].Commit != 2 {
		t.Errorf("Sealed are %s", brief(got.Pair.Sealed))
	}
	full := pairOf(activeOf(8, 99, 100, 99, times(3, 100)...), impl.Node{Id: 1, Up: true})
	if got := wantWords(t, full, pairSync(0)); len(got.Pair.Sealed) != 100 {
		t.Errorf("%d are Sealed", len(got.Pair.Sealed))
	}
	// They stay when all that was agreed is forgotten.
	if got := afterMoves(t, full, pairCrash(0, 0)); got.Nodes[0].Commit != 0 || len(got.Sealed) != 99 {
		t.Errorf("behind a crash: %s", pairBrief(got))
	}
}

func TestDeliverPair(t *testing.T) {
	p := richPair()
	for at := range int64(5) {
		for _, keep := range []bool{false, true} {
			m := p.Mails[at]
			heard := impl.HearMail(p.Nodes[m.To], m)
			want := bent(p, func(p *impl.Pair) {
				if !keep {
					p.Mails = slices.Delete(p.Mails, int(at), int(at)+1)
				}
				p.Mails = append(p.Mails, heard.Send...)
				p.Nodes[m.To] = heard.Node
				if heard.Node.Commit > 2 {
					p.Sealed = heard.Node.Log[:heard.Node.Commit]
				}
			})
			wantMove(t, p, pairDeliver(at, keep), pairAnswer(want))
		}
	}
	// What is heard twice is heard once.
	twice := afterMoves(t, p, pairDeliver(2, true), pairDeliver(2, false))
	if len(twice.Nodes[1].Log) != 6 || len(twice.Mails) != 6 {
		t.Errorf("what was heard twice: %s", pairBrief(twice))
	}
}

func TestMailsThatNobodyHears(t *testing.T) {
	full := standbyOf(8, 100, 0, 0, times(3, 100)...)
	for _, c := range []struct {
		node impl.Node
		mail impl.Mail
		code int64
	}{
		{restingOf(5, 1, 2), takenTo(full, 9, 1), impl.ErrState}, {restingOf(5, 1, 2), appendTo(full, 4, 0, 0), impl.ErrState}, {turned(activeOf(7, 1, 1, 1, 1, 2)), appendTo(full, 7, 0, 0), impl.ErrState},
		{turned(activeOf(7, 1, 1, 1, 1, 2)), entryTo(full, 7, 0, 0, newEntry(7)), impl.ErrState}, {standbyOf(7, 2, 1, 2, 1, 2), entryTo(full, 7, 1, 1, newEntry(7)), impl.ErrTaken}, {standbyOf(7, 2, 1, 1, 1, 2), entryTo(full, 9, 0, 0, newEntry(8)), impl.ErrTaken},
		{full, entryTo(full, 8, 100, 3, newEntry(8)), impl.ErrMany}, {full, entryTo(full, 9, 100, 3, newEntry(9)), impl.ErrMany},
	} {
		if code := impl.HearMail(c.node, c.mail).Code; code != c.code {
			t.Fatalf("%s is heard with the code %d", brief(c.mail), code)
		}
		for _, count := range []int{0, 1, 4, 39} {
			for _, at := range []int{0, count / 2, count} {
				p := pairOf(activeOf(9, 2, 1, 1, 2, 2, 5), c.node, 9, 9, 9)
				rest := manyMails(count)
				p.Mails = slices.Insert(slices.Clone(rest), at, c.mail)
				want := p
				want.Mails = rest
				// Kept or not it is lost, and all else stays.
				for _, keep := range []bool{false, true} {
					wantMove(t, p, pairDeliver(int64(at), keep), pairAnswer(want))
				}
			}
		}
	}
}

func TestLosePair(t *testing.T) {
	for _, count := range []int{1, 2, 3, 39, 40} {
		p := richPair()
		p.Mails = manyMails(count)
		for at := range count {
			want := p
			want.Mails = slices.Concat(p.Mails[:at], p.Mails[at+1:])
			wantMove(t, p, pairLose(int64(at)), pairAnswer(want))
		}
	}
	// Nobody hears of it, so that it does not matter who is up.
	p := pairOf(impl.Node{}, impl.Node{Id: 1}, 4, 4, 4)
	p.Mails = manyMails(3)
	if got := afterMoves(t, p, pairLose(1), pairLose(1), pairLose(0)); len(got.Mails) != 0 {
		t.Errorf("mails that are left: %s", brief(got.Mails))
	}
}

func TestGivePair(t *testing.T) {
	for commit := range int64(len(talk()) + 1) {
		p := talkingPair(commit)
		for peer := range int64(3) {
			out := outOf(p, commit, peer)
			taken := int64(len(inputIn(p.Nodes[0].Log[:commit], peer)))
			for _, got := range []int{0, 1, len(out) / 2, len(out) - 1, len(out)} {
				if got < 0 || got > len(out) {
					continue
				}
				for _, before := range []int64{0, taken, taken + 2} {
					had := bent(p, func(p *impl.Pair) { p.Wires[peer].Got, p.Wires[peer].Taken = out[:got], before })
					want := bent(had, func(p *impl.Pair) { p.Wires[peer].Got, p.Wires[peer].Taken = out, max(before, taken) })
					wantMove(t, had, pairGive(0, peer), pairAnswer(want))
				}
			}
		}
	}
	// What is behind Commit is not run.
	p := talkingPair(3)
	if got := impl.GivePair(p, 0, 1).Pair.Wires[1]; !bytes.Equal(got.Got, stream(impl.Message{Kind: impl.KindOpen, As: 9, Hold: 9, Id: 4})) || got.Taken != 0 {
		t.Errorf("with three that are agreed the peer gets %d", got.Got)
	}
	if got := impl.GivePair(talkingPair(4), 0, 1).Pair.Wires[1]; !bytes.Equal(got.Got, stream(impl.Message{Kind: impl.KindOpen, As: 9, Hold: 9, Id: 4}, keepMessage())) || got.Taken != int64(len(hello(1).Bytes)) {
		t.Errorf("with four that are agreed the peer gets %d", got.Got)
	}
	// A peer that got more than this leader knows of keeps it.
	more := bent(p, func(p *impl.Pair) { p.Wires[1].Got = outOf(*p, 9, 1) })
	wantMove(t, more, pairGive(0, 1), pairAnswer(more))
}

func TestCodesOfGivePair(t *testing.T) {
	p := talkingPair(6)
	for peer := range int64(3) {
		wantMoveCode(t, p, pairGive(1, peer), impl.ErrState)
		down := bent(p, func(p *impl.Pair) { p.Nodes[1] = impl.Node{Id: 1} })
		wantMoveCode(t, down, pairGive(1, peer), impl.ErrState)
		fenced := bent(p, func(p *impl.Pair) { p.Wires[peer].Epoch = 4 })
		wantMoveCode(t, fenced, pairGive(0, peer), impl.ErrOld)
		wantWords(t, fenced, pairGive(0, (peer+1)%3))
		wantWords(t, bent(p, func(p *impl.Pair) { p.Wires[peer].Epoch = 2 }), pairGive(0, peer))
	}
	out := outOf(p, 6, 1)
	for at := range out {
		other := bent(p, func(p *impl.Pair) { p.Wires[1].Got = bytes.Clone(out); p.Wires[1].Got[at]++ })
		wantMoveCode(t, other, pairGive(0, 1), impl.ErrTaken)
		// The fence is asked ahead of what was given.
		other.Wires[1].Epoch = 4
		wantMoveCode(t, other, pairGive(0, 1), impl.ErrOld)
	}
	// More was taken than the peer sent.
	short := bent(p, func(p *impl.Pair) { p.Wires[1].Sent = p.Wires[1].Sent[:len(hello(1).Bytes)-1] })
	wantMoveCode(t, short, pairGive(0, 1), impl.ErrRange)
	short.Wires[1].Got = []byte{1}
	wantMoveCode(t, short, pairGive(0, 1), impl.ErrTaken)
	just := bent(p, func(p *impl.Pair) { p.Wires[1].Sent = p.Wires[1].Sent[:len(hello(1).Bytes)] })
	if got := wantWords(t, just, pairGive(0, 1)); got.Pair.Wires[1].Taken != int64(len(hello(1).Bytes)) {
		t.Errorf("all is taken: %s", brief(got.Pair.Wires[1]))
	}
}

// flood has peer 1 hear so many updates over one system, and so many over two, of 21 and 23 bytes behind the first 15.
func flood(singles, doubles int) []impl.Event {
	list := []impl.Event{start(0), hello(0), start(1), hello(1)}
	for round := int64(100); singles+doubles > 0; round++ {
		path, left := []int64{round}, &singles
		if singles == 0 {
			path, left = []int64{round, 300}, &doubles
		}
		u := impl.Update{Has: true, Attrs: impl.Attrs{Path: path}}
		for ; *left > 0 && len(u.Reach) < 8; *left-- {
			u.Reach = append(u.Reach, impl.Prefix{Addr: int64(len(u.Reach)) * 256, Len: 8})
		}
		list = append(list, hears(0, updateMessage(u)))
	}
	return list
}

func TestHowMuchIsGiven(t *testing.T) {
	for _, c := range []struct {
		singles, doubles, size int
		code                   int64
	}{{89, 5, 1999, 0}, {77, 16, 2000, 0}, {88, 6, 2001, impl.ErrMany}, {78, 16, 2021, impl.ErrMany}} {
		events := flood(c.singles, c.doubles)
		p := agreedPair(int64(len(events)), events...)
		out := outOf(p, int64(len(events)), 1)
		if len(out) != c.size {
			t.Fatalf("%d and %d updates are %d bytes", c.singles, c.doubles, len(out))
		}
		got := wantWords(t, p, pairGive(0, 1))
		if got.Code != c.code || c.code == impl.OK && !bytes.Equal(got.Pair.Wires[1].Got, out) {
			t.Errorf("%d bytes to give: code %d", c.size, got.Code)
		}
		// How much it is is asked ahead of the wire.
		for _, bend := range []func(p *impl.Pair){func(p *impl.Pair) { p.Wires[1].Epoch = 4 }, func(p *impl.Pair) { p.Wires[1].Got = []byte{1} }, func(p *impl.Pair) { p.Wires[1].Sent = nil }} {
			if got := wantWords(t, bent(p, bend), pairGive(0, 1)); got.Code == impl.OK || c.code != impl.OK && got.Code != c.code {
				t.Errorf("%d bytes to give: code %d", c.size, got.Code)
			}
		}
		// The other peers have their own.
		for _, peer := range []int64{0, 2} {
			if got := wantWords(t, p, pairGive(0, peer)); got.Code != impl.OK {
				t.Errorf("to peer %d: code %d", peer, got.Code)
			}
		}
	}
}

// TestExamplesOfAPair are those of the document.
func TestExamplesOfAPair(t *testing.T) {
	p := afterMoves(t, newPair(), pairLead(0), pairEvent(0, start(0)), pairSay(0, hello(0).Bytes), pairTake(0, 0, 60))
	if len(p.Nodes[0].Log) != 2 || !bytes.Equal(p.Nodes[0].Log[1].Event.Bytes, hello(0).Bytes) {
		t.Fatalf("what is taken: %s", brief(p.Nodes[0].Log))
	}
	// Nothing is given of what is not agreed.
	if got := afterMoves(t, p, pairSync(0), pairGive(0, 0)); len(got.Wires[0].Got) != 0 || got.Wires[0].Taken != 0 {
		t.Errorf("given too early: %s", brief(got.Wires[0]))
	}
	for range 2 {
		p = afterMoves(t, p, pairSpread(0), pairDeliver(0, false), pairLose(0), pairSync(1), pairSync(0), pairDeliver(0, false))
	}
	want := stream(impl.Message{Kind: impl.KindOpen, As: 9, Hold: 9, Id: 4}, keepMessage())
	given := afterMoves(t, p, pairGive(0, 0))
	if !bytes.Equal(given.Wires[0].Got, want) || given.Wires[0].Taken != int64(len(hello(0).Bytes)) || len(given.Sealed) != 2 {
		t.Errorf("the peer gets %d", given.Wires[0].Got)
	}
	// Node 0 crashes, node 1 leads: it does not know yet what is agreed, and comes to know it.
	for _, was := range []impl.Pair{p, given} {
		next := afterMoves(t, was, pairCrash(0, 0), pairLead(1), pairGive(1, 0))
		if !bytes.Equal(next.Wires[0].Got, was.Wires[0].Got) || next.Nodes[1].Commit != 0 {
			t.Errorf("it gives what it does not know: %s", brief(next.Wires[0]))
		}
		next = afterMoves(t, next, pairRise(0))
		for range 3 {
			next = afterMoves(t, next, pairSpread(1), pairDeliver(0, false), pairDeliver(0, false), pairSync(0), pairSync(1), pairDeliver(0, false))
		}
		next = afterMoves(t, next, pairSync(1), pairGive(1, 0))
		if !bytes.Equal(next.Wires[0].Got, want) || len(next.Sealed) != 2 || next.Nodes[1].Commit != 2 {
			t.Errorf("the peer gets %d: %s", next.Wires[0].Got, pairBrief(next))
		}
		// The old one is not heard any more: its epoch is behind the fence.
		wantMoveCode(t, next, pairGive(0, 0), impl.ErrState)
	}
}

// TestALeaderBehindTheFence is active still, as it has not heard of the new one.
func TestALeaderBehindTheFence(t *testing.T) {
	p := afterMoves(t, newPair(), pairLead(0), pairSay(1, []byte("abc")), pairTake(0, 1, 1), pairLead(1))
	for peer := range int64(3) {
		wantMoveCode(t, p, pairGive(0, peer), impl.ErrOld)
		wantMoveCode(t, p, pairTake(0, peer, 1), impl.ErrOld)
	}
	p = afterMoves(t, p, pairEvent(0, tick()), pairTake(1, 1, 2), pairSpread(0), pairSpread(1))
	if p.Nodes[0].Role != impl.RoleActive || p.Nodes[1].Role != impl.RoleActive || len(p.Mails) != 2 {
		t.Fatalf("both are active: %s", pairBrief(p))
	}
	p = afterMoves(t, p, pairDeliver(0, false), pairDeliver(0, false))
	if p.Nodes[0].Role != impl.RoleStandby || p.Nodes[0].Epoch != 2 || !sameEntries(p.Nodes[0].Log, p.Nodes[1].Log) || len(p.Nodes[0].Log) != 1 {
		t.Errorf("the old one follows: %s", pairBrief(p))
	}
	// It can lead again in an epoch of its own.
	p = afterMoves(t, p, pairLead(0))
	wantMoveCode(t, p, pairTake(1, 1, 1), impl.ErrOld)
}

func TestGreatNumbersOfPairs(t *testing.T) {
	for _, p := range []impl.Pair{newPair(), richPair(), talkingPair(6)} {
		for _, great := range greatNumbers() {
			for kind := range doAll {
				for _, m := range []pairMove{{Kind: kind, Node: great, Peer: great, Number: great, Event: tick()}, {Kind: kind, Node: 0, Peer: 1, Number: great, Event: impl.Event{Kind: great, Peer: great}}, {Kind: kind, Node: 0, Peer: great, Number: 1, Event: start(great)}, {Kind: kind, Node: great, Number: 1, Event: tick()}} {
					wantWords(t, p, m)
				}
			}
			for _, bend := range []func(p *impl.Pair){
				func(p *impl.Pair) { p.Settings.Next = great }, func(p *impl.Pair) { p.Nodes[1].Epoch = great }, func(p *impl.Pair) { p.Nodes[0].Commit = great }, func(p *impl.Pair) { p.Wires[0].Epoch = great }, func(p *impl.Pair) { p.Wires[2].Taken = great },
				func(p *impl.Pair) { p.Mails = []impl.Mail{{Kind: 2, Epoch: great}} }, func(p *impl.Pair) { p.Mails = []impl.Mail{{Kind: 2, Epoch: 1, At: great}} }, func(p *impl.Pair) { p.Sealed = []impl.Entry{tickEntry(great)} },
			} {
				wantPairFault(t, bent(p, bend), impl.ErrRange)
			}
		}
	}
}

// life is what became of pairs by many calls.
type life struct {
	codes                                    map[int64]int
	kinds                                    [doAll]int
	sealed, given, lost, noRoom, leads, full int
}

func (l *life) count(p impl.Pair, m pairMove, got impl.PairResult) {
	l.codes[got.Code]++
	if got.Code != impl.OK {
		return
	}
	l.kinds[m.Kind]++
	l.sealed += len(got.Pair.Sealed) - len(p.Sealed)
	for peer := range p.Wires {
		l.given += len(got.Pair.Wires[peer].Got) - len(p.Wires[peer].Got)
	}
	l.lost += int(codeIf(m.Kind == doDeliver && impl.HearMail(p.Nodes[p.Mails[m.Number].To], p.Mails[m.Number]).Code != impl.OK, 1))
	l.noRoom += int(codeIf(m.Kind == doSpread && len(p.Mails) == 40, 1))
	l.leads += int(codeIf(m.Kind == doLead && len(p.Sealed) > 0, 1))
	l.full += int(codeIf(m.Kind == doEvent && len(got.Pair.Nodes[m.Node].Log) == 100, 1))
}

// director tells what happens next to a pair; calm is how seldom something breaks, haste how often mails come.
type director struct {
	*talker
	calm   int
	haste  int
	greets [3]bool
}

// leader is the node that leads in the epoch of the wires, or none.
func leader(p impl.Pair) (int64, bool) {
	for node, n := range p.Nodes {
		if n.Role == impl.RoleActive && n.Epoch == p.Wires[0].Epoch {
			return int64(node), true
		}
	}
	return 0, false
}

func (d *director) says(peer int64) pairMove {
	data := d.more(peer)
	if !d.greets[peer] {
		d.greets[peer] = true
		data = hello(peer).Bytes
	}
	return pairSay(peer, data)
}

// breaks is what goes wrong, and what mends it.
func (d *director) breaks(p impl.Pair) pairMove {
	node, peer := d.Int63n(2), d.Int63n(3)
	switch d.Intn(10) {
	case 0:
		return pairCrash(node, int64(d.Intn(len(p.Nodes[node].Log)-int(p.Nodes[node].Sure)+1)+d.Intn(9)/8))
	case 1:
		return pairLead(node)
	case 2:
		return pairLose(d.Int63n(int64(len(p.Mails)) + 1))
	case 3:
		return pairDeliver(d.Int63n(int64(len(p.Mails))+1), true)
	case 4:
		return pairMove{Kind: d.Intn(doAll), Node: d.Int63n(4) - 1, Peer: d.Int63n(5) - 1, Number: d.Int63n(70) - 5, Keep: d.Intn(2) == 0, Event: someEvent(d.Rand)}
	case 5:
		return pairEvent(node, stop(peer))
	case 6:
		return pairGive(node, peer)
	case 7:
		return pairTake(node, peer, 9)
	}
	return pairRise(node)
}

func (d *director) next(p impl.Pair) pairMove {
	if d.Intn(d.calm) == 0 {
		return d.breaks(p)
	}
	node, leads := leader(p)
	other, peer := 1-node, d.Int63n(3)
	if !leads && d.Intn(3) == 0 {
		return pairLead(d.Int63n(2))
	}
	switch d.Intn(d.haste) {
	case 0:
		return d.says(peer)
	case 1:
		return pairTake(node, peer, d.Int63n(61))
	case 2:
		return pairTake(node, peer, 60)
	case 3:
		return pairEvent(node, []impl.Event{start(peer), start(peer), tick()}[d.Intn(3)])
	case 4, 5:
		return pairSync(node)
	case 6, 7:
		return pairSync(other)
	case 8, 9, 10:
		return pairSpread(node)
	case 11:
		return pairGive(node, peer)
	}
	if len(p.Mails) == 0 && d.Intn(20) > 0 {
		return []pairMove{pairSpread(node), pairSync(node), pairSync(other)}[d.Intn(3)]
	}
	return pairDeliver(d.Int63n(int64(len(p.Mails))+1)*int64(d.Intn(4)/3), d.Intn(20) == 0)
}

// TestManyPairs: over all that happens to them, pairs have no fault, and nothing is taken back.
func TestManyPairs(t *testing.T) {
	r := rand.New(rand.NewSource(141))
	l := life{codes: map[int64]int{}}
	for round := range 200 {
		d := &director{talker: &talker{Rand: r, places: 12}, calm: []int{3, 8, 30, 200}[r.Intn(4)], haste: 16 + r.Intn(30)}
		p := impl.NewPair(settingsBy(r)).Pair
		if round%10 == 0 {
			p = afterMoves(t, p, append([]pairMove{pairLead(1)}, slices.Repeat([]pairMove{pairEvent(1, tick())}, 98)...)...)
		}
		for range 500 {
			m := d.next(p)
			got := wantWords(t, p, m)
			l.count(p, m, got)
			if got.Code != impl.OK {
				continue
			}
			// Of a pair that came of a new one what is agreed stays as it is.
			if !sameEntries(got.Pair.Sealed[:len(p.Sealed)], p.Sealed) {
				t.Fatalf("%+v of %s: other entries are Sealed: %s", m, pairBrief(p), pairBrief(got.Pair))
			}
			p = got.Pair
		}
	}
	for kind, n := range l.kinds {
		if n < 60 {
			t.Errorf("only %d calls of the kind %d had no code", n, kind)
		}
	}
	if l.sealed < 1000 || l.given < 2500 || l.lost < 1000 || l.noRoom < 50 || l.leads < 500 || l.full < 4 || l.codes[impl.ErrState] < 5000 || l.codes[impl.ErrRange] < 300 ||
		l.codes[impl.ErrNone] < 1000 || l.codes[impl.ErrOld] < 50 || l.codes[impl.ErrMany] < 100 {
		t.Errorf("what became of them: %+v", l)
	}
}

// somePairBy chance is of nodes, wires and mails that need not fit to each other.
func somePairBy(r *rand.Rand) impl.Pair {
	p := impl.Pair{Settings: settingsBy(r), Sealed: logOf(times(3, r.Intn(6))...)}
	for id := range int64(2) {
		n := someStart(r)
		n.Id = id
		if n.Role == impl.RoleStandby && r.Intn(5) == 0 {
			n.Up, n.Sure, n.Match, n.Commit = false, int64(len(n.Log)), 0, 0
		}
		if r.Intn(3) > 0 {
			n.Epoch = max(n.Epoch, 1000-int64(r.Intn(900)))
		}
		p.Nodes = append(p.Nodes, n)
	}
	epoch := min(p.Nodes[r.Intn(2)].Epoch+int64(r.Intn(3)-1), 1000)
	for range 3 {
		w := someWire(max(0, epoch-int64(r.Intn(9)/8)), r.Intn(300), 0, 0)
		w.Taken = int64(r.Intn(len(w.Sent) + 1))
		p.Wires = append(p.Wires, w)
	}
	for range []int{3, 39, 40}[r.Intn(3)] {
		n := p.Nodes[r.Intn(2)]
		if m := someMail(r, n); wordsMailFault(n, m) == impl.OK {
			p.Mails = append(p.Mails, m)
		}
	}
	return p
}

func TestAnyPairAndAnyMove(t *testing.T) {
	r := rand.New(rand.NewSource(142))
	codes := map[int64]int{}
	great := greatNumbers()
	for range 2500 {
		p := somePairBy(r)
		if r.Intn(4) == 0 {
			n, w := &p.Nodes[r.Intn(2)], &p.Wires[r.Intn(3)]
			places := []*int64{&n.Id, &n.Role, &n.Epoch, &n.Sure, &n.Match, &n.Other, &n.Commit, &w.Epoch, &w.Taken, &p.Settings.Next}
			place := places[r.Intn(len(places))]
			*place += []int64{-1, 1, 1000}[r.Intn(3)]
			if r.Intn(4) == 0 {
				*place = great[r.Intn(len(great))]
			}
		}
		if len(p.Mails) > 0 && r.Intn(20) == 0 {
			p.Mails[r.Intn(len(p.Mails))].To = r.Int63n(4) - 1
		}
		if got := impl.PairFault(p); got != wordsPairFault(p) {
			t.Fatalf("PairFault of %s: %d, want %d", pairBrief(p), got, wordsPairFault(p))
		}
		for kind := range doAll {
			m := pairMove{Kind: kind, Node: r.Int63n(2), Peer: r.Int63n(3), Number: r.Int63n(30), Keep: r.Intn(2) == 0, Data: bodyOf(r.Intn(90)), Event: someEvent(r)}
			switch r.Intn(12) {
			case 0:
				m.Node = r.Int63n(4) - 1
			case 1:
				m.Peer = r.Int63n(5) - 1
			case 2:
				m.Number = []int64{-1, 0, 39, 40, 60, 61}[r.Intn(6)]
			case 3:
				m.Number = great[r.Intn(len(great))]
			}
			codes[wantWords(t, p, m).Code]++
		}
	}
	if codes[impl.OK] < 5000 || codes[impl.ErrState] < 1000 || codes[impl.ErrRange] < 1000 || codes[impl.ErrForm] < 500 || codes[impl.ErrNone] < 300 || codes[impl.ErrOld] < 300 || codes[impl.ErrMany] < 100 {
		t.Errorf("codes: %v", codes)
	}
}

// pairArgs are all that the functions of this chapter take.
type pairArgs struct {
	Pair impl.Pair
	Move pairMove
}

func pairCalls() []func(x pairArgs) any {
	list := []func(x pairArgs) any{
		func(x pairArgs) any { return impl.PairFault(x.Pair) },
		func(x pairArgs) any { return impl.NewPair(x.Pair.Settings) },
	}
	for kind := range doAll {
		list = append(list, func(x pairArgs) any {
			x.Move.Kind = kind
			return x.Move.done(x.Pair)
		})
	}
	return list
}

// somePairArgs have entries in logs, mails and Sealed, of which some come to stand at other places, and faults.
func somePairArgs() []pairArgs {
	var list []pairArgs
	room := richPair()
	room.Mails = append(manyMails(38), entryTo(room.Nodes[1], 7, 5, 7, room.Nodes[0].Log[5]))
	agreed := sealedPair(nil, true)
	agreed.Settings = ruledSettings()
	pairs := append(rightPairs(), room, agreed, sealedPair(nil, false), leaderOf(0, inputOf(0, 97)), leaderOf(1))
	for i, p := range pairs {
		for node := range int64(2) {
			list = append(list, pairArgs{p, pairMove{Node: node, Peer: int64(i+int(node)) % 3, Number: int64(i) % 4, Keep: node == 0, Data: bodyOf(9), Event: start(1)}})
		}
	}
	for _, p := range []impl.Pair{richPair(), talkingPair(9)} {
		for number := range int64(5) {
			list = append(list, pairArgs{p, pairMove{Peer: number % 3, Number: number, Keep: number%2 == 0, Data: bodyOf(60), Event: tick()}}, pairArgs{p, pairMove{Node: 1, Number: number, Event: inputOf(1, 4, 5, 6)}})
		}
		list = append(list, pairArgs{p, pairMove{Node: 2, Peer: -1, Number: -1, Data: bodyOf(2001)}})
		for _, bend := range []func(p *impl.Pair){func(p *impl.Pair) { p.Nodes[1].Id = 0 }, func(p *impl.Pair) { p.Sealed = make([]impl.Entry, 2) }, func(p *impl.Pair) { p.Wires = nil }} {
			list = append(list, pairArgs{bent(p, bend), pairMove{Data: bodyOf(3), Event: inputOf(1, 2)}})
		}
	}
	return append(list, pairArgs{})
}

func TestPairsChangeNoArgument(t *testing.T) {
	for _, was := range somePairArgs() {
		x := roomyCopy(was)
		memory := memoryOfAll(x)
		for i, call := range pairCalls() {
			call(x)
			if memoryOfAll(x) != memory {
				t.Fatalf("call %d has changed its arguments: %s", i, brief(was))
			}
		}
	}
}

func TestPairsAnswerNewMemory(t *testing.T) {
	for _, was := range somePairArgs() {
		for i, call := range pairCalls() {
			x := roomyCopy(was)
			first, second := call(x), call(x)
			if shareMemory(slices.Concat(spansOf(x), spansOf(first), spansOf(second))) {
				t.Fatalf("call %d: lists share memory with one another, or with the arguments: %s", i, brief(was))
			}
			if !reflect.DeepEqual(first, second) {
				t.Fatalf("call %d: %s, and again %s", i, brief(first), brief(second))
			}
			runtime.KeepAlive([]any{x, first, second})
		}
	}
}

// TestPairsOfSharedLists: all that the arguments have is one and the same memory, and each list has more behind it.
func TestPairsOfSharedLists(t *testing.T) {
	row, rules := bodyOf(60), []impl.Rule{anyRule(), {Most: 16, Local: 7}}
	var log []impl.Entry
	for i := range 8 {
		log = append(log, impl.Entry{Epoch: 3, Event: impl.Event{Kind: impl.EventInput, Peer: int64(i % 3), Bytes: row[:1]}})
	}
	mails := []impl.Mail{entryTo(impl.Node{Id: 1}, 3, 4, 3, log[4]), takenTo(impl.Node{}, 3, 4), entryTo(impl.Node{Id: 1}, 3, 4, 3, log[4])}
	wire := impl.Wire{Epoch: 3, Sent: row[:20], Got: row[:0]}
	p := impl.Pair{Settings: impl.Settings{Config: someConfig(), Import: rules[:1], Export: rules[:1]}, Wires: []impl.Wire{wire, wire, wire}, Mails: mails[:2], Sealed: log[:1],
		Nodes: []impl.Node{{Up: true, Role: impl.RoleActive, Epoch: 3, Log: log[:5], Sure: 5, Other: 1, Commit: 1}, {Id: 1, Up: true, Epoch: 3, Log: log[:4], Sure: 2, Match: 4}}}
	if impl.PairFault(p) != impl.OK {
		t.Fatal("the pair has a fault")
	}
	memory := memoryOfAll(p, row, rules, log, mails)
	args := slices.Concat(spansOf(p), spansOf(row), spansOf(mails))
	right := 0
	for number := range int64(3) {
		x := pairArgs{p, pairMove{Number: number, Peer: number, Keep: number == 0, Data: row[:30], Event: start(1)}}
		for node := range int64(2) {
			x.Move.Node = node
			for i, call := range pairCalls() {
				got := call(x)
				if memoryOfAll(p, row, rules, log, mails) != memory || shareMemory(spansOf(got)) {
					t.Fatalf("call %d changes or shares memory: %s", i, brief(x.Move))
				}
				for _, s := range spansOf(got) {
					for _, other := range args {
						if s.from < other.to && other.from < s.to {
							t.Fatalf("call %d: what is answered shares memory with an argument: %s", i, brief(x.Move))
						}
					}
				}
				if told, ok := got.(impl.PairResult); ok && told.Code == impl.OK {
					right++
				}
			}
		}
	}
	if right < 40 {
		t.Errorf("only %d answers have no code", right)
	}
}

// spoilPair flips all bytes that a pair has, and forgets its rules.
func spoilPair(p impl.Pair) {
	clear(p.Settings.Import)
	clear(p.Settings.Export)
	for _, n := range p.Nodes {
		for _, x := range n.Log {
			flip(x.Event.Bytes)
		}
	}
	for _, w := range p.Wires {
		flip(w.Sent)
		flip(w.Got)
	}
	for _, m := range p.Mails {
		flip(m.Entry.Event.Bytes)
	}
	for _, x := range p.Sealed {
		flip(x.Event.Bytes)
	}
}

func TestAnswersOfPairsMayBeSpoiled(t *testing.T) {
	for i, m := range []pairMove{pairLead(1), pairSay(1, bodyOf(9)), pairTake(0, 0, 5), pairEvent(0, stop(1)), pairSync(0), pairSync(1), pairSpread(0), pairDeliver(0, true), pairDeliver(1, false), pairDeliver(2, true), pairLose(2), pairCrash(0, 2)} {
		p := richPair()
		memory, first, second := memoryOfAll(p, m), m.done(p), m.done(p)
		if first.Code != impl.OK {
			t.Fatalf("call %d has the code %d", i, first.Code)
		}
		flip(first.Bytes)
		if !samePair(first.Pair, second.Pair) {
			t.Errorf("call %d: Bytes share memory with the pair", i)
		}
		spoilPair(first.Pair)
		if memoryOfAll(p, m) != memory || !reflect.DeepEqual(m.done(p), second) {
			t.Errorf("call %d: what is answered shares memory with an argument", i)
		}
	}
}

// allOfPairs tells all that the functions of this chapter answer, nil and empty lists apart.
func allOfPairs(x pairArgs) string {
	var said []any
	for _, call := range pairCalls() {
		said = append(said, fmt.Sprintf("%#v", call(x)))
	}
	return fmt.Sprint(said...)
}

func TestPairsHangOnArgumentsAlone(t *testing.T) {
	list := somePairArgs()
	for i, x := range list {
		first := allOfPairs(x)
		allOfPairs(list[(i*7+5)%len(list)])
		if allOfPairs(x) != first || allOfPairs(roomyCopy(x)) != first {
			t.Fatalf("what is told of %s hangs on more than it", brief(x))
		}
		if allOfPairs(hollow(x, true)) != first || allOfPairs(hollow(x, false)) != first {
			t.Fatalf("nil and an empty list in %s are not answered alike", brief(x))
		}
	}
}
