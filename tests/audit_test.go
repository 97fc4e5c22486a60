package tests

import (
	"bytes"
	"fmt"
	"math"
	"math/rand"
	"reflect"
	"runtime"
	"slices"
	"testing"

	"loop.example/g00263/impl"
)

func wordsSealedRight(p impl.Pair) bool {
	for _, n := range p.Nodes {
		for place, x := range p.Sealed {
			if int64(place) >= n.Sure || !sameEntry(n.Log[place], x) {
				return false
			}
		}
	}
	return true
}

func wordsLogsMatch(p impl.Pair) bool {
	a, b := p.Nodes[0].Log, p.Nodes[1].Log
	for place := range a {
		if place < len(b) && a[place].Epoch == b[place].Epoch && !sameEntries(a[:place+1], b[:place+1]) {
			return false
		}
	}
	return true
}

func wordsSpec(p impl.Pair, peer int64) []byte {
	return impl.RunRouter(p.Settings, eventsIn(p.Sealed)).Out[peer]
}

func isBeginning(data, all []byte) bool {
	return len(data) <= len(all) && bytes.Equal(data, all[:len(data)])
}

func wordsGotRight(p impl.Pair, peer int64) bool {
	return isBeginning(p.Wires[peer].Got, wordsSpec(p, peer))
}

func wordsTakenRight(p impl.Pair, peer int64) bool {
	w := p.Wires[peer]
	return isBeginning(inputIn(p.Nodes[0].Log, peer), w.Sent) && isBeginning(inputIn(p.Nodes[1].Log, peer), w.Sent) && w.Taken <= int64(len(inputIn(p.Sealed, peer)))
}

func wordsOneActive(p impl.Pair) bool {
	heard := 0
	for _, n := range p.Nodes {
		same, greater := 0, 0
		for _, w := range p.Wires {
			same += int(codeIf(n.Role == 1 && n.Epoch == w.Epoch, 1))
			greater += int(codeIf(n.Role == 1 && n.Epoch > w.Epoch, 1))
		}
		if greater > 0 {
			return false
		}
		heard += same / 3
	}
	return heard < 2
}

func wordsSafePair(p impl.Pair) bool {
	isSafe := wordsSealedRight(p) && wordsLogsMatch(p) && wordsOneActive(p)
	for peer := range int64(3) {
		isSafe = isSafe && wordsGotRight(p, peer) && wordsTakenRight(p, peer)
	}
	return isSafe
}

func wordsSettled(p impl.Pair) bool {
	isSettled := p.Nodes[0].Up && p.Nodes[1].Up && sameEntries(p.Nodes[0].Log, p.Nodes[1].Log) && sameEntries(p.Nodes[1].Log, p.Sealed)
	for peer := range int64(3) {
		isSettled = isSettled && bytes.Equal(p.Wires[peer].Got, wordsSpec(p, peer))
	}
	return isSettled
}

// audit is a function that tells a bool, and what the document says of it where there is no fault.
type audit struct {
	name   string
	ofPeer bool
	asked  func(p impl.Pair, peer int64) bool
	words  func(p impl.Pair, peer int64) bool
}

func ofPair(is func(p impl.Pair) bool) func(p impl.Pair, peer int64) bool {
	return func(p impl.Pair, _ int64) bool { return is(p) }
}

func audits() []audit {
	return []audit{
		{"SealedRight", false, ofPair(impl.SealedRight), ofPair(wordsSealedRight)}, {"LogsMatch", false, ofPair(impl.LogsMatch), ofPair(wordsLogsMatch)},
		{"GotRight", true, impl.GotRight, wordsGotRight}, {"TakenRight", true, impl.TakenRight, wordsTakenRight}, {"OneActive", false, ofPair(impl.OneActive), ofPair(wordsOneActive)},
		{"SafePair", false, ofPair(impl.SafePair), ofPair(wordsSafePair)}, {"SettledPair", false, ofPair(impl.SettledPair), ofPair(wordsSettled)},
	}
}

// settling is a pair as it comes to be by calls, those with a code left out.
type settling struct{ pair impl.Pair }

func (s *settling) do(m pairMove) int64 {
	got := m.done(s.pair)
	if got.Code == impl.OK {
		s.pair = got.Pair
	}
	return got.Code
}

func (s *settling) deliverAll() {
	for left := len(s.pair.Mails); left > 0; left-- {
		s.do(pairDeliver(0, false))
	}
}

// wordsSettle is what the document says of SettlePair, in the functions of a pair.
func wordsSettle(p impl.Pair, node, rounds int64) impl.PairResult {
	if code := firstCode(wordsPairFault(p), codeIf(node != 0 && node != 1, impl.ErrRange), codeIf(rounds < 0 || rounds > 150, impl.ErrRange)); code != impl.OK {
		return pairCode(code)
	}
	s := &settling{p}
	for id, n := range p.Nodes {
		if !n.Up {
			s.do(pairRise(int64(id)))
		}
	}
	for _, m := range []pairMove{pairLead(node), pairEvent(node, tick())} {
		if code := s.do(m); code != impl.OK {
			return pairCode(code)
		}
	}
	for range rounds {
		s.do(pairSpread(node))
		s.deliverAll()
		s.do(pairSync(1 - node))
		s.do(pairSync(node))
		s.deliverAll()
		s.do(pairSync(node))
	}
	for peer := range int64(3) {
		if code := s.do(pairGive(node, peer)); code != impl.OK {
			return pairCode(code)
		}
	}
	return pairAnswer(s.pair)
}

// wantAudits holds all that tell a bool, and SpecOf, to the document's words.
func wantAudits(t *testing.T, p impl.Pair) {
	t.Helper()
	fault := wordsPairFault(p)
	for _, peer := range []int64{math.MinInt64, -1, 0, 1, 2, 3, math.MaxInt64} {
		isPeer := peer >= 0 && peer < 3
		for _, a := range audits() {
			if !a.ofPeer && peer != 0 {
				continue
			}
			want := fault == impl.OK && isPeer && a.words(p, peer)
			if a.asked(p, peer) != want {
				t.Fatalf("%s of %d, %s: not %v", a.name, peer, pairBrief(p), want)
			}
		}
		want := impl.BytesResult{Code: firstCode(fault, codeIf(!isPeer, impl.ErrRange))}
		if want.Code == impl.OK {
			want.Bytes = wordsSpec(p, peer)
		}
		if got := impl.SpecOf(p, peer); got.Code != want.Code || !bytes.Equal(got.Bytes, want.Bytes) || got.Code != impl.OK && got.Bytes != nil {
			t.Fatalf("SpecOf of %d, %s: %v, want %v", peer, pairBrief(p), got, want)
		}
	}
}

// wantIs asks one of them by its name, and all by the document's words.
func wantIs(t *testing.T, p impl.Pair, name string, peer int64, want bool) {
	t.Helper()
	for _, a := range audits() {
		if a.name == name && a.asked(p, peer) != want {
			t.Errorf("%s of %d, %s: not %v", name, peer, pairBrief(p), want)
		}
	}
	wantAudits(t, p)
}

func settleMove(node, rounds int64) pairMove {
	return pairMove{Node: node, Number: rounds}
}

func wantSettle(t *testing.T, p impl.Pair, node, rounds int64, want impl.PairResult) impl.PairResult {
	t.Helper()
	got := impl.SettlePair(p, node, rounds)
	wantPair(t, p, settleMove(node, rounds), got, want)
	return got
}

func wantSettleCode(t *testing.T, p impl.Pair, node, rounds, code int64) {
	t.Helper()
	wantSettle(t, p, node, rounds, pairCode(code))
}

// wantSettleWords holds SettlePair to the document's words.
func wantSettleWords(t *testing.T, p impl.Pair, node, rounds int64) impl.PairResult {
	t.Helper()
	return wantSettle(t, p, node, rounds, wordsSettle(p, node, rounds))
}

// roundsFor are as many as the promise says.
func roundsFor(p impl.Pair, node int64) int64 {
	return int64(len(p.Nodes[node].Log)) + 6
}

// toldTo is a new pair that node 0 leads, and to which these events are told; what is input its peers have sent.
func toldTo(t *testing.T, x impl.Settings, events ...impl.Event) impl.Pair {
	t.Helper()
	p := afterMoves(t, impl.NewPair(x).Pair, pairLead(0))
	for _, e := range events {
		if e.Kind == impl.EventInput {
			p = afterMoves(t, p, pairSay(e.Peer, e.Bytes), pairTake(0, e.Peer, 60))
		} else {
			p = afterMoves(t, p, pairEvent(0, e))
		}
	}
	return p
}

// settledTalk is a pair in which all three peers got something, and all is agreed; node leads.
func settledTalk(t *testing.T, node int64) impl.Pair {
	t.Helper()
	p := toldTo(t, someSettings(), append(talk(), hello(2))...)
	p = impl.SettlePair(p, 0, roundsFor(p, 0)).Pair
	if node == 1 {
		p = impl.SettlePair(p, 1, roundsFor(p, 1)).Pair
	}
	for peer, w := range p.Wires {
		if len(w.Got) == 0 || w.Taken == 0 {
			t.Fatalf("peer %d got nothing, or said nothing", peer)
		}
	}
	if !impl.SafePair(p) || !impl.SettledPair(p) {
		t.Fatalf("not settled: %s", pairBrief(p))
	}
	return p
}

// standbysOf are two nodes that are up, with these logs, all of them Sure.
func standbysOf(first, second, sealed []impl.Entry) impl.Pair {
	p := newPair()
	for id, log := range [][]impl.Entry{first, second} {
		p.Nodes[id] = impl.Node{Id: int64(id), Up: true, Epoch: 20, Log: log, Sure: int64(len(log))}
	}
	for peer := range p.Wires {
		p.Wires[peer].Epoch = 20
	}
	p.Sealed = sealed
	return p
}

// unlikeEntries are each two that differ in one of their fields alone.
func unlikeEntries() [][2]impl.Entry {
	entry := func(epoch int64, e impl.Event) impl.Entry { return impl.Entry{Epoch: epoch, Event: e} }
	return [][2]impl.Entry{
		{entry(5, start(1)), entry(6, start(1))}, {entry(5, start(1)), entry(5, stop(1))}, {entry(5, start(1)), entry(5, start(2))}, {entry(5, inputOf(1, 7, 8)), entry(5, inputOf(0, 7, 8))},
		{entry(5, inputOf(1, 7, 8)), entry(5, inputOf(1, 7, 9))}, {entry(5, inputOf(1, 7, 8)), entry(5, inputOf(1, 6, 8))}, {entry(5, inputOf(1, 7, 8)), entry(5, inputOf(1, 7))},
		{entry(5, inputOf(1, 7, 8)), entry(5, inputOf(1, 7, 8, 0))}, {entry(5, tick()), entry(5, start(0))}, {entry(6, tick()), entry(5, tick())},
	}
}

// logWith has x at the place, ticks of epoch 3 ahead of it and of epoch 7 behind it.
func logWith(x impl.Entry, place, count int) []impl.Entry {
	log := logOfEvents(3, slices.Repeat([]impl.Event{tick()}, place)...)
	return append(append(log, x), logOfEvents(7, slices.Repeat([]impl.Event{tick()}, count-place-1)...)...)
}

// faultyPairs have each one fault, and are settled but for it.
func faultyPairs(t *testing.T) []impl.Pair {
	p := settledTalk(t, 0)
	var list []impl.Pair
	add := func(bend func(p *impl.Pair)) { list = append(list, bent(p, bend)) }
	for _, x := range faultySettings() {
		add(func(p *impl.Pair) { p.Settings = x })
	}
	for place := range int64(2) {
		for _, n := range faultyNodes() {
			n.Id = place
			add(func(p *impl.Pair) { p.Nodes[place] = n })
		}
		add(func(p *impl.Pair) { p.Nodes[place].Id = 1 - place })
		add(func(p *impl.Pair) { p.Nodes[place].Epoch = 1001 })
		add(func(p *impl.Pair) { p.Nodes[place].Sure = 99 })
	}
	for peer := range 3 {
		for _, wires := range faultyWires() {
			add(func(p *impl.Pair) { p.Wires[peer] = wires[0] })
		}
		add(func(p *impl.Pair) { p.Wires[peer].Taken = -1 })
		add(func(p *impl.Pair) { p.Wires[peer].Taken = 2000 })
	}
	for _, m := range wrongMails(p.Nodes[1]) {
		if m.To != 0 && wordsMailFault(p.Nodes[1], m) != impl.OK {
			add(func(p *impl.Pair) { p.Mails = []impl.Mail{takenTo(p.Nodes[0], 1, 0), m} })
		}
	}
	for _, entries := range faultyEntries() {
		add(func(p *impl.Pair) { p.Sealed = append(p.Sealed, entries[0]) })
	}
	add(func(p *impl.Pair) { p.Mails = manyMails(41) })
	add(func(p *impl.Pair) { p.Sealed = logOf(times(2, 101)...) })
	add(func(p *impl.Pair) { p.Nodes = p.Nodes[:1] })
	add(func(p *impl.Pair) { p.Nodes = nil })
	add(func(p *impl.Pair) { p.Nodes = append(p.Nodes, p.Nodes[1]) })
	add(func(p *impl.Pair) { p.Wires = p.Wires[:2] })
	add(func(p *impl.Pair) { p.Wires = append(p.Wires, impl.Wire{}) })
	return append(list, impl.Pair{})
}

func TestFaultsOfAnAuditedPair(t *testing.T) {
	codes := map[int64]int{}
	for _, p := range faultyPairs(t) {
		code := wordsPairFault(p)
		codes[code]++
		if code == impl.OK {
			t.Fatalf("no fault: %s", pairBrief(p))
		}
		wantAudits(t, p)
		for _, a := range audits() {
			for peer := range int64(3) {
				if a.asked(p, peer) {
					t.Errorf("%s of %d is true with the fault %d", a.name, peer, code)
				}
			}
		}
		for _, node := range []int64{-1, 0, 1, 2} {
			for _, rounds := range []int64{-1, 0, 3, 151} {
				wantSettleCode(t, p, node, rounds, code)
			}
		}
	}
	if codes[impl.ErrRange] < 10 || codes[impl.ErrForm] < 10 || codes[impl.ErrMany] < 5 {
		t.Errorf("codes: %v", codes)
	}
}

func TestPeersThatAreAudited(t *testing.T) {
	for _, p := range []impl.Pair{newPair(), settledTalk(t, 0), settledTalk(t, 1), richPair(), talkingPair(4)} {
		wantAudits(t, p)
		for _, none := range append(greatNumbers(), -2, -1, 3, 4) {
			if impl.GotRight(p, none) || impl.TakenRight(p, none) || !reflect.DeepEqual(impl.SpecOf(p, none), impl.BytesResult{Code: impl.ErrRange}) {
				t.Errorf("the peer %d is none", none)
			}
		}
	}
	p := settledTalk(t, 0)
	for peer := range int64(3) {
		if !impl.GotRight(p, peer) || !impl.TakenRight(p, peer) || impl.SpecOf(p, peer).Code != impl.OK {
			t.Errorf("the peer %d is right", peer)
		}
	}
}

func TestSealedRight(t *testing.T) {
	log := logOf(2, 2, 4, 4, 9)
	// As many are Sealed as the numbers tell, and so many are Sure at the first node and at the second.
	for sealed := range int64(6) {
		for first := range int64(6) {
			for second := range int64(6) {
				p := standbysOf(log, log, log[:sealed])
				p.Nodes[0].Sure, p.Nodes[1].Sure = first, second
				wantIs(t, p, "SealedRight", 0, first >= sealed && second >= sealed)
			}
		}
	}
	// A log that is shorter than what is Sealed.
	for short := range 6 {
		wantIs(t, standbysOf(log[:short], log, log), "SealedRight", 0, short == 5)
		wantIs(t, standbysOf(log, log[:short], log), "SealedRight", 0, short == 5)
		wantIs(t, standbysOf(log[:short], nil, nil), "SealedRight", 0, true)
	}
	// A node that is not up, and one that leads, are asked the same.
	p := standbysOf(log, log, log)
	p.Nodes[0].Role, p.Nodes[0].Commit, p.Nodes[1].Up = impl.RoleActive, 2, false
	wantIs(t, p, "SealedRight", 0, true)
	p.Nodes[0].Sure = 4
	wantIs(t, p, "SealedRight", 0, false)
	p.Nodes[0].Sure, p.Nodes[1].Log, p.Nodes[1].Sure = 5, log[:4], 4
	wantIs(t, p, "SealedRight", 0, false)
}

func TestSealedEntriesThatAreNotThoseOfALog(t *testing.T) {
	const count = 5
	for _, x := range unlikeEntries() {
		for place := range count {
			a, b := logWith(x[0], place, count), logWith(x[1], place, count)
			for sealed := range count + 1 {
				// What is behind the Sealed ones may differ.
				isRight := sealed <= place
				wantIs(t, standbysOf(a, a, a[:sealed]), "SealedRight", 0, true)
				wantIs(t, standbysOf(b, a, a[:sealed]), "SealedRight", 0, isRight)
				wantIs(t, standbysOf(a, b, a[:sealed]), "SealedRight", 0, isRight)
				wantIs(t, standbysOf(a, a, b[:sealed]), "SealedRight", 0, isRight)
			}
		}
	}
}

func TestLogsMatch(t *testing.T) {
	is := func(a, b []impl.Entry, want bool) {
		t.Helper()
		wantIs(t, standbysOf(a, b, nil), "LogsMatch", 0, want)
		wantIs(t, standbysOf(b, a, nil), "LogsMatch", 0, want)
	}
	log := logOf(2, 2, 4, 4, 9)
	for count := range 6 {
		is(log[:count], log, true)
	}
	is(nil, nil, true)
	// Where the Epochs are unlike, the entries may be so, too.
	is(logOf(1, 1, 1), logOfEvents(2, stop(2), stop(2), stop(2), tick()), true)
	is(append(logOf(1), logOfEvents(2, stop(2), stop(1))...), append(logOf(1), logOfEvents(3, tick())...), true)
	// All is the same from a place on, and something ahead of it is not.
	for place := range 5 {
		a := logOfEvents(5, slices.Repeat([]impl.Event{tick()}, 5)...)
		b := slices.Clone(a)
		b[place].Event = start(0)
		is(a, b, false)
		for early := range place + 1 {
			a[early].Epoch, b[early].Epoch = 3, 4
		}
		// Now the Epochs differ up to the place, and are alike behind it.
		is(a, b, place == 4)
		is(a[:place+1], b, true)
		is(a[:place], b, true)
	}
	for _, x := range unlikeEntries() {
		for place := range 4 {
			a, b := logWith(x[0], place, 4), logWith(x[1], place, 4)
			// With unlike Epochs it is an entry behind it, alike in both, that tells.
			isRight := x[0].Epoch != x[1].Epoch && place == 3
			is(a, b, isRight)
			is(a[:place], b[:place], true)
			is(a[:place], b, true)
			is(a[:place+1], b[:place+1], x[0].Epoch != x[1].Epoch)
		}
	}
	full := logOf(times(3, 100)...)
	is(full, full, true)
	for _, place := range []int{0, 1, 50, 98, 99} {
		other := slices.Clone(full)
		other[place].Event = start(int64(place) % 3)
		is(full, other, sameEntry(full[place], other[place]))
	}
}

// smallLogs are all of at most 3 entries of two epochs and two kinds.
func smallLogs() [][]impl.Entry {
	list := [][]impl.Entry{nil}
	for at := 0; at < len(list); at++ {
		log := list[at]
		if len(log) == 3 {
			continue
		}
		for epoch := int64(1); epoch <= 2; epoch++ {
			if len(log) > 0 && log[len(log)-1].Epoch > epoch {
				continue
			}
			for _, e := range []impl.Event{tick(), start(0)} {
				list = append(list, append(slices.Clone(log), impl.Entry{Epoch: epoch, Event: e}))
			}
		}
	}
	return list
}

func TestAllSmallLogs(t *testing.T) {
	list := smallLogs()
	counts := map[bool]int{}
	for _, a := range list {
		for _, b := range list {
			p := standbysOf(a, b, nil)
			want := wordsLogsMatch(p)
			counts[want]++
			if impl.LogsMatch(p) != want {
				t.Errorf("LogsMatch of %s: not %v", brief(a, b), want)
			}
			for sealed := range a {
				p.Sealed = a[:sealed+1]
				if impl.SealedRight(p) != wordsSealedRight(p) {
					t.Errorf("SealedRight of %s and %s: not %v", brief(a, b), brief(p.Sealed), wordsSealedRight(p))
				}
			}
		}
	}
	if len(list) != 49 || counts[true] < 300 || counts[false] < 300 {
		t.Errorf("%d logs: %v", len(list), counts)
	}
}

func TestSpecOf(t *testing.T) {
	open, opened := stream(impl.Message{Kind: impl.KindOpen, As: 9, Hold: 9, Id: 4}), stream(impl.Message{Kind: impl.KindOpen, As: 9, Hold: 9, Id: 4}, keepMessage())
	events := talk()
	for _, x := range []impl.Settings{someSettings(), ruledSettings()} {
		for sealed := range len(events) + 1 {
			p := talkingPair(0)
			p.Settings, p.Sealed = x, logOfEvents(6, events[:sealed]...)
			want := impl.RunRouter(x, events[:sealed]).Out
			for peer := range int64(3) {
				if got := impl.SpecOf(p, peer); got.Code != impl.OK || !bytes.Equal(got.Bytes, want[peer]) {
					t.Errorf("SpecOf peer %d with %d Sealed: %v", peer, sealed, got)
				}
			}
			wantAudits(t, p)
		}
	}
	// By hand: a start, what a hello is answered, and what is not Sealed.
	for sealed, want := range map[int64][]byte{0: nil, 1: open, 2: opened} {
		if got := impl.SpecOf(talkingPair(sealed), 0).Bytes; !bytes.Equal(got, want) {
			t.Errorf("SpecOf peer 0 with %d Sealed: %v", sealed, got)
		}
		if got := impl.SpecOf(talkingPair(sealed), 1).Bytes; len(got) != 0 {
			t.Errorf("SpecOf peer 1 with %d Sealed: %v", sealed, got)
		}
	}
	// The Epochs of the entries, and what the logs have, say nothing.
	p := newPair()
	p.Sealed = []impl.Entry{{Epoch: 1000, Event: start(2)}, {Epoch: 1, Event: hello(2)}}
	if got := impl.SpecOf(p, 2); got.Code != impl.OK || !bytes.Equal(got.Bytes, opened) {
		t.Errorf("SpecOf peer 2: %v", got)
	}
	// It may be more than a wire holds.
	wide := flood(88, 6)
	p.Sealed = logOfEvents(3, wide...)
	if got := impl.SpecOf(p, 1); got.Code != impl.OK || len(got.Bytes) != 2001 {
		t.Errorf("SpecOf peer 1: %d, %d bytes", got.Code, len(got.Bytes))
	}
	// As many as there may be.
	p.Sealed = logOfEvents(3, append(slices.Repeat([]impl.Event{tick()}, 99), start(1))...)
	if got := impl.SpecOf(p, 1); got.Code != impl.OK || !bytes.Equal(got.Bytes, open) {
		t.Errorf("SpecOf peer 1 behind 99 ticks: %v", got)
	}
}

func TestGotRight(t *testing.T) {
	p := settledTalk(t, 0)
	for peer := range int64(3) {
		spec := impl.SpecOf(p, peer).Bytes
		got := func(data []byte, want bool) {
			t.Helper()
			other := bent(p, func(p *impl.Pair) { p.Wires[peer].Got = data })
			wantIs(t, other, "GotRight", peer, want)
			// It is asked of the peer alone.
			wantIs(t, other, "GotRight", (peer+1)%3, true)
			if impl.SafePair(other) != want || impl.SettledPair(other) != (want && len(data) == len(spec)) {
				t.Errorf("peer %d got %d: not %v", peer, data, want)
			}
		}
		for size := range len(spec) + 1 {
			got(spec[:size], true)
		}
		got(append(bytes.Clone(spec), 0), false)
		got(append(bytes.Clone(spec), spec...), false)
		got(spec[1:], false)
		for _, place := range []int{0, 1, len(spec) / 2, len(spec) - 1} {
			other := bytes.Clone(spec)
			other[place]++
			got(other, false)
			got(other[:place+1], false)
			got(other[:place], true)
		}
	}
	// Where nothing is Sealed nobody may have got anything.
	none := newPair()
	wantIs(t, none, "GotRight", 1, true)
	none.Wires[1].Got = []byte{0}
	wantIs(t, none, "GotRight", 1, false)
	wantIs(t, none, "GotRight", 0, true)
	// What is in the logs and not Sealed is not there yet.
	early := bent(talkingPair(1), func(p *impl.Pair) { p.Wires[1].Got = outOf(*p, 3, 1) })
	wantIs(t, early, "GotRight", 1, false)
	early.Sealed = early.Nodes[0].Log[:3]
	wantIs(t, early, "GotRight", 1, true)
	// A peer that got all that a wire holds, of more.
	wide := newPair()
	wide.Sealed = logOfEvents(3, flood(88, 6)...)
	wide.Wires[1].Got = wordsSpec(wide, 1)[:2000]
	wantIs(t, wide, "GotRight", 1, true)
	wide.Wires[1].Got[1999]++
	wantIs(t, wide, "GotRight", 1, false)
}

// lettersOf are input events of the peer, of each piece one.
func lettersOf(peer int64, pieces ...string) []impl.Event {
	var list []impl.Event
	for _, text := range pieces {
		list = append(list, inputOf(peer, []byte(text)...))
	}
	return list
}

func TestInputOfBothLogs(t *testing.T) {
	for _, c := range []struct {
		first, second []string
		sent          string
		want          bool
	}{
		{nil, nil, "", true}, {nil, nil, "abcd", true}, {[]string{"a"}, nil, "abcd", true}, {nil, []string{"a"}, "abcd", true}, {[]string{"ab", "c"}, []string{"a"}, "abcd", true},
		{[]string{"abcd"}, []string{"ab", "cd"}, "abcd", true}, {[]string{"a", "b", "c", "d"}, nil, "abcd", true}, {nil, []string{"abc", "d"}, "abcd", true},
		// One byte more than it sent.
		{[]string{"abcde"}, nil, "abcd", false}, {nil, []string{"abcd", "e"}, "abcd", false}, {[]string{"abcd"}, []string{"abcd", "e"}, "abcd", false}, {[]string{"a"}, nil, "", false},
		// Otherwise at one place.
		{[]string{"Abcd"}, nil, "abcd", false}, {[]string{"aBcd"}, nil, "abcd", false}, {[]string{"abc", "D"}, nil, "abcd", false}, {nil, []string{"A"}, "abcd", false}, {nil, []string{"ab", "cD"}, "abcd", false},
		{[]string{"ab"}, []string{"ab", "C"}, "abcd", false}, {[]string{"ab", "C"}, []string{"abc"}, "abcd", false}, {[]string{"b"}, []string{"a"}, "abcd", false}, {[]string{"cd", "ab"}, []string{"ab"}, "abcd", false},
	} {
		for peer := range int64(3) {
			p := standbysOf(logOfEvents(3, lettersOf(peer, c.first...)...), logOfEvents(3, lettersOf(peer, c.second...)...), nil)
			p.Wires[peer].Sent = []byte(c.sent)
			wantIs(t, p, "TakenRight", peer, c.want)
			wantIs(t, p, "TakenRight", (peer+1)%3, true)
			// Input of other peers and other events stand between, and do not count.
			other := (peer + 1) % 3
			for id := range p.Nodes {
				var events []impl.Event
				for _, x := range p.Nodes[id].Log {
					events = append(events, tick(), start(peer), inputOf(other, 9, 9), x.Event, stop(peer))
				}
				p.Nodes[id].Log = logOfEvents(4, append(events, start(peer))...)
				p.Nodes[id].Sure = int64(len(p.Nodes[id].Log))
			}
			p.Wires[other].Sent = bytes.Repeat([]byte{9}, 10)
			wantIs(t, p, "TakenRight", peer, c.want)
			wantIs(t, p, "TakenRight", other, true)
			// Not being up, or Sure, is nothing to it.
			p.Nodes[0].Up, p.Nodes[1].Sure = false, 0
			wantIs(t, p, "TakenRight", peer, c.want)
		}
	}
}

func TestWhatIsTaken(t *testing.T) {
	for peer := range int64(3) {
		other := (peer + 2) % 3
		events := []impl.Event{start(peer), inputOf(peer, 'a'), inputOf(other, 9, 9, 9, 9), tick(), inputOf(peer, 'b', 'c'), stop(peer), inputOf(peer, 'd')}
		counts := []int64{0, 0, 1, 1, 1, 3, 3, 4}
		log := logOfEvents(3, events...)
		for sealed, count := range counts {
			for taken := range int64(6) {
				p := standbysOf(log, log, log[:sealed])
				p.Wires[peer] = impl.Wire{Epoch: 20, Sent: []byte("abcdefgh"), Taken: taken}
				p.Wires[other].Sent = bytes.Repeat([]byte{9}, 9)
				wantIs(t, p, "TakenRight", peer, taken <= count)
				wantIs(t, p, "TakenRight", other, true)
				// It is Sealed that counts, whatever the logs have.
				p.Nodes[0].Log, p.Nodes[0].Sure = nil, 0
				wantIs(t, p, "TakenRight", peer, taken <= count)
				p.Nodes[1].Log, p.Nodes[1].Sure = log[:2], 2
				wantIs(t, p, "TakenRight", peer, taken <= count)
			}
		}
	}
}

// activesOf are pairs of nodes of these epochs, active where it is above 0, with these fences.
func activesOf(first, second int64, fences [3]int64) impl.Pair {
	p := newPair()
	for id, epoch := range []int64{first, second} {
		if epoch > 0 {
			p.Nodes[id].Role, p.Nodes[id].Epoch = impl.RoleActive, epoch
		}
	}
	for peer, epoch := range fences {
		p.Wires[peer].Epoch = epoch
	}
	return p
}

func TestOneActive(t *testing.T) {
	for _, c := range []struct {
		first, second int64
		fences        [3]int64
		want          bool
	}{
		{0, 0, [3]int64{}, true}, {0, 0, [3]int64{5, 5, 5}, true}, {0, 0, [3]int64{5, 0, 7}, true},
		// One is active: below the fences, just there, and above.
		{4, 0, [3]int64{5, 5, 5}, true}, {5, 0, [3]int64{5, 5, 5}, true}, {6, 0, [3]int64{5, 5, 5}, false}, {1, 0, [3]int64{0, 0, 0}, false}, {1000, 0, [3]int64{1000, 1000, 1000}, true}, {1000, 0, [3]int64{999, 999, 999}, false},
		{0, 4, [3]int64{5, 5, 5}, true}, {0, 5, [3]int64{5, 5, 5}, true}, {0, 6, [3]int64{5, 5, 5}, false},
		// Both are.
		{5, 5, [3]int64{5, 5, 5}, false}, {4, 5, [3]int64{5, 5, 5}, true}, {5, 4, [3]int64{5, 5, 5}, true}, {4, 4, [3]int64{5, 5, 5}, true}, {3, 4, [3]int64{5, 5, 5}, true}, {4, 6, [3]int64{5, 5, 5}, false},
		{6, 4, [3]int64{5, 5, 5}, false}, {5, 6, [3]int64{5, 5, 5}, false}, {6, 5, [3]int64{5, 5, 5}, false}, {6, 6, [3]int64{5, 5, 5}, false}, {1000, 1000, [3]int64{1000, 1000, 1000}, false},
		// The fences are not alike: nobody has the Epoch of all, and whoever is above one is above.
		{5, 5, [3]int64{5, 5, 6}, true}, {5, 5, [3]int64{6, 5, 5}, true}, {5, 5, [3]int64{5, 6, 5}, true}, {5, 6, [3]int64{5, 6, 6}, false}, {5, 0, [3]int64{5, 5, 4}, false}, {0, 5, [3]int64{4, 5, 5}, false}, {0, 5, [3]int64{5, 4, 9}, false},
	} {
		wantIs(t, activesOf(c.first, c.second, c.fences), "OneActive", 0, c.want)
		wantIs(t, activesOf(c.second, c.first, c.fences), "OneActive", 0, c.want)
	}
	// A standby may have any Epoch.
	for _, epoch := range []int64{0, 4, 5, 6, 1000} {
		p := activesOf(5, 0, [3]int64{5, 5, 5})
		p.Nodes[1].Epoch = epoch
		wantIs(t, p, "OneActive", 0, true)
		p.Nodes[1].Up = false
		wantIs(t, p, "OneActive", 0, true)
	}
	for places := range 4 * 4 * 4 * 4 * 4 {
		at := func(n int) int64 { return int64(places>>(2*n)) % 4 }
		p := activesOf(at(0), at(1), [3]int64{at(2), at(3), at(4)})
		if impl.OneActive(p) != wordsOneActive(p) {
			t.Errorf("OneActive of %s: not %v", pairBrief(p), wordsOneActive(p))
		}
	}
}

// wantJust holds that of all that SafePair asks just this is not so.
func wantJust(t *testing.T, p impl.Pair, name string, peer int64) {
	t.Helper()
	if impl.PairFault(p) != impl.OK || impl.SafePair(p) {
		t.Errorf("SafePair, or a fault, where %s of %d is false: %s", name, peer, pairBrief(p))
	}
	for _, a := range audits()[:5] {
		for each := range int64(3) {
			if a.asked(p, each) != (a.name != name || a.ofPeer && each != peer) {
				t.Errorf("%s of %d, where %s of %d is false: %s", a.name, each, name, peer, pairBrief(p))
			}
		}
	}
	wantAudits(t, p)
}

func TestSafePair(t *testing.T) {
	for _, p := range []impl.Pair{newPair(), impl.NewPair(ruledSettings()).Pair, toldTo(t, someSettings(), talk()...), settledTalk(t, 0), settledTalk(t, 1)} {
		wantIs(t, p, "SafePair", 0, true)
	}
	for node := range int64(2) {
		p := settledTalk(t, node)
		last := len(p.Sealed) - 1
		for id := range 2 {
			wantJust(t, bent(p, func(p *impl.Pair) { p.Nodes[id].Sure, p.Nodes[id].Commit = int64(last), 0 }), "SealedRight", 0)
			// An entry of one place and Epoch that is another one in the other log.
			wantJust(t, bent(p, func(p *impl.Pair) {
				epoch := min(p.Nodes[0].Epoch, p.Nodes[1].Epoch)
				p.Nodes[id].Log = append(p.Nodes[id].Log, logOfEvents(epoch, tick(), start(1))...)
				p.Nodes[1-id].Log = append(p.Nodes[1-id].Log, logOfEvents(epoch, tick(), start(2))...)
			}), "LogsMatch", 0)
		}
		for peer := range int64(3) {
			size := len(p.Wires[peer].Got)
			for _, place := range []int{0, size / 2, size - 1} {
				wantJust(t, bent(p, func(p *impl.Pair) { p.Wires[peer].Got[place]++ }), "GotRight", peer)
			}
			wantJust(t, bent(p, func(p *impl.Pair) { p.Wires[peer].Got = append(p.Wires[peer].Got, 255) }), "GotRight", peer)
			wantJust(t, bent(p, func(p *impl.Pair) {
				p.Wires[peer].Sent, p.Wires[peer].Taken = append(p.Wires[peer].Sent, 1), p.Wires[peer].Taken+1
			}), "TakenRight", peer)
			for id := range 2 {
				wantJust(t, bent(p, func(p *impl.Pair) {
					p.Nodes[id].Log = append(p.Nodes[id].Log, impl.Entry{Epoch: p.Nodes[id].Epoch, Event: inputOf(peer, 1)})
				}), "TakenRight", peer)
			}
		}
		wantJust(t, bent(p, func(p *impl.Pair) {
			other := &p.Nodes[1-node]
			other.Role, other.Match, other.Epoch = impl.RoleActive, 0, p.Wires[0].Epoch
		}), "OneActive", 0)
		wantJust(t, bent(p, func(p *impl.Pair) { p.Nodes[node].Epoch++ }), "OneActive", 0)
		wantJust(t, bent(p, func(p *impl.Pair) { p.Wires[2].Epoch-- }), "OneActive", 0)
	}
}

func TestRoundsOfSettlePair(t *testing.T) {
	for _, p := range []impl.Pair{newPair(), settledTalk(t, 0), toldTo(t, someSettings(), talk()...), activesOf(5, 4, [3]int64{1000, 5, 5}), activesOf(5, 4, [3]int64{5, 1000, 5})} {
		for node := range int64(2) {
			for _, rounds := range append(greatNumbers(), -2, -1, 151, 152) {
				wantSettleCode(t, p, node, rounds, impl.ErrRange)
			}
			for _, rounds := range []int64{0, 1, 2, 149, 150} {
				got := wantSettleWords(t, p, node, rounds)
				if (got.Code == impl.OK) != (p.Wires[0].Epoch < 1000 && p.Wires[1].Epoch < 1000) {
					t.Errorf("%d rounds: code %d", rounds, got.Code)
				}
			}
		}
		for _, none := range append(greatNumbers(), -2, -1, 2, 3) {
			for _, rounds := range []int64{-1, 0, 9, 151, none} {
				wantSettleCode(t, p, none, rounds, impl.ErrRange)
			}
		}
	}
}

// TestNewPairsThatSettle: a tick is all that there is, and it is agreed in one round.
func TestNewPairsThatSettle(t *testing.T) {
	for node := range int64(2) {
		for rounds := range int64(4) {
			got := wantSettleWords(t, newPair(), node, rounds)
			isAgreed := rounds > 0
			if got.Code != impl.OK || impl.SettledPair(got.Pair) != isAgreed || !impl.SafePair(got.Pair) || len(got.Pair.Mails) != 0 {
				t.Errorf("behind %d rounds: %s", rounds, pairBrief(got.Pair))
			}
			n, tail := got.Pair.Nodes[node], logOfEvents(1, tick())
			if !sameEntries(n.Log, tail) || n.Role != impl.RoleActive || n.Epoch != 1 || isAgreed != sameEntries(got.Pair.Nodes[1-node].Log, tail) || isAgreed != sameEntries(got.Pair.Sealed, tail) {
				t.Errorf("behind %d rounds: %s", rounds, pairBrief(got.Pair))
			}
			for _, w := range got.Pair.Wires {
				if w.Epoch != 1 || len(w.Got) != 0 {
					t.Errorf("behind %d rounds: %s", rounds, brief(w))
				}
			}
		}
	}
}

// TestAnEntryIsAgreedInEachRound: with too few rounds not all is agreed, and what is not is not given.
func TestAnEntryIsAgreedInEachRound(t *testing.T) {
	events := talk()
	p := toldTo(t, someSettings(), events...)
	log := logOfEvents(1, events...)
	for node := range int64(2) {
		all := logOfEvents(2, tick())
		if node == 0 {
			all = append(slices.Clone(log), all...)
		}
		for rounds := range int64(len(events) + 8) {
			got := wantSettleWords(t, p, node, rounds)
			want := all[:min(int(rounds), len(all))]
			if got.Code != impl.OK || !sameEntries(got.Pair.Sealed, want) || !sameEntries(got.Pair.Nodes[node].Log, all) || !impl.SafePair(got.Pair) {
				t.Errorf("node %d, %d rounds: %s", node, rounds, pairBrief(got.Pair))
			}
			if impl.SettledPair(got.Pair) != (len(want) == len(all)) {
				t.Errorf("node %d, %d rounds: it is settled, or not: %s", node, rounds, pairBrief(got.Pair))
			}
			outs := impl.RunRouter(p.Settings, eventsIn(want)).Out
			for peer, w := range got.Pair.Wires {
				if !bytes.Equal(w.Got, outs[peer]) || w.Taken != int64(len(inputIn(want, int64(peer)))) {
					t.Errorf("node %d, %d rounds: peer %d got %s", node, rounds, peer, brief(w))
				}
			}
		}
	}
}

func TestNodesThatRise(t *testing.T) {
	for _, p := range []impl.Pair{newPair(), toldTo(t, someSettings(), talk()...), settledTalk(t, 0), settledTalk(t, 1)} {
		for _, down := range [][]int64{{}, {0}, {1}, {0, 1}, {1, 0}} {
			q := p
			for _, id := range down {
				q = afterMoves(t, q, pairCrash(id, int64(len(q.Nodes[id].Log))-q.Nodes[id].Sure))
			}
			for node := range int64(2) {
				got := wantSettleWords(t, q, node, roundsFor(q, node))
				if got.Code != impl.OK || !got.Pair.Nodes[0].Up || !got.Pair.Nodes[1].Up || !impl.SettledPair(got.Pair) || !impl.SafePair(got.Pair) {
					t.Errorf("%v are down, %d leads: %d %s", down, node, got.Code, pairBrief(got.Pair))
				}
				wantSettleWords(t, q, node, 0)
			}
		}
	}
	// Who cannot lead has told a code, risen or not.
	p := bent(pairOf(impl.Node{}, impl.Node{Id: 1}, 1000, 1000, 1000), func(p *impl.Pair) {})
	wantSettleCode(t, p, 0, 3, impl.ErrMany)
	wantSettleCode(t, p, 1, 0, impl.ErrMany)
}

func TestWhoCannotLead(t *testing.T) {
	for _, c := range []struct {
		epoch  int64
		fences [3]int64
		code   int64
	}{
		{0, [3]int64{999, 999, 999}, 0}, {0, [3]int64{1000, 1000, 1000}, impl.ErrMany}, {0, [3]int64{1000, 0, 0}, impl.ErrMany}, {1000, [3]int64{1000, 1, 1}, impl.ErrMany},
		{5, [3]int64{5, 5, 5}, 0}, {6, [3]int64{5, 5, 5}, impl.ErrOld}, {1000, [3]int64{5, 5, 5}, impl.ErrOld}, {5, [3]int64{5, 6, 6}, 0}, {5, [3]int64{5, 7, 5}, impl.ErrOld}, {0, [3]int64{5, 5, 7}, impl.ErrOld}, {4, [3]int64{5, 2, 0}, 0},
	} {
		for node := range int64(2) {
			for _, isUp := range []bool{true, false} {
				p := pairOf(impl.Node{Up: isUp, Epoch: c.epoch}, impl.Node{Id: 1, Up: isUp, Epoch: c.epoch}, c.fences[:]...)
				got := wantSettleWords(t, p, node, 4)
				if got.Code != c.code {
					t.Errorf("epoch %d, fences %v: %d", c.epoch, c.fences, got.Code)
				}
				// Who may not lead is told so ahead of what the log has no room for.
				p.Nodes[node].Epoch = max(c.epoch, 1)
				p.Nodes[node].Log, p.Nodes[node].Sure = logOf(times(1, 100)...), 100
				wantSettleCode(t, p, node, 4, firstCode(c.code, impl.ErrMany))
			}
		}
	}
}

func TestLogsThatAreFull(t *testing.T) {
	for _, count := range []int{98, 99, 100} {
		full := logOf(times(3, count)...)
		for node := range int64(2) {
			for _, other := range [][]impl.Entry{nil, full[:3], full, logOf(times(3, 100)...)} {
				logs := [][]impl.Entry{other, other}
				logs[node] = full
				p := standbysOf(logs[0], logs[1], nil)
				got := wantSettleWords(t, p, node, 0)
				if got.Code != codeIf(count == 100, impl.ErrMany) {
					t.Errorf("a log of %d: code %d", count, got.Code)
				}
				// How full the other log is says nothing.
				if other := wantSettleWords(t, p, 1-node, 0); other.Code != codeIf(len(logs[1-node]) == 100, impl.ErrMany) {
					t.Errorf("a log of %d: code %d", len(logs[1-node]), other.Code)
				}
			}
		}
	}
	// A pair that has no room left but for the tick is settled, and cannot be settled again.
	p := afterMoves(t, newPair(), append([]pairMove{pairLead(0)}, slices.Repeat([]pairMove{pairEvent(0, tick())}, 99)...)...)
	got := wantSettleWords(t, p, 0, 105)
	if got.Code != impl.OK || len(got.Pair.Sealed) != 100 || !impl.SettledPair(got.Pair) || !impl.SafePair(got.Pair) {
		t.Errorf("99 entries: %d %s", got.Code, pairBrief(got.Pair))
	}
	for node := range int64(2) {
		wantSettleCode(t, got.Pair, node, 106, impl.ErrMany)
	}
	// The other one has room still, and the longer log gives way.
	short := wantSettleWords(t, p, 1, 6)
	if short.Code != impl.OK || !impl.SettledPair(short.Pair) || len(short.Pair.Sealed) != 1 {
		t.Errorf("a log of 99 against an empty one: %d %s", short.Code, pairBrief(short.Pair))
	}
}

// TestLogsOfUnlikeLength: of two logs with the same beginning that of who leads is the one that stays.
func TestLogsOfUnlikeLength(t *testing.T) {
	for common := range 3 {
		for first := range 6 {
			for second := range 6 {
				begin := logOfEvents(3, []impl.Event{start(0), start(1), tick()}[:common]...)
				a := append(slices.Clone(begin), logOfEvents(5, slices.Repeat([]impl.Event{tick()}, first)...)...)
				b := append(slices.Clone(begin), logOfEvents(6, slices.Repeat([]impl.Event{start(2)}, second)...)...)
				for sealed := range common + 1 {
					p := standbysOf(a, b, begin[:sealed])
					for node, log := range [][]impl.Entry{a, b} {
						got := wantSettleWords(t, p, int64(node), int64(len(log))+1)
						want := append(slices.Clone(log), tickEntry(21))
						if got.Code != impl.OK || !impl.SettledPair(got.Pair) || !impl.SafePair(got.Pair) || !sameEntries(got.Pair.Sealed, want) || !sameEntries(got.Pair.Nodes[1-node].Log, want) {
							t.Errorf("%d alike, %d and %d more, node %d leads: %s", common, first, second, node, pairBrief(got.Pair))
						}
						// A round less, and the tick is not there: the longer log is as long as it was, or not alike.
						less := wantSettleWords(t, p, int64(node), int64(len(log)))
						if less.Code != impl.OK || impl.SettledPair(less.Pair) || !impl.SafePair(less.Pair) {
							t.Errorf("a round less: %s", pairBrief(less.Pair))
						}
					}
				}
			}
		}
	}
}

// TestMailsThatAreThereAlready: they are delivered ahead of what is spread, and do no harm.
func TestMailsThatAreThereAlready(t *testing.T) {
	p := toldTo(t, someSettings(), talk()...)
	old := afterMoves(t, p, slices.Repeat([]pairMove{pairSpread(0)}, 40)...)
	mixed := afterMoves(t, p, pairSpread(0), pairDeliver(0, true), pairSync(1), pairSpread(0), pairDeliver(2, true), pairSync(1), pairSpread(0), pairSpread(0), pairLead(1), pairSpread(1), pairLead(0), pairSpread(0), pairSync(1))
	for i, q := range []impl.Pair{old, mixed} {
		for node := range int64(2) {
			for rounds := range roundsFor(q, node) + 1 {
				got := wantSettleWords(t, q, node, rounds)
				// A round is lost at most, as long as there are mails where it begins.
				count := int64(len(got.Pair.Nodes[node].Log))
				if got.Code != impl.OK || !impl.SafePair(got.Pair) || rounds > count && !impl.SettledPair(got.Pair) || rounds > 0 && len(got.Pair.Mails) != 0 || rounds == 0 && len(got.Pair.Mails) != len(q.Mails) {
					t.Errorf("pair %d, node %d, %d rounds: %s", i, node, rounds, pairBrief(got.Pair))
				}
			}
		}
	}
}

// TestHowManyMailsARoundDelivers: 39 old mails and the new one are heard, and leave no room for what tells that it is Sure.
func TestHowManyMailsARoundDelivers(t *testing.T) {
	for _, c := range []struct{ mails, agreed int }{{0, 1}, {37, 1}, {38, 1}, {39, 0}, {40, 0}} {
		p := standbysOf(nil, nil, nil)
		for range c.mails {
			p.Mails = append(p.Mails, appendTo(p.Nodes[1], 20, 0, 0))
		}
		got := wantSettleWords(t, p, 0, 1)
		if got.Code != impl.OK || len(got.Pair.Sealed) != c.agreed || len(got.Pair.Mails) != 0 || len(got.Pair.Nodes[1].Log) != int(codeIf(c.mails < 40, 1)) {
			t.Errorf("%d mails: %s", c.mails, pairBrief(got.Pair))
		}
		if next := wantSettleWords(t, p, 0, 2); !impl.SettledPair(next.Pair) {
			t.Errorf("%d mails, two rounds: %s", c.mails, pairBrief(next.Pair))
		}
	}
	// A mail that nobody hears is gone, too.
	p := standbysOf(nil, nil, nil)
	p.Mails = []impl.Mail{appendTo(p.Nodes[0], 21, 0, 0), takenTo(p.Nodes[0], 20, 9), appendTo(p.Nodes[0], 3, 0, 0), takenTo(p.Nodes[1], 20, 3)}
	if got := wantSettleWords(t, p, 0, 1); got.Code != impl.OK || !impl.SettledPair(got.Pair) || len(got.Pair.Mails) != 0 {
		t.Errorf("mails that nobody hears: %s", pairBrief(got.Pair))
	}
}

// TestTheOtherOneSyncsFirst: of two that know as much to be agreed the one that syncs first seals it, and the other one does.
func TestTheOtherOneSyncsFirst(t *testing.T) {
	p := standbysOf(logOfEvents(1, tick(), tick()), logOfEvents(2, stop(1), stop(1)), nil)
	p.Nodes[0].Sure, p.Nodes[1].Commit = 0, 2
	// What is spread would take away what the other one knows to be agreed, so that it is lost.
	p.Mails = []impl.Mail{takenTo(p.Nodes[0], 21, 2)}
	got := wantSettleWords(t, p, 0, 1)
	if got.Code != impl.OK || got.Pair.Nodes[0].Commit != 2 || !sameEntries(got.Pair.Sealed, p.Nodes[1].Log) {
		t.Errorf("Sealed are %s: %s", brief(got.Pair.Sealed), pairBrief(got.Pair))
	}
}

// TestMailsOfALaterEpoch end the lead ahead of the end of the rounds: then nothing can be given.
func TestMailsOfALaterEpoch(t *testing.T) {
	for to := range int64(2) {
		for node := range int64(2) {
			for _, m := range []impl.Mail{appendTo(impl.Node{Id: to}, 22, 0, 0), takenTo(impl.Node{Id: to}, 1000, 3), entryTo(impl.Node{Id: to}, 30, 0, 0, tickEntry(30))} {
				p := standbysOf(logOf(2, 3), logOf(2, 3), nil)
				p.Mails = []impl.Mail{takenTo(impl.Node{Id: 0}, 2, 1), m}
				for rounds := range int64(12) {
					got := wantSettleWords(t, p, node, rounds)
					if got.Code != codeIf(rounds > 0, impl.ErrState) {
						t.Errorf("%s, node %d, %d rounds: code %d", brief(m), node, rounds, got.Code)
					}
				}
			}
		}
	}
}

// floodedPair is agreed on by standbys; its peers sent what is in the logs, and got nothing yet.
func floodedPair(events ...impl.Event) impl.Pair {
	log := logOfEvents(3, events...)
	p := standbysOf(log, log, nil)
	for peer := range int64(3) {
		p.Wires[peer].Sent = inputIn(log, peer)
	}
	return p
}

func TestWhatCannotBeGiven(t *testing.T) {
	p := settledTalk(t, 0)
	rounds := roundsFor(p, 0)
	for node := range int64(2) {
		for peer := range 3 {
			for place := range p.Wires[peer].Got {
				wantSettleCode(t, bent(p, func(p *impl.Pair) { p.Wires[peer].Got[place]++ }), node, rounds, impl.ErrTaken)
			}
			// More is in the log than the peer sent.
			short := bent(p, func(p *impl.Pair) { p.Wires[peer].Sent, p.Wires[peer].Taken = nil, 0 })
			wantSettleCode(t, short, node, rounds, impl.ErrRange)
			// Peer by peer, rising: which code is told.
			for next := peer + 1; next < 3; next++ {
				wantSettleCode(t, bent(short, func(p *impl.Pair) { p.Wires[next].Got[0]++ }), node, rounds, impl.ErrRange)
				wantSettleCode(t, bent(short, func(p *impl.Pair) {
					p.Wires[peer], p.Wires[next].Sent, p.Wires[next].Taken = settledTalk(t, 0).Wires[peer], nil, 0
					p.Wires[peer].Got[0]++
				}), node, rounds, impl.ErrTaken)
			}
		}
	}
	// Just as much as a wire holds, and a byte more.
	for _, c := range []struct{ singles, doubles, size int }{{89, 5, 1999}, {77, 16, 2000}, {88, 6, 2001}} {
		q := floodedPair(flood(c.singles, c.doubles)...)
		for node := range int64(2) {
			got := wantSettleWords(t, q, node, roundsFor(q, node))
			if got.Code != codeIf(c.size > 2000, impl.ErrMany) || got.Code == impl.OK && (len(got.Pair.Wires[1].Got) != c.size || !impl.SettledPair(got.Pair)) {
				t.Errorf("%d bytes to give: %d", c.size, got.Code)
			}
			// What is not agreed is not given.
			if got := wantSettleWords(t, q, node, 4); got.Code != impl.OK || len(got.Pair.Wires[1].Got) != 15 {
				t.Errorf("%d bytes to give, 4 rounds: %d", c.size, got.Code)
			}
		}
	}
	// It is too much for peer 1, and not what peer 0, or peer 2, got.
	q := floodedPair(flood(88, 6)...)
	wantSettleCode(t, bent(q, func(p *impl.Pair) { p.Wires[0].Got = []byte{0} }), 0, 100, impl.ErrTaken)
	wantSettleCode(t, bent(q, func(p *impl.Pair) { p.Wires[2].Got = []byte{0, 1} }), 0, 100, impl.ErrMany)
}

func TestSettledPair(t *testing.T) {
	for node := range int64(2) {
		p := settledTalk(t, node)
		last := len(p.Sealed) - 1
		is := func(bend func(p *impl.Pair), want bool) {
			t.Helper()
			wantIs(t, bent(p, bend), "SettledPair", 0, want)
		}
		for id := range 2 {
			is(func(p *impl.Pair) {
				p.Nodes[id].Up, p.Nodes[id].Role, p.Nodes[id].Match, p.Nodes[id].Other, p.Nodes[id].Commit = false, 0, 0, 0, 0
			}, false)
			is(func(p *impl.Pair) {
				n := &p.Nodes[id]
				n.Log, n.Sure, n.Commit, n.Match, n.Other = n.Log[:last], int64(last), 0, 0, 0
			}, false)
			is(func(p *impl.Pair) { p.Nodes[id].Log = append(p.Nodes[id].Log, tickEntry(p.Nodes[id].Epoch)) }, false)
			for _, place := range []int{0, 3, last} {
				is(func(p *impl.Pair) { p.Nodes[id].Log[place].Event = stop(2) }, false)
			}
			is(func(p *impl.Pair) { p.Nodes[id].Log[last].Epoch-- }, false)
			// How much a node knows to be Sure and agreed says nothing.
			is(func(p *impl.Pair) { p.Nodes[id].Commit, p.Nodes[id].Sure = 0, 0 }, true)
		}
		for count := range last + 1 {
			is(func(p *impl.Pair) { p.Sealed = p.Sealed[:count] }, false)
			is(func(p *impl.Pair) { p.Sealed[count].Epoch++ }, false)
		}
		// The same ticks in both logs that are not Sealed.
		is(func(p *impl.Pair) {
			for id := range p.Nodes {
				p.Nodes[id].Log = append(p.Nodes[id].Log, tickEntry(p.Nodes[id].Epoch))
			}
		}, false)
		for peer := range 3 {
			size := len(p.Wires[peer].Got)
			is(func(p *impl.Pair) { p.Wires[peer].Got = p.Wires[peer].Got[:size-1] }, false)
			is(func(p *impl.Pair) { p.Wires[peer].Got = nil }, false)
			is(func(p *impl.Pair) { p.Wires[peer].Got = append(p.Wires[peer].Got, 1) }, false)
			for _, place := range []int{0, size - 1} {
				is(func(p *impl.Pair) { p.Wires[peer].Got[place]++ }, false)
			}
			// What was Sent and Taken says nothing, nor do fences and mails.
			is(func(p *impl.Pair) { p.Wires[peer].Sent, p.Wires[peer].Taken, p.Wires[peer].Epoch = []byte{1}, 1, 999 }, true)
		}
		is(func(p *impl.Pair) { p.Mails = manyMails(40) }, true)
		is(func(p *impl.Pair) { p.Nodes[node].Role, p.Nodes[node].Other = impl.RoleStandby, 0 }, true)
	}
	// Nothing at all is settled.
	wantIs(t, newPair(), "SettledPair", 0, true)
	for _, x := range unlikeEntries() {
		for place := range 3 {
			a, b := logWith(x[0], place, 3), logWith(x[1], place, 3)
			for i, logs := range [][3][]impl.Entry{{a, a, a}, {a, b, a}, {b, a, a}, {a, a, b}, {b, b, a}} {
				p := standbysOf(logs[0], logs[1], logs[2])
				for peer := range p.Wires {
					p.Wires[peer].Got = wordsSpec(p, int64(peer))
				}
				wantIs(t, p, "SettledPair", 0, i == 0)
			}
		}
	}
}

// TestExamplesOfAnAudit are those of the document.
func TestExamplesOfAnAudit(t *testing.T) {
	p := toldTo(t, someSettings(), start(0), hello(0))
	want := stream(impl.Message{Kind: impl.KindOpen, As: 9, Hold: 9, Id: 4}, keepMessage())
	settled := impl.SettlePair(p, 0, roundsFor(p, 0))
	if settled.Code != impl.OK || !bytes.Equal(settled.Pair.Wires[0].Got, want) || !bytes.Equal(impl.SpecOf(settled.Pair, 0).Bytes, want) || !impl.SettledPair(settled.Pair) {
		t.Errorf("the peer gets %d", settled.Pair.Wires[0].Got)
	}
	// Node 0 crashes, node 1 leads and gives the same bytes, from the first on.
	next := impl.SettlePair(afterMoves(t, settled.Pair, pairCrash(0, 0)), 1, roundsFor(settled.Pair, 1))
	if next.Code != impl.OK || !bytes.Equal(next.Pair.Wires[0].Got, want) || !impl.SettledPair(next.Pair) || !impl.SafePair(next.Pair) || next.Pair.Nodes[1].Role != impl.RoleActive {
		t.Errorf("the peer gets %d", next.Pair.Wires[0].Got)
	}
	forgetful := bent(settled.Pair, func(p *impl.Pair) { p.Wires[0].Got = nil })
	if again := impl.SettlePair(afterMoves(t, forgetful, pairCrash(0, 0)), 1, roundsFor(settled.Pair, 1)); !bytes.Equal(again.Pair.Wires[0].Got, want) {
		t.Errorf("the peer gets %d", again.Pair.Wires[0].Got)
	}
}

func TestGreatNumbersOfAudits(t *testing.T) {
	for _, p := range []impl.Pair{newPair(), richPair(), settledTalk(t, 1)} {
		for _, great := range greatNumbers() {
			if impl.GotRight(p, great) || impl.TakenRight(p, great) || !reflect.DeepEqual(impl.SpecOf(p, great), impl.BytesResult{Code: impl.ErrRange}) {
				t.Errorf("the peer %d is none", great)
			}
			wantSettleCode(t, p, great, 3, impl.ErrRange)
			wantSettleCode(t, p, 0, great, impl.ErrRange)
			wantSettleCode(t, p, 1, great, impl.ErrRange)
			wantSettleCode(t, p, great, great, impl.ErrRange)
			for _, bend := range []func(p *impl.Pair){
				func(p *impl.Pair) { p.Settings.Next = great }, func(p *impl.Pair) { p.Nodes[1].Epoch = great }, func(p *impl.Pair) { p.Nodes[0].Sure = great }, func(p *impl.Pair) { p.Nodes[0].Commit = great },
				func(p *impl.Pair) { p.Wires[0].Epoch = great }, func(p *impl.Pair) { p.Wires[2].Taken = great }, func(p *impl.Pair) { p.Sealed = []impl.Entry{tickEntry(great)} }, func(p *impl.Pair) { p.Mails = []impl.Mail{{Kind: 2, Epoch: 1, At: great}} },
			} {
				q := bent(p, bend)
				wantAudits(t, q)
				wantSettleCode(t, q, 0, 3, impl.ErrRange)
			}
		}
	}
}

// TestAnyPairIsAudited: whatever a pair is, what is told of it is what the document says.
func TestAnyPairIsAudited(t *testing.T) {
	r := rand.New(rand.NewSource(151))
	codes, told := map[int64]int{}, map[string][2]int{}
	great := greatNumbers()
	for range 1500 {
		p := somePairBy(r)
		if r.Intn(2) == 0 {
			// What is Sealed is of a log, mostly, and so is what was sent.
			log := p.Nodes[r.Intn(2)].Log
			p.Sealed = log[:r.Intn(len(log)+1)]
			for peer := range int64(3) {
				p.Wires[peer].Sent, p.Wires[peer].Got = append(inputIn(log, peer), 1), wordsSpec(p, peer)
				if size := 2000; len(p.Wires[peer].Sent) > size || len(p.Wires[peer].Got) > size {
					p.Wires[peer].Sent, p.Wires[peer].Got = nil, nil
				}
				p.Wires[peer].Taken = int64(r.Intn(len(p.Wires[peer].Sent) + 1))
				if size := len(p.Wires[peer].Got); size > 0 && r.Intn(6) == 0 {
					p.Wires[peer].Got[r.Intn(size)]++
				}
			}
			if r.Intn(2) == 0 {
				a, b := &p.Nodes[0], &p.Nodes[1]
				b.Epoch = max(a.Epoch, b.Epoch)
				b.Log, b.Sure, b.Match, b.Other, b.Commit = a.Log, int64(len(a.Log)), 0, 0, 0
			}
			if r.Intn(2) == 0 {
				p.Mails = nil
				for peer := range p.Wires {
					p.Wires[peer].Epoch = min(max(p.Nodes[0].Epoch, p.Nodes[1].Epoch), 999)
				}
			}
		}
		if r.Intn(20) == 0 {
			p.Nodes[r.Intn(2)].Sure += []int64{-1, 1, 1000, great[r.Intn(len(great))]}[r.Intn(4)]
		}
		wantAudits(t, p)
		for _, a := range audits() {
			n := told[a.name]
			n[codeIf(a.asked(p, r.Int63n(3)), 1)]++
			told[a.name] = n
		}
		node, rounds := r.Int63n(2), []int64{0, 1, 2, 9, 30, 105, 150}[r.Intn(7)]
		switch r.Intn(20) {
		case 0:
			node = r.Int63n(4) - 1
		case 1:
			rounds = []int64{-1, 151, great[r.Intn(len(great))]}[r.Intn(3)]
		}
		codes[wantSettleWords(t, p, node, rounds).Code]++
	}
	for name, n := range told {
		if n[0] < 30 || n[1] < 15 {
			t.Errorf("%s: %v", name, n)
		}
	}
	for _, code := range []int64{impl.OK, impl.ErrRange, impl.ErrMany, impl.ErrOld, impl.ErrTaken, impl.ErrState} {
		if codes[code] < 10 {
			t.Errorf("codes: %v", codes)
		}
	}
}

// wentOn counts what pairs were when they were settled.
type wentOn struct {
	calls, settled, kept, leads, behind       int
	longer, shorter, down, full, noRoom, wide int
}

// checkCall holds what the promise says behind each call.
func (c *wentOn) checkCall(t *testing.T, was impl.Pair, m pairMove, got impl.Pair) {
	t.Helper()
	c.calls++
	if !impl.SafePair(got) {
		t.Fatalf("%+v of %s: it is not safe any more: %s", m, pairBrief(was), pairBrief(got))
	}
	if len(got.Sealed) < len(was.Sealed) || !sameEntries(got.Sealed[:len(was.Sealed)], was.Sealed) {
		t.Fatalf("%+v of %s: what was agreed does not stay: %s", m, pairBrief(was), pairBrief(got))
	}
	if m.Kind == doLead {
		c.checkLead(t, m.Node, got)
	}
}

// checkLead: who leads has all that is agreed, and whoever led is not heard.
func (c *wentOn) checkLead(t *testing.T, node int64, p impl.Pair) {
	t.Helper()
	n, old := p.Nodes[node], p.Nodes[1-node]
	if len(n.Log) < len(p.Sealed) || !sameEntries(n.Log[:len(p.Sealed)], p.Sealed) || n.Role != impl.RoleActive {
		t.Fatalf("node %d leads without all that is agreed: %s", node, pairBrief(p))
	}
	c.leads++
	for peer, w := range p.Wires {
		if w.Epoch != n.Epoch || old.Role == impl.RoleActive && old.Epoch >= w.Epoch {
			t.Fatalf("node %d leads, and the wire %d hears another one: %s", node, peer, pairBrief(p))
		}
		if old.Role != impl.RoleActive {
			continue
		}
		c.behind++
		if impl.GivePair(p, 1-node, int64(peer)).Code == impl.OK || impl.TakePair(p, 1-node, int64(peer), 1).Code == impl.OK {
			t.Fatalf("node %d is heard still: %s", 1-node, pairBrief(p))
		}
	}
}

// checkSettle: either can lead, and each peer gets all.
func (c *wentOn) checkSettle(t *testing.T, p impl.Pair, node int64) impl.Pair {
	t.Helper()
	log, other := p.Nodes[node].Log, p.Nodes[1-node].Log
	got := impl.SettlePair(p, node, roundsFor(p, node))
	if len(log) == 100 {
		c.full++
		if !reflect.DeepEqual(got, pairCode(impl.ErrMany)) {
			t.Fatalf("node %d settles with a full log: %d, %s", node, got.Code, pairBrief(p))
		}
		return p
	}
	want := append(slices.Clone(log), tickEntry(p.Wires[0].Epoch+1))
	for _, out := range impl.RunRouter(p.Settings, eventsIn(want)).Out {
		if len(out) > 2000 {
			c.wide++
			if !reflect.DeepEqual(got, pairCode(impl.ErrMany)) {
				t.Fatalf("node %d settles with more to give than a wire holds: %d", node, got.Code)
			}
			return p
		}
	}
	if got.Code != impl.OK || !impl.SettledPair(got.Pair) || !impl.SafePair(got.Pair) || !sameEntries(got.Pair.Sealed, want) {
		t.Fatalf("node %d settles: %d, %s, from %s", node, got.Code, pairBrief(got.Pair), pairBrief(p))
	}
	for _, w := range got.Pair.Wires {
		if w.Epoch != got.Pair.Nodes[node].Epoch {
			t.Fatalf("node %d settles, and is not the one that is heard: %s", node, pairBrief(got.Pair))
		}
	}
	c.settled++
	c.kept += int(codeIf(len(p.Sealed) > 0, 1))
	c.longer += int(codeIf(len(other) > len(log), 1))
	c.shorter += int(codeIf(len(other) < len(log), 1))
	c.down += int(codeIf(!p.Nodes[0].Up || !p.Nodes[1].Up, 1))
	c.noRoom += int(codeIf(len(p.Mails) == 40, 1))
	return got.Pair
}

// weather is how mails come: lately the newest one ahead of the others, so that old ones stay for long, and often twice.
type weather struct {
	*director
	late   bool
	double int
}

func (w *weather) next(p impl.Pair) pairMove {
	m := w.director.next(p)
	if m.Kind != doDeliver || len(p.Mails) == 0 {
		return m
	}
	if w.late && w.Intn(5) > 0 {
		m.Number = int64(len(p.Mails) - 1)
	} else if w.late {
		m.Number = w.Int63n(int64(len(p.Mails)))
	}
	m.Keep = w.Intn(w.double) == 0
	return m
}

// TestWhateverHappens: the promise of pairs that came of new ones, over many calls by chance.
func TestWhateverHappens(t *testing.T) {
	r := rand.New(rand.NewSource(152))
	var c wentOn
	for round := range 160 {
		d := &director{talker: &talker{Rand: r, places: 12}, calm: []int{3, 5, 8, 12, 30, 200}[r.Intn(6)], haste: 13 + r.Intn(30)}
		w := &weather{d, r.Intn(2) == 0, []int{3, 9, 40}[r.Intn(3)]}
		p := impl.NewPair(settingsBy(r)).Pair
		if round%20 == 0 {
			p = afterMoves(t, p, append([]pairMove{pairLead(1)}, slices.Repeat([]pairMove{pairEvent(1, tick())}, 95)...)...)
		}
		for range 350 {
			m := w.next(p)
			got := m.done(p)
			if got.Code == impl.OK {
				c.checkCall(t, p, m, got.Pair)
				p = got.Pair
			}
			if r.Intn(5) > 0 {
				continue
			}
			first, second := c.checkSettle(t, p, 0), c.checkSettle(t, p, 1)
			// Some go on from there.
			if r.Intn(30) == 0 {
				p = []impl.Pair{first, second}[r.Intn(2)]
			}
		}
	}
	if c.calls < 12000 || c.settled < 3000 || c.kept < 1500 || c.leads < 500 || c.behind < 300 || c.longer < 300 || c.shorter < 300 || c.down < 500 || c.full < 10 || c.noRoom < 50 {
		t.Errorf("what became of them: %+v", c)
	}
}

// storm has few entries, whoever leads being another one soon, and mails that stay for long.
type storm struct{ *rand.Rand }

func (s storm) next(p impl.Pair) pairMove {
	node, peer := s.Int63n(2), s.Int63n(3)
	if !p.Nodes[node].Up && s.Intn(2) == 0 {
		return pairRise(node)
	}
	if mails := len(p.Mails); mails > 0 && s.Intn(5) < 2 {
		at := s.Int63n(int64(mails))
		if mails > 5+s.Intn(8) {
			return pairLose(at)
		}
		return pairDeliver(at, s.Intn(3) == 0)
	}
	switch s.Intn(20) {
	case 0, 1:
		return pairLead(node)
	case 2:
		return pairCrash(node, int64(s.Intn(len(p.Nodes[node].Log)-int(p.Nodes[node].Sure)+1)))
	case 3, 4:
		if len(p.Nodes[node].Log) < 6 {
			return pairEvent(node, []impl.Event{start(peer), stop(peer), tick()}[s.Intn(3)])
		}
		return pairGive(node, peer)
	case 5:
		return pairSay(peer, bodyOf(1+s.Intn(9)))
	case 6, 7:
		return pairTake(node, peer, 1+s.Int63n(3))
	case 8:
		return pairGive(node, peer)
	case 9, 10, 11, 12, 13:
		return pairSync(node)
	}
	return pairSpread(node)
}

// TestStorms: the promise once more, where old mails meet new leaders.
func TestStorms(t *testing.T) {
	s := storm{rand.New(rand.NewSource(153))}
	var c wentOn
	for range 4000 {
		p := newPair()
		for range 200 {
			m := s.next(p)
			got := m.done(p)
			if got.Code == impl.OK {
				c.checkCall(t, p, m, got.Pair)
				p = got.Pair
			}
			if s.Intn(25) == 0 {
				c.checkSettle(t, p, s.Int63n(2))
			}
		}
	}
	if c.calls < 400000 || c.settled < 20000 || c.kept < 8000 || c.leads < 5000 || c.behind < 3000 || c.longer < 1000 || c.shorter < 1000 || c.down < 500 {
		t.Errorf("what became of them: %+v", c)
	}
}

// wantSafeBehind holds the promise behind each of these calls, and tells where the pair comes to.
func wantSafeBehind(t *testing.T, p impl.Pair, moves ...pairMove) impl.Pair {
	t.Helper()
	var c wentOn
	for _, m := range moves {
		got := m.done(p)
		if got.Code != impl.OK {
			t.Fatalf("%+v of %s has the code %d", m, pairBrief(p), got.Code)
		}
		c.checkCall(t, p, m, got.Pair)
		p = got.Pair
		c.checkSettle(t, p, 0)
		c.checkSettle(t, p, 1)
	}
	return p
}

// TestAnEntryThatIsLate: it was spread two epochs ago, and stands where another one is agreed now.
func TestAnEntryThatIsLate(t *testing.T) {
	p := wantSafeBehind(t, newPair(), pairLead(0), pairEvent(0, start(0)), pairSpread(0), pairLead(1), pairEvent(1, start(1)), pairSync(1), pairSpread(1), pairDeliver(1, false), pairSync(0), pairDeliver(2, false), pairLose(1))
	if len(p.Mails) != 1 || len(p.Sealed) != 1 || p.Sealed[0].Event.Peer != 1 {
		t.Fatalf("not as it should be: %s", pairBrief(p))
	}
	p = wantSafeBehind(t, p, pairLead(0), pairSpread(0), pairDeliver(1, false), pairDeliver(0, false))
	if n := p.Nodes[1]; n.Epoch != 3 || n.Sure != 1 || !sameEntries(n.Log, p.Sealed) {
		t.Errorf("what is agreed is gone: %s", pairBrief(p))
	}
}

// TestATakenThatIsLate: what it tells to be sure was, in another epoch, another entry.
func TestATakenThatIsLate(t *testing.T) {
	p := wantSafeBehind(t, newPair(), pairLead(0), pairEvent(0, start(0)), pairSpread(0), pairDeliver(0, false), pairLose(0), pairSync(1), pairCrash(0, 0), pairRise(0), pairLead(0), pairEvent(0, start(1)), pairSync(0))
	if len(p.Mails) != 1 || p.Mails[0].At != 1 || len(p.Nodes[1].Log) != 1 {
		t.Fatalf("not as it should be: %s", pairBrief(p))
	}
	p = wantSafeBehind(t, p, pairDeliver(0, true), pairSync(0), pairGive(0, 0), pairGive(0, 1))
	if n := p.Nodes[0]; n.Other != 0 || n.Commit != 0 || len(p.Sealed) != 0 {
		t.Errorf("it is agreed by one alone: %s", pairBrief(p))
	}
}

// smallMoves are all that can happen to a pair with few mails.
func smallMoves(p impl.Pair) []pairMove {
	list := []pairMove{pairSay(0, []byte{1})}
	for node := range int64(2) {
		n := p.Nodes[node]
		loose := int64(len(n.Log)) - n.Sure
		list = append(list, pairLead(node), pairTake(node, 0, 1), pairEvent(node, start(0)), pairSync(node), pairSpread(node), pairGive(node, 0), pairCrash(node, 0), pairRise(node))
		if loose > 0 {
			list = append(list, pairCrash(node, loose))
		}
	}
	for at := range p.Mails {
		list = append(list, pairDeliver(int64(at), false), pairDeliver(int64(at), true), pairLose(int64(at)))
	}
	return list
}

// TestAllThatFewCallsDo goes from a new pair, and from one that has agreed to something, to the first 4000 pairs that calls lead to, those of fewer calls first.
func TestAllThatFewCallsDo(t *testing.T) {
	var c wentOn
	agreed := afterMoves(t, newPair(), pairLead(0), pairEvent(0, start(0)), pairSpread(0), pairDeliver(0, false), pairLose(0), pairSync(1), pairSync(0), pairDeliver(0, true), pairGive(0, 0), pairEvent(0, tick()), pairSpread(0), pairLead(1))
	for _, begin := range []impl.Pair{newPair(), agreed} {
		seen := map[string]bool{fmt.Sprint(begin): true}
		list := []impl.Pair{begin}
		for at := 0; at < len(list) && len(list) < 4000; at++ {
			for _, m := range smallMoves(list[at]) {
				got := m.done(list[at])
				if name := fmt.Sprint(got.Pair); got.Code == impl.OK && !seen[name] {
					seen[name] = true
					c.checkCall(t, list[at], m, got.Pair)
					list = append(list, got.Pair)
				}
			}
		}
		for _, p := range list {
			c.checkSettle(t, p, 0)
			c.checkSettle(t, p, 1)
		}
	}
	if c.calls < 7000 || c.settled < 14000 || c.leads < 500 || c.behind < 300 || c.longer < 1000 || c.down < 1000 {
		t.Errorf("what became of them: %+v", c)
	}
}

// auditArgs are all that the functions of this chapter take.
type auditArgs struct {
	Pair   impl.Pair
	Node   int64
	Peer   int64
	Rounds int64
}

func auditCalls() []func(x auditArgs) any {
	list := []func(x auditArgs) any{
		func(x auditArgs) any { return impl.SpecOf(x.Pair, x.Peer) },
		func(x auditArgs) any { return impl.SettlePair(x.Pair, x.Node, x.Rounds) },
	}
	for _, a := range audits() {
		list = append(list, func(x auditArgs) any { return a.asked(x.Pair, x.Peer) })
	}
	return list
}

func someAuditArgs(t *testing.T) []auditArgs {
	t.Helper()
	ruled := toldTo(t, ruledSettings(), append(talk(), hello(2))...)
	busy := afterMoves(t, ruled, pairSpread(0), pairDeliver(0, true), pairSync(1), pairSpread(0), pairCrash(1, 0))
	pairs := append(rightPairs(), ruled, busy, settledTalk(t, 0), settledTalk(t, 1), impl.SettlePair(ruled, 0, 9).Pair, impl.SettlePair(ruled, 1, 1).Pair, floodedPair(flood(20, 3)...))
	for _, p := range faultyPairs(t) {
		if wordsPairFault(p) == impl.ErrForm {
			pairs = append(pairs, p)
		}
	}
	var list []auditArgs
	for i, p := range pairs {
		for node := range int64(2) {
			list = append(list, auditArgs{p, node, int64(i) % 3, int64(i) % 5 * 3})
		}
		if i%9 == 0 {
			list = append(list, auditArgs{p, 2, 1, 1}, auditArgs{p, 0, 3, 151})
		}
	}
	return append(list, auditArgs{Pair: ruled, Rounds: 12}, auditArgs{Pair: busy, Node: 1, Rounds: 12}, auditArgs{})
}

func TestAuditsChangeNoArgument(t *testing.T) {
	for _, was := range someAuditArgs(t) {
		x := roomyCopy(was)
		memory := memoryOfAll(x)
		for i, call := range auditCalls() {
			call(x)
			if memoryOfAll(x) != memory {
				t.Fatalf("call %d has changed its arguments: %s", i, brief(was))
			}
		}
	}
}

func TestAuditsAnswerNewMemory(t *testing.T) {
	for _, was := range someAuditArgs(t) {
		for i, call := range auditCalls()[:2] {
			x := roomyCopy(was)
			first, second := call(x), call(x)
			if shareMemory(slices.Concat(spansOf(x), spansOf(first), spansOf(second))) {
				t.Fatalf("call %d: lists share memory with one another, or with the arguments: %s", i, brief(was))
			}
			if !reflect.DeepEqual(first, second) {
				t.Fatalf("call %d: %s, and again %s", i, brief(first), brief(second))
			}
			runtime.KeepAlive([]any{x, first, second})
		}
	}
}

// TestAuditsOfSharedLists: all that the pair has is one and the same memory, and each list has more behind it.
func TestAuditsOfSharedLists(t *testing.T) {
	row, rules := bodyOf(60), []impl.Rule{anyRule(), {Most: 16, Local: 7}}
	var log []impl.Entry
	for i := range 8 {
		log = append(log, impl.Entry{Epoch: 3, Event: impl.Event{Kind: impl.EventInput, Peer: int64(i % 3), Bytes: row[i/3 : i/3+1]}})
	}
	wire := impl.Wire{Epoch: 3, Sent: row[:20], Got: row[:0]}
	p := impl.Pair{Settings: impl.Settings{Config: someConfig(), Import: rules[:1], Export: rules[:1]}, Wires: []impl.Wire{wire, wire, wire}, Sealed: log[:2],
		Nodes: []impl.Node{{Up: true, Role: impl.RoleActive, Epoch: 3, Log: log[:5], Sure: 5, Other: 2, Commit: 2}, {Id: 1, Up: true, Epoch: 3, Log: log[:4], Sure: 2, Match: 4}}}
	mails := []impl.Mail{entryTo(p.Nodes[1], 3, 4, 3, log[4]), takenTo(p.Nodes[0], 3, 4), entryTo(p.Nodes[1], 3, 4, 3, log[4])}
	p.Mails = mails[:2]
	if !impl.SafePair(p) {
		t.Fatal("the pair is not safe")
	}
	memory := memoryOfAll(p, row, rules, log, mails)
	args := slices.Concat(spansOf(p), spansOf(row), spansOf(mails))
	for node := range int64(2) {
		for rounds := range int64(9) {
			for i, call := range auditCalls() {
				got := call(auditArgs{p, node, rounds % 3, rounds})
				if memoryOfAll(p, row, rules, log, mails) != memory || reflect.TypeOf(got).Kind() == reflect.Struct && shareMemory(spansOf(got)) {
					t.Fatalf("call %d changes or shares memory", i)
				}
				for _, s := range spansOf(got) {
					for _, other := range args {
						if s.from < other.to && other.from < s.to {
							t.Fatalf("call %d: what is answered shares memory with an argument", i)
						}
					}
				}
			}
			if got := impl.SettlePair(p, node, rounds); got.Code != impl.OK || !impl.SafePair(got.Pair) || rounds > 6 && !impl.SettledPair(got.Pair) {
				t.Errorf("node %d, %d rounds: %d %s", node, rounds, got.Code, pairBrief(got.Pair))
			}
		}
	}
}

func TestAnswersOfAuditsMayBeSpoiled(t *testing.T) {
	p := toldTo(t, ruledSettings(), append(talk(), hello(2))...)
	p = afterMoves(t, p, pairSpread(0), pairSync(1), pairSpread(0))
	for node := range int64(2) {
		for rounds := range int64(15) {
			memory, first, second := memoryOfAll(p), impl.SettlePair(p, node, rounds), impl.SettlePair(p, node, rounds)
			spoilPair(first.Pair)
			if memoryOfAll(p) != memory || !reflect.DeepEqual(impl.SettlePair(p, node, rounds), second) {
				t.Errorf("node %d, %d rounds: what is answered shares memory with an argument", node, rounds)
			}
		}
	}
	settled := impl.SettlePair(p, 0, roundsFor(p, 0)).Pair
	for peer := range int64(3) {
		memory, first, second := memoryOfAll(settled), impl.SpecOf(settled, peer), impl.SpecOf(settled, peer)
		flip(first.Bytes)
		if len(first.Bytes) == 0 || memoryOfAll(settled) != memory || !reflect.DeepEqual(impl.SpecOf(settled, peer), second) {
			t.Errorf("SpecOf %d: what is answered shares memory with an argument", peer)
		}
	}
}

// allOfAudits tells all that the functions of this chapter answer, nil and empty lists apart.
func allOfAudits(x auditArgs) string {
	var said []any
	for _, call := range auditCalls() {
		said = append(said, fmt.Sprintf("%#v", call(x)))
	}
	return fmt.Sprint(said...)
}

func TestAuditsHangOnArgumentsAlone(t *testing.T) {
	list := someAuditArgs(t)
	for i, x := range list {
		first := allOfAudits(x)
		allOfAudits(list[(i*7+5)%len(list)])
		if allOfAudits(x) != first || allOfAudits(roomyCopy(x)) != first {
			t.Fatalf("what is told of %s hangs on more than it", brief(x))
		}
		if allOfAudits(hollow(x, true)) != first || allOfAudits(hollow(x, false)) != first {
			t.Fatalf("nil and an empty list in %s are not answered alike", brief(x))
		}
	}
}
