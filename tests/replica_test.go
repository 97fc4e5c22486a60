package tests

import (
	"fmt"
	"math"
	"math/rand"
	"reflect"
	"runtime"
	"slices"
	"testing"

	"loop.example/g00263/impl"
)

func wordsNodeFault(n impl.Node) int64 {
	count := int64(len(n.Log))
	isWrong := n.Id != 0 && n.Id != 1 || n.Role != 0 && n.Role != 1 || n.Epoch < 0 || n.Epoch > 1000
	if code := firstCode(codeIf(isWrong, impl.ErrRange), codeIf(count > 100, impl.ErrMany)); code != impl.OK {
		return code
	}
	for i, x := range n.Log {
		falls := i > 0 && x.Epoch < n.Log[i-1].Epoch
		if code := firstCode(wordsEntryFault(x), codeIf(x.Epoch > n.Epoch || falls, impl.ErrForm)); code != impl.OK {
			return code
		}
	}
	for _, number := range []int64{n.Sure, n.Match, n.Other} {
		if number < 0 || number > count {
			return impl.ErrRange
		}
	}
	return firstCode(codeIf(n.Commit < 0 || n.Commit > n.Sure, impl.ErrRange),
		codeIf(n.Role == 1 && (!n.Up || n.Epoch == 0 || n.Match != 0), impl.ErrForm),
		codeIf(n.Role == 0 && n.Other != 0, impl.ErrForm),
		codeIf(!n.Up && (n.Sure != count || n.Match != 0 || n.Commit != 0), impl.ErrForm))
}

func wordsMailFault(n impl.Node, m impl.Mail) int64 {
	isAppend, isTaken := m.Kind == 1, m.Kind == 2
	isWrong := m.Epoch < 1 || m.Epoch > 1000 || m.At < 0 || m.At > 100 || m.Prev < 0 || m.Prev > 1000
	code := firstCode(wordsNodeFault(n), codeIf(!isAppend && !isTaken, impl.ErrForm), codeIf(m.To != n.Id, impl.ErrForm), codeIf(isWrong, impl.ErrRange),
		codeIf(isTaken && (m.Has || m.Prev != 0), impl.ErrForm),
		codeIf(isAppend && (m.At == 0 && m.Prev != 0 || m.At > 0 && m.Prev == 0), impl.ErrForm),
		codeIf(!m.Has && !sameEntry(m.Entry, impl.Entry{}), impl.ErrForm),
		codeIf(m.Prev > m.Epoch, impl.ErrForm))
	if code != impl.OK || !m.Has {
		return code
	}
	return firstCode(wordsEntryFault(m.Entry), codeIf(m.Entry.Epoch > m.Epoch || m.Entry.Epoch < m.Prev, impl.ErrForm))
}

// wordsUpFault is all that is asked ahead of what a function asks of its own.
func wordsUpFault(n impl.Node) int64 {
	return firstCode(wordsNodeFault(n), codeIf(!n.Up, impl.ErrState))
}

func wordsCommit(n impl.Node) int64 {
	lesser := n.Other
	if n.Sure < lesser {
		lesser = n.Sure
	}
	if lesser > n.Commit {
		return lesser
	}
	return n.Commit
}

func wordsAddEvent(n impl.Node, e impl.Event) impl.NodeResult {
	if code := firstCode(wordsUpFault(n), codeIf(n.Role != 1, impl.ErrState), wordsEventFault(e), codeIf(len(n.Log) == 100, impl.ErrMany)); code != impl.OK {
		return nodeCode(code)
	}
	n.Log = append(slices.Clone(n.Log), impl.Entry{Epoch: n.Epoch, Event: e})
	return nodeAnswer(n)
}

func wordsSpread(n impl.Node) impl.NodeResult {
	if code := firstCode(wordsUpFault(n), codeIf(n.Role != 1, impl.ErrState)); code != impl.OK {
		return nodeCode(code)
	}
	m := impl.Mail{Kind: 1, To: 1 - n.Id, Epoch: n.Epoch, At: n.Other}
	for place, x := range n.Log {
		if int64(place) == n.Other-1 {
			m.Prev = x.Epoch
		}
		if int64(place) == n.Other {
			m.Has, m.Entry = true, x
		}
	}
	return nodeAnswer(n, m)
}

func wordsHearMail(n impl.Node, m impl.Mail) impl.NodeResult {
	if code := firstCode(wordsUpFault(n), wordsMailFault(n, m)); code != impl.OK {
		return nodeCode(code)
	}
	if m.Epoch < n.Epoch {
		return nodeAnswer(n)
	}
	if m.Epoch > n.Epoch {
		n.Role, n.Epoch, n.Match, n.Other = 0, m.Epoch, 0, 0
	}
	if m.Kind == 1 {
		return wordsHearAppend(n, m)
	}
	if n.Role == 1 {
		if m.At > n.Other && m.At <= int64(len(n.Log)) {
			n.Other = m.At
		}
		n.Commit = wordsCommit(n)
	}
	return nodeAnswer(n)
}

func wordsHearAppend(n impl.Node, m impl.Mail) impl.NodeResult {
	if n.Role == 1 {
		return nodeCode(impl.ErrState)
	}
	at := int(m.At)
	if len(n.Log) < at || at > 0 && n.Log[at-1].Epoch != m.Prev {
		return nodeAnswer(n, takenBy(n, n.Match))
	}
	known := m.At
	if m.Has {
		known++
	}
	if m.Has && (at == len(n.Log) || n.Log[at].Epoch != m.Entry.Epoch) {
		for place := range n.Log {
			if place >= at && int64(place) < n.Commit {
				return nodeCode(impl.ErrTaken)
			}
		}
		n.Log = append(slices.Clone(n.Log[:at]), m.Entry)
		if len(n.Log) > 100 {
			return nodeCode(impl.ErrMany)
		}
		if n.Sure > m.At {
			n.Sure = m.At
		}
	}
	if known > n.Match {
		n.Match = known
	}
	if n.Match > int64(len(n.Log)) {
		n.Match = int64(len(n.Log))
	}
	return nodeAnswer(n, takenBy(n, min(n.Match, n.Sure)))
}

func wordsSyncNode(n impl.Node) impl.NodeResult {
	if code := wordsUpFault(n); code != impl.OK {
		return nodeCode(code)
	}
	n.Sure = int64(len(n.Log))
	if n.Role == 1 {
		n.Commit = wordsCommit(n)
		return nodeAnswer(n)
	}
	if n.Epoch > 0 {
		return nodeAnswer(n, takenBy(n, n.Match))
	}
	return nodeAnswer(n)
}

func wordsCrashNode(n impl.Node, kept int64) impl.NodeResult {
	if code := firstCode(wordsUpFault(n), codeIf(kept < 0 || kept > int64(len(n.Log))-n.Sure, impl.ErrRange)); code != impl.OK {
		return nodeCode(code)
	}
	n.Sure += kept
	n.Log = n.Log[:n.Sure]
	n.Up, n.Role, n.Match, n.Other, n.Commit = false, 0, 0, 0, 0
	return nodeAnswer(n)
}

func wordsRise(n impl.Node) impl.NodeResult {
	if code := firstCode(wordsNodeFault(n), codeIf(n.Up, impl.ErrState)); code != impl.OK {
		return nodeCode(code)
	}
	n.Up = true
	return nodeAnswer(n)
}

func wordsLead(n impl.Node, epoch int64) impl.NodeResult {
	if code := firstCode(wordsUpFault(n), codeIf(epoch <= n.Epoch || epoch > 1000, impl.ErrRange)); code != impl.OK {
		return nodeCode(code)
	}
	n.Role, n.Epoch, n.Match, n.Other = 1, epoch, 0, 0
	return nodeAnswer(n)
}

func nodeCode(code int64) impl.NodeResult { return impl.NodeResult{Code: code} }

func nodeAnswer(n impl.Node, send ...impl.Mail) impl.NodeResult {
	return impl.NodeResult{Node: n, Send: send}
}

func sameNode(a, b impl.Node) bool {
	isSame := sameEntries(a.Log, b.Log)
	a.Log, b.Log = nil, nil
	return isSame && reflect.DeepEqual(a, b)
}

func sameMail(a, b impl.Mail) bool {
	isSame := sameEntry(a.Entry, b.Entry)
	a.Entry, b.Entry = impl.Entry{}, impl.Entry{}
	return isSame && reflect.DeepEqual(a, b)
}

func wantNode(t *testing.T, got, want impl.NodeResult, what string, args ...any) {
	t.Helper()
	if got.Code != want.Code || !sameNode(got.Node, want.Node) || !slices.EqualFunc(got.Send, want.Send, sameMail) {
		t.Errorf("%s of %s: %s, want %s", what, brief(args...), brief(got), brief(want))
	}
	if got.Code != impl.OK && !reflect.DeepEqual(got, nodeCode(got.Code)) {
		t.Errorf("%s of %s: %s is not zero beside its code", what, brief(args...), brief(got))
	}
	if code := impl.NodeFault(got.Node); code != impl.OK {
		t.Errorf("%s of %s: %s has the fault %d", what, brief(args...), brief(got), code)
	}
	for _, m := range got.Send {
		if code := impl.MailFault(impl.Node{Id: 1 - got.Node.Id, Up: true}, m); code != impl.OK {
			t.Errorf("%s of %s: the mail %s has the fault %d", what, brief(args...), brief(m), code)
		}
	}
}

func wantAddEvent(t *testing.T, n impl.Node, e impl.Event, want impl.NodeResult) {
	t.Helper()
	wantNode(t, impl.AddEvent(n, e), want, "AddEvent", e, n)
}

func wantSpread(t *testing.T, n impl.Node, want impl.NodeResult) {
	t.Helper()
	wantNode(t, impl.SpreadNode(n), want, "SpreadNode", n)
}

func wantHearMail(t *testing.T, n impl.Node, m impl.Mail, want impl.NodeResult) {
	t.Helper()
	wantNode(t, impl.HearMail(n, m), want, "HearMail", m, n)
}

func wantSyncNode(t *testing.T, n impl.Node, want impl.NodeResult) {
	t.Helper()
	wantNode(t, impl.SyncNode(n), want, "SyncNode", n)
}

func wantCrashNode(t *testing.T, n impl.Node, kept int64, want impl.NodeResult) {
	t.Helper()
	wantNode(t, impl.CrashNode(n, kept), want, "CrashNode", kept, n)
}

func wantRise(t *testing.T, n impl.Node, want impl.NodeResult) {
	t.Helper()
	wantNode(t, impl.RiseNode(n), want, "RiseNode", n)
}

func wantLead(t *testing.T, n impl.Node, epoch int64, want impl.NodeResult) {
	t.Helper()
	wantNode(t, impl.LeadNode(n, epoch), want, "LeadNode", epoch, n)
}

// logOf has an entry of each of these epochs, no two near each other alike.
func logOf(epochs ...int64) []impl.Entry {
	var log []impl.Entry
	for place, epoch := range epochs {
		x := entryAt(place + 3)
		x.Epoch = epoch
		log = append(log, x)
	}
	return log
}

func times(epoch int64, n int) []int64 {
	return slices.Repeat([]int64{epoch}, n)
}

func standbyOf(epoch, sure, match, commit int64, epochs ...int64) impl.Node {
	return impl.Node{Id: 1, Up: true, Epoch: epoch, Log: logOf(epochs...), Sure: sure, Match: match, Commit: commit}
}

func activeOf(epoch, sure, other, commit int64, epochs ...int64) impl.Node {
	return impl.Node{Up: true, Role: impl.RoleActive, Epoch: epoch, Log: logOf(epochs...), Sure: sure, Other: other, Commit: commit}
}

func restingOf(epoch int64, epochs ...int64) impl.Node {
	return impl.Node{Id: 1, Epoch: epoch, Log: logOf(epochs...), Sure: int64(len(epochs))}
}

// turned is the same as the other one of the two.
func turned(n impl.Node) impl.Node {
	n.Id = 1 - n.Id
	return n
}

// upNodes have nothing, something and all that there may be, and are Up.
func upNodes() []impl.Node {
	list := []impl.Node{{Up: true}, {Up: true, Log: []impl.Entry{}}, standbyOf(1, 0, 0, 0), standbyOf(1000, 0, 0, 0),
		standbyOf(1, 0, 0, 0, 1), standbyOf(1, 1, 0, 0, 1), standbyOf(1, 0, 1, 0, 1), standbyOf(1, 1, 1, 1, 1), standbyOf(9, 2, 1, 1, 2, 2, 5), standbyOf(9, 1, 3, 0, 2, 2, 9),
		standbyOf(7, 3, 2, 2, 1, 3, 3, 6, 7, 7), standbyOf(7, 6, 6, 6, 1, 3, 3, 6, 7, 7), standbyOf(7, 2, 5, 1, 1, 3, 3, 6, 7, 7),
		standbyOf(1000, 60, 80, 40, times(1000, 100)...), standbyOf(8, 100, 100, 100, times(3, 100)...), standbyOf(8, 99, 0, 0, times(3, 99)...),
		activeOf(1, 0, 0, 0), activeOf(1000, 0, 0, 0), activeOf(1, 0, 0, 0, 1), activeOf(1, 1, 0, 0, 1), activeOf(1, 0, 1, 0, 1), activeOf(1, 1, 1, 1, 1),
		activeOf(9, 2, 1, 1, 2, 2, 5), activeOf(9, 1, 3, 0, 2, 2, 9), activeOf(9, 3, 3, 0, 2, 2, 9), activeOf(7, 3, 4, 2, 1, 3, 3, 6, 7, 7), activeOf(7, 6, 6, 6, 1, 3, 3, 6, 7, 7),
		activeOf(1000, 60, 80, 40, times(1000, 100)...), activeOf(8, 100, 100, 100, times(3, 100)...), activeOf(8, 99, 50, 20, times(3, 99)...)}
	for _, n := range slices.Clone(list) {
		list = append(list, turned(n))
	}
	return list
}

// restingNodes are not Up.
func restingNodes() []impl.Node {
	return []impl.Node{{}, restingOf(0), restingOf(1), restingOf(1000), restingOf(1, 1), turned(restingOf(5, 1, 2, 2, 5)), restingOf(900, times(900, 100)...)}
}

func allNodes() []impl.Node {
	return append(upNodes(), restingNodes()...)
}

func appendTo(n impl.Node, epoch, at, prev int64) impl.Mail {
	return impl.Mail{Kind: impl.MailAppend, To: n.Id, Epoch: epoch, At: at, Prev: prev}
}

func entryTo(n impl.Node, epoch, at, prev int64, x impl.Entry) impl.Mail {
	m := appendTo(n, epoch, at, prev)
	m.Has, m.Entry = true, x
	return m
}

func takenTo(n impl.Node, epoch, at int64) impl.Mail {
	return impl.Mail{Kind: impl.MailTaken, To: n.Id, Epoch: epoch, At: at}
}

// takenBy is what a node tells the other one.
func takenBy(n impl.Node, at int64) impl.Mail {
	return impl.Mail{Kind: impl.MailTaken, To: 1 - n.Id, Epoch: n.Epoch, At: at}
}

// newEntry is unlike all that logs here have.
func newEntry(epoch int64) impl.Entry {
	return impl.Entry{Epoch: epoch, Event: inputOf(2, 77, 66, 55)}
}

// wrongMails have many faults each, also none.
func wrongMails(n impl.Node) []impl.Mail {
	return []impl.Mail{{}, takenTo(n, 1, 0), takenTo(n, 1000, 1), takenTo(turned(n), 1000, 1), takenTo(n, 1001, 101), appendTo(n, 1000, 0, 0), appendTo(n, 1000, 0, 1), appendTo(n, 0, -1, -1),
		entryTo(n, 1000, 0, 0, newEntry(1)), entryTo(n, 1000, 1, 1, impl.Entry{}), entryTo(n, 5, 1, 4, newEntry(3)), {Kind: 3, To: 2, Epoch: math.MaxInt64, At: math.MinInt64, Prev: math.MaxInt64}}
}

func wrongNumbers() []int64 {
	return []int64{-1, 0, 1, 2, 99, 100, 101, 999, 1000, 1001, math.MinInt64, math.MaxInt64}
}

// wantUpFault holds all that ask whether a node is Up to one code, whatever else is wrong.
func wantUpFault(t *testing.T, n impl.Node, code int64) {
	t.Helper()
	want := nodeCode(code)
	wantSpread(t, n, want)
	wantSyncNode(t, n, want)
	for _, e := range []impl.Event{tick(), {}, inputOf(0, 1), inputOf(3, 1), start(-1)} {
		wantAddEvent(t, n, e, want)
	}
	for _, number := range wrongNumbers() {
		wantCrashNode(t, n, number, want)
		wantLead(t, n, number, want)
	}
	for _, m := range wrongMails(n) {
		wantHearMail(t, n, m, want)
	}
}

// wantNodeFault holds all that ask the fault of a node to one code, whatever else is wrong.
func wantNodeFault(t *testing.T, n impl.Node, code int64) {
	t.Helper()
	if got := impl.NodeFault(n); got != code {
		t.Errorf("NodeFault of %s: %d, want %d", brief(len(n.Log), n), got, code)
	}
	if code == impl.OK {
		return
	}
	wantUpFault(t, n, code)
	wantRise(t, n, nodeCode(code))
	for _, m := range wrongMails(n) {
		wantMailFault(t, n, m, code)
	}
}

// wantMailFault holds HearMail to the code, too, where the node would hear.
func wantMailFault(t *testing.T, n impl.Node, m impl.Mail, code int64) {
	t.Helper()
	if got := impl.MailFault(n, m); got != code {
		t.Errorf("MailFault of %s: %d, want %d", brief(m, n), got, code)
	}
	if code != impl.OK && (n.Up || impl.NodeFault(n) != impl.OK) {
		wantHearMail(t, n, m, nodeCode(code))
	}
}

func TestNumbersOfNodes(t *testing.T) {
	if impl.RoleStandby != 0 || impl.RoleActive != 1 || impl.MaxLog != 100 || impl.MailAppend != 1 || impl.MailTaken != 2 {
		t.Error("a constant of nodes is another one")
	}
	for _, n := range allNodes() {
		if code := wordsNodeFault(n); code != impl.OK {
			t.Fatalf("a right node has the fault %d: %s", code, brief(n))
		}
		wantNodeFault(t, n, impl.OK)
	}
}

func TestIdRoleAndEpochOfANode(t *testing.T) {
	for _, n := range []impl.Node{{Up: true}, {}, standbyOf(9, 2, 1, 1, 2, 2, 5), activeOf(9, 2, 1, 1, 2, 2, 5), restingOf(3, 1)} {
		for id, code := range map[int64]int64{-2: impl.ErrRange, -1: impl.ErrRange, 0: 0, 1: 0, 2: impl.ErrRange, 3: impl.ErrRange} {
			bent := n
			bent.Id = id
			wantNodeFault(t, bent, code)
		}
		for _, role := range []int64{-2, -1, 2, 3} {
			bent := n
			bent.Role = role
			wantNodeFault(t, bent, impl.ErrRange)
		}
		for _, great := range greatNumbers() {
			for _, place := range []func(n *impl.Node) *int64{
				func(n *impl.Node) *int64 { return &n.Id }, func(n *impl.Node) *int64 { return &n.Role }, func(n *impl.Node) *int64 { return &n.Epoch },
				func(n *impl.Node) *int64 { return &n.Sure }, func(n *impl.Node) *int64 { return &n.Match }, func(n *impl.Node) *int64 { return &n.Other }, func(n *impl.Node) *int64 { return &n.Commit },
			} {
				bent := n
				*place(&bent) = great
				wantNodeFault(t, bent, impl.ErrRange)
			}
		}
	}
	for epoch, code := range map[int64]int64{-2: impl.ErrRange, -1: impl.ErrRange, 0: 0, 1: 0, 999: 0, 1000: 0, 1001: impl.ErrRange, 1002: impl.ErrRange} {
		wantNodeFault(t, impl.Node{Epoch: epoch}, code)
		wantNodeFault(t, standbyOf(epoch, 0, 0, 0), code)
		if epoch != 0 {
			wantNodeFault(t, activeOf(epoch, 0, 0, 0), code)
		}
	}
	wantNodeFault(t, impl.Node{Up: true, Role: 1, Epoch: 1}, impl.OK)
}

func TestHowManyEntriesOfANode(t *testing.T) {
	for count, code := range map[int]int64{0: 0, 1: 0, 99: 0, 100: 0, 101: impl.ErrMany, 102: impl.ErrMany, 300: impl.ErrMany} {
		sure := int64(count)
		wantNodeFault(t, standbyOf(4, sure, sure, sure, times(4, count)...), code)
		wantNodeFault(t, activeOf(4, sure, sure, sure, times(4, count)...), code)
		wantNodeFault(t, restingOf(4, times(4, count)...), code)
	}
	// How many there are is asked ahead of each of them.
	wantNodeFault(t, impl.Node{Up: true, Log: make([]impl.Entry, 101)}, impl.ErrMany)
	wantNodeFault(t, impl.Node{Up: true, Log: make([]impl.Entry, 100)}, impl.ErrRange)
}

func TestEntriesOfANode(t *testing.T) {
	for _, n := range []impl.Node{standbyOf(7, 2, 1, 1, 2, 3, 3, 6), activeOf(7, 2, 1, 1, 2, 3, 3, 6), restingOf(7, 2, 3, 3, 6)} {
		for place := range n.Log {
			bend := func(x impl.Entry) impl.Node {
				bent := n
				bent.Log = slices.Clone(n.Log)
				bent.Log[place] = x
				return bent
			}
			for _, epoch := range []int64{-1, 0, 1001, math.MinInt64, math.MaxInt64} {
				wantNodeFault(t, bend(tickEntry(epoch)), impl.ErrRange)
			}
			for _, e := range faultyEvents() {
				wantNodeFault(t, bend(impl.Entry{Epoch: n.Log[place].Epoch, Event: e}), wordsEventFault(e))
			}
			wantNodeFault(t, bend(tickEntry(8)), impl.ErrForm)
			wantNodeFault(t, bend(tickEntry(1000)), impl.ErrForm)
			wantNodeFault(t, bend(newEntry(n.Log[place].Epoch)), impl.OK)
		}
	}
	for _, c := range []struct {
		epoch  int64
		epochs []int64
		code   int64
	}{
		{5, []int64{5}, 0}, {5, []int64{6}, impl.ErrForm}, {4, []int64{5}, impl.ErrForm}, {0, []int64{1}, impl.ErrForm}, {1000, []int64{1000, 1000}, 0},
		{5, []int64{1, 1, 5, 5}, 0}, {5, []int64{1, 1, 5, 6}, impl.ErrForm}, {5, []int64{2, 1}, impl.ErrForm}, {5, []int64{1, 2, 1}, impl.ErrForm}, {5, []int64{1, 3, 2, 4}, impl.ErrForm},
		{5, []int64{5, 5, 4}, impl.ErrForm}, {5, []int64{4, 5, 5}, 0}, {999, []int64{1, 1000}, impl.ErrForm},
	} {
		sure := int64(len(c.epochs))
		wantNodeFault(t, restingOf(c.epoch, c.epochs...), c.code)
		wantNodeFault(t, standbyOf(c.epoch, sure, sure, sure, c.epochs...), c.code)
	}
}

func TestCountsOfANode(t *testing.T) {
	for _, count := range []int{0, 1, 2, 50, 100} {
		last := int64(count)
		for _, number := range []int64{-2, -1, 0, last / 2, last, last + 1, last + 2} {
			code := codeIf(number < 0 || number > last, impl.ErrRange)
			for _, up := range []impl.Node{standbyOf(3, last, 0, 0, times(2, count)...), activeOf(3, last, 0, 0, times(2, count)...)} {
				sure := up
				sure.Sure = number
				wantNodeFault(t, sure, code)
				commit := up
				commit.Commit = number
				wantNodeFault(t, commit, code)
			}
			wantNodeFault(t, standbyOf(3, 0, number, 0, times(2, count)...), code)
			wantNodeFault(t, activeOf(3, 0, number, 0, times(2, count)...), code)
		}
		// Commit is held to Sure, not to the number of entries.
		for sure := range last + 1 {
			for _, commit := range []int64{-1, 0, sure - 1, sure, sure + 1, last + 1} {
				code := codeIf(commit < 0 || commit > sure, impl.ErrRange)
				wantNodeFault(t, standbyOf(3, sure, 0, commit, times(2, count)...), code)
				wantNodeFault(t, activeOf(3, sure, 0, commit, times(2, count)...), code)
			}
		}
	}
}

func TestRoleOfANode(t *testing.T) {
	right := activeOf(4, 2, 1, 1, 2, 3, 3)
	wantNodeFault(t, right, impl.OK)
	notUp, sureNotUp, zero, match := right, activeOf(4, 3, 0, 0, 2, 3, 3), activeOf(0, 0, 0, 0), right
	notUp.Up, sureNotUp.Up, match.Match = false, false, 1
	for _, n := range []impl.Node{notUp, sureNotUp, zero, match} {
		wantNodeFault(t, n, impl.ErrForm)
	}
	for other := int64(1); other <= 3; other++ {
		for _, n := range []impl.Node{standbyOf(4, 2, 1, 1, 2, 3, 3), restingOf(4, 2, 3, 3)} {
			wantNodeFault(t, n, impl.OK)
			n.Other = other
			wantNodeFault(t, n, impl.ErrForm)
		}
	}
	for _, bend := range []func(n *impl.Node){
		func(n *impl.Node) { n.Sure = 2 }, func(n *impl.Node) { n.Sure = 0 }, func(n *impl.Node) { n.Match = 1 }, func(n *impl.Node) { n.Match = 3 },
		func(n *impl.Node) { n.Commit = 1 }, func(n *impl.Node) { n.Commit = 3 },
	} {
		n := restingOf(4, 2, 3, 3)
		bend(&n)
		wantNodeFault(t, n, impl.ErrForm)
		n.Up = true
		wantNodeFault(t, n, impl.OK)
	}
}

func TestWhichFaultOfANodeIsTold(t *testing.T) {
	tooMany := slices.Concat(logOf(times(1, 100)...), []impl.Entry{{}})
	badEpoch, badForm, badMany := tickEntry(0), impl.Entry{Epoch: 1}, impl.Entry{Epoch: 1, Event: inputOf(0, make([]byte, 61)...)}
	for _, c := range []struct {
		node impl.Node
		code int64
	}{
		{impl.Node{Id: 2, Log: tooMany, Other: 1}, impl.ErrRange}, {impl.Node{Role: 2, Log: tooMany}, impl.ErrRange}, {impl.Node{Epoch: 1001, Log: tooMany}, impl.ErrRange}, {impl.Node{Id: -1, Log: []impl.Entry{badMany}}, impl.ErrRange},
		{impl.Node{Log: tooMany, Sure: -1}, impl.ErrMany}, {impl.Node{Role: 1, Epoch: 1, Log: tooMany}, impl.ErrMany},
		{impl.Node{Epoch: 1, Log: []impl.Entry{badForm}, Sure: 2}, impl.ErrForm}, {impl.Node{Epoch: 1, Log: []impl.Entry{badMany}, Sure: 2}, impl.ErrMany}, {impl.Node{Epoch: 1, Log: []impl.Entry{badEpoch}, Other: 1}, impl.ErrRange},
		{impl.Node{Epoch: 1, Log: logOf(2), Sure: 2}, impl.ErrForm}, {impl.Node{Epoch: 3, Log: logOf(3, 2), Match: -1}, impl.ErrForm},
		{impl.Node{Epoch: 3, Log: logOf(2), Sure: 2, Other: 1}, impl.ErrRange}, {impl.Node{Role: 1, Epoch: 3, Log: logOf(2), Match: 2}, impl.ErrRange}, {impl.Node{Epoch: 3, Log: logOf(2), Commit: 1}, impl.ErrRange},
		{impl.Node{Role: 1, Other: 1}, impl.ErrRange}, {impl.Node{Role: 1, Up: true}, impl.ErrForm},
		// Entry by entry: an entry's own fault, then its Epoch, ahead of the next entry.
		{impl.Node{Epoch: 1, Log: []impl.Entry{badMany, badEpoch}}, impl.ErrMany}, {impl.Node{Epoch: 1, Log: []impl.Entry{badEpoch, badMany}}, impl.ErrRange},
		{impl.Node{Epoch: 1, Log: []impl.Entry{tickEntry(2), badEpoch}}, impl.ErrForm}, {impl.Node{Epoch: 1, Log: []impl.Entry{tickEntry(2), badMany}}, impl.ErrForm},
		{impl.Node{Epoch: 3, Log: []impl.Entry{tickEntry(3), tickEntry(2), badMany}}, impl.ErrForm}, {impl.Node{Epoch: 3, Log: []impl.Entry{tickEntry(3), badMany, tickEntry(4)}}, impl.ErrMany},
		{impl.Node{Epoch: 3, Log: []impl.Entry{tickEntry(3), badEpoch, badMany}}, impl.ErrRange}, {impl.Node{Epoch: 3, Log: []impl.Entry{tickEntry(1001), tickEntry(4)}}, impl.ErrRange},
		{impl.Node{Epoch: 3, Log: []impl.Entry{{Epoch: 4, Event: inputOf(0, make([]byte, 61)...)}}}, impl.ErrMany}, {impl.Node{Epoch: 3, Log: []impl.Entry{tickEntry(2), {Epoch: 1, Event: start(3)}}}, impl.ErrRange},
	} {
		wantNodeFault(t, c.node, c.code)
	}
}

func TestEveryFaultOfSmallNodes(t *testing.T) {
	codes := map[int64]int{}
	logs := [][]impl.Entry{nil, logOf(1), logOf(2), logOf(1, 2), logOf(2, 1), logOf(0), {tickEntry(1), {Epoch: 1}}}
	for _, log := range logs {
		for at := range 3 * 3 * 4 * 4 * 4 * 4 * 2 * 4 {
			digit := func(base int) int64 {
				d := at % base
				at /= base
				return int64(d)
			}
			n := impl.Node{Id: digit(3) - 1, Role: digit(3) - 1, Sure: digit(4) - 1, Match: digit(4) - 1, Other: digit(4) - 1, Commit: digit(4) - 1, Up: digit(2) == 0, Epoch: digit(4) - 1, Log: log}
			want := wordsNodeFault(n)
			codes[want]++
			if got := impl.NodeFault(n); got != want {
				t.Fatalf("NodeFault of %s: %d, want %d", brief(n), got, want)
			}
		}
	}
	if codes[impl.OK] < 100 || codes[impl.ErrForm] < 1000 || codes[impl.ErrRange] < 1000 {
		t.Errorf("codes: %v", codes)
	}
}

func TestKindAndNodeOfAMail(t *testing.T) {
	for _, n := range allNodes() {
		for kind, code := range map[int64]int64{-1: impl.ErrForm, 0: impl.ErrForm, 1: 0, 2: 0, 3: impl.ErrForm, 4: impl.ErrForm, math.MinInt64: impl.ErrForm, math.MaxInt64: impl.ErrForm} {
			wantMailFault(t, n, impl.Mail{Kind: kind, To: n.Id, Epoch: 1}, code)
		}
		for _, kind := range []int64{impl.MailAppend, impl.MailTaken} {
			for _, to := range []int64{-2, -1, 0, 1, 2, 3, math.MinInt64, math.MaxInt64} {
				wantMailFault(t, n, impl.Mail{Kind: kind, To: to, Epoch: 1}, codeIf(to != n.Id, impl.ErrForm))
			}
		}
	}
}

func TestNumbersOfAMail(t *testing.T) {
	for _, n := range []impl.Node{{Up: true}, {}, standbyOf(9, 2, 1, 1, 2, 2, 5), turned(activeOf(9, 2, 1, 1, 2, 2, 5)), restingOf(3, 1)} {
		for epoch, code := range map[int64]int64{-1: impl.ErrRange, 0: impl.ErrRange, 1: 0, 2: 0, 1000: 0, 1001: impl.ErrRange} {
			wantMailFault(t, n, takenTo(n, epoch, 0), code)
			wantMailFault(t, n, appendTo(n, epoch, 0, 0), code)
			wantMailFault(t, n, appendTo(n, epoch, 5, 1), code)
		}
		for at, code := range map[int64]int64{-1: impl.ErrRange, 1: 0, 99: 0, 100: 0, 101: impl.ErrRange} {
			wantMailFault(t, n, takenTo(n, 4, at), code)
			wantMailFault(t, n, appendTo(n, 4, at, 3), code)
			wantMailFault(t, n, entryTo(n, 4, at, 3, newEntry(3)), code)
		}
		wantMailFault(t, n, takenTo(n, 4, 0), impl.OK)
		for prev, code := range map[int64]int64{-1: impl.ErrRange, 0: impl.ErrForm, 1: 0, 999: 0, 1000: 0, 1001: impl.ErrRange} {
			wantMailFault(t, n, appendTo(n, 1000, 5, prev), code)
			wantMailFault(t, n, entryTo(n, 1000, 5, prev, newEntry(1000)), code)
		}
		for _, great := range greatNumbers() {
			wantMailFault(t, n, takenTo(n, great, 0), impl.ErrRange)
			wantMailFault(t, n, takenTo(n, 1, great), impl.ErrRange)
			wantMailFault(t, n, appendTo(n, great, 1, 1), impl.ErrRange)
			wantMailFault(t, n, appendTo(n, 1, great, 1), impl.ErrRange)
			wantMailFault(t, n, appendTo(n, 1, 1, great), impl.ErrRange)
			wantMailFault(t, n, appendTo(n, great, great, great), impl.ErrRange)
			wantMailFault(t, n, entryTo(n, 1, 0, 0, tickEntry(great)), impl.ErrRange)
		}
	}
}

func TestFormOfAMail(t *testing.T) {
	for _, n := range []impl.Node{{Up: true}, standbyOf(9, 2, 1, 1, 2, 2, 5), activeOf(9, 2, 1, 1, 2, 2, 5), {}} {
		taken := takenTo(n, 4, 3)
		wantMailFault(t, n, taken, impl.OK)
		taken.Has = true
		wantMailFault(t, n, taken, impl.ErrForm)
		taken.Entry = newEntry(3)
		wantMailFault(t, n, taken, impl.ErrForm)
		for _, prev := range []int64{1, 3, 4, 5, 1000} {
			for _, at := range []int64{0, 1, 100} {
				bent := takenTo(n, 4, at)
				bent.Prev = prev
				wantMailFault(t, n, bent, impl.ErrForm)
			}
		}
		// Outside of all bounds it is a number that leaves them, whatever the Kind.
		for _, prev := range []int64{-1, 1001} {
			bent := takenTo(n, 4, 3)
			bent.Prev = prev
			wantMailFault(t, n, bent, impl.ErrRange)
		}
		for at, prev := range map[int64]int64{0: 1, 1: 0, 2: 0, 100: 0} {
			wantMailFault(t, n, appendTo(n, 4, at, prev), impl.ErrForm)
			wantMailFault(t, n, entryTo(n, 4, at, prev, newEntry(3)), impl.ErrForm)
		}
		wantMailFault(t, n, appendTo(n, 4, 0, 0), impl.OK)
		wantMailFault(t, n, appendTo(n, 4, 1, 4), impl.OK)
		wantMailFault(t, n, appendTo(n, 4, 1, 5), impl.ErrForm)
		wantMailFault(t, n, entryTo(n, 4, 1, 5, newEntry(5)), impl.ErrForm)
	}
}

func TestEntryOfAMailThatHasNone(t *testing.T) {
	for _, n := range []impl.Node{{Up: true}, activeOf(9, 2, 1, 1, 2, 2, 5)} {
		for _, m := range []impl.Mail{takenTo(n, 4, 3), appendTo(n, 4, 0, 0), appendTo(n, 4, 2, 3)} {
			m.Entry.Event.Bytes = []byte{}
			wantMailFault(t, n, m, impl.OK)
			for _, x := range []impl.Entry{{Epoch: 1}, {Epoch: -1}, {Epoch: math.MinInt64}, {Event: impl.Event{Kind: 1}}, {Event: impl.Event{Kind: -7}}, {Event: impl.Event{Peer: 1}}, {Event: impl.Event{Peer: -1}},
				{Event: impl.Event{Bytes: []byte{0}}}, {Event: impl.Event{Bytes: make([]byte, 100)}}, newEntry(4), tickEntry(3)} {
				m.Entry = x
				wantMailFault(t, n, m, impl.ErrForm)
			}
		}
	}
}

func TestEntryOfAMail(t *testing.T) {
	n := standbyOf(9, 2, 1, 1, 2, 2, 5)
	for _, e := range faultyEvents() {
		wantMailFault(t, n, entryTo(n, 9, 2, 2, impl.Entry{Epoch: 3, Event: e}), wordsEventFault(e))
		// The entry's own fault is asked ahead of its Epoch against the mail's and Prev.
		wantMailFault(t, n, entryTo(n, 9, 2, 2, impl.Entry{Epoch: 10, Event: e}), wordsEventFault(e))
		wantMailFault(t, n, entryTo(n, 9, 2, 2, impl.Entry{Epoch: 1, Event: e}), wordsEventFault(e))
		wantMailFault(t, n, entryTo(n, 9, 2, 2, impl.Entry{Epoch: 0, Event: e}), impl.ErrRange)
	}
	for _, e := range rightEvents() {
		for epoch, code := range map[int64]int64{0: impl.ErrRange, 1: impl.ErrForm, 3: impl.ErrForm, 4: 0, 5: 0, 8: 0, 9: 0, 10: impl.ErrForm, 1000: impl.ErrForm, 1001: impl.ErrRange} {
			wantMailFault(t, n, entryTo(n, 9, 2, 4, impl.Entry{Epoch: epoch, Event: e}), code)
		}
		for epoch, code := range map[int64]int64{0: impl.ErrRange, 1: 0, 9: 0, 10: impl.ErrForm} {
			wantMailFault(t, n, entryTo(n, 9, 0, 0, impl.Entry{Epoch: epoch, Event: e}), code)
		}
		wantMailFault(t, n, entryTo(n, 6, 2, 6, impl.Entry{Epoch: 6, Event: e}), impl.OK)
		wantMailFault(t, n, entryTo(n, 6, 2, 6, impl.Entry{Epoch: 5, Event: e}), impl.ErrForm)
		wantMailFault(t, n, entryTo(n, 6, 2, 6, impl.Entry{Epoch: 7, Event: e}), impl.ErrForm)
	}
}

func TestWhichFaultOfAMailIsTold(t *testing.T) {
	n := standbyOf(9, 2, 1, 1, 2, 2, 5)
	long := impl.Entry{Epoch: 3, Event: inputOf(0, make([]byte, 61)...)}
	for _, c := range []struct {
		mail impl.Mail
		code int64
	}{
		{impl.Mail{Kind: 3, To: 1, Epoch: 0}, impl.ErrForm}, {impl.Mail{Kind: 1, To: 0, Epoch: 0}, impl.ErrForm}, {impl.Mail{Kind: 2, To: 0, Epoch: 1, At: 101}, impl.ErrForm}, {impl.Mail{Kind: 0, To: 1, Epoch: 1, Has: true, Entry: long}, impl.ErrForm},
		{impl.Mail{Kind: 2, To: 1, Epoch: 0, Has: true}, impl.ErrRange}, {impl.Mail{Kind: 2, To: 1, Epoch: 1, At: 101, Prev: 1}, impl.ErrRange}, {impl.Mail{Kind: 1, To: 1, Epoch: 1, Prev: 1001}, impl.ErrRange},
		{impl.Mail{Kind: 1, To: 1, Epoch: 1001, At: 1}, impl.ErrRange}, {impl.Mail{Kind: 1, To: 1, Epoch: 1, At: -1, Entry: long}, impl.ErrRange}, {impl.Mail{Kind: 1, To: 1, Epoch: 1, At: 101, Prev: 2}, impl.ErrRange},
		{entryTo(n, 9, 0, 1, long), impl.ErrForm}, {entryTo(n, 9, 1, 0, long), impl.ErrForm}, {entryTo(n, 9, 1, 10, long), impl.ErrForm}, {entryTo(n, 9, 1, 10, tickEntry(0)), impl.ErrForm},
		{impl.Mail{Kind: 2, To: 1, Epoch: 9, Has: true, Entry: long}, impl.ErrForm}, {impl.Mail{Kind: 2, To: 1, Epoch: 9, Has: true, Entry: tickEntry(0)}, impl.ErrForm},
		{entryTo(n, 9, 1, 9, long), impl.ErrMany}, {entryTo(n, 9, 1, 9, tickEntry(1001)), impl.ErrRange}, {entryTo(n, 2, 1, 1, long), impl.ErrMany},
	} {
		wantMailFault(t, n, c.mail, c.code)
		// The fault of the node is asked ahead of all of these.
		faulty := n
		faulty.Log = slices.Repeat(n.Log, 40)
		wantMailFault(t, faulty, c.mail, impl.ErrMany)
	}
}

func TestEveryFaultOfSmallMails(t *testing.T) {
	codes := map[int64]int{}
	entries := []impl.Entry{{}, tickEntry(1), tickEntry(2), tickEntry(3), {Epoch: 2}, tickEntry(1001), {Epoch: 2, Event: inputOf(0, make([]byte, 61)...)}}
	for _, n := range []impl.Node{{Up: true}, standbyOf(3, 1, 1, 1, 1, 2), activeOf(3, 1, 1, 1, 1, 2), restingOf(2, 1), {Id: 2}, {Epoch: 1, Log: logOf(2)}} {
		for at := range 4 * 3 * 5 * 5 * 5 * 2 * len(entries) {
			digit := func(base int) int64 {
				d := at % base
				at /= base
				return int64(d)
			}
			edges := []int64{-1, 0, 1, 100, 101}
			m := impl.Mail{Kind: digit(4), To: digit(3), Epoch: []int64{0, 1, 2, 1000, 1001}[digit(5)], At: edges[digit(5)], Prev: []int64{-1, 0, 1, 2, 1001}[digit(5)], Has: digit(2) == 0, Entry: entries[digit(len(entries))]}
			want := wordsMailFault(n, m)
			codes[want]++
			if got := impl.MailFault(n, m); got != want {
				t.Fatalf("MailFault of %s: %d, want %d", brief(m, n), got, want)
			}
		}
	}
	if codes[impl.OK] < 100 || codes[impl.ErrForm] < 1000 || codes[impl.ErrRange] < 1000 || codes[impl.ErrMany] < 10 {
		t.Errorf("codes: %v", codes)
	}
}

func TestNewNode(t *testing.T) {
	for _, id := range append(greatNumbers(), -2, -1, 2, 3) {
		wantNode(t, impl.NewNode(id), nodeCode(impl.ErrRange), "NewNode", id)
	}
	for _, id := range []int64{0, 1} {
		wantNode(t, impl.NewNode(id), nodeAnswer(impl.Node{Id: id, Up: true}), "NewNode", id)
	}
}

func TestNodesThatAreNotUp(t *testing.T) {
	for _, n := range restingNodes() {
		wantUpFault(t, n, impl.ErrState)
	}
}

func TestRiseNode(t *testing.T) {
	for _, n := range upNodes() {
		wantRise(t, n, nodeCode(impl.ErrState))
	}
	for _, n := range restingNodes() {
		up := n
		up.Up = true
		wantRise(t, n, nodeAnswer(up))
	}
}

func TestLeadNode(t *testing.T) {
	for _, n := range upNodes() {
		for _, epoch := range append(greatNumbers(), -1, 0, n.Epoch-1, n.Epoch, 1001, 1002) {
			wantLead(t, n, epoch, nodeCode(impl.ErrRange))
		}
		for _, epoch := range []int64{n.Epoch + 1, n.Epoch + 2, 999, 1000} {
			if epoch <= n.Epoch || epoch > 1000 {
				continue
			}
			leads := n
			leads.Role, leads.Epoch, leads.Match, leads.Other = impl.RoleActive, epoch, 0, 0
			wantLead(t, n, epoch, nodeAnswer(leads))
		}
	}
	// Commit and Sure stay, whoever it was.
	wantLead(t, standbyOf(7, 3, 2, 2, 1, 3, 3, 6), 8, nodeAnswer(turned(activeOf(8, 3, 0, 2, 1, 3, 3, 6))))
	wantLead(t, activeOf(7, 3, 4, 2, 1, 3, 3, 6), 9, nodeAnswer(activeOf(9, 3, 0, 2, 1, 3, 3, 6)))
	wantLead(t, impl.Node{Up: true}, 1, nodeAnswer(activeOf(1, 0, 0, 0)))
}

func TestAddEvent(t *testing.T) {
	for _, n := range upNodes() {
		events := slices.Concat(rightEvents(), faultyEvents())
		for _, e := range events {
			code := firstCode(codeIf(n.Role == impl.RoleStandby, impl.ErrState), wordsEventFault(e), codeIf(len(n.Log) == 100, impl.ErrMany))
			if code != impl.OK {
				wantAddEvent(t, n, e, nodeCode(code))
				continue
			}
			more := n
			more.Log = append(slices.Clone(n.Log), impl.Entry{Epoch: n.Epoch, Event: e})
			wantAddEvent(t, n, e, nodeAnswer(more))
		}
	}
	n := activeOf(4, 99, 99, 99, times(3, 99)...)
	full := impl.AddEvent(n, inputOf(1, 8, 9))
	if len(full.Node.Log) != 100 || !sameEntry(full.Node.Log[99], impl.Entry{Epoch: 4, Event: inputOf(1, 8, 9)}) || full.Node.Sure != 99 || full.Node.Commit != 99 {
		t.Errorf("the hundredth entry: %s", brief(full))
	}
	wantAddEvent(t, full.Node, tick(), nodeCode(impl.ErrMany))
	wantAddEvent(t, full.Node, impl.Event{}, nodeCode(impl.ErrForm))
	wantAddEvent(t, standbyOf(4, 0, 0, 0), impl.Event{}, nodeCode(impl.ErrState))
}

func TestSpreadNode(t *testing.T) {
	log := []int64{1, 3, 3, 6, 7}
	for _, id := range []int64{0, 1} {
		for other := range int64(6) {
			n := activeOf(9, 4, other, 2, log...)
			n.Id = id
			want := impl.Mail{Kind: impl.MailAppend, To: 1 - id, Epoch: 9, At: other}
			if other > 0 {
				want.Prev = log[other-1]
			}
			if other < 5 {
				want.Has, want.Entry = true, n.Log[other]
			}
			wantSpread(t, n, nodeAnswer(n, want))
		}
	}
	wantSpread(t, activeOf(3, 0, 0, 0), nodeAnswer(activeOf(3, 0, 0, 0), impl.Mail{Kind: impl.MailAppend, To: 1, Epoch: 3}))
	// What is spread needs not be Sure.
	n := activeOf(3, 0, 1, 0, 2, 3)
	wantSpread(t, n, nodeAnswer(n, impl.Mail{Kind: impl.MailAppend, To: 1, Epoch: 3, At: 1, Prev: 2, Has: true, Entry: n.Log[1]}))
	full := activeOf(8, 100, 100, 100, times(3, 100)...)
	wantSpread(t, full, nodeAnswer(full, impl.Mail{Kind: impl.MailAppend, To: 1, Epoch: 8, At: 100, Prev: 3}))
	for _, n := range upNodes() {
		if n.Role == impl.RoleStandby {
			wantSpread(t, n, nodeCode(impl.ErrState))
		} else {
			wantSpread(t, n, wordsSpread(n))
		}
	}
}

func TestSyncNodeOfAStandby(t *testing.T) {
	wantSyncNode(t, impl.Node{Up: true}, nodeAnswer(impl.Node{Up: true}))
	wantSyncNode(t, impl.Node{Id: 1, Up: true}, nodeAnswer(impl.Node{Id: 1, Up: true}))
	for _, id := range []int64{0, 1} {
		for match := range int64(4) {
			for sure := range int64(4) {
				n := standbyOf(9, sure, match, min(sure, 1), 2, 2, 5)
				n.Id = id
				all := n
				all.Sure = 3
				// Commit is the active's to tell; what is told to it is Match alone.
				wantSyncNode(t, n, nodeAnswer(all, impl.Mail{Kind: impl.MailTaken, To: 1 - id, Epoch: 9, At: match}))
			}
		}
	}
	wantSyncNode(t, standbyOf(1, 0, 0, 0), nodeAnswer(standbyOf(1, 0, 0, 0), impl.Mail{Kind: impl.MailTaken, To: 0, Epoch: 1}))
	full := standbyOf(1000, 60, 80, 40, times(1000, 100)...)
	all := full
	all.Sure = 100
	wantSyncNode(t, full, nodeAnswer(all, impl.Mail{Kind: impl.MailTaken, To: 0, Epoch: 1000, At: 80}))
}

func TestSyncNodeOfAnActive(t *testing.T) {
	for _, id := range []int64{0, 1} {
		for sure := range int64(6) {
			for commit := range sure + 1 {
				for other := range int64(6) {
					n := activeOf(9, sure, other, commit, 1, 2, 2, 5, 9)
					n.Id = id
					all := n
					// All five are Sure ahead of the question how many are agreed.
					all.Sure, all.Commit = 5, max(commit, other)
					wantSyncNode(t, n, nodeAnswer(all))
				}
			}
		}
	}
	wantSyncNode(t, activeOf(1, 0, 0, 0), nodeAnswer(activeOf(1, 0, 0, 0)))
}

func TestMailsOfAnotherEpoch(t *testing.T) {
	for _, n := range upNodes() {
		// One from below is nothing to anybody, whatever it has.
		for epoch := int64(1); epoch < min(n.Epoch, 12); epoch++ {
			for _, m := range []impl.Mail{takenTo(n, epoch, 0), takenTo(n, epoch, 1), takenTo(n, epoch, 100), appendTo(n, epoch, 0, 0), appendTo(n, epoch, 100, 1), entryTo(n, epoch, 0, 0, newEntry(epoch)), entryTo(n, epoch, 1, 1, newEntry(1))} {
				wantHearMail(t, n, m, nodeAnswer(n))
			}
		}
		for _, epoch := range []int64{n.Epoch + 1, n.Epoch + 5, 1000} {
			if epoch <= n.Epoch || epoch > 1000 {
				continue
			}
			follows := n
			follows.Role, follows.Epoch, follows.Match, follows.Other = impl.RoleStandby, epoch, 0, 0
			for _, at := range []int64{0, 1, int64(len(n.Log)), 100} {
				// It is no active any more when it comes to what the mail tells.
				wantHearMail(t, n, takenTo(n, epoch, at), nodeAnswer(follows))
			}
			wantHearMail(t, n, appendTo(n, epoch, 0, 0), nodeAnswer(follows, takenBy(follows, 0)))
			if len(n.Log) < 100 {
				wantHearMail(t, n, appendTo(n, epoch, int64(len(n.Log))+1, 1), nodeAnswer(follows, takenBy(follows, 0)))
			}
		}
	}
}

func TestTakenToAStandby(t *testing.T) {
	for _, n := range upNodes() {
		if n.Role == impl.RoleStandby && n.Epoch > 0 {
			for _, at := range []int64{0, 1, n.Match, int64(len(n.Log)), 100} {
				wantHearMail(t, n, takenTo(n, n.Epoch, at), nodeAnswer(n))
			}
		}
	}
}

func TestTakenToAnActive(t *testing.T) {
	for sure := range int64(6) {
		for commit := range sure + 1 {
			for other := range int64(6) {
				for _, at := range []int64{0, 1, other - 1, other, other + 1, 4, 5, 6, 7, 100} {
					if at < 0 {
						continue
					}
					n := activeOf(9, sure, other, commit, 1, 2, 2, 5, 9)
					then := n
					if at <= 5 {
						then.Other = max(other, at)
					}
					then.Commit = max(commit, min(sure, then.Other))
					wantHearMail(t, n, takenTo(n, 9, at), nodeAnswer(then))
				}
			}
		}
	}
	// What is agreed is asked also where Other stays.
	wantHearMail(t, activeOf(9, 3, 2, 0, 1, 2, 2), takenTo(impl.Node{}, 9, 1), nodeAnswer(activeOf(9, 3, 2, 2, 1, 2, 2)))
	wantHearMail(t, activeOf(9, 3, 2, 0, 1, 2, 2), takenTo(impl.Node{}, 9, 4), nodeAnswer(activeOf(9, 3, 2, 2, 1, 2, 2)))
	full := activeOf(8, 99, 50, 20, times(3, 100)...)
	wantHearMail(t, full, takenTo(full, 8, 100), nodeAnswer(activeOf(8, 99, 100, 99, times(3, 100)...)))
}

func TestAppendToAnActive(t *testing.T) {
	for _, n := range upNodes() {
		if n.Role == impl.RoleStandby {
			continue
		}
		for _, m := range []impl.Mail{appendTo(n, n.Epoch, 0, 0), appendTo(n, n.Epoch, 1, 1), appendTo(n, n.Epoch, 100, 1), entryTo(n, n.Epoch, 0, 0, newEntry(n.Epoch)), entryTo(n, n.Epoch, 1, 1, newEntry(1)), entryTo(n, n.Epoch, 100, 1, newEntry(1))} {
			wantHearMail(t, n, m, nodeCode(impl.ErrState))
		}
	}
	// Of an Epoch above its own it is a standby, and takes what it is told.
	n := activeOf(5, 3, 2, 1, 1, 3, 5)
	then := standbyOf(6, 2, 3, 1)
	then.Id, then.Log = 0, append(logOf(1, 3), newEntry(6))
	wantHearMail(t, n, entryTo(n, 6, 2, 3, newEntry(6)), nodeAnswer(then, impl.Mail{Kind: impl.MailTaken, To: 1, Epoch: 6, At: 2}))
}

func TestAppendWhereTheLogsDoNotFit(t *testing.T) {
	// Match is told as it is, also above Sure, and all stays.
	for _, n := range []impl.Node{standbyOf(9, 2, 3, 1, 2, 2, 5), standbyOf(9, 3, 1, 3, 2, 2, 5), turned(standbyOf(9, 0, 0, 0, 2, 2, 5))} {
		want := nodeAnswer(n, impl.Mail{Kind: impl.MailTaken, To: 1 - n.Id, Epoch: 9, At: n.Match})
		for _, at := range []int64{4, 5, 99, 100} {
			for _, prev := range []int64{1, 5, 9} {
				wantHearMail(t, n, appendTo(n, 9, at, prev), want)
				wantHearMail(t, n, entryTo(n, 9, at, prev, newEntry(9)), want)
			}
		}
		for at, ahead := range map[int64]int64{1: 2, 2: 2, 3: 5} {
			for prev := int64(1); prev <= 9; prev++ {
				if prev != ahead {
					wantHearMail(t, n, appendTo(n, 9, at, prev), want)
					wantHearMail(t, n, entryTo(n, 9, at, prev, newEntry(9)), want)
				}
			}
		}
	}
	// Of an Epoch above: it follows, and nothing is known to Match.
	n := standbyOf(9, 2, 3, 1, 2, 2, 5)
	wantHearMail(t, n, entryTo(n, 12, 2, 3, newEntry(12)), nodeAnswer(standbyOf(12, 2, 0, 1, 2, 2, 5), impl.Mail{Kind: impl.MailTaken, To: 0, Epoch: 12}))
	wantHearMail(t, impl.Node{Up: true}, appendTo(impl.Node{}, 1, 1, 1), nodeAnswer(impl.Node{Up: true, Epoch: 1}, impl.Mail{Kind: impl.MailTaken, To: 1, Epoch: 1}))
	full := standbyOf(8, 99, 7, 0, times(3, 99)...)
	wantHearMail(t, full, appendTo(full, 8, 100, 3), nodeAnswer(full, impl.Mail{Kind: impl.MailTaken, To: 0, Epoch: 8, At: 7}))
}

func TestAppendWithoutAnEntry(t *testing.T) {
	log := []int64{2, 2, 5}
	for sure := range int64(4) {
		for match := range int64(4) {
			for at, prev := range []int64{0, 2, 2, 5} {
				n := standbyOf(9, sure, match, sure, log...)
				then := n
				then.Match = max(match, int64(at))
				// Nothing goes, so that nothing can go of what is agreed.
				wantHearMail(t, n, appendTo(n, 9, int64(at), prev), nodeAnswer(then, impl.Mail{Kind: impl.MailTaken, To: 0, Epoch: 9, At: min(then.Match, sure)}))
			}
		}
	}
	full := standbyOf(8, 60, 80, 60, times(3, 100)...)
	wantHearMail(t, full, appendTo(full, 8, 100, 3), nodeAnswer(standbyOf(8, 60, 100, 60, times(3, 100)...), impl.Mail{Kind: impl.MailTaken, To: 0, Epoch: 8, At: 60}))
	wantHearMail(t, impl.Node{Up: true}, appendTo(impl.Node{}, 1000, 0, 0), nodeAnswer(impl.Node{Up: true, Epoch: 1000}, impl.Mail{Kind: impl.MailTaken, To: 1, Epoch: 1000}))
}

func TestAppendOfAnEntryThatIsThere(t *testing.T) {
	log := []int64{2, 2, 5}
	for sure := range int64(4) {
		for match := range int64(4) {
			for at, prev := range []int64{0, 2, 2} {
				n := standbyOf(9, sure, match, sure, log...)
				then := n
				then.Match = max(match, int64(at)+1)
				want := nodeAnswer(then, impl.Mail{Kind: impl.MailTaken, To: 0, Epoch: 9, At: min(then.Match, sure)})
				wantHearMail(t, n, entryTo(n, 9, int64(at), prev, n.Log[at]), want)
				// One of the same Epoch stays, and all behind it, also where its event is another one.
				wantHearMail(t, n, entryTo(n, 9, int64(at), prev, newEntry(log[at])), want)
			}
		}
	}
	full := standbyOf(8, 100, 80, 100, times(3, 100)...)
	wantHearMail(t, full, entryTo(full, 8, 99, 3, newEntry(3)), nodeAnswer(standbyOf(8, 100, 100, 100, times(3, 100)...), impl.Mail{Kind: impl.MailTaken, To: 0, Epoch: 8, At: 100}))
}

func TestAppendOfAnEntryInPlaceOfOthers(t *testing.T) {
	log := []int64{2, 2, 5, 6}
	for sure := range int64(5) {
		for commit := range sure + 1 {
			for match := range int64(5) {
				for at, prev := range []int64{0, 2, 2, 5, 6} {
					n := standbyOf(9, sure, match, commit, log...)
					m := entryTo(n, 9, int64(at), prev, newEntry(9))
					if int64(at) < commit {
						wantHearMail(t, n, m, nodeCode(impl.ErrTaken))
						continue
					}
					then := n
					then.Log = append(slices.Clone(n.Log[:at]), newEntry(9))
					then.Sure = min(sure, int64(at))
					// What was known to match is not, as far as it is cut off.
					then.Match = int64(at) + 1
					wantHearMail(t, n, m, nodeAnswer(then, impl.Mail{Kind: impl.MailTaken, To: 0, Epoch: 9, At: then.Sure}))
				}
			}
		}
	}
}

func TestWhatIsSureOfWhatIsCutOff(t *testing.T) {
	n := standbyOf(9, 4, 0, 1, 2, 2, 5, 6)
	cut := impl.HearMail(n, entryTo(n, 9, 2, 2, newEntry(7)))
	if cut.Node.Sure != 2 || cut.Node.Match != 3 || len(cut.Node.Log) != 3 || cut.Send[0].At != 2 {
		t.Fatalf("cut: %s", brief(cut))
	}
	// The entry that came in place of a sure one may be lost, those ahead of it may not.
	if crashed := impl.CrashNode(cut.Node, 0).Node; !sameEntries(crashed.Log, n.Log[:2]) {
		t.Errorf("crashed: %s", brief(crashed))
	}
	if synced := impl.SyncNode(cut.Node); synced.Node.Sure != 3 || synced.Send[0].At != 3 {
		t.Errorf("synced: %s", brief(synced))
	}
	// Where less is sure than stays, no more becomes sure.
	less := standbyOf(9, 1, 0, 0, 2, 2, 5, 6)
	if got := impl.HearMail(less, entryTo(less, 9, 3, 5, newEntry(9))); got.Node.Sure != 1 || got.Send[0].At != 1 || got.Node.Match != 4 {
		t.Errorf("less: %s", brief(got))
	}
}

func TestAppendToAFullLog(t *testing.T) {
	full := standbyOf(8, 100, 3, 50, times(3, 100)...)
	wantHearMail(t, full, entryTo(full, 8, 100, 3, newEntry(8)), nodeCode(impl.ErrMany))
	wantHearMail(t, full, entryTo(full, 9, 100, 3, newEntry(8)), nodeCode(impl.ErrMany))
	wantHearMail(t, full, entryTo(full, 8, 100, 4, newEntry(8)), nodeAnswer(full, impl.Mail{Kind: impl.MailTaken, To: 0, Epoch: 8, At: 3}))
	// Behind what is gone there is room.
	for _, at := range []int64{50, 51, 98, 99} {
		then := full
		then.Log = append(slices.Clone(full.Log[:at]), newEntry(8))
		then.Sure, then.Match = at, at+1
		wantHearMail(t, full, entryTo(full, 8, at, 3, newEntry(8)), nodeAnswer(then, impl.Mail{Kind: impl.MailTaken, To: 0, Epoch: 8, At: at}))
	}
	wantHearMail(t, full, entryTo(full, 8, 49, 3, newEntry(8)), nodeCode(impl.ErrTaken))
	wantHearMail(t, full, entryTo(full, 8, 0, 0, newEntry(8)), nodeCode(impl.ErrTaken))
	last := standbyOf(8, 99, 99, 99, times(3, 99)...)
	then := last
	then.Log, then.Match = append(slices.Clone(last.Log), newEntry(8)), 100
	wantHearMail(t, last, entryTo(last, 8, 99, 3, newEntry(8)), nodeAnswer(then, impl.Mail{Kind: impl.MailTaken, To: 0, Epoch: 8, At: 99}))
}

func TestWhatIsAgreedStaysInANewEpoch(t *testing.T) {
	for _, n := range []impl.Node{standbyOf(5, 3, 3, 2, 1, 3, 5), turned(activeOf(5, 3, 3, 2, 1, 3, 5))} {
		wantHearMail(t, n, entryTo(n, 7, 0, 0, newEntry(7)), nodeCode(impl.ErrTaken))
		wantHearMail(t, n, entryTo(n, 7, 1, 1, newEntry(7)), nodeCode(impl.ErrTaken))
		then := standbyOf(7, 2, 3, 2)
		then.Log = append(logOf(1, 3), newEntry(7))
		wantHearMail(t, n, entryTo(n, 7, 2, 3, newEntry(7)), nodeAnswer(then, impl.Mail{Kind: impl.MailTaken, To: 0, Epoch: 7, At: 2}))
		wantHearMail(t, n, entryTo(n, 7, 1, 1, newEntry(3)), nodeAnswer(standbyOf(7, 3, 2, 2, 1, 3, 5), impl.Mail{Kind: impl.MailTaken, To: 0, Epoch: 7, At: 2}))
	}
}

func TestCrashNode(t *testing.T) {
	for _, n := range upNodes() {
		loose := int64(len(n.Log)) - n.Sure
		for _, kept := range append(outside(int(loose)), greatNumbers()...) {
			wantCrashNode(t, n, kept, nodeCode(impl.ErrRange))
		}
		for kept := range loose + 1 {
			stays := n.Log[:n.Sure+kept]
			wantCrashNode(t, n, kept, nodeAnswer(impl.Node{Id: n.Id, Epoch: n.Epoch, Log: stays, Sure: int64(len(stays))}))
			up := impl.RiseNode(impl.CrashNode(n, kept).Node)
			wantNode(t, up, nodeAnswer(impl.Node{Id: n.Id, Up: true, Epoch: n.Epoch, Log: stays, Sure: int64(len(stays))}), "RiseNode behind CrashNode", kept, n)
		}
	}
}

func TestGreatNumbersToldToNodes(t *testing.T) {
	for _, n := range []impl.Node{{Up: true}, standbyOf(9, 1, 2, 1, 2, 2, 5), activeOf(9, 1, 2, 1, 2, 2, 5), activeOf(1000, 60, 80, 40, times(1000, 100)...)} {
		for _, x := range greatNumbers() {
			wantLead(t, n, x, nodeCode(impl.ErrRange))
			wantCrashNode(t, n, x, nodeCode(impl.ErrRange))
			for _, y := range append(greatNumbers(), 0, 1, 100, 1000) {
				for _, m := range []impl.Mail{takenTo(n, x, y), takenTo(n, 1000, x), appendTo(n, x, y, 1), appendTo(n, y, x, x), appendTo(n, 1000, y, x), entryTo(n, y, y, x, tickEntry(x)), entryTo(n, x, 0, 0, tickEntry(y))} {
					wantMailFault(t, n, m, impl.ErrRange)
				}
				bent := n
				bent.Sure, bent.Match, bent.Other, bent.Commit = y, x, y, x
				wantNodeFault(t, bent, impl.ErrRange)
				bent.Sure, bent.Match, bent.Other, bent.Commit = x, 0, 0, y
				wantNodeFault(t, bent, impl.ErrRange)
				bent.Epoch = x
				wantNodeFault(t, bent, impl.ErrRange)
			}
		}
	}
}

// smallNodes are all nodes that are Up, with logs of a few epochs.
func smallNodes() []impl.Node {
	var list []impl.Node
	for _, epochs := range [][]int64{{}, {1}, {2}, {1, 1}, {1, 2}, {2, 2}, {1, 2, 2}} {
		last := int64(len(epochs))
		for epoch := range int64(4) {
			for sure := range last + 1 {
				for commit := range sure + 1 {
					for known := range last + 1 {
						list = append(list, standbyOf(epoch, sure, known, commit, epochs...), activeOf(epoch, sure, known, commit, epochs...))
					}
				}
			}
		}
	}
	return slices.DeleteFunc(list, func(n impl.Node) bool { return wordsNodeFault(n) != impl.OK })
}

func smallMails(n impl.Node) []impl.Mail {
	var list []impl.Mail
	for epoch := int64(1); epoch <= 4; epoch++ {
		for at := range int64(5) {
			list = append(list, takenTo(n, epoch, at))
			for prev := range int64(3) {
				list = append(list, appendTo(n, epoch, at, prev))
				for entry := int64(1); entry <= 3; entry++ {
					list = append(list, entryTo(n, epoch, at, prev, newEntry(entry)))
				}
			}
		}
	}
	return slices.DeleteFunc(list, func(m impl.Mail) bool { return wordsMailFault(n, m) != impl.OK })
}

func TestEverySmallMailToEverySmallNode(t *testing.T) {
	codes := map[int64]int{}
	for _, n := range smallNodes() {
		for _, m := range smallMails(n) {
			got := impl.HearMail(n, m)
			codes[got.Code]++
			wantNode(t, got, wordsHearMail(n, m), "HearMail", m, n)
			checkStays(t, n, got, nodeMove{kind: hearMove, mail: m})
		}
	}
	if codes[impl.OK] < 1000 || codes[impl.ErrState] < 100 || codes[impl.ErrTaken] < 100 {
		t.Errorf("codes: %v", codes)
	}
}

const (
	addMove = iota
	spreadMove
	hearMove
	syncMove
	crashMove
	riseMove
	leadMove
)

// nodeMove is one call with its arguments, of a node that is told with it.
type nodeMove struct {
	kind   int
	event  impl.Event
	mail   impl.Mail
	number int64
}

func (m nodeMove) done(n impl.Node) (got, want impl.NodeResult) {
	switch m.kind {
	case addMove:
		return impl.AddEvent(n, m.event), wordsAddEvent(n, m.event)
	case spreadMove:
		return impl.SpreadNode(n), wordsSpread(n)
	case hearMove:
		return impl.HearMail(n, m.mail), wordsHearMail(n, m.mail)
	case syncMove:
		return impl.SyncNode(n), wordsSyncNode(n)
	case crashMove:
		return impl.CrashNode(n, m.number), wordsCrashNode(n, m.number)
	case riseMove:
		return impl.RiseNode(n), wordsRise(n)
	}
	return impl.LeadNode(n, m.number), wordsLead(n, m.number)
}

// checkStays asks for what is promised of any call that tells no code.
func checkStays(t *testing.T, n impl.Node, got impl.NodeResult, m nodeMove) {
	t.Helper()
	if got.Code != impl.OK {
		return
	}
	next := got.Node
	if code := impl.NodeFault(next); code != impl.OK || next.Epoch < n.Epoch || next.Id != n.Id {
		t.Fatalf("%s of %s: fault %d: %s", brief(m), brief(n), code, brief(next))
	}
	if m.kind == crashMove {
		stays := n.Log[:n.Sure+m.number]
		if !sameEntries(next.Log, stays) || next.Sure != int64(len(stays)) || next.Up {
			t.Fatalf("%s of %s: what was sure is gone: %s", brief(m), brief(n), brief(next))
		}
		return
	}
	if next.Commit < n.Commit || !sameEntries(next.Log[:n.Commit], n.Log[:n.Commit]) {
		t.Fatalf("%s of %s: what was agreed is gone: %s", brief(m), brief(n), brief(next))
	}
}

func someEvent(r *rand.Rand) impl.Event {
	if r.Intn(12) == 0 {
		list := faultyEvents()
		return list[r.Intn(len(list))]
	}
	return entryAt(r.Intn(1000)).Event
}

// someMail is mostly one that fits the node's log, of an epoch near the node's.
func someMail(r *rand.Rand, n impl.Node) impl.Mail {
	m := impl.Mail{Kind: int64(1 + r.Intn(2)), To: n.Id, Epoch: n.Epoch + int64(r.Intn(40)/39-r.Intn(10)/9), At: int64(r.Intn(len(n.Log) + 1))}
	if r.Intn(3) == 0 {
		m.At = int64(len(n.Log) - r.Intn(min(len(n.Log), 2)+1) + r.Intn(2))
	}
	if m.Kind == impl.MailAppend {
		if m.At > 0 && m.At <= int64(len(n.Log)) {
			m.Prev = n.Log[m.At-1].Epoch
		} else if m.At > 0 {
			m.Prev = max(1, m.Epoch)
		}
		if r.Intn(12) == 0 {
			m.Prev += int64(r.Intn(3) - 1)
		}
		if m.Has = r.Intn(4) > 0; m.Has {
			m.Entry = impl.Entry{Epoch: max(m.Prev, m.Epoch-int64(r.Intn(4)/3)), Event: entryAt(r.Intn(1000)).Event}
			if m.At < int64(len(n.Log)) && r.Intn(4) == 0 {
				m.Entry = n.Log[m.At]
			}
		}
	}
	switch r.Intn(60) {
	case 0:
		m.To = 1 - m.To
	case 1:
		m.Kind = int64(r.Intn(5) - 1)
	case 2:
		m.Prev, m.At = int64(r.Intn(1003)-1), int64(r.Intn(103)-1)
	case 3:
		m.Has = !m.Has
	case 4:
		m.Entry.Event = someEvent(r)
	}
	return m
}

func someNodeMove(r *rand.Rand, n impl.Node) nodeMove {
	m := nodeMove{kind: []int{addMove, addMove, addMove, spreadMove, hearMove, hearMove, hearMove, hearMove, hearMove, syncMove, syncMove, crashMove, riseMove, leadMove}[r.Intn(14)], event: someEvent(r), mail: someMail(r, n)}
	if !n.Up && r.Intn(2) == 0 {
		m.kind = riseMove
	}
	if m.kind == crashMove && r.Intn(8) > 0 {
		m.kind = addMove
	}
	if m.kind == leadMove && n.Role == impl.RoleActive && r.Intn(4) > 0 {
		m.kind = syncMove
	}
	m.number = int64(r.Intn(len(n.Log)-int(n.Sure)+1) + r.Intn(20)/19 - r.Intn(20)/19)
	if m.kind == leadMove {
		m.number = n.Epoch + int64(r.Intn(4))
	}
	return m
}

// someStart is a node that came to be somehow: not all of them come of a new one.
func someStart(r *rand.Rand) impl.Node {
	n := impl.Node{Id: int64(r.Intn(2)), Up: true}
	if r.Intn(3) == 0 {
		return n
	}
	n.Epoch = int64(1 + r.Intn(1000))
	var epochs []int64
	for range []int{3, 20, 98, 100}[r.Intn(4)] {
		epochs = append(epochs, max(1, n.Epoch-int64(r.Intn(6))))
	}
	slices.Sort(epochs)
	n.Log = logOf(epochs...)
	n.Sure = int64(r.Intn(len(n.Log) + 1))
	n.Commit = int64(r.Intn(int(n.Sure) + 1))
	if n.Role = int64(r.Intn(2)); n.Role == impl.RoleActive {
		n.Other = int64(r.Intn(len(n.Log) + 1))
	} else {
		n.Match = int64(r.Intn(len(n.Log) + 1))
	}
	return n
}

func TestManyNodes(t *testing.T) {
	r := rand.New(rand.NewSource(121))
	codes := map[int64]int{}
	full, agreed, cut := 0, 0, 0
	for range 1500 {
		n := someStart(r)
		for range 60 {
			m := someNodeMove(r, n)
			got, want := m.done(n)
			wantNode(t, got, want, "move", m.kind, m.number, m.mail, m.event, n)
			checkStays(t, n, got, m)
			codes[got.Code]++
			if got.Code != impl.OK {
				continue
			}
			agreed += int(codeIf(got.Node.Commit > n.Commit, 1))
			cut += int(codeIf(m.kind == hearMove && len(got.Node.Log) < len(n.Log), 1))
			n = got.Node
		}
		full += int(codeIf(len(n.Log) == 100, 1))
	}
	if codes[impl.OK] < 30000 || codes[impl.ErrState] < 5000 || codes[impl.ErrTaken] < 150 || codes[impl.ErrMany] < 300 || codes[impl.ErrRange] < 300 || codes[impl.ErrForm] < 300 || full < 20 || agreed < 500 || cut < 300 {
		t.Errorf("codes: %v; %d logs are full, %d times more was agreed, %d times less was left", codes, full, agreed, cut)
	}
}

func TestAnyNodeAndAnyMove(t *testing.T) {
	r := rand.New(rand.NewSource(122))
	codes := map[int64]int{}
	great := greatNumbers()
	for range 20000 {
		n := someStart(r)
		n.Log = n.Log[:min(len(n.Log), 3)]
		count := int64(len(n.Log))
		n.Sure, n.Match, n.Other, n.Commit = min(n.Sure, count), min(n.Match, count), min(n.Other, count), min(n.Commit, n.Sure, count)
		m := someNodeMove(r, n)
		for _, place := range []*int64{&n.Id, &n.Role, &n.Epoch, &n.Sure, &n.Match, &n.Other, &n.Commit, &m.number, &m.mail.Epoch, &m.mail.At, &m.mail.Prev, &m.mail.To, &m.mail.Kind, &m.mail.Entry.Epoch} {
			switch r.Intn(120) {
			case 0:
				*place = great[r.Intn(len(great))]
			case 1:
				*place += int64(r.Intn(3) - 1)
			}
		}
		if r.Intn(20) == 0 {
			n.Up = !n.Up
		}
		got, want := m.done(n)
		wantNode(t, got, want, "move", m.kind, m.number, m.mail, m.event, n)
		checkStays(t, n, got, m)
		if impl.NodeFault(n) != wordsNodeFault(n) || impl.MailFault(n, m.mail) != wordsMailFault(n, m.mail) {
			t.Fatalf("faults of %s: %d, %d", brief(m.mail, n), impl.NodeFault(n), impl.MailFault(n, m.mail))
		}
		codes[got.Code]++
	}
	if codes[impl.OK] < 5000 || codes[impl.ErrState] < 1000 || codes[impl.ErrRange] < 500 || codes[impl.ErrForm] < 300 || codes[impl.ErrTaken] < 100 {
		t.Errorf("codes: %v", codes)
	}
}

// twoNodes are told of each other by mails that are lost, late or doubled.
type twoNodes struct {
	nodes  [2]impl.Node
	mails  []impl.Mail
	epoch  int64
	agreed []impl.Entry
}

// take is told what came of a call of the node, and asks for what is promised of it.
func (p *twoNodes) take(t *testing.T, id int, got impl.NodeResult, m nodeMove) {
	t.Helper()
	checkStays(t, p.nodes[id], got, m)
	if got.Code != impl.OK {
		return
	}
	p.nodes[id] = got.Node
	p.mails = append(p.mails, got.Send...)
	p.mails = p.mails[max(0, len(p.mails)-8):]
	if got.Node.Commit > int64(len(p.agreed)) {
		p.agreed = slices.Clone(got.Node.Log[:got.Node.Commit])
	}
	for _, n := range p.nodes {
		if n.Sure < int64(len(p.agreed)) || !sameEntries(n.Log[:len(p.agreed)], p.agreed) {
			t.Fatalf("%s behind %s: what is agreed is %s", brief(n), brief(m), brief(p.agreed))
		}
	}
}

func (p *twoNodes) step(t *testing.T, r *rand.Rand) {
	t.Helper()
	id := r.Intn(2)
	n := p.nodes[id]
	m := nodeMove{kind: []int{addMove, spreadMove, spreadMove, hearMove, hearMove, hearMove, hearMove, syncMove, syncMove, riseMove, leadMove, crashMove}[r.Intn(12)], event: entryAt(r.Intn(1000)).Event}
	switch m.kind {
	case leadMove:
		// Nobody leads in an epoch in which another one did; and two that lead all the time agree on nothing.
		if p.nodes[0].Role+p.nodes[1].Role > 0 && r.Intn(8) > 0 {
			return
		}
		p.epoch++
		m.number = p.epoch
	case crashMove:
		if r.Intn(5) > 0 {
			return
		}
		m.number = int64(r.Intn(len(n.Log) - int(n.Sure) + 1))
	case hearMove:
		if len(p.mails) == 0 {
			return
		}
		at := r.Intn(len(p.mails))
		m.mail = p.mails[at]
		id = int(m.mail.To)
		if r.Intn(5) > 0 {
			p.mails = slices.Delete(p.mails, at, at+1)
		}
		if r.Intn(5) == 0 {
			return
		}
	}
	got, want := m.done(p.nodes[id])
	wantNode(t, got, want, "move", m.kind, m.number, m.mail, p.nodes[id])
	p.take(t, id, got, m)
}

func TestTwoNodesThatHearEachOther(t *testing.T) {
	r := rand.New(rand.NewSource(123))
	agreed, epochs := 0, int64(0)
	for range 300 {
		p := twoNodes{nodes: [2]impl.Node{impl.NewNode(0).Node, impl.NewNode(1).Node}}
		for range 600 {
			p.step(t, r)
		}
		agreed += len(p.agreed)
		epochs += p.epoch
	}
	if agreed < 1000 || epochs < 1000 {
		t.Errorf("only %d entries were agreed, in %d epochs", agreed, epochs)
	}
}

// TestANodeThatLeadsAnew is the way of one entry through two crashes.
func TestANodeThatLeadsAnew(t *testing.T) {
	a, b := impl.NewNode(0).Node, impl.NewNode(1).Node
	a = impl.AddEvent(impl.LeadNode(a, 1).Node, start(1)).Node
	a = impl.AddEvent(a, tick()).Node
	b = impl.HearMail(b, impl.SpreadNode(a).Send[0]).Node
	sure := impl.SyncNode(b)
	b = sure.Node
	a = impl.HearMail(impl.SyncNode(a).Node, sure.Send[0]).Node
	if a.Commit != 1 || a.Other != 1 || b.Match != 1 || b.Commit != 0 {
		t.Fatalf("the first is not agreed: %s, %s", brief(a), brief(b))
	}
	// The second is sure to one alone, and goes where the other one leads.
	late := impl.SpreadNode(a).Send[0]
	a = impl.CrashNode(a, 0).Node
	b = impl.AddEvent(impl.LeadNode(b, 2).Node, stop(1)).Node
	wantHearMail(t, b, late, nodeAnswer(b))
	wantHearMail(t, a, impl.SpreadNode(b).Send[0], nodeCode(impl.ErrState))
	a = impl.RiseNode(a).Node
	for range 2 {
		heard := impl.HearMail(a, impl.SpreadNode(b).Send[0])
		a = impl.SyncNode(heard.Node).Node
		b = impl.SyncNode(impl.HearMail(b, impl.SyncNode(a).Send[0]).Node).Node
	}
	if !sameEntries(a.Log, []impl.Entry{{Epoch: 1, Event: start(1)}, {Epoch: 2, Event: stop(1)}}) || !sameEntries(a.Log, b.Log) || b.Commit != 2 || a.Epoch != 2 {
		t.Errorf("the two are %s, %s", brief(a), brief(b))
	}
}

// nodeArgs are all that the functions of this chapter take.
type nodeArgs struct {
	Node   impl.Node
	Mail   impl.Mail
	Event  impl.Event
	Number int64
}

func nodeCalls() []func(x nodeArgs) any {
	return []func(x nodeArgs) any{
		func(x nodeArgs) any { return impl.NodeFault(x.Node) },
		func(x nodeArgs) any { return impl.MailFault(x.Node, x.Mail) },
		func(x nodeArgs) any { return impl.NewNode(x.Number) },
		func(x nodeArgs) any { return impl.AddEvent(x.Node, x.Event) },
		func(x nodeArgs) any { return impl.SpreadNode(x.Node) },
		func(x nodeArgs) any { return impl.HearMail(x.Node, x.Mail) },
		func(x nodeArgs) any { return impl.SyncNode(x.Node) },
		func(x nodeArgs) any { return impl.CrashNode(x.Node, x.Number) },
		func(x nodeArgs) any { return impl.RiseNode(x.Node) },
		func(x nodeArgs) any { return impl.LeadNode(x.Node, x.Number) },
	}
}

// someNodeArgs have entries that are new, that are there, that take the place of others, and faults.
func someNodeArgs() []nodeArgs {
	var list []nodeArgs
	for _, n := range allNodes() {
		last := int64(len(n.Log))
		epoch := min(n.Epoch+1, 1000)
		var prev, half, middle int64
		if last > 0 {
			prev = n.Log[last-1].Epoch
		}
		if half = last / 2; half > 0 {
			middle = n.Log[half-1].Epoch
		}
		for _, m := range []impl.Mail{entryTo(n, epoch, last, prev, newEntry(epoch)), entryTo(n, epoch, half, middle, newEntry(epoch)), entryTo(n, 1000, 0, 0, newEntry(1000)), appendTo(n, epoch, half, middle), appendTo(n, 1000, 1, 1), takenTo(n, n.Epoch, half), takenTo(n, 1000, 1)} {
			list = append(list, nodeArgs{Node: n, Mail: m, Event: inputOf(1, 4, 5, 6), Number: epoch})
		}
		if half < last {
			list = append(list, nodeArgs{Node: n, Mail: entryTo(n, epoch, half, middle, n.Log[half]), Event: inputOf(1, bodyOf(60)...), Number: last - n.Sure})
		}
		list = append(list, nodeArgs{Node: n, Mail: takenTo(n, 1001, 0), Event: impl.Event{}, Number: 0}, nodeArgs{Node: n, Mail: impl.Mail{Entry: newEntry(4)}, Event: tick(), Number: -1})
	}
	for _, n := range []impl.Node{{Id: 2, Log: logOf(1, 2)}, {Up: true, Epoch: 1, Log: logOf(1, 2)}, {Up: true, Epoch: 2, Log: logOf(times(1, 101)...)}} {
		list = append(list, nodeArgs{Node: n, Mail: entryTo(n, 3, 0, 0, newEntry(3)), Event: inputOf(0, 1), Number: 1})
	}
	return append(list, nodeArgs{})
}

func TestNodesChangeNoArgument(t *testing.T) {
	for _, was := range someNodeArgs() {
		x := roomyCopy(was)
		memory := memoryOfAll(x)
		for i, call := range nodeCalls() {
			call(x)
			if memoryOfAll(x) != memory {
				t.Fatalf("call %d has changed its arguments: %s", i, brief(was))
			}
		}
	}
}

func TestNodesAnswerNewMemory(t *testing.T) {
	for _, was := range someNodeArgs() {
		for i, call := range nodeCalls() {
			x := roomyCopy(was)
			first, second := call(x), call(x)
			if shareMemory(slices.Concat(spansOf(x), spansOf(first), spansOf(second))) {
				t.Fatalf("call %d: lists share memory with one another, or with the arguments: %s", i, brief(was))
			}
			if !reflect.DeepEqual(first, second) {
				t.Fatalf("call %d: %s, and again %s", i, brief(first), brief(second))
			}
			runtime.KeepAlive([]any{x, first, second})
		}
	}
}

func TestNodesOfSharedLists(t *testing.T) {
	// All entries, the mail's and the event's Bytes are one and the same memory, and the log has more behind it.
	row := bodyOf(60)
	var log []impl.Entry
	for i := range 8 {
		log = append(log, impl.Entry{Epoch: 3, Event: inputOf(int64(i%3), row[:20+i]...)})
		log[i].Event.Bytes = row[:20+i]
	}
	memory := memoryOfAll(log, row)
	for _, count := range []int{0, 1, 4, 8} {
		for _, role := range []int64{impl.RoleStandby, impl.RoleActive} {
			for _, m := range []impl.Mail{{Kind: impl.MailAppend, Epoch: 4, Has: true, Entry: impl.Entry{Epoch: 4, Event: impl.Event{Kind: impl.EventInput, Bytes: row}}}, {Kind: impl.MailAppend, Epoch: 4, At: 1, Prev: 3, Has: true, Entry: impl.Entry{Epoch: 3, Event: impl.Event{Kind: impl.EventInput, Bytes: row}}}} {
				x := nodeArgs{Node: impl.Node{Up: true, Role: role, Epoch: 3, Log: log[:count]}, Mail: m, Event: m.Entry.Event}
				for i, call := range nodeCalls() {
					got := call(x)
					if spans := append(spansOf(got), spansOf(row[:0])...); shareMemory(spans) || memoryOfAll(log, row) != memory {
						t.Fatalf("call %d shares or changes memory: %s", i, brief(x))
					}
					runtime.KeepAlive(got)
				}
			}
		}
	}
}

func TestAnswersOfNodesMayBeSpoiled(t *testing.T) {
	active, standby := activeOf(5, 2, 1, 1, 1, 3, 3, 5, 5, 5), standbyOf(5, 2, 1, 1, 1, 3, 3, 5, 5, 5)
	mail, event := entryTo(standby, 6, 2, 3, newEntry(6)), inputOf(2, 1, 2, 3)
	for i, call := range []func() impl.NodeResult{
		func() impl.NodeResult { return impl.AddEvent(active, event) },
		func() impl.NodeResult { return impl.SpreadNode(active) },
		func() impl.NodeResult { return impl.HearMail(standby, mail) },
		func() impl.NodeResult { return impl.SyncNode(standby) },
		func() impl.NodeResult { return impl.CrashNode(active, 2) },
		func() impl.NodeResult { return impl.LeadNode(standby, 9) },
	} {
		memory, first, second := memoryOfAll(active, standby, mail, event), call(), call()
		for _, m := range first.Send {
			flip(m.Entry.Event.Bytes)
		}
		if !sameNode(first.Node, second.Node) {
			t.Errorf("call %d: a mail and the log share memory", i)
		}
		for place := range first.Node.Log {
			flip(first.Node.Log[place].Event.Bytes)
			first.Node.Log[place] = impl.Entry{}
		}
		if memoryOfAll(active, standby, mail, event) != memory || !reflect.DeepEqual(call(), second) {
			t.Errorf("call %d: what is answered shares memory with an argument", i)
		}
	}
}

// allOfNodes tells all that the functions of this chapter answer, nil and empty lists apart.
func allOfNodes(x nodeArgs) string {
	var said []any
	for _, call := range nodeCalls() {
		said = append(said, fmt.Sprintf("%#v", call(x)))
	}
	return fmt.Sprint(said...)
}

func TestNodesHangOnArgumentsAlone(t *testing.T) {
	list := someNodeArgs()
	for i, x := range list {
		first := allOfNodes(x)
		allOfNodes(list[(i*7+5)%len(list)])
		if allOfNodes(x) != first || allOfNodes(roomyCopy(x)) != first {
			t.Fatalf("what is told of %s hangs on more than it", brief(x))
		}
		if allOfNodes(hollow(x, true)) != first || allOfNodes(hollow(x, false)) != first {
			t.Fatalf("nil and an empty list in %s are not answered alike", brief(x))
		}
	}
}
