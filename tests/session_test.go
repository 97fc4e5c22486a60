package tests

import (
	"fmt"
	"math"
	"math/rand"
	"slices"
	"testing"

	"loop.example/g00263/impl"
)

// wordsSessionFault asks the document's words in their order.
func wordsSessionFault(s impl.Session) int64 {
	hold := s.Hold == 0 || s.Hold >= 3 && s.Hold <= 200
	if s.State < 0 || s.State > 3 || s.Peer < 0 || s.Peer > 65535 || !hold || s.Since < 0 || s.Since > 1000 || s.Spoke < 0 || s.Spoke > 1000 {
		return impl.ErrRange
	}
	if s.State == 0 && (s.Peer != 0 || s.Hold != 0 || s.Since != 0 || s.Spoke != 0) {
		return impl.ErrForm
	}
	if s.State == 1 && (s.Peer != 0 || s.Hold != 0) || s.State > 1 && s.Peer == 0 {
		return impl.ErrForm
	}
	return impl.OK
}

func wordsConfigFault(c impl.Config) int64 {
	if c.As < 1 || c.As > 65535 || c.Id < 1 || c.Id > 65535 || c.Hold < 0 || c.Hold == 1 || c.Hold == 2 || c.Hold > 200 {
		return impl.ErrRange
	}
	return impl.OK
}

func wordsFirst(c impl.Config, s impl.Session) int64 {
	if code := wordsConfigFault(c); code != impl.OK {
		return code
	}
	return wordsSessionFault(s)
}

func wordsFail(c impl.Config, s impl.Session, why, sub int64) impl.SessionResult {
	if code := wordsFirst(c, s); code != impl.OK {
		return impl.SessionResult{Code: code}
	}
	if why < 1 || why > 6 || sub < 0 || sub > 20 {
		return impl.SessionResult{Code: impl.ErrRange}
	}
	if s.State == impl.StateIdle {
		return impl.SessionResult{}
	}
	return impl.SessionResult{Say: []impl.Message{{Kind: impl.KindNotify, Why: why, Sub: sub}}, Down: s.State == impl.StateUp}
}

// wordsHear is a table of what is heard by where it is heard: the document's words turned by Kind.
func wordsHear(c impl.Config, s impl.Session, m impl.Message) impl.SessionResult {
	if code := wordsFirst(c, s); code != impl.OK {
		return impl.SessionResult{Code: code}
	}
	if code := wordsMessageFault(m); code != impl.OK {
		return impl.SessionResult{Code: code}
	}
	heard := s
	heard.Since = 0
	place := [2]int64{m.Kind, s.State}
	switch {
	case s.State == impl.StateIdle:
		return impl.SessionResult{}
	case m.Kind == impl.KindNotify:
		return impl.SessionResult{Down: s.State == impl.StateUp}
	case place == [2]int64{impl.KindOpen, impl.StateSent}:
		hold := m.Hold
		if c.Hold < hold {
			hold = c.Hold
		}
		return impl.SessionResult{Session: impl.Session{State: impl.StateConfirm, Peer: m.As, Hold: hold}, Say: []impl.Message{{Kind: impl.KindKeep}}}
	case m.Kind == impl.KindOpen:
		return wordsFail(c, s, 6, 7)
	case place == [2]int64{impl.KindKeep, impl.StateConfirm}:
		heard.State = impl.StateUp
		return impl.SessionResult{Session: heard, Up: true}
	case place == [2]int64{impl.KindKeep, impl.StateUp}:
		return impl.SessionResult{Session: heard}
	case place == [2]int64{impl.KindUpdate, impl.StateUp}:
		return impl.SessionResult{Session: heard, Update: true}
	case s.State == impl.StateSent:
		return wordsFail(c, s, 5, 1)
	}
	return wordsFail(c, s, 5, 2)
}

func wordsTick(c impl.Config, s impl.Session) impl.SessionResult {
	if code := wordsFirst(c, s); code != impl.OK {
		return impl.SessionResult{Code: code}
	}
	if s.State == impl.StateIdle {
		return impl.SessionResult{}
	}
	if s.Since < 1000 {
		s.Since++
	}
	if s.Spoke < 1000 {
		s.Spoke++
	}
	keep := int64(3)
	if s.Hold < 6 {
		keep = 1
	}
	switch {
	case s.State == impl.StateSent && s.Since == 50, s.State != impl.StateSent && s.Hold > 0 && s.Since >= s.Hold:
		return wordsFail(c, s, 4, 0)
	case s.Hold > 0 && s.Spoke >= keep:
		s.Spoke = 0
		return impl.SessionResult{Session: s, Say: []impl.Message{{Kind: impl.KindKeep}}}
	}
	return impl.SessionResult{Session: s}
}

func wantSession(t *testing.T, what string, got, want impl.SessionResult) {
	t.Helper()
	same := got.Code == want.Code && got.Session == want.Session && got.Up == want.Up && got.Down == want.Down && got.Update == want.Update
	if !same || !sameMessageLists(got.Say, want.Say) {
		t.Errorf("%s: %+v, want %+v", what, got, want)
	}
}

func wantHear(t *testing.T, c impl.Config, s impl.Session, m impl.Message, want impl.SessionResult) {
	t.Helper()
	wantSession(t, fmt.Sprintf("HearSession(%v, %v, %v)", c, s, m), impl.HearSession(c, s, m), want)
}

func wantTick(t *testing.T, c impl.Config, s impl.Session, want impl.SessionResult) {
	t.Helper()
	wantSession(t, fmt.Sprintf("TickSession(%v, %v)", c, s), impl.TickSession(c, s), want)
}

func says(list ...impl.Message) []impl.Message {
	return list
}

func notifyOf(why, sub int64) impl.Message {
	return impl.Message{Kind: impl.KindNotify, Why: why, Sub: sub}
}

func openOf(hold int64) impl.Message {
	return impl.Message{Kind: impl.KindOpen, As: 7, Hold: hold, Id: 3}
}

func someConfig() impl.Config {
	return impl.Config{As: 9, Id: 4, Hold: 9}
}

// oneOfEachState stand in the order of the states, with no number that another one could be taken for.
func oneOfEachState() []impl.Session {
	return []impl.Session{
		{},
		{State: impl.StateSent, Since: 5, Spoke: 7},
		{State: impl.StateConfirm, Peer: 12, Hold: 30, Since: 2, Spoke: 1},
		{State: impl.StateUp, Peer: 13, Hold: 40, Since: 4, Spoke: 2},
	}
}

// rightSessions have no fault.
func rightSessions() []impl.Session {
	list := oneOfEachState()
	ticks := []int64{0, 1, 2, 3, 4, 5, 6, 47, 48, 49, 50, 51, 198, 199, 200, 998, 999, 1000}
	for _, since := range ticks {
		for _, spoke := range ticks {
			list = append(list, impl.Session{State: impl.StateSent, Since: since, Spoke: spoke})
			for _, hold := range []int64{0, 3, 4, 5, 6, 7, 50, 200} {
				list = append(list,
					impl.Session{State: impl.StateConfirm, Peer: 65535, Hold: hold, Since: since, Spoke: spoke},
					impl.Session{State: impl.StateUp, Peer: 1, Hold: hold, Since: since, Spoke: spoke})
			}
		}
	}
	return list
}

func faultySessions() []impl.Session {
	return []impl.Session{
		{State: -1}, {State: 4}, {Peer: 1}, {Hold: 3}, {Since: 1}, {Spoke: 1}, {Peer: -1},
		{State: impl.StateSent, Peer: 1}, {State: impl.StateSent, Hold: 3}, {State: impl.StateSent, Hold: 2},
		{State: impl.StateConfirm}, {State: impl.StateUp}, {State: impl.StateUp, Peer: 65536},
		{State: impl.StateUp, Peer: 1, Since: 1001}, {State: impl.StateConfirm, Peer: 1, Spoke: math.MaxInt64},
		{State: impl.StateUp, Peer: 1, Since: math.MinInt64}, {State: math.MaxInt64}, {State: math.MinInt64},
	}
}

func faultyConfigs() []impl.Config {
	return []impl.Config{
		{}, {As: 1}, {Id: 1}, {As: 65536, Id: 1}, {As: 1, Id: 65536}, {As: -1, Id: 1}, {As: 1, Id: -1},
		{As: 1, Id: 1, Hold: 1}, {As: 1, Id: 1, Hold: 2}, {As: 1, Id: 1, Hold: 201}, {As: 1, Id: 1, Hold: -3},
		{As: math.MaxInt64, Id: 1}, {As: 1, Id: math.MinInt64}, {As: 1, Id: 1, Hold: math.MaxInt64},
	}
}

// configs have no fault.
func configs() []impl.Config {
	list := []impl.Config{{As: 1, Id: 65535}, {As: 65535, Id: 1, Hold: 3}}
	for _, hold := range []int64{0, 3, 5, 6, 9, 200} {
		list = append(list, impl.Config{As: 9, Id: 4, Hold: hold})
	}
	return list
}

func TestSessionNumbers(t *testing.T) {
	if impl.StateIdle != 0 || impl.StateSent != 1 || impl.StateConfirm != 2 || impl.StateUp != 3 || impl.KeepTicks != 3 {
		t.Error("a number of sessions is not that of the document")
	}
}

// sessionNumbers points at the numbers of a session.
func sessionNumbers(s *impl.Session) []*int64 {
	return []*int64{&s.State, &s.Peer, &s.Hold, &s.Since, &s.Spoke}
}

func wantSessionFault(t *testing.T, s impl.Session, code int64) {
	t.Helper()
	if got := impl.SessionFault(s); got != code {
		t.Errorf("SessionFault(%v): %d, want %d", s, got, code)
	}
}

func TestBoundsOfASession(t *testing.T) {
	// For each number: what leaves its bounds, and what does not.
	out := [][]int64{{-1, 4}, {-1, 65536}, {-1, 1, 2, 201}, {-1, 1001}, {-1, 1001}}
	in := [][]int64{{2, 3}, {1, 65535}, {0, 3, 200}, {0, 1000}, {0, 1000}}
	for i := range out {
		for _, s := range oneOfEachState() {
			for _, n := range append([]int64{math.MinInt64, math.MaxInt64, 1 << 32, -1 << 32}, out[i]...) {
				bad := s
				*sessionNumbers(&bad)[i] = n
				wantSessionFault(t, bad, impl.ErrRange)
			}
		}
		for _, s := range oneOfEachState()[2:] {
			for _, n := range in[i] {
				good := s
				*sessionNumbers(&good)[i] = n
				wantSessionFault(t, good, impl.OK)
			}
		}
	}
	for _, n := range []int64{0, 1, 999, 1000} {
		wantSessionFault(t, impl.Session{State: impl.StateSent, Since: n}, impl.OK)
		wantSessionFault(t, impl.Session{State: impl.StateSent, Spoke: n}, impl.OK)
	}
	for _, s := range rightSessions() {
		wantSessionFault(t, s, impl.OK)
	}
}

func TestFormOfASession(t *testing.T) {
	cases := []struct {
		session impl.Session
		code    int64
	}{
		{impl.Session{}, impl.OK},
		{impl.Session{Peer: 1}, impl.ErrForm},
		{impl.Session{Peer: 65535}, impl.ErrForm},
		{impl.Session{Hold: 3}, impl.ErrForm},
		{impl.Session{Hold: 200}, impl.ErrForm},
		{impl.Session{Since: 1}, impl.ErrForm},
		{impl.Session{Since: 1000}, impl.ErrForm},
		{impl.Session{Spoke: 1}, impl.ErrForm},
		{impl.Session{Spoke: 1000}, impl.ErrForm},
		{impl.Session{State: impl.StateSent}, impl.OK},
		{impl.Session{State: impl.StateSent, Peer: 1}, impl.ErrForm},
		{impl.Session{State: impl.StateSent, Hold: 3}, impl.ErrForm},
		{impl.Session{State: impl.StateSent, Peer: 1, Hold: 3}, impl.ErrForm},
		{impl.Session{State: impl.StateConfirm}, impl.ErrForm},
		{impl.Session{State: impl.StateConfirm, Hold: 3}, impl.ErrForm},
		{impl.Session{State: impl.StateConfirm, Peer: 1}, impl.OK},
		{impl.Session{State: impl.StateUp}, impl.ErrForm},
		{impl.Session{State: impl.StateUp, Hold: 3, Since: 1, Spoke: 1}, impl.ErrForm},
		{impl.Session{State: impl.StateUp, Peer: 1}, impl.OK},
		// What leaves its bounds, ahead of the form.
		{impl.Session{Peer: 1, Spoke: 1001}, impl.ErrRange},
		{impl.Session{Peer: 65536}, impl.ErrRange},
		{impl.Session{Hold: 1}, impl.ErrRange},
		{impl.Session{Since: -1, Peer: 1}, impl.ErrRange},
		{impl.Session{State: impl.StateSent, Peer: 1, Hold: 2}, impl.ErrRange},
		{impl.Session{State: impl.StateSent, Hold: 201}, impl.ErrRange},
		{impl.Session{State: impl.StateConfirm, Since: 1001}, impl.ErrRange},
		{impl.Session{State: impl.StateUp, Hold: 1}, impl.ErrRange},
	}
	for _, c := range cases {
		wantSessionFault(t, c.session, c.code)
	}
}

func TestSessionFaultOfAnyNumbers(t *testing.T) {
	holds := []int64{math.MinInt64, -1, 0, 1, 2, 3, 200, 201, math.MaxInt64}
	ticks := []int64{math.MinInt64, -1, 0, 1, 1000, 1001, math.MaxInt64}
	for _, state := range []int64{math.MinInt64, -1, 0, 1, 2, 3, 4, math.MaxInt64} {
		for _, peer := range []int64{math.MinInt64, -1, 0, 1, 65535, 65536, math.MaxInt64} {
			for _, hold := range holds {
				for _, since := range ticks {
					for _, spoke := range ticks {
						s := impl.Session{State: state, Peer: peer, Hold: hold, Since: since, Spoke: spoke}
						wantSessionFault(t, s, wordsSessionFault(s))
					}
				}
			}
		}
	}
}

func TestConfigFault(t *testing.T) {
	want := func(c impl.Config, code int64) {
		t.Helper()
		if got := impl.ConfigFault(c); got != code || got != wordsConfigFault(c) {
			t.Errorf("ConfigFault(%v): %d, want %d", c, got, code)
		}
	}
	for n, code := range map[int64]int64{math.MinInt64: 3, -1: 3, 0: 3, 1: 0, 65535: 0, 65536: 3, 1<<32 + 1: 3, math.MaxInt64: 3} {
		want(impl.Config{As: n, Id: 1}, code)
		want(impl.Config{As: 1, Id: n}, code)
		want(impl.Config{As: n, Id: n, Hold: 3}, code)
	}
	for n, code := range map[int64]int64{math.MinInt64: 3, -1: 3, 0: 0, 1: 3, 2: 3, 3: 0, 200: 0, 201: 3, 256: 3, math.MaxInt64: 3} {
		want(impl.Config{As: 1, Id: 1, Hold: n}, code)
	}
	for _, c := range configs() {
		want(c, impl.OK)
	}
	for _, c := range faultyConfigs() {
		want(c, impl.ErrRange)
	}
}

// wantAll holds all functions of sessions to one code, whatever is their own.
func wantAll(t *testing.T, c impl.Config, s impl.Session, code int64) {
	t.Helper()
	want := impl.SessionResult{Code: code}
	what := fmt.Sprint(c, s)
	for _, m := range append(oneOfEachKind(), faultyMessages()...) {
		wantSession(t, "HearSession "+what, impl.HearSession(c, s, m), want)
	}
	for _, why := range []int64{0, 1, 6, 7} {
		for _, sub := range []int64{-1, 0, 20, 21} {
			wantSession(t, "FailSession "+what, impl.FailSession(c, s, why, sub), want)
		}
	}
	wantSession(t, "StartSession "+what, impl.StartSession(c, s), want)
	wantSession(t, "TickSession "+what, impl.TickSession(c, s), want)
	wantSession(t, "StopSession "+what, impl.StopSession(c, s), want)
}

func TestFaultsAreAskedFirst(t *testing.T) {
	for _, c := range faultyConfigs() {
		for _, s := range append(oneOfEachState(), faultySessions()...) {
			wantAll(t, c, s, impl.ErrRange)
		}
	}
	for _, s := range faultySessions() {
		wantAll(t, someConfig(), s, wordsSessionFault(s))
	}
	// The configuration's, ahead of the session's, which is another one.
	wantAll(t, impl.Config{As: 1}, impl.Session{State: impl.StateUp}, impl.ErrRange)
	wantAll(t, someConfig(), impl.Session{State: impl.StateUp}, impl.ErrForm)
}

func TestStartSession(t *testing.T) {
	for _, c := range configs() {
		open := impl.Message{Kind: impl.KindOpen, As: c.As, Hold: c.Hold, Id: c.Id}
		want := impl.SessionResult{Session: impl.Session{State: impl.StateSent}, Say: says(open)}
		wantSession(t, fmt.Sprint("StartSession", c), impl.StartSession(c, impl.Session{}), want)
		for _, s := range rightSessions()[1:] {
			wantSession(t, fmt.Sprint("StartSession", c, s), impl.StartSession(c, s), impl.SessionResult{Code: impl.ErrState})
		}
	}
}

func TestEachKindAtEachState(t *testing.T) {
	c := someConfig()
	idle, sent, confirm, up := oneOfEachState()[0], oneOfEachState()[1], oneOfEachState()[2], oneOfEachState()[3]
	open, update, keep := openOf(6), updateMessage(smallUpdate()), keepMessage()
	for _, m := range []impl.Message{open, update, notifyMessage(), keep} {
		wantHear(t, c, idle, m, impl.SessionResult{})
	}
	wantHear(t, c, sent, open, impl.SessionResult{Session: impl.Session{State: impl.StateConfirm, Peer: 7, Hold: 6}, Say: says(keep)})
	wantHear(t, c, sent, update, impl.SessionResult{Say: says(notifyOf(5, 1))})
	wantHear(t, c, sent, notifyMessage(), impl.SessionResult{})
	wantHear(t, c, sent, keep, impl.SessionResult{Say: says(notifyOf(5, 1))})

	wantHear(t, c, confirm, open, impl.SessionResult{Say: says(notifyOf(6, 7))})
	wantHear(t, c, confirm, update, impl.SessionResult{Say: says(notifyOf(5, 2))})
	wantHear(t, c, confirm, notifyMessage(), impl.SessionResult{})
	wantHear(t, c, confirm, keep, impl.SessionResult{Session: impl.Session{State: impl.StateUp, Peer: 12, Hold: 30, Spoke: 1}, Up: true})

	stays := impl.Session{State: impl.StateUp, Peer: 13, Hold: 40, Spoke: 2}
	wantHear(t, c, up, open, impl.SessionResult{Say: says(notifyOf(6, 7)), Down: true})
	wantHear(t, c, up, update, impl.SessionResult{Session: stays, Update: true})
	wantHear(t, c, up, notifyMessage(), impl.SessionResult{Down: true})
	wantHear(t, c, up, keep, impl.SessionResult{Session: stays})
}

func TestLesserOfBothHolds(t *testing.T) {
	holds := []int64{0, 3, 4, 5, 6, 9, 199, 200}
	for i, mine := range holds {
		for j, theirs := range holds {
			for _, as := range []int64{1, 300, 65535} {
				for _, s := range []impl.Session{{State: impl.StateSent}, {State: impl.StateSent, Since: 1000, Spoke: 1000}} {
					m := impl.Message{Kind: impl.KindOpen, As: as, Hold: theirs, Id: 1}
					then := impl.Session{State: impl.StateConfirm, Peer: as, Hold: holds[min(i, j)]}
					wantHear(t, impl.Config{As: 9, Id: 4, Hold: mine}, s, m, impl.SessionResult{Session: then, Say: says(keepMessage())})
				}
			}
		}
	}
}

func TestMessageWithAFaultIsNotHeard(t *testing.T) {
	for _, m := range faultyMessages() {
		code := wordsMessageFault(m)
		for _, s := range oneOfEachState() {
			wantHear(t, someConfig(), s, m, impl.SessionResult{Code: code})
		}
	}
	wantHear(t, someConfig(), impl.Session{}, impl.Message{}, impl.SessionResult{Code: impl.ErrForm})
	wantHear(t, someConfig(), oneOfEachState()[3], updateMessage(impl.Update{Gone: manyPrefixes(9)}), impl.SessionResult{Code: impl.ErrMany})
}

func TestWhatAnySessionHears(t *testing.T) {
	messages := []impl.Message{openOf(0), openOf(3), openOf(200), notifyOf(1, 0), notifyOf(6, 20), keepMessage(), updateMessage(impl.Update{}), updateMessage(smallUpdate())}
	for _, c := range []impl.Config{{As: 1, Id: 1}, someConfig()} {
		for _, s := range rightSessions() {
			for _, m := range messages {
				wantHear(t, c, s, m, wordsHear(c, s, m))
				if got := impl.HearSession(c, s, m); got.Session.Since != 0 || len(got.Say) > 0 && got.Session.Spoke != 0 {
					t.Errorf("%v is heard, and %v says it was not so", m, got)
				}
			}
		}
	}
}

func TestTickOfIdleAndOfSent(t *testing.T) {
	c := someConfig()
	wantTick(t, c, impl.Session{}, impl.SessionResult{})
	sent := func(since, spoke int64) impl.Session {
		return impl.Session{State: impl.StateSent, Since: since, Spoke: spoke}
	}
	timeOut := impl.SessionResult{Say: says(notifyOf(4, 0))}
	wantTick(t, c, sent(0, 0), impl.SessionResult{Session: sent(1, 1)})
	wantTick(t, c, sent(2, 2), impl.SessionResult{Session: sent(3, 3)})
	wantTick(t, c, sent(8, 8), impl.SessionResult{Session: sent(9, 9)})
	wantTick(t, c, sent(48, 48), impl.SessionResult{Session: sent(49, 49)})
	wantTick(t, c, sent(49, 49), timeOut)
	wantTick(t, c, sent(49, 0), timeOut)
	wantTick(t, c, sent(49, 1000), timeOut)
	wantTick(t, c, sent(0, 49), impl.SessionResult{Session: sent(1, 50)})
	wantTick(t, c, sent(50, 50), impl.SessionResult{Session: sent(51, 51)})
	wantTick(t, c, sent(999, 999), impl.SessionResult{Session: sent(1000, 1000)})
	wantTick(t, c, sent(1000, 3), impl.SessionResult{Session: sent(1000, 4)})
	wantTick(t, c, sent(3, 1000), impl.SessionResult{Session: sent(4, 1000)})
}

func TestTickOfOpened(t *testing.T) {
	for _, state := range []int64{impl.StateConfirm, impl.StateUp} {
		at := func(hold, since, spoke int64) impl.Session {
			return impl.Session{State: state, Peer: 12, Hold: hold, Since: since, Spoke: spoke}
		}
		timeOut := impl.SessionResult{Say: says(notifyOf(4, 0)), Down: state == impl.StateUp}
		cases := []struct {
			session impl.Session
			want    impl.SessionResult
		}{
			{at(0, 0, 0), impl.SessionResult{Session: at(0, 1, 1)}},
			{at(0, 49, 2), impl.SessionResult{Session: at(0, 50, 3)}},
			{at(0, 999, 999), impl.SessionResult{Session: at(0, 1000, 1000)}},
			{at(0, 1000, 1000), impl.SessionResult{Session: at(0, 1000, 1000)}},
			{at(200, 49, 0), impl.SessionResult{Session: at(200, 50, 1)}},
			{at(200, 198, 0), impl.SessionResult{Session: at(200, 199, 1)}},
			{at(200, 199, 0), timeOut},
			{at(200, 200, 0), timeOut},
			{at(200, 999, 0), timeOut},
			{at(200, 1000, 0), timeOut},
			{at(6, 0, 0), impl.SessionResult{Session: at(6, 1, 1)}},
			{at(6, 0, 1), impl.SessionResult{Session: at(6, 1, 2)}},
			{at(6, 0, 2), impl.SessionResult{Session: at(6, 1, 0), Say: says(keepMessage())}},
			{at(6, 0, 3), impl.SessionResult{Session: at(6, 1, 0), Say: says(keepMessage())}},
			{at(6, 4, 1000), impl.SessionResult{Session: at(6, 5, 0), Say: says(keepMessage())}},
			{at(6, 4, 1), impl.SessionResult{Session: at(6, 5, 2)}},
			{at(6, 5, 1), timeOut},
			{at(5, 0, 0), impl.SessionResult{Session: at(5, 1, 0), Say: says(keepMessage())}},
			{at(5, 3, 1), impl.SessionResult{Session: at(5, 4, 0), Say: says(keepMessage())}},
			{at(3, 0, 0), impl.SessionResult{Session: at(3, 1, 0), Say: says(keepMessage())}},
			{at(3, 1, 999), impl.SessionResult{Session: at(3, 2, 0), Say: says(keepMessage())}},
			// Both could be said: the end goes ahead, and alone.
			{at(6, 5, 2), timeOut},
			{at(5, 4, 0), timeOut},
			{at(3, 2, 1000), timeOut},
			{at(200, 199, 2), timeOut},
		}
		for _, c := range cases {
			// The own Hold does not count any more: the one that holds does.
			for _, own := range configs() {
				wantTick(t, own, c.session, c.want)
			}
		}
	}
}

func TestTickOfAnySession(t *testing.T) {
	for _, s := range rightSessions() {
		wantTick(t, someConfig(), s, wordsTick(someConfig(), s))
	}
}

func TestFailSession(t *testing.T) {
	c := someConfig()
	numbers := []int64{math.MinInt64, -1, 0, 1, 2, 5, 6, 7, 19, 20, 21, 257, math.MaxInt64}
	for _, s := range oneOfEachState() {
		for _, why := range numbers {
			for _, sub := range numbers {
				want := impl.SessionResult{Say: says(notifyOf(why, sub)), Down: s.State == impl.StateUp}
				if s.State == impl.StateIdle {
					want = impl.SessionResult{}
				}
				if why < 1 || why > 6 || sub < 0 || sub > 20 {
					want = impl.SessionResult{Code: impl.ErrRange}
				}
				wantSession(t, fmt.Sprint("FailSession", s, why, sub), impl.FailSession(c, s, why, sub), want)
			}
		}
	}
	for _, s := range rightSessions() {
		wantSession(t, fmt.Sprint("FailSession", s), impl.FailSession(c, s, 3, 1), wordsFail(c, s, 3, 1))
	}
}

func TestStopSession(t *testing.T) {
	c := someConfig()
	list := oneOfEachState()
	end := says(notifyOf(6, 2))
	wantSession(t, "StopSession of idle", impl.StopSession(c, list[0]), impl.SessionResult{})
	wantSession(t, "StopSession of sent", impl.StopSession(c, list[1]), impl.SessionResult{Say: end})
	wantSession(t, "StopSession of confirm", impl.StopSession(c, list[2]), impl.SessionResult{Say: end})
	wantSession(t, "StopSession of up", impl.StopSession(c, list[3]), impl.SessionResult{Say: end, Down: true})
	for _, s := range rightSessions() {
		wantSession(t, fmt.Sprint("StopSession", s), impl.StopSession(c, s), wordsFail(c, s, 6, 2))
	}
}

// move is one thing that happens to a session: a Kind that it hears, or one of those below.
const (
	moveStart = 5 + iota
	moveTick
	moveStop
	moveFail
	moves
)

func makeMove(c impl.Config, s impl.Session, move int, hold int64) impl.SessionResult {
	switch move {
	case moveStart:
		return impl.StartSession(c, s)
	case moveTick:
		return impl.TickSession(c, s)
	case moveStop:
		return impl.StopSession(c, s)
	case moveFail:
		return impl.FailSession(c, s, 1, 1)
	case impl.KindOpen:
		return impl.HearSession(c, s, openOf(hold))
	case impl.KindUpdate:
		return impl.HearSession(c, s, updateMessage(smallUpdate()))
	case impl.KindNotify:
		return impl.HearSession(c, s, notifyMessage())
	}
	return impl.HearSession(c, s, keepMessage())
}

// history tells what was heard behind the last start, ticks left out: an o, then
// a k, then keeps and updates is all that leads to a session that is up.
type history struct {
	heard   string
	session impl.Session
}

func (h *history) isUp() bool {
	return len(h.heard) >= 3 && h.heard[:3] == "sok"
}

// do makes a move, and holds what is answered to the promise.
func (h *history) do(t *testing.T, c impl.Config, move int, hold int64) {
	t.Helper()
	got := makeMove(c, h.session, move, hold)
	if got.Code != impl.OK {
		if got.Code != impl.ErrState || move != moveStart || h.session.State == impl.StateIdle {
			t.Fatalf("%s, move %d: %+v", h.heard, move, got)
		}
		return
	}
	wasUp := h.isUp()
	switch move {
	case moveStart:
		h.heard = "s"
	case impl.KindOpen:
		h.heard += "o"
	case impl.KindKeep:
		h.heard += "k"
	case impl.KindUpdate:
		h.heard += "u"
	}
	if got.Session.State == impl.StateIdle {
		h.heard = ""
	}
	h.session = got.Session
	isUp := h.session.State == impl.StateUp
	if impl.SessionFault(h.session) != impl.OK || isUp != h.isUp() {
		t.Fatalf("%s, move %d: %+v", h.heard, move, got)
	}
	if got.Up != (isUp && !wasUp) || got.Down != (wasUp && !isUp) || got.Update != (isUp && move == impl.KindUpdate) {
		t.Fatalf("%s, move %d: %+v", h.heard, move, got)
	}
	for _, m := range got.Say {
		if impl.MessageFault(m) != impl.OK {
			t.Fatalf("%s, move %d: says %v", h.heard, move, m)
		}
	}
}

func TestEveryShortOrder(t *testing.T) {
	const longest = 5
	for _, hold := range []int64{0, 3, 9} {
		var walk func(h history, left int)
		walk = func(h history, left int) {
			if left == 0 {
				return
			}
			for move := 1; move < moves; move++ {
				next := h
				next.do(t, someConfig(), move, hold)
				walk(next, left-1)
			}
		}
		walk(history{}, longest)
		// What follows an open that was heard, and what follows a session that is up.
		var begun history
		for _, move := range []int{moveStart, impl.KindOpen, impl.KindKeep} {
			begun.do(t, someConfig(), move, hold)
			walk(begun, longest-1)
		}
	}
}

func TestManyOrders(t *testing.T) {
	r := rand.New(rand.NewSource(11))
	holds := []int64{0, 3, 5, 6, 200}
	ups := 0
	for range 3000 {
		c := impl.Config{As: 1 + r.Int63n(65535), Id: 1 + r.Int63n(65535), Hold: holds[r.Intn(len(holds))]}
		var h history
		for range 120 {
			// More ticks, starts, opens and keeps than the rest, so that most sessions come up.
			move := []int{moveTick, moveTick, moveTick, moveStart, moveStart, impl.KindOpen, impl.KindKeep, impl.KindKeep, 1 + r.Intn(moves-1)}[r.Intn(9)]
			h.do(t, c, move, holds[r.Intn(len(holds))])
			if h.isUp() {
				ups++
			}
		}
	}
	if ups < 1000 {
		t.Errorf("only %d moves led to a session that is up", ups)
	}
}

// opened tells a session with that Hold at StateConfirm, and one that is up.
func opened(t *testing.T, mine, theirs int64) (impl.Config, []impl.Session) {
	t.Helper()
	c := impl.Config{As: 9, Id: 4, Hold: mine}
	confirm := impl.HearSession(c, impl.StartSession(c, impl.Session{}).Session, openOf(theirs))
	up := impl.HearSession(c, confirm.Session, keepMessage())
	if confirm.Session.State != impl.StateConfirm || up.Session.State != impl.StateUp {
		t.Fatal(confirm, up)
	}
	return c, []impl.Session{confirm.Session, up.Session}
}

func ticksUntilTheEnd(c impl.Config, s impl.Session, most int64) int64 {
	for n := range most {
		s = impl.TickSession(c, s).Session
		if s.State == impl.StateIdle {
			return n + 1
		}
	}
	return 0
}

func TestHoldTime(t *testing.T) {
	for _, hold := range []int64{3, 5, 6, 200} {
		for _, both := range [][2]int64{{hold, hold}, {hold, 200}, {200, hold}} {
			c, sessions := opened(t, both[0], both[1])
			for _, s := range sessions {
				if n := ticksUntilTheEnd(c, s, 1500); n != hold {
					t.Errorf("%v ends at tick %d, want %d", s, n, hold)
				}
			}
		}
	}
	for _, both := range [][2]int64{{0, 0}, {0, 3}, {3, 0}, {200, 0}, {0, 200}} {
		c, sessions := opened(t, both[0], both[1])
		for _, s := range sessions {
			if n := ticksUntilTheEnd(c, s, 1500); n != 0 {
				t.Errorf("%v has no hold time, and ends at tick %d", s, n)
			}
		}
	}
	sent := impl.StartSession(someConfig(), impl.Session{}).Session
	if n := ticksUntilTheEnd(someConfig(), sent, 1500); n != 50 {
		t.Errorf("an open that nobody answers ends at tick %d", n)
	}
}

func TestWhoHearsInTimeStaysUp(t *testing.T) {
	for _, hold := range []int64{3, 5, 6, 200} {
		for _, m := range []impl.Message{keepMessage(), updateMessage(smallUpdate())} {
			c, sessions := opened(t, hold, 200)
			s := sessions[1]
			for range 10 {
				for range hold - 1 {
					s = impl.TickSession(c, s).Session
				}
				if s = impl.HearSession(c, s, m).Session; s.State != impl.StateUp {
					t.Fatalf("Hold %d: %v", hold, s)
				}
			}
			// One that is heard a tick later is too late.
			for range hold {
				s = impl.TickSession(c, s).Session
			}
			if s = impl.HearSession(c, s, m).Session; s != (impl.Session{}) {
				t.Errorf("Hold %d: %v", hold, s)
			}
		}
	}
	// At StateConfirm a keep in the last tick leads up.
	c, sessions := opened(t, 3, 3)
	s := impl.TickSession(c, impl.TickSession(c, sessions[0]).Session).Session
	wantHear(t, c, s, keepMessage(), impl.SessionResult{Session: impl.Session{State: impl.StateUp, Peer: 7, Hold: 3}, Up: true})
}

// hearAll hears one message behind the other, and tells all that is said of it.
func hearAll(c impl.Config, s impl.Session, list []impl.Message) (impl.Session, []impl.Message) {
	var say []impl.Message
	for _, m := range list {
		got := impl.HearSession(c, s, m)
		s, say = got.Session, append(say, got.Say...)
	}
	return s, say
}

func TestTwoSessionsKeepEachOtherUp(t *testing.T) {
	for _, hold := range []int64{0, 3, 5, 6, 200} {
		a, b := impl.Config{As: 9, Id: 4, Hold: hold}, impl.Config{As: 8, Id: 5, Hold: 200}
		first, second := impl.StartSession(a, impl.Session{}), impl.StartSession(b, impl.Session{})
		s, fromA := hearAll(a, first.Session, second.Say)
		u, fromB := hearAll(b, second.Session, first.Say)
		for range 700 {
			s, _ = hearAll(a, s, fromB)
			u, _ = hearAll(b, u, fromA)
			if s.State != impl.StateUp || u.State != impl.StateUp || s.Hold != hold || u.Hold != hold {
				t.Fatalf("Hold %d: %v and %v", hold, s, u)
			}
			next, other := impl.TickSession(a, s), impl.TickSession(b, u)
			s, fromA, u, fromB = next.Session, next.Say, other.Session, other.Say
		}
	}
}

func TestSessionsChangeNoArgument(t *testing.T) {
	for _, m := range append(rightMessages(), faultyMessages()...) {
		m.Update = roomy(m.Update)
		u := m.Update
		whole := impl.Update{Gone: u.Gone[:cap(u.Gone)], Reach: u.Reach[:cap(u.Reach)], Attrs: impl.Attrs{Path: u.Attrs.Path[:cap(u.Attrs.Path)]}}
		was := cloneUpdate(whole)
		for _, s := range append(oneOfEachState(), faultySessions()[0]) {
			got := impl.HearSession(someConfig(), s, m)
			for _, said := range got.Say {
				spoilUpdate(said.Update)
			}
		}
		if !sameUpdates(whole, was) {
			t.Errorf("%v was changed", m)
		}
	}
}

// spoilSaid changes all memory of what is said, what stands behind it, too.
func spoilSaid(say []impl.Message) {
	for i := range say[:cap(say)] {
		say[:cap(say)][i] = impl.Message{Kind: -7, As: -7, Why: -7}
	}
}

func TestSessionsAnswerNewMemory(t *testing.T) {
	c := someConfig()
	for move := 1; move < moves; move++ {
		for _, s := range rightSessions()[:400] {
			got := makeMove(c, s, move, 6)
			want := got
			want.Say = slices.Clone(got.Say)
			spoilSaid(got.Say)
			wantSession(t, fmt.Sprintf("move %d of %v, told twice", move, s), makeMove(c, s, move, 6), want)
		}
	}
}

func allOfSessions(c impl.Config, s impl.Session, m impl.Message) string {
	return fmt.Sprintf("%v %v %#v %#v %#v %#v %#v", impl.ConfigFault(c), impl.SessionFault(s), impl.StartSession(c, s),
		impl.HearSession(c, s, m), impl.TickSession(c, s), impl.FailSession(c, s, m.Why, m.Sub), impl.StopSession(c, s))
}

func TestSessionsHangOnArgumentsAlone(t *testing.T) {
	empty := impl.Update{Gone: []impl.Prefix{}, Attrs: impl.Attrs{Path: []int64{}}, Reach: []impl.Prefix{}}
	c := someConfig()
	messages := []impl.Message{openMessage(), notifyMessage(), keepMessage(), updateMessage(impl.Update{}), {}}
	for _, s := range append(oneOfEachState(), faultySessions()...) {
		for _, m := range messages {
			like, near := m, m
			like.Update, near.Update = empty, roomy(m.Update)
			first := allOfSessions(c, s, m)
			for _, other := range rightSessions()[:30] {
				allOfSessions(configs()[0], other, keepMessage())
			}
			if allOfSessions(c, s, like) != first || allOfSessions(c, s, near) != first {
				t.Errorf("nil and an empty list are not answered alike in %v", m)
			}
			if allOfSessions(c, s, m) != first {
				t.Errorf("what is told of %v and %v hangs on more than these", s, m)
			}
		}
	}
}
