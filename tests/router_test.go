package tests

import (
	"bytes"
	"fmt"
	"math"
	"math/rand"
	"reflect"
	"slices"
	"testing"

	"loop.example/g00263/impl"
)

func firstCode(codes ...int64) int64 {
	for _, code := range codes {
		if code != impl.OK {
			return code
		}
	}
	return impl.OK
}

// codeIf is the code where it is so.
func codeIf(is bool, code int64) int64 {
	if is {
		return code
	}
	return impl.OK
}

func wordsSettingsFault(x impl.Settings) int64 {
	return firstCode(wordsConfigFault(x.Config), codeIf(x.Next < 0 || x.Next > 65535, impl.ErrRange), wordsRulesFault(x.Import), wordsRulesFault(x.Export))
}

func wordsEventFault(e impl.Event) int64 {
	some := len(e.Bytes) > 0
	return firstCode(codeIf(e.Kind != 1 && e.Kind != 2 && e.Kind != 3 && e.Kind != 4, impl.ErrForm),
		codeIf(e.Peer < 0 || e.Peer > 2 || e.Kind == impl.EventTick && e.Peer > 0, impl.ErrRange),
		codeIf(some && e.Kind != impl.EventInput || !some && e.Kind == impl.EventInput, impl.ErrForm),
		codeIf(len(e.Bytes) > 60, impl.ErrMany))
}

func wordsLinkFault(l impl.Link) int64 {
	state := l.Session.State
	return firstCode(wordsSessionFault(l.Session), codeIf(len(l.Buffer) > 300, impl.ErrMany), wordsToldFault(l.Told),
		codeIf(state == impl.StateIdle && len(l.Buffer) != 0 || state != impl.StateUp && len(l.Told) != 0, impl.ErrForm))
}

func wordsRouterFault(r impl.Router) int64 {
	codes := []int64{wordsSettingsFault(r.Settings), codeIf(len(r.Links) != 3, impl.ErrForm)}
	for _, l := range r.Links {
		codes = append(codes, wordsLinkFault(l))
	}
	codes = append(codes, wordsRibFault(r.Routes))
	if code := firstCode(codes...); code != impl.OK {
		return code
	}
	for _, known := range r.Routes {
		if r.Links[known.Peer].Session.State != impl.StateUp {
			return impl.ErrForm
		}
	}
	return impl.OK
}

// wordsRun is a router to which the document's words are done, with what is sent.
type wordsRun struct {
	impl.Router
	out [3][]byte
}

// say: the session is what it became, and its messages are sent.
func (w *wordsRun) say(peer int64, told impl.SessionResult) {
	if told.Code != impl.OK {
		return
	}
	w.Links[peer].Session = told.Session
	w.out[peer] = append(w.out[peer], stream(told.Say...)...)
}

func (w *wordsRun) session(peer int64) (impl.Config, impl.Session) {
	return w.Settings.Config, w.Links[peer].Session
}

func (w *wordsRun) fail(peer, why, sub int64) {
	c, s := w.session(peer)
	w.say(peer, wordsFail(c, s, why, sub))
}

func (w *wordsRun) isIdle(peer int64) bool {
	return w.Links[peer].Session.State == impl.StateIdle
}

// update does what an update asks for, and fails the session where there is no room.
func (w *wordsRun) update(peer int64, u impl.Update) {
	as := w.Settings.Config.As
	for _, p := range u.Gone {
		w.Routes = wordsDrop(w.Routes, peer, p).Routes
	}
	for _, p := range u.Reach {
		ruled := wordsApply(w.Settings.Import, as, p, u.Attrs)
		if slices.Contains(u.Attrs.Path, as) || ruled.Code != impl.OK {
			w.Routes = wordsDrop(w.Routes, peer, p).Routes
			continue
		}
		put := wordsPut(w.Routes, impl.Route{Peer: peer, Prefix: p, Attrs: ruled.Attrs})
		if put.Code != impl.OK {
			w.fail(peer, 6, 1)
			return
		}
		w.Routes = put.Routes
	}
}

func (w *wordsRun) input(peer int64, data []byte) {
	all := append(slices.Clone(w.Links[peer].Buffer), data...)
	got := wordsMessages(all)
	for i := 0; i < len(got.Messages) && !w.isIdle(peer); i++ {
		c, s := w.session(peer)
		heard := wordsHear(c, s, got.Messages[i])
		w.say(peer, heard)
		if heard.Update {
			w.update(peer, got.Messages[i].Update)
		}
	}
	w.Links[peer].Buffer = all[got.Used:]
	if got.Code != impl.OK {
		w.fail(peer, got.Why, got.Sub)
	}
}

func (w *wordsRun) do(e impl.Event) {
	c, s := w.session(e.Peer)
	switch {
	case e.Kind == impl.EventStart && w.isIdle(e.Peer):
		open := impl.Message{Kind: impl.KindOpen, As: c.As, Hold: c.Hold, Id: c.Id}
		w.say(e.Peer, impl.SessionResult{Session: impl.Session{State: impl.StateSent}, Say: says(open)})
	case e.Kind == impl.EventStop:
		w.say(e.Peer, wordsFail(c, s, 6, 2))
	case e.Kind == impl.EventTick:
		for peer := range int64(3) {
			w.say(peer, wordsTick(c, w.Links[peer].Session))
		}
	case e.Kind == impl.EventInput && !w.isIdle(e.Peer):
		w.input(e.Peer, e.Bytes)
	}
}

// tell: first who is idle is forgotten, then who is up hears what has changed.
func (w *wordsRun) tell() {
	x := w.Settings
	for peer := range int64(3) {
		if w.isIdle(peer) {
			w.Links[peer] = impl.Link{}
			w.Routes = wordsDropPeer(w.Routes, peer).Routes
		}
	}
	for peer := range int64(3) {
		l := &w.Links[peer]
		if l.Session.State != impl.StateUp {
			continue
		}
		now := wordsExportTo(w.Routes, peer, x.Export, x.Config.As, x.Next).Told
		for _, u := range wordsDelta(l.Told, now).Updates {
			w.out[peer] = append(w.out[peer], stream(updateMessage(u))...)
		}
		l.Told = now
	}
}

func wordsStep(r impl.Router, e impl.Event) impl.RouterResult {
	if code := firstCode(wordsRouterFault(r), wordsEventFault(e)); code != impl.OK {
		return impl.RouterResult{Code: code}
	}
	w := &wordsRun{Router: r}
	w.Links = slices.Clone(r.Links)
	w.do(e)
	w.tell()
	return impl.RouterResult{Router: w.Router, Out: w.out[:]}
}

func emptyRouter(x impl.Settings) impl.Router {
	return impl.Router{Settings: x, Links: make([]impl.Link, 3)}
}

func wordsRunAll(x impl.Settings, list []impl.Event) impl.RouterResult {
	codes := []int64{wordsSettingsFault(x), codeIf(len(list) > 120, impl.ErrMany)}
	for _, e := range list {
		codes = append(codes, wordsEventFault(e))
	}
	if code := firstCode(codes...); code != impl.OK {
		return impl.RouterResult{Code: code}
	}
	told := impl.RouterResult{Router: emptyRouter(x), Out: make([][]byte, 3)}
	for _, e := range list {
		next := wordsStep(told.Router, e)
		told = impl.RouterResult{Router: next.Router, Out: joined(told.Out, next.Out)}
	}
	return told
}

// joined are for each peer the bytes of both, one behind the other.
func joined(a, b [][]byte) [][]byte {
	var out [][]byte
	for peer := range a {
		out = append(out, slices.Concat(a[peer], b[peer]))
	}
	return out
}

func sameLink(a, b impl.Link) bool {
	return a.Session == b.Session && bytes.Equal(a.Buffer, b.Buffer) && sameTold(a.Told, b.Told)
}

// sameRouter holds nil and an empty list to be the same.
func sameRouter(a, b impl.Router) bool {
	same := a.Settings.Config == b.Settings.Config && a.Settings.Next == b.Settings.Next
	return same && slices.Equal(a.Settings.Import, b.Settings.Import) && slices.Equal(a.Settings.Export, b.Settings.Export) &&
		slices.EqualFunc(a.Links, b.Links, sameLink) && sameRoutes(a.Routes, b.Routes)
}

func wantRouter(t *testing.T, got, want impl.RouterResult, what string, args ...any) {
	t.Helper()
	if got.Code != want.Code || !sameRouter(got.Router, want.Router) || !slices.EqualFunc(got.Out, want.Out, bytes.Equal) {
		t.Errorf("%s%+v: %+v, want %+v", what, args, got, want)
	}
	if got.Code != impl.OK && !reflect.DeepEqual(got, impl.RouterResult{Code: got.Code}) {
		t.Errorf("%s%+v: %#v is not zero beside its code", what, args, got)
	}
	if got.Code == impl.OK {
		checkRouter(t, got)
	}
}

// checkRouter asks what is promised of any router, and of what it sends.
func checkRouter(t *testing.T, got impl.RouterResult) {
	t.Helper()
	if code := impl.RouterFault(got.Router); code != impl.OK {
		t.Errorf("%+v has the fault %d", got.Router, code)
	}
	if len(got.Out) != 3 {
		t.Errorf("there is an Out for %d peers", len(got.Out))
	}
	for peer, l := range got.Router.Links {
		readAll(t, got.Out[peer])
		isOf := func(r impl.Route) bool { return r.Peer == int64(peer) }
		if l.Session.State != impl.StateUp && (len(l.Told) > 0 || slices.ContainsFunc(got.Router.Routes, isOf)) {
			t.Errorf("peer %d is not up, and was told something, or a route of it is known: %+v", peer, got.Router)
		}
	}
}

// readAll reads what was sent to its end, in pieces of so many bytes as may be read at once.
func readAll(t *testing.T, data []byte) []impl.Message {
	t.Helper()
	var list []impl.Message
	for len(data) > 0 {
		got := impl.ReadMessages(data[:min(len(data), impl.MaxInput)])
		if got.Code != impl.OK || got.Used == 0 {
			t.Fatalf("% x cannot be read: %+v", data, got)
		}
		list = append(list, got.Messages...)
		data = data[got.Used:]
	}
	return list
}

func wantStep(t *testing.T, r impl.Router, e impl.Event, want impl.RouterResult) {
	t.Helper()
	wantRouter(t, impl.StepRouter(r, e), want, "StepRouter", r, e)
}

// checkStep holds a step to the document's words, and tells it.
func checkStep(t *testing.T, r impl.Router, e impl.Event) impl.RouterResult {
	t.Helper()
	wantStep(t, r, e, wordsStep(r, e))
	got := impl.StepRouter(r, e)
	for peer, l := range got.Router.Links {
		if l.Session.State != impl.StateUp {
			continue
		}
		// Who heard all that was sent knows what it was told.
		var updates []impl.Update
		for _, m := range readAll(t, got.Out[peer]) {
			if m.Kind == impl.KindUpdate {
				updates = append(updates, m.Update)
			}
		}
		wantTake(t, r.Links[peer].Told, updates, impl.ToldResult{Told: l.Told})
	}
	return got
}

func wantRouterFault(t *testing.T, r impl.Router, code int64) {
	t.Helper()
	if got := impl.RouterFault(r); got != code {
		t.Errorf("RouterFault(%+v): %d, want %d", r, got, code)
	}
	if code != impl.OK {
		for _, e := range append(oneOfEachEvent(), faultyEvents()...) {
			wantStep(t, r, e, impl.RouterResult{Code: code})
		}
	}
}

// wantSettingsFault holds all that ask the fault of settings to one code.
func wantSettingsFault(t *testing.T, x impl.Settings, code int64) {
	t.Helper()
	if got := impl.SettingsFault(x); got != code {
		t.Errorf("SettingsFault(%+v): %d, want %d", x, got, code)
	}
	want := impl.RouterResult{Code: code}
	if code == impl.OK {
		want = impl.RouterResult{Router: emptyRouter(x), Out: make([][]byte, 3)}
	}
	wantRouter(t, impl.NewRouter(x), want, "NewRouter", x)
	wantRouter(t, impl.RunRouter(x, nil), want, "RunRouter", x)
	wantRouter(t, impl.RunRouter(x, []impl.Event{}), want, "RunRouter", x)
	if got := impl.RouterFault(emptyRouter(x)); got != code {
		t.Errorf("RouterFault of a router with the settings %+v: %d, want %d", x, got, code)
	}
}

func wantEventFault(t *testing.T, e impl.Event, code int64) {
	t.Helper()
	if got := impl.EventFault(e); got != code {
		t.Errorf("EventFault(%+v): %d, want %d", e, got, code)
	}
	if code == impl.OK {
		return
	}
	wantStep(t, upRouter(), e, impl.RouterResult{Code: code})
	wantRouter(t, impl.RunRouter(someSettings(), []impl.Event{e}), impl.RouterResult{Code: code}, "RunRouter", e)
}

func wantSameRouters(t *testing.T, a, b impl.Router, want bool) {
	t.Helper()
	if impl.SameRouters(a, b) != want || impl.SameRouters(b, a) != want {
		t.Errorf("SameRouters(%+v, %+v) or the other way round: not %v", a, b, want)
	}
}

func someSettings() impl.Settings {
	return impl.Settings{Config: someConfig(), Next: 77}
}

// ruledSettings have rules of both kinds that change, reject and leave as they are.
func ruledSettings() impl.Settings {
	x := someSettings()
	x.Import = []impl.Rule{{Within: impl.Prefix{Addr: 512, Len: 8}, Most: 16, Deny: true, Local: -1}, {Within: impl.Prefix{Addr: 768, Len: 8}, Most: 16, Local: 300, Prepend: 2}}
	x.Export = []impl.Rule{{Within: impl.Prefix{Addr: 1024, Len: 8}, Most: 16, Deny: true, Local: -1}, {Most: 8, As: 21, Local: -1, Prepend: 1}}
	return x
}

// faultySettings have each one fault.
func faultySettings() []impl.Settings {
	var list []impl.Settings
	for _, c := range faultyConfigs() {
		list = append(list, impl.Settings{Config: c, Next: 77})
	}
	for _, next := range []int64{-1, 65536, math.MinInt64, math.MaxInt64} {
		list = append(list, impl.Settings{Config: someConfig(), Next: next})
	}
	for _, bad := range append(faultyRules(), impl.Rule{Least: 1}) {
		rules := []impl.Rule{anyRule(), bad}
		list = append(list, impl.Settings{Config: someConfig(), Import: rules}, impl.Settings{Config: someConfig(), Export: rules})
	}
	nine := slices.Repeat([]impl.Rule{anyRule()}, 9)
	return append(list, impl.Settings{Config: someConfig(), Import: nine}, impl.Settings{Config: someConfig(), Export: nine})
}

func start(peer int64) impl.Event { return impl.Event{Kind: impl.EventStart, Peer: peer} }
func stop(peer int64) impl.Event  { return impl.Event{Kind: impl.EventStop, Peer: peer} }
func tick() impl.Event            { return impl.Event{Kind: impl.EventTick} }

func inputOf(peer int64, data ...byte) impl.Event {
	return impl.Event{Kind: impl.EventInput, Peer: peer, Bytes: data}
}

func hears(peer int64, list ...impl.Message) impl.Event {
	return inputOf(peer, stream(list...)...)
}

// hello leads a session that was started up.
func hello(peer int64) impl.Event {
	return hears(peer, impl.Message{Kind: impl.KindOpen, As: 20 + peer, Hold: 30, Id: 3 + peer}, keepMessage())
}

func oneOfEachEvent() []impl.Event {
	return []impl.Event{start(1), inputOf(2, 255), tick(), stop(0)}
}

// faultyEvents have each one fault.
func faultyEvents() []impl.Event {
	long := make([]byte, 61)
	return []impl.Event{{}, {Kind: 5}, {Kind: -1, Peer: 1}, {Kind: math.MaxInt64}, {Kind: math.MinInt64},
		start(-1), start(3), stop(3), stop(-1), inputOf(3, 1), inputOf(-1, 1), {Kind: impl.EventTick, Peer: 1}, {Kind: impl.EventTick, Peer: -1},
		start(math.MaxInt64), stop(math.MinInt64),
		{Kind: impl.EventStart, Bytes: long[:1]}, {Kind: impl.EventStop, Bytes: long[:60]}, {Kind: impl.EventTick, Bytes: long[:1]}, inputOf(0),
		inputOf(0, long...), inputOf(2, make([]byte, 5000)...)}
}

// sessionAt is one of each peer at a state, with numbers of its own.
func sessionAt(state, peer int64) impl.Session {
	s := oneOfEachState()[state]
	if state > impl.StateSent {
		s.Peer = 20 + peer
	}
	return s
}

// settled has been told to each peer that is up what there is to tell.
func settled(r impl.Router) impl.Router {
	x := r.Settings
	for peer := range r.Links {
		if r.Links[peer].Session.State == impl.StateUp {
			r.Links[peer].Told = cloneTold(wordsExportTo(r.Routes, int64(peer), x.Export, x.Config.As, x.Next).Told)
		}
	}
	return r
}

// routerAt has sessions at these states, and of the routes those of peers that are up.
func routerAt(x impl.Settings, states [3]int64, routes []impl.Route) impl.Router {
	r := impl.Router{Settings: x}
	for peer, state := range states {
		r.Links = append(r.Links, impl.Link{Session: sessionAt(state, int64(peer))})
	}
	for _, known := range cloneRoutes(routes) {
		if states[known.Peer] == impl.StateUp {
			r.Routes = append(r.Routes, known)
		}
	}
	return settled(r)
}

// allStates are all that three sessions may be at.
func allStates() [][3]int64 {
	var list [][3]int64
	for i := range int64(64) {
		list = append(list, [3]int64{i / 16, i / 4 % 4, i % 4})
	}
	return list
}

// upRouter has all peers up, and several routes of each.
func upRouter() impl.Router {
	return routerAt(someSettings(), [3]int64{3, 3, 3}, manyRoutes(12))
}

// rightRouters have no fault.
func rightRouters() []impl.Router {
	list := []impl.Router{emptyRouter(someSettings()), upRouter(), routerAt(ruledSettings(), [3]int64{3, 3, 3}, manyRoutes(60)),
		routerAt(someSettings(), [3]int64{3, 3, 3}, onePerPrefix(60, 1))}
	for i, states := range allStates() {
		x := someSettings()
		if i%2 == 1 {
			x = ruledSettings()
		}
		r := routerAt(x, states, manyRoutes(min(i, 60)))
		for peer := range r.Links {
			if states[peer] != impl.StateIdle {
				r.Links[peer].Buffer = stream(keepMessage(), keepMessage())[:i%10]
			}
		}
		list = append(list, r)
	}
	// One that was told something else than there is, and one whose bytes no message begins with.
	loose := upRouter()
	loose.Links[0].Told, loose.Links[1].Told, loose.Links[2].Told = toldFrom(0, 60), nil, toldFrom(100, 3)
	odd := upRouter()
	odd.Links[0].Buffer, odd.Links[1].Buffer = bytes.Repeat([]byte{7}, 300), bytes.Repeat(stream(keepMessage()), 60)
	return append(list, loose, odd)
}

// bendsOfRouters give a router each one fault.
func bendsOfRouters() []func(r *impl.Router) {
	var list []func(r *impl.Router)
	add := func(bend func(r *impl.Router)) { list = append(list, bend) }
	for _, x := range faultySettings() {
		add(func(r *impl.Router) { r.Settings = x })
	}
	add(func(r *impl.Router) { r.Links = nil })
	add(func(r *impl.Router) { r.Links = r.Links[:2] })
	add(func(r *impl.Router) { r.Links = append(r.Links, impl.Link{}) })
	for peer := range 3 {
		for _, s := range faultySessions() {
			add(func(r *impl.Router) { r.Links[peer].Session = s })
		}
		add(func(r *impl.Router) { r.Links[peer].Buffer = make([]byte, 301) })
		for _, told := range faultyTolds() {
			add(func(r *impl.Router) { r.Links[peer].Told = told })
		}
		add(func(r *impl.Router) { r.Links[peer] = impl.Link{Buffer: []byte{255}} })
		for state := range int64(3) {
			add(func(r *impl.Router) {
				r.Links[peer] = impl.Link{Session: sessionAt(state, 0), Told: toldFrom(0, 1)}
			})
			add(func(r *impl.Router) {
				r.Links[peer] = impl.Link{Session: sessionAt(state, 0)}
				r.Routes = []impl.Route{routeOf(int64(peer), somePrefix())}
			})
		}
	}
	for _, rib := range faultyRibs() {
		add(func(r *impl.Router) { r.Routes = rib })
	}
	return list
}

func TestNumbersOfRouters(t *testing.T) {
	if impl.EventStart != 1 || impl.EventInput != 2 || impl.EventTick != 3 || impl.EventStop != 4 || impl.MaxEvents != 120 {
		t.Error("a number of routers is not that of the document")
	}
}

func TestSettingsFault(t *testing.T) {
	for _, x := range []impl.Settings{someSettings(), ruledSettings()} {
		wantSettingsFault(t, x, impl.OK)
	}
	for _, c := range configs() {
		wantSettingsFault(t, impl.Settings{Config: c}, impl.OK)
	}
	for _, x := range faultySettings() {
		code := wordsSettingsFault(x)
		if code == impl.OK {
			t.Errorf("%+v should have a fault", x)
		}
		wantSettingsFault(t, x, code)
	}
	for next, code := range map[int64]int64{-1: impl.ErrRange, 0: impl.OK, 1: impl.OK, 65535: impl.OK, 65536: impl.ErrRange} {
		wantSettingsFault(t, impl.Settings{Config: someConfig(), Next: next}, code)
	}
	for n := range 12 {
		rules, code := slices.Repeat([]impl.Rule{anyRule()}, n), codeIf(n > 8, impl.ErrMany)
		wantSettingsFault(t, impl.Settings{Config: someConfig(), Import: rules}, code)
		wantSettingsFault(t, impl.Settings{Config: someConfig(), Export: rules}, code)
		wantSettingsFault(t, impl.Settings{Config: someConfig(), Import: rules, Export: slices.Clone(rules)}, code)
	}
}

func TestWhichFaultOfSettings(t *testing.T) {
	nine, loose, wide := slices.Repeat([]impl.Rule{anyRule()}, 9), []impl.Rule{{Least: 1}}, []impl.Rule{{Most: 17, Local: -1}}
	with := func(as, next int64, in, out []impl.Rule) impl.Settings {
		return impl.Settings{Config: impl.Config{As: as, Id: 4}, Next: next, Import: in, Export: out}
	}
	// The configuration and Next are asked ahead of all rules.
	for _, rules := range [][]impl.Rule{nine, loose} {
		wantSettingsFault(t, with(0, 77, rules, nil), impl.ErrRange)
		wantSettingsFault(t, with(0, -1, rules, rules), impl.ErrRange)
		wantSettingsFault(t, with(9, -1, rules, nil), impl.ErrRange)
		wantSettingsFault(t, with(9, 65536, nil, rules), impl.ErrRange)
	}
	// Those of Import ahead of those of Export.
	wantSettingsFault(t, with(9, 77, nine, loose), impl.ErrMany)
	wantSettingsFault(t, with(9, 77, loose, nine), impl.ErrForm)
	wantSettingsFault(t, with(9, 77, loose, wide), impl.ErrForm)
	wantSettingsFault(t, with(9, 77, wide, loose), impl.ErrRange)
	wantSettingsFault(t, with(9, 77, []impl.Rule{anyRule()}, loose), impl.ErrForm)
}

func TestKindAndPeerOfAnEvent(t *testing.T) {
	for kind := int64(-2); kind < 8; kind++ {
		for peer := int64(-2); peer < 6; peer++ {
			e := impl.Event{Kind: kind, Peer: peer}
			if kind == impl.EventInput {
				e.Bytes = []byte{1}
			}
			code := firstCode(codeIf(kind < 1 || kind > 4, impl.ErrForm), codeIf(peer < 0 || peer > 2, impl.ErrRange), codeIf(kind == impl.EventTick && peer != 0, impl.ErrRange))
			wantEventFault(t, e, code)
		}
	}
	for _, c := range []struct{ kind, peer, code int64 }{
		{0, 0, impl.ErrForm}, {1, 0, impl.OK}, {4, 2, impl.OK}, {5, 0, impl.ErrForm}, {1, -1, impl.ErrRange}, {4, 3, impl.ErrRange},
		{3, 0, impl.OK}, {3, 1, impl.ErrRange}, {3, 2, impl.ErrRange}, {3, 3, impl.ErrRange}, {3, -1, impl.ErrRange},
	} {
		wantEventFault(t, impl.Event{Kind: c.kind, Peer: c.peer}, c.code)
	}
	for _, e := range faultyEvents() {
		code := wordsEventFault(e)
		if code == impl.OK {
			t.Errorf("%+v should have a fault", e)
		}
		wantEventFault(t, e, code)
	}
}

func TestBytesOfAnEvent(t *testing.T) {
	for n := range 130 {
		data := bytes.Repeat([]byte{9}, n)
		for _, kind := range []int64{impl.EventStart, impl.EventTick, impl.EventStop} {
			wantEventFault(t, impl.Event{Kind: kind, Bytes: data}, codeIf(n > 0, impl.ErrForm))
		}
		for peer := range int64(3) {
			code := firstCode(codeIf(n == 0, impl.ErrForm), codeIf(n > 60, impl.ErrMany))
			wantEventFault(t, impl.Event{Kind: impl.EventInput, Peer: peer, Bytes: data}, code)
		}
	}
	for _, kind := range []int64{impl.EventStart, impl.EventTick, impl.EventStop} {
		wantEventFault(t, impl.Event{Kind: kind, Bytes: []byte{}}, impl.OK)
	}
	wantEventFault(t, impl.Event{Kind: impl.EventInput, Bytes: []byte{}}, impl.ErrForm)
}

func TestWhichFaultOfAnEvent(t *testing.T) {
	one, long := []byte{1}, make([]byte, 61)
	for _, c := range []struct {
		e    impl.Event
		code int64
	}{
		// The Kind, the Peer, whether there are Bytes, and how many.
		{impl.Event{Kind: 0, Peer: -1}, impl.ErrForm}, {impl.Event{Kind: 5, Peer: 3, Bytes: long}, impl.ErrForm},
		{impl.Event{Kind: 5, Bytes: long}, impl.ErrForm}, {impl.Event{Peer: 7, Bytes: one}, impl.ErrForm},
		{impl.Event{Kind: impl.EventStart, Peer: 3, Bytes: one}, impl.ErrRange}, {impl.Event{Kind: impl.EventInput, Peer: 3}, impl.ErrRange},
		{impl.Event{Kind: impl.EventInput, Peer: -1, Bytes: long}, impl.ErrRange}, {impl.Event{Kind: impl.EventTick, Peer: 1, Bytes: long}, impl.ErrRange},
		{impl.Event{Kind: impl.EventTick, Bytes: long}, impl.ErrForm}, {impl.Event{Kind: impl.EventStop, Peer: 2, Bytes: long}, impl.ErrForm},
		{impl.Event{Kind: impl.EventStart, Bytes: long}, impl.ErrForm}, {impl.Event{Kind: impl.EventInput, Peer: 2, Bytes: long}, impl.ErrMany},
	} {
		wantEventFault(t, c.e, c.code)
	}
}

func TestRightRouters(t *testing.T) {
	for _, r := range rightRouters() {
		wantRouterFault(t, r, impl.OK)
	}
}

func TestRouterFault(t *testing.T) {
	for i, bend := range bendsOfRouters() {
		for _, r := range []impl.Router{upRouter(), routerAt(ruledSettings(), [3]int64{3, 3, 3}, nil)} {
			bend(&r)
			code := wordsRouterFault(r)
			if code == impl.OK {
				t.Errorf("bend %d: %+v should have a fault", i, r)
			}
			wantRouterFault(t, r, code)
		}
	}
}

func TestHowManyLinks(t *testing.T) {
	for n := range 7 {
		r := emptyRouter(someSettings())
		r.Links = make([]impl.Link, n)
		wantRouterFault(t, r, codeIf(n != 3, impl.ErrForm))
		for place := range n {
			// It is asked ahead of what any link has, and behind the settings.
			bent := r
			bent.Links = slices.Clone(r.Links)
			bent.Links[place].Session.State = 4
			wantRouterFault(t, bent, firstCode(codeIf(n != 3, impl.ErrForm), impl.ErrRange))
			bent.Settings.Next = -1
			wantRouterFault(t, bent, impl.ErrRange)
		}
		r.Routes = manyRoutes(61)
		wantRouterFault(t, r, firstCode(codeIf(n != 3, impl.ErrForm), impl.ErrMany))
	}
	r := emptyRouter(someSettings())
	r.Links = []impl.Link{}
	wantRouterFault(t, r, impl.ErrForm)
}

func TestBufferOfALink(t *testing.T) {
	for state := range int64(4) {
		for peer := range 3 {
			for _, n := range []int{0, 1, 60, 299, 300, 301, 302, 400, 5000} {
				r := routerAt(someSettings(), [3]int64{state, state, state}, nil)
				r.Links[peer].Buffer = bytes.Repeat([]byte{255}, n)
				wantRouterFault(t, r, firstCode(codeIf(n > 300, impl.ErrMany), codeIf(state == 0 && n > 0, impl.ErrForm)))
			}
		}
	}
}

func TestWhatMayBeToldAtEachState(t *testing.T) {
	for state := range int64(4) {
		for peer := range 3 {
			for _, n := range []int{0, 1, 60, 61} {
				r := routerAt(someSettings(), [3]int64{state, state, state}, nil)
				r.Links[peer].Told = toldFrom(0, n)
				wantRouterFault(t, r, firstCode(codeIf(n > 60, impl.ErrMany), codeIf(state < 3 && n > 0, impl.ErrForm)))
			}
		}
	}
}

func TestRoutesOfPeersThatAreNotUp(t *testing.T) {
	for _, states := range allStates() {
		for peer := range int64(3) {
			r := routerAt(someSettings(), states, nil)
			r.Routes = []impl.Route{routeOf(peer, somePrefix())}
			wantRouterFault(t, r, codeIf(states[peer] != impl.StateUp, impl.ErrForm))
		}
		r := routerAt(someSettings(), states, nil)
		r.Routes = manyRoutes(60)
		wantRouterFault(t, r, codeIf(states != [3]int64{3, 3, 3}, impl.ErrForm))
	}
	// Only the last one is of a peer that is not up.
	r := routerAt(someSettings(), [3]int64{3, 3, 2}, onePerPrefix(59, 1))
	wantRouterFault(t, r, impl.OK)
	r.Routes = append(r.Routes, routeOf(2, impl.Prefix{Addr: 65535, Len: 16}))
	wantRouterFault(t, r, impl.ErrForm)
}

// bentLinks have each several faults, and the code that is told of them.
func bentLinks() map[int64][]impl.Link {
	long, late, over := make([]byte, 301), faultyTellings()[:1], toldFrom(0, 61)
	swap := swappedTold(toldFrom(0, 2), 0, 1)
	wide, bare := impl.Session{State: 4}, impl.Session{State: impl.StateUp}
	return map[int64][]impl.Link{
		impl.ErrRange: {{Session: wide, Buffer: long}, {Session: wide, Told: swap}, {Session: wide, Buffer: long, Told: over},
			{Session: sessionAt(1, 0), Told: late}, {Session: impl.Session{}, Buffer: long[:1], Told: late}},
		impl.ErrForm: {{Session: bare, Buffer: long}, {Session: bare, Told: late}, {Session: bare, Told: over}, {Session: sessionAt(3, 0), Told: swap}},
		impl.ErrMany: {{Buffer: long}, {Buffer: long, Told: late}, {Session: sessionAt(3, 0), Buffer: long, Told: late},
			{Session: sessionAt(2, 0), Buffer: long, Told: swap}, {Session: sessionAt(2, 0), Told: over}, {Buffer: long[:1], Told: over}},
	}
}

func TestWhichFaultOfLinks(t *testing.T) {
	for code, links := range bentLinks() {
		for _, l := range links {
			for place := range 3 {
				r := upRouter()
				r.Links[place] = l
				wantRouterFault(t, r, code)
				// The first link that has a fault is told, whatever those behind it have.
				for other, more := range bentLinks() {
					r.Links = slices.Clone(r.Links)
					r.Links[2] = more[0]
					wantRouterFault(t, r, map[bool]int64{true: code, false: other}[place < 2])
				}
				// All links are asked ahead of the routes.
				r = upRouter()
				r.Links[place] = l
				r.Routes = manyRoutes(61)
				wantRouterFault(t, r, code)
				r.Routes = swapped(manyRoutes(3), 0, 1)
				wantRouterFault(t, r, code)
				// The settings are asked ahead of all.
				r.Settings.Import = slices.Repeat([]impl.Rule{anyRule()}, 9)
				wantRouterFault(t, r, impl.ErrMany)
			}
		}
	}
	// A link that is idle, and has bytes, ahead of a session that is none.
	r := upRouter()
	r.Links[0], r.Links[1].Session.State = impl.Link{Buffer: []byte{1}}, 4
	wantRouterFault(t, r, impl.ErrForm)
	r.Links[0], r.Links[1].Session = impl.Link{Session: sessionAt(2, 0), Told: toldFrom(0, 1)}, impl.Session{State: -1}
	wantRouterFault(t, r, impl.ErrForm)
}

func TestWhichFaultOfRoutesOfARouter(t *testing.T) {
	for _, rib := range faultyRibs() {
		for _, states := range [][3]int64{{0, 0, 0}, {3, 3, 3}, {3, 1, 3}, {2, 3, 2}} {
			// Whoever is up: the list itself is asked first.
			r := routerAt(someSettings(), states, nil)
			r.Routes = rib
			wantRouterFault(t, r, wordsRibFault(rib))
		}
	}
}

func TestFaultsOfAnyRouter(t *testing.T) {
	r := rand.New(rand.NewSource(91))
	all, bends := rightRouters(), bendsOfRouters()
	codes := map[int64]int{}
	for range 4000 {
		x := roomyCopy(all[r.Intn(len(all))])
		for range r.Intn(4) {
			// What a bend asks for may be gone by another one.
			if bend := bends[r.Intn(len(bends))]; len(x.Links) == 3 {
				bend(&x)
			}
		}
		code := wordsRouterFault(x)
		codes[code]++
		if got := impl.RouterFault(x); got != code {
			t.Fatalf("RouterFault(%+v): %d, want %d", x, got, code)
		}
		e := append(oneOfEachEvent(), faultyEvents()...)[r.Intn(12)]
		if code != impl.OK || wordsEventFault(e) != impl.OK {
			wantStep(t, x, e, impl.RouterResult{Code: firstCode(code, wordsEventFault(e))})
		}
	}
	for _, code := range []int64{impl.OK, impl.ErrForm, impl.ErrMany, impl.ErrRange} {
		if codes[code] < 100 {
			t.Errorf("code %d was hardly asked: %d", code, codes[code])
		}
	}
}

func TestNewRouter(t *testing.T) {
	for _, x := range []impl.Settings{someSettings(), ruledSettings()} {
		got := impl.NewRouter(x)
		wantRouter(t, got, impl.RouterResult{Router: emptyRouter(x), Out: make([][]byte, 3)}, "NewRouter", x)
		if len(got.Router.Links) != impl.MaxPeers || len(got.Out) != impl.MaxPeers || len(got.Router.Routes) != 0 {
			t.Errorf("NewRouter(%+v): %+v", x, got)
		}
		for peer, l := range got.Router.Links {
			if l.Session != (impl.Session{}) || len(l.Buffer)+len(l.Told)+len(got.Out[peer]) != 0 {
				t.Errorf("peer %d of a new router: %+v, % x", peer, l, got.Out[peer])
			}
		}
	}
}

func TestCodesOfStepRouter(t *testing.T) {
	for _, e := range faultyEvents() {
		for _, r := range rightRouters() {
			wantStep(t, r, e, impl.RouterResult{Code: wordsEventFault(e)})
		}
	}
	// The router is asked ahead of the event.
	many, formless := upRouter(), upRouter()
	many.Routes, formless.Links = manyRoutes(61), nil
	for _, e := range append(faultyEvents(), oneOfEachEvent()...) {
		wantStep(t, many, e, impl.RouterResult{Code: impl.ErrMany})
		wantStep(t, formless, e, impl.RouterResult{Code: impl.ErrForm})
	}
	wantStep(t, impl.Router{}, impl.Event{}, impl.RouterResult{Code: impl.ErrRange})
}

// sentTo is an Out of which just one peer hears something.
func sentTo(peer int64, list ...impl.Message) [][]byte {
	out := make([][]byte, 3)
	out[peer] = stream(list...)
	return out
}

func TestStartEvent(t *testing.T) {
	own := impl.Message{Kind: impl.KindOpen, As: 9, Hold: 9, Id: 4}
	for _, states := range allStates() {
		for peer := range int64(3) {
			r := routerAt(someSettings(), states, manyRoutes(12))
			want := impl.RouterResult{Router: r, Out: make([][]byte, 3)}
			if states[peer] == impl.StateIdle {
				want.Router.Links = slices.Clone(r.Links)
				want.Router.Links[peer].Session = impl.Session{State: impl.StateSent}
				want.Out = sentTo(peer, own)
			}
			wantStep(t, r, start(peer), want)
		}
	}
	// With a code nothing happens: what was not read stays.
	for state := int64(1); state < 4; state++ {
		r := routerAt(someSettings(), [3]int64{3, state, 0}, manyRoutes(12))
		r.Links[1].Buffer = []byte{255, 255, 0}
		wantStep(t, r, start(1), impl.RouterResult{Router: r, Out: make([][]byte, 3)})
	}
}

// downOf is the router behind the end of a peer's session, with what is sent to the others.
func downOf(r impl.Router, peer int64) (impl.Router, [][]byte) {
	now := roomyCopy(r)
	now.Links[peer] = impl.Link{}
	now.Routes = slices.DeleteFunc(now.Routes, func(known impl.Route) bool { return known.Peer == peer })
	now = settled(now)
	out := make([][]byte, 3)
	for other, l := range now.Links {
		for _, u := range wordsDelta(r.Links[other].Told, l.Told).Updates {
			if int64(other) != peer {
				out[other] = append(out[other], stream(updateMessage(u))...)
			}
		}
	}
	return now, out
}

func TestStopEvent(t *testing.T) {
	for _, states := range allStates() {
		for peer := range int64(3) {
			for _, x := range []impl.Settings{someSettings(), ruledSettings()} {
				r := routerAt(x, states, manyRoutes(30))
				if states[peer] == impl.StateIdle {
					wantStep(t, r, stop(peer), impl.RouterResult{Router: r, Out: make([][]byte, 3)})
					continue
				}
				r.Links[peer].Buffer = []byte{255, 255, 0, 9}
				now, out := downOf(r, peer)
				out[peer] = stream(notifyOf(6, 2))
				wantStep(t, r, stop(peer), impl.RouterResult{Router: now, Out: out})
			}
		}
	}
}

func TestTickEvent(t *testing.T) {
	for _, states := range allStates() {
		r := routerAt(someSettings(), states, manyRoutes(12))
		want := impl.RouterResult{Router: roomyCopy(r), Out: make([][]byte, 3)}
		for peer, state := range states {
			s := &want.Router.Links[peer].Session
			switch state {
			case impl.StateSent:
				s.Since, s.Spoke = 6, 8
			case impl.StateConfirm:
				s.Since, s.Spoke = 3, 2
			case impl.StateUp:
				// Its Spoke comes to KeepTicks.
				s.Since, s.Spoke = 5, 0
				want.Out[peer] = stream(keepMessage())
			}
			if state != impl.StateIdle {
				r.Links[peer].Buffer, want.Router.Links[peer].Buffer = []byte{255, 255}, []byte{255, 255}
			}
		}
		wantStep(t, r, tick(), want)
	}
}

// lateSession is up, and ends with the next tick.
func lateSession(peer int64) impl.Session {
	return impl.Session{State: impl.StateUp, Peer: 20 + peer, Hold: 9, Since: 8, Spoke: 1}
}

func TestTickIsToldAsAWhole(t *testing.T) {
	// Of a prefix two peers have told better routes than the third one; they end at once.
	some := somePrefix()
	for last := range int64(3) {
		r := routerAt(someSettings(), [3]int64{3, 3, 3}, nil)
		for peer := range int64(3) {
			a := pathAttrs(30 + peer)
			a.Local = 100 + (peer+3-last)%3
			r.Routes = append(r.Routes, impl.Route{Peer: peer, Prefix: some, Attrs: a})
			if peer != last {
				r.Links[peer].Session = lateSession(peer)
			}
		}
		r.Routes = append(r.Routes, routeOf((last+1)%3, impl.Prefix{Addr: 4096, Len: 12}), routeOf((last+2)%3, impl.Prefix{Addr: 8192, Len: 12}))
		r = settled(r)
		want := impl.RouterResult{Router: emptyRouter(someSettings()), Out: make([][]byte, 3)}
		want.Router.Links[last] = impl.Link{Session: impl.Session{State: impl.StateUp, Peer: 20 + last, Hold: 40, Since: 5}}
		for _, known := range r.Routes {
			if known.Peer == last {
				want.Router.Routes = append(want.Router.Routes, known)
			}
		}
		var gone []impl.Prefix
		for _, x := range r.Links[last].Told {
			gone = append(gone, x.Prefix)
		}
		if len(gone) != 3 {
			t.Fatalf("peer %d was told %v", last, gone)
		}
		for peer := range int64(3) {
			want.Out[peer] = stream(notifyOf(4, 0))
		}
		// What its session says comes first, and then in one update all that is gone.
		want.Out[last] = stream(keepMessage(), updateMessage(impl.Update{Gone: gone}))
		wantStep(t, r, tick(), want)
	}
}

func TestTicksOfAllStates(t *testing.T) {
	// Sessions of whatever numbers: what ticks tell is what TickSession tells of each.
	all := rightSessions()
	for i := range all {
		r := emptyRouter(ruledSettings())
		for peer := range 3 {
			s := all[(i+peer*811)%len(all)]
			r.Links[peer].Session = s
			if s.State == impl.StateUp {
				r.Routes = append(r.Routes, routeOf(int64(peer), impl.Prefix{Addr: int64(peer) * 4096, Len: 8}))
			}
		}
		checkStep(t, r, tick())
		checkStep(t, settled(r), tick())
	}
}

func TestInputAtAnIdleSession(t *testing.T) {
	for _, states := range allStates() {
		for peer := range int64(3) {
			if states[peer] != impl.StateIdle {
				continue
			}
			r := routerAt(someSettings(), states, manyRoutes(12))
			for _, e := range []impl.Event{hello(peer), inputOf(peer, 255), inputOf(peer, 0), hears(peer, updateMessage(smallUpdate())), hears(peer, notifyOf(6, 2)), inputOf(peer, make([]byte, 60)...)} {
				wantStep(t, r, e, impl.RouterResult{Router: r, Out: make([][]byte, 3)})
			}
		}
	}
}

func TestHelloInOnePieceAndInTwo(t *testing.T) {
	x := someSettings()
	for peer := range int64(3) {
		sent := impl.RunRouter(x, []impl.Event{start(peer)}).Router
		up := emptyRouter(x)
		up.Links[peer].Session = impl.Session{State: impl.StateUp, Peer: 20 + peer, Hold: 9}
		data := hello(peer).Bytes
		wantStep(t, sent, inputOf(peer, data...), impl.RouterResult{Router: up, Out: sentTo(peer, keepMessage())})
		for cut := 1; cut < len(data); cut++ {
			now := emptyRouter(x)
			now.Links[peer] = impl.Link{Session: impl.Session{State: impl.StateSent}, Buffer: data[:cut]}
			first, second := make([][]byte, 3), sentTo(peer, keepMessage())
			if cut >= 10 {
				now.Links[peer] = impl.Link{Session: impl.Session{State: impl.StateConfirm, Peer: 20 + peer, Hold: 9}, Buffer: data[10:cut]}
				first, second = second, first
			}
			wantStep(t, sent, inputOf(peer, data[:cut]...), impl.RouterResult{Router: now, Out: first})
			wantStep(t, now, inputOf(peer, data[cut:]...), impl.RouterResult{Router: up, Out: second})
		}
	}
}

func TestWhatWasNotUsedIsTheBuffer(t *testing.T) {
	whole := stream(keepMessage(), updateMessage(impl.Update{Gone: []impl.Prefix{somePrefix()}}), keepMessage())
	next := stream(updateMessage(impl.Update{Gone: manyPrefixes(8)}))
	for n := range 30 {
		r := upRouter()
		now := roomyCopy(r)
		now.Links[1].Session.Since, now.Links[1].Buffer = 0, next[:n]
		wantStep(t, r, inputOf(1, append(slices.Clone(whole), next[:n]...)...), impl.RouterResult{Router: now, Out: make([][]byte, 3)})
		// Alone it is not heard yet: Since stays.
		if n > 0 {
			now.Links[1].Session.Since = r.Links[1].Session.Since
			wantStep(t, r, inputOf(1, next[:n]...), impl.RouterResult{Router: now, Out: make([][]byte, 3)})
		}
		// Nothing but an input of its peer reads what is there, and none but its own.
		r.Links[1].Buffer = append(slices.Clone(next), whole[:n%5]...)
		for _, e := range []impl.Event{tick(), start(1), start(0), inputOf(0, 255), hears(2, keepMessage()), stop(0)} {
			got := checkStep(t, r, e)
			if !bytes.Equal(got.Router.Links[1].Buffer, r.Links[1].Buffer) {
				t.Errorf("%+v: the Buffer of peer 1 became % x", e, got.Router.Links[1].Buffer)
			}
		}
	}
}

func TestFullBuffer(t *testing.T) {
	keeps := bytes.Repeat(stream(keepMessage()), 72)
	r := upRouter()
	r.Links[2].Buffer = keeps[:300]
	now := upRouter()
	now.Links[2].Session.Since = 0
	wantStep(t, r, inputOf(2, keeps[300:360]...), impl.RouterResult{Router: now, Out: make([][]byte, 3)})
	now.Links[2].Buffer = []byte{255, 255, 0, 5}
	wantStep(t, r, inputOf(2, keeps[:4]...), impl.RouterResult{Router: now, Out: make([][]byte, 3)})
	// Bytes that cannot be read are told with the next input, and not ahead of it.
	r.Links[2].Buffer = append(slices.Clone(keeps[:290]), 7, 7)
	checkStep(t, r, tick())
	now, out := downOf(r, 2)
	out[2] = stream(notifyOf(1, 1))
	wantStep(t, r, inputOf(2, keeps[:5]...), impl.RouterResult{Router: now, Out: out})
}

func TestSeveralMessagesInOneEvent(t *testing.T) {
	some, other := somePrefix(), impl.Prefix{Addr: 4096, Len: 12}
	r := routerAt(someSettings(), [3]int64{1, 3, 0}, nil)
	reach := updateMessage(reachOf(impl.Told{Prefix: some, Attrs: pathAttrs(20)}))
	gone := updateMessage(impl.Update{Gone: []impl.Prefix{some}})
	more := updateMessage(reachOf(impl.Told{Prefix: other, Attrs: impl.Attrs{Path: []int64{20}}}))
	open := impl.Message{Kind: impl.KindOpen, As: 20, Hold: 0, Id: 1}
	up := impl.Session{State: impl.StateUp, Peer: 20}
	for _, c := range []struct {
		list   []impl.Message
		routes []impl.Route
	}{
		{says(open, keepMessage(), keepMessage(), keepMessage()), nil},
		{says(open, keepMessage(), more), []impl.Route{{Prefix: other, Attrs: impl.Attrs{Path: []int64{20}}}}},
		{says(open, keepMessage(), reach), []impl.Route{{Prefix: some, Attrs: pathAttrs(20)}}},
		{says(open, keepMessage(), gone, keepMessage(), gone), nil},
	} {
		want := impl.RouterResult{Router: roomyCopy(r), Out: sentTo(0, keepMessage())}
		want.Router.Links[0] = impl.Link{Session: up}
		want.Router.Routes = c.routes
		want.Router = settled(want.Router)
		for _, x := range want.Router.Links[1].Told {
			want.Out[1] = append(want.Out[1], stream(updateMessage(reachOf(x)))...)
		}
		wantStep(t, r, hears(0, c.list...), want)
	}
	// What comes and goes in one event is told to nobody.
	got := checkStep(t, checkStep(t, r, hears(0, open, keepMessage())).Router, hears(0, reach, gone))
	if len(got.Out[1]) != 0 || len(got.Router.Routes) != 0 {
		t.Errorf("what came and went was told: %+v", got)
	}
}

func TestMessagesBehindAnEnd(t *testing.T) {
	reach := updateMessage(reachOf(impl.Told{Prefix: somePrefix(), Attrs: impl.Attrs{Path: []int64{20}}}))
	open, keep := openOf(9), keepMessage()
	notify := notifyOf(6, 2)
	for _, c := range []struct {
		state int64
		list  []impl.Message
		said  []impl.Message
	}{
		{1, says(notify, open, keep), nil}, {2, says(notify, keep, reach), nil}, {3, says(notify, reach), nil}, {3, says(notify, notify, open, keep), nil},
		{1, says(keep, open, keep), says(notifyOf(5, 1))}, {1, says(reach, open), says(notifyOf(5, 1))}, {2, says(reach, keep), says(notifyOf(5, 2))},
		{2, says(open, open, keep), says(notifyOf(6, 7))}, {3, says(open, keep), says(notifyOf(6, 7))}, {3, says(reach, open, reach), says(notifyOf(6, 7))},
		{3, says(keep, reach, notify, open), nil}, {1, says(open, notify, keep), says(keep)}, {1, says(open, open, keep), says(keep, notifyOf(6, 7))},
		{2, says(keep, notify, open, keep), nil}, {1, says(open, keep, notify, keep), says(keep)},
	} {
		for peer := range int64(3) {
			states := [3]int64{3, 3, 3}
			states[peer] = c.state
			r := routerAt(someSettings(), states, manyRoutes(9))
			now, out := downOf(r, peer)
			out[peer] = stream(c.said...)
			want := impl.RouterResult{Router: now, Out: out}
			data := stream(c.list...)
			wantStep(t, r, inputOf(peer, data...), want)
			// Nor is anything kept of what stands behind it, whether it could be read or not.
			for _, rest := range [][]byte{{255}, {255, 255, 0}, {0}, {255, 255, 0, 4}, {255, 255, 0, 5, 9}} {
				if len(data)+len(rest) <= 60 {
					wantStep(t, r, inputOf(peer, append(slices.Clone(data), rest...)...), want)
				}
			}
		}
	}
}

// unreadable are bytes that no message begins with, with the Why and Sub that are told of them.
func unreadable() map[string][2]int64 {
	frame := func(kind byte, body ...byte) string {
		return string(append([]byte{255, 255, 0, byte(5 + len(body)), kind}, body...))
	}
	return map[string][2]int64{
		"\x00": {1, 1}, "\xff\xfe": {1, 1}, "\xff\xff\x01\x00": {1, 2}, "\xff\xff\x00\x04": {1, 2}, "\xff\xff\x00\x7e": {1, 2}, "\xff\xff\x00\x05\x00": {1, 3}, "\xff\xff\x00\x05\x05": {1, 3},
		frame(1): {2, 0}, frame(1, 0, 7, 9, 0): {2, 0}, frame(1, 0, 0, 9, 0, 3): {2, 2}, frame(1, 0, 7, 9, 0, 0): {2, 3}, frame(1, 0, 7, 1, 0, 3): {2, 6},
		frame(1, 0, 7, 201, 0, 3): {2, 6}, frame(3, 6): {1, 2}, frame(3, 7, 0): {1, 2}, frame(3, 6, 21): {1, 2}, frame(4, 1): {1, 2}, frame(2): {3, 1}, frame(2, 1): {3, 1}, frame(2, 1, 0, 1, 8): {3, 1},
	}
}

func TestBytesThatCannotBeRead(t *testing.T) {
	keep, open := keepMessage(), openOf(9)
	ahead := map[int64][][]impl.Message{1: {nil, says(open), says(open, keep)}, 2: {nil, says(keep), says(keep, keep)}, 3: {nil, says(keep), says(updateMessage(reachOf(impl.Told{Prefix: somePrefix()})))}}
	for bad, why := range unreadable() {
		for state, lists := range ahead {
			for _, list := range lists {
				states := [3]int64{3, state, 3}
				r := routerAt(someSettings(), states, manyRoutes(12))
				now, out := downOf(r, 1)
				if state == impl.StateSent && len(list) > 0 {
					out[1] = stream(keep)
				}
				out[1] = append(out[1], stream(notifyOf(why[0], why[1]))...)
				data := append(stream(list...), bad...)
				wantStep(t, r, inputOf(1, data...), impl.RouterResult{Router: now, Out: out})
				// What stands behind is not read, whatever it is.
				wantStep(t, r, inputOf(1, append(slices.Clone(data), stream(keep)...)...), impl.RouterResult{Router: now, Out: out})
			}
		}
	}
}

func TestBytesThatCannotBeReadInPieces(t *testing.T) {
	for bad, why := range unreadable() {
		for state := int64(1); state < 4; state++ {
			r := routerAt(someSettings(), [3]int64{state, 3, 0}, manyRoutes(12))
			now, out := downOf(r, 0)
			out[0] = stream(notifyOf(why[0], why[1]))
			for cut := 1; cut < len(bad); cut++ {
				first := impl.StepRouter(r, inputOf(0, []byte(bad[:cut])...))
				if first.Router.Links[0].Session.State == impl.StateIdle {
					t.Fatalf("% x ends the session at % x", bad, bad[:cut])
				}
				wantStep(t, first.Router, inputOf(0, []byte(bad[cut:])...), impl.RouterResult{Router: now, Out: out})
			}
		}
	}
}

func TestComeUpAndFailInOneEvent(t *testing.T) {
	// Who was up only within an event is told nothing, and nothing is known of it.
	r := routerAt(someSettings(), [3]int64{3, 2, 3}, manyRoutes(30))
	reach := updateMessage(reachOf(impl.Told{Prefix: impl.Prefix{Addr: 61440, Len: 4}}))
	now, out := downOf(r, 1)
	out[1] = stream(notifyOf(1, 1))
	wantStep(t, r, inputOf(1, append(stream(keepMessage(), reach), 0)...), impl.RouterResult{Router: now, Out: out})
	if len(out[0])+len(out[2]) != 0 {
		t.Error("others hear of it")
	}
	got := checkStep(t, r, hears(1, keepMessage(), reach))
	if len(got.Router.Links[1].Told) == 0 || len(got.Out[0]) == 0 || len(got.Out[1]) == 0 {
		t.Errorf("without the fault they should hear: %+v", got)
	}
}

// wantKnown: behind an update of a peer that stays up just these routes are known.
func wantKnown(t *testing.T, r impl.Router, peer int64, u impl.Update, routes []impl.Route) {
	t.Helper()
	got := checkStep(t, r, hears(peer, updateMessage(u)))
	if !sameRoutes(got.Router.Routes, routes) || got.Router.Links[peer].Session.State != impl.StateUp {
		t.Errorf("behind %+v of peer %d: %+v, want the routes %+v", u, peer, got.Router, routes)
	}
}

func TestGoneOfAnUpdate(t *testing.T) {
	r := upRouter()
	for _, known := range r.Routes {
		for peer := range int64(3) {
			u := impl.Update{Gone: []impl.Prefix{{Addr: 65535, Len: 16}, known.Prefix, {Len: 3}}}
			wantKnown(t, r, peer, u, wordsDrop(r.Routes, peer, known.Prefix).Routes)
			// One that goes twice is gone.
			u.Gone = append(u.Gone, known.Prefix)
			wantKnown(t, r, peer, u, wordsDrop(r.Routes, peer, known.Prefix).Routes)
		}
	}
	for peer := range int64(3) {
		wantKnown(t, r, peer, impl.Update{}, r.Routes)
		wantKnown(t, r, peer, impl.Update{Gone: []impl.Prefix{{Len: 3}, {Addr: 2561, Len: 16}}}, r.Routes)
	}
	// Eight of the peer's own at once, and those of others stay.
	r = routerAt(someSettings(), [3]int64{3, 3, 3}, append(onePerPrefix(10, 1), routeOf(2, somePrefix())))
	u := impl.Update{Gone: []impl.Prefix{}}
	for _, known := range r.Routes[1:9] {
		u.Gone = append(u.Gone, known.Prefix)
	}
	wantKnown(t, r, 1, u, []impl.Route{r.Routes[0], r.Routes[9], r.Routes[10]})
}

func TestReachOfAnUpdate(t *testing.T) {
	r := upRouter()
	a := impl.Attrs{Origin: 1, Path: []int64{20, 65535}, Next: 65535, Med: 3, Local: 65535}
	for peer := range int64(3) {
		u := impl.Update{Has: true, Attrs: a, Reach: []impl.Prefix{{Addr: 61440, Len: 4}, {}, r.Routes[4].Prefix}}
		want := r.Routes
		for _, p := range u.Reach {
			want = wordsPut(want, impl.Route{Peer: peer, Prefix: p, Attrs: a}).Routes
		}
		wantKnown(t, r, peer, u, want)
		// One that is reached twice is there once.
		u.Reach = append(u.Reach, u.Reach[0], u.Reach[0])
		wantKnown(t, r, peer, u, want)
		// Gone comes first, wherever it stands: what is in both is there.
		u.Gone = []impl.Prefix{u.Reach[0], r.Routes[4].Prefix}
		u.Reach = u.Reach[:3]
		wantKnown(t, r, peer, u, want)
		// Attributes that are zero are attributes.
		wantKnown(t, r, peer, impl.Update{Has: true, Reach: u.Reach[:1]}, wordsPut(r.Routes, impl.Route{Peer: peer, Prefix: u.Reach[0]}).Routes)
	}
}

func TestLoopOfAnUpdate(t *testing.T) {
	for _, x := range []impl.Settings{someSettings(), {Config: someConfig(), Import: []impl.Rule{anyRule()}}, {Config: someConfig(), Import: []impl.Rule{{Most: 16, Local: 5, Prepend: 1}}}} {
		r := routerAt(x, [3]int64{3, 3, 3}, manyRoutes(12))
		all := []impl.Prefix{r.Routes[0].Prefix, r.Routes[4].Prefix, {Addr: 61440, Len: 4}}
		for _, path := range [][]int64{{9}, {9, 20}, {20, 9}, {1, 2, 9, 4}, {1, 2, 3, 4, 5, 9}, {9, 9}} {
			for peer := range int64(3) {
				// Each of Reach is dropped, and each of Gone.
				u := impl.Update{Has: true, Attrs: pathAttrs(path...), Reach: all}
				want := r.Routes
				for _, p := range all {
					want = wordsDrop(want, peer, p).Routes
				}
				wantKnown(t, r, peer, u, want)
				u.Gone = []impl.Prefix{r.Routes[7].Prefix}
				wantKnown(t, r, peer, u, wordsDrop(want, peer, u.Gone[0]).Routes)
			}
		}
		for _, path := range [][]int64{nil, {8}, {10, 20}, {90, 99, 4, 77}} {
			u := impl.Update{Has: true, Attrs: pathAttrs(path...), Reach: all[2:]}
			if got := checkStep(t, r, hears(1, updateMessage(u))); len(got.Router.Routes) != 13 {
				t.Errorf("%v is no loop, and its route is not there: %+v", path, got.Router.Routes)
			}
		}
	}
}

func TestImportRules(t *testing.T) {
	some, old := somePrefix(), pathAttrs(40)
	rule := func(bend func(r *impl.Rule)) []impl.Rule {
		r := anyRule()
		bend(&r)
		return []impl.Rule{r}
	}
	local := func(n int64, path ...int64) *impl.Attrs { a := pathAttrs(path...); a.Local = n; return &a }
	for i, c := range []struct {
		rules []impl.Rule
		path  []int64
		want  *impl.Attrs
	}{
		{nil, []int64{20}, local(100, 20)}, {[]impl.Rule{anyRule()}, []int64{20}, local(100, 20)}, {[]impl.Rule{denyRule()}, []int64{20}, nil},
		{rule(func(r *impl.Rule) { r.Local = 500 }), []int64{20, 3}, local(500, 20, 3)}, {rule(func(r *impl.Rule) { r.Local = 0 }), nil, local(0)},
		{rule(func(r *impl.Rule) { r.Prepend = 3 }), []int64{20}, local(100, 9, 9, 9, 20)}, {rule(func(r *impl.Rule) { r.Prepend = 1 }), nil, local(100, 9)},
		// A Path that would be too long is rejected, as what is denied is.
		{rule(func(r *impl.Rule) { r.Prepend = 3 }), []int64{1, 2, 3}, local(100, 9, 9, 9, 1, 2, 3)}, {rule(func(r *impl.Rule) { r.Prepend = 3 }), []int64{1, 2, 3, 4}, nil},
		{rule(func(r *impl.Rule) { r.Prepend = 1 }), longPath(6), nil}, {nil, longPath(6), local(100, longPath(6)...)},
		// Only of what matches, and the first that does.
		{rule(func(r *impl.Rule) { r.As, r.Local = 20, 7 }), []int64{20}, local(7, 20)}, {rule(func(r *impl.Rule) { r.As, r.Local = 20, 7 }), []int64{21}, local(100, 21)},
		{rule(func(r *impl.Rule) { r.Least, r.Deny = 9, true }), []int64{20}, local(100, 20)}, {rule(func(r *impl.Rule) { r.Within, r.Deny = impl.Prefix{Addr: 4096, Len: 8}, true }), []int64{20}, local(100, 20)},
		{[]impl.Rule{{Most: 16, As: 21, Deny: true, Local: -1}, {Most: 16, Local: 9}, denyRule()}, []int64{20}, local(9, 20)},
		{[]impl.Rule{{Most: 16, As: 20, Deny: true, Local: -1}, anyRule()}, []int64{20}, nil},
	} {
		for _, was := range [][]impl.Route{nil, {{Peer: 1, Prefix: some, Attrs: old}}} {
			x := someSettings()
			x.Import = c.rules
			// What rules of Export say is another thing.
			x.Export = []impl.Rule{denyRule()}
			r := routerAt(x, [3]int64{3, 3, 3}, was)
			var want []impl.Route
			if c.want != nil {
				want = []impl.Route{{Peer: 1, Prefix: some, Attrs: *c.want}}
			}
			u := impl.Update{Has: true, Attrs: pathAttrs(c.path...), Reach: []impl.Prefix{some}}
			wantKnown(t, r, 1, u, want)
			if t.Failed() {
				t.Fatalf("case %d", i)
			}
		}
	}
}

func TestImportRulesOfEachReach(t *testing.T) {
	// One of Reach is rejected, one is changed, one is neither: each on its own.
	r := routerAt(ruledSettings(), [3]int64{3, 3, 3}, nil)
	r.Routes = []impl.Route{routeOf(0, impl.Prefix{Addr: 512, Len: 9}), routeOf(1, impl.Prefix{Addr: 512, Len: 9})}
	u := impl.Update{Has: true, Attrs: pathAttrs(20), Reach: []impl.Prefix{{Addr: 512, Len: 9}, {Addr: 768, Len: 9}, {Addr: 256, Len: 9}}}
	changed := pathAttrs(9, 9, 20)
	changed.Local = 300
	want := []impl.Route{{Prefix: u.Reach[2], Attrs: pathAttrs(20)}, r.Routes[1], {Prefix: u.Reach[1], Attrs: changed}}
	wantKnown(t, settled(r), 0, u, want)
}

func TestSoftUpdateTakesBack(t *testing.T) {
	some := somePrefix()
	r := routerAt(someSettings(), [3]int64{3, 3, 3}, []impl.Route{routeOf(0, some), routeOf(1, some)})
	data := stream(updateMessage(reachOf(impl.Told{Prefix: some, Attrs: impl.Attrs{Origin: 3}})))
	got := checkStep(t, r, inputOf(1, data...))
	if !sameRoutes(got.Router.Routes, r.Routes[:1]) || got.Router.Links[1].Session.State != impl.StateUp {
		t.Errorf("behind a soft fault: %+v", got)
	}
}

// fullRouter knows as many routes as there may be, 30 of each of the first two peers.
func fullRouter(x impl.Settings) impl.Router {
	list := onePerPrefix(60, 0)
	for i := range list {
		list[i] = routeOf(int64(i%2), list[i].Prefix)
	}
	return routerAt(x, [3]int64{3, 3, 3}, list)
}

func TestMoreRoutesThanThereMayBe(t *testing.T) {
	r := fullRouter(someSettings())
	more := []impl.Prefix{{Addr: 65280, Len: 9}, {Addr: 65281, Len: 16}, {Addr: 65282, Len: 16}}
	for peer := range int64(3) {
		now, out := downOf(r, peer)
		out[peer] = stream(notifyOf(6, 1))
		want := impl.RouterResult{Router: now, Out: out}
		reach := func(list ...impl.Prefix) impl.Update {
			return impl.Update{Has: true, Attrs: pathAttrs(20), Reach: list}
		}
		wantStep(t, r, hears(peer, updateMessage(reach(more[0]))), want)
		// No more of the update, and none behind it, is heard; nothing is kept of it.
		wantStep(t, r, hears(peer, updateMessage(reach(more...))), want)
		wantStep(t, r, hears(peer, updateMessage(reach(more[0])), keepMessage(), updateMessage(impl.Update{Gone: more[:1]})), want)
		wantStep(t, r, inputOf(peer, append(stream(updateMessage(reach(more[1]))), 255, 255)...), want)
		wantStep(t, r, inputOf(peer, append(stream(updateMessage(reach(more[1]))), 0, 0)...), want)
		if peer == 2 {
			continue
		}
		// What is there already is put in its place, and what goes makes room.
		own := r.Routes[peer].Prefix
		wantKnown(t, r, peer, reach(own, r.Routes[peer+2].Prefix), wordsPut(wordsPut(r.Routes, impl.Route{Peer: peer, Prefix: own, Attrs: pathAttrs(20)}).Routes, impl.Route{Peer: peer, Prefix: r.Routes[peer+2].Prefix, Attrs: pathAttrs(20)}).Routes)
		u := reach(more[0])
		u.Gone = []impl.Prefix{own}
		wantKnown(t, r, peer, u, wordsPut(wordsDrop(r.Routes, peer, own).Routes, impl.Route{Peer: peer, Prefix: more[0], Attrs: pathAttrs(20)}).Routes)
		// Room for one is not room for two, and one that another peer told makes none.
		u.Reach = more[:2]
		wantStep(t, r, hears(peer, updateMessage(u)), want)
		u.Gone, u.Reach = []impl.Prefix{r.Routes[1-peer].Prefix}, more[:1]
		wantStep(t, r, hears(peer, updateMessage(u)), want)
		wantStep(t, r, hears(peer, updateMessage(reach(own, more[0], own))), want)
	}
}

func TestRejectedRoutesNeedNoRoom(t *testing.T) {
	x := someSettings()
	x.Import = []impl.Rule{{Least: 9, Most: 16, Deny: true, Local: -1}}
	r := fullRouter(x)
	deny := impl.Update{Has: true, Attrs: pathAttrs(20), Reach: []impl.Prefix{{Addr: 65280, Len: 9}, {Addr: 65281, Len: 16}}}
	loop := impl.Update{Has: true, Attrs: pathAttrs(9), Reach: []impl.Prefix{{}, {Len: 4}}}
	for peer := range int64(3) {
		wantKnown(t, r, peer, deny, r.Routes)
		wantKnown(t, r, peer, loop, r.Routes)
	}
	// 59 are known: one more is taken, and with two all of the peer's are gone.
	r = routerAt(someSettings(), [3]int64{3, 3, 3}, onePerPrefix(59, 0))
	one := impl.Update{Has: true, Attrs: pathAttrs(20), Reach: []impl.Prefix{{Addr: 65280, Len: 9}}}
	wantKnown(t, r, 2, one, append(slices.Clone(r.Routes), impl.Route{Peer: 2, Prefix: one.Reach[0], Attrs: one.Attrs}))
	one.Reach = append(one.Reach, impl.Prefix{Addr: 65281, Len: 16})
	for peer := range int64(3) {
		now, out := downOf(r, peer)
		out[peer] = stream(notifyOf(6, 1))
		wantStep(t, r, hears(peer, updateMessage(one)), impl.RouterResult{Router: now, Out: out})
	}
}

func TestSessionThatWentDown(t *testing.T) {
	late := func(peer int64) func(r *impl.Router) impl.Event {
		return func(r *impl.Router) impl.Event {
			r.Links[peer].Session = lateSession(peer)
			return tick()
		}
	}
	for peer := range int64(3) {
		for i, way := range []func(r *impl.Router) impl.Event{
			func(*impl.Router) impl.Event { return stop(peer) }, func(*impl.Router) impl.Event { return hears(peer, notifyOf(1, 1)) },
			func(*impl.Router) impl.Event { return hears(peer, openOf(9)) }, func(*impl.Router) impl.Event { return inputOf(peer, 0) },
			func(*impl.Router) impl.Event { return hears(peer, keepMessage(), openOf(9), keepMessage()) }, late(peer),
		} {
			r := routerAt(someSettings(), [3]int64{3, 3, 3}, manyRoutes(30))
			e := way(&r)
			if e.Kind != impl.EventInput {
				r.Links[peer].Buffer = []byte{255, 255, 0, 30, 2, 0}
			}
			got := checkStep(t, r, e)
			if l := got.Router.Links[peer]; l.Session != (impl.Session{}) || len(l.Buffer)+len(l.Told) != 0 {
				t.Errorf("way %d of peer %d: %+v is left", i, peer, l)
			}
			if left := wordsDropPeer(r.Routes, peer).Routes; !sameRoutes(got.Router.Routes, left) {
				t.Errorf("way %d of peer %d: %+v are known, want %+v", i, peer, got.Router.Routes, left)
			}
			// The others hear of it behind the same event, and it is started anew like a new one.
			now, out := downOf(r, peer)
			for other := range int64(3) {
				if other != peer && !bytes.HasSuffix(got.Out[other], out[other]) || len(out[(peer+1)%3]) == 0 {
					t.Errorf("way %d of peer %d: peer %d is sent % x, want % x", i, peer, other, got.Out[other], out[other])
				}
				if !sameTold(got.Router.Links[other].Told, now.Links[other].Told) {
					t.Errorf("way %d of peer %d: peer %d was told %+v", i, peer, other, got.Router.Links[other].Told)
				}
			}
			again := checkStep(t, checkStep(t, got.Router, start(peer)).Router, hello(peer))
			if !sameTold(again.Router.Links[peer].Told, wordsExportTo(again.Router.Routes, peer, nil, 9, 77).Told) {
				t.Errorf("way %d of peer %d: it comes up again, and was told %+v", i, peer, again.Router.Links[peer].Told)
			}
		}
	}
}

func TestWhoIsToldOfARoute(t *testing.T) {
	some := somePrefix()
	a := impl.Attrs{Origin: 1, Path: []int64{20}, Next: 3, Med: 4, Local: 5}
	told := impl.Told{Prefix: some, Attrs: impl.Attrs{Origin: 1, Path: []int64{9, 20}, Next: 77}}
	for _, states := range allStates() {
		for peer := range int64(3) {
			if states[peer] != impl.StateUp {
				continue
			}
			r := routerAt(someSettings(), states, nil)
			want := impl.RouterResult{Router: roomyCopy(r), Out: make([][]byte, 3)}
			want.Router.Links[peer].Session.Since = 0
			want.Router.Routes = []impl.Route{{Peer: peer, Prefix: some, Attrs: a}}
			for other := range int64(3) {
				if other != peer && states[other] == impl.StateUp {
					// What a session last said is as long ago as it was.
					want.Router.Links[other].Told = []impl.Told{told}
					want.Out[other] = stream(updateMessage(reachOf(told)))
				}
			}
			e := hears(peer, updateMessage(reachOf(impl.Told{Prefix: some, Attrs: a})))
			wantStep(t, r, e, want)
			// Again it is no news.
			wantStep(t, want.Router, e, impl.RouterResult{Router: want.Router, Out: make([][]byte, 3)})
			// Nor is a Local that changes: others are not told it.
			a2 := a
			a2.Local, a2.Med = 900, 800
			got := checkStep(t, want.Router, hears(peer, updateMessage(reachOf(impl.Told{Prefix: some, Attrs: a2}))))
			if len(slices.Concat(got.Out...)) != 0 || got.Router.Routes[0].Attrs.Local != 900 {
				t.Errorf("a Local that changes is told: %+v", got)
			}
		}
	}
}

func TestBetterRouteIsTold(t *testing.T) {
	some := somePrefix()
	a, b := impl.Attrs{Path: []int64{20, 30}}, impl.Attrs{Path: []int64{21}}
	of := func(a impl.Attrs) impl.Message {
		return updateMessage(reachOf(impl.Told{Prefix: some, Attrs: impl.Attrs{Path: append([]int64{9}, a.Path...), Next: 77}}))
	}
	gone := updateMessage(impl.Update{Gone: []impl.Prefix{some}})
	x := someSettings()
	r := routerAt(x, [3]int64{3, 3, 3}, []impl.Route{{Peer: 0, Prefix: some, Attrs: a}})
	// Peer 1 tells a better one: it hears no other any more, peer 0 hears it for the first time, peer 2 instead of the old one.
	got := checkStep(t, r, hears(1, updateMessage(reachOf(impl.Told{Prefix: some, Attrs: b}))))
	for peer, want := range [][]byte{stream(of(b)), stream(gone), stream(of(b))} {
		if !bytes.Equal(got.Out[peer], want) {
			t.Errorf("peer %d is sent % x, want % x", peer, got.Out[peer], want)
		}
	}
	// It goes: the old one is told again.
	got = checkStep(t, got.Router, hears(1, gone))
	for peer, want := range [][]byte{stream(gone), stream(of(a)), stream(of(a))} {
		if !bytes.Equal(got.Out[peer], want) {
			t.Errorf("peer %d is sent % x, want % x", peer, got.Out[peer], want)
		}
	}
	// A worse one is told to nobody.
	worse := impl.Attrs{Path: []int64{21, 22, 23}}
	got = checkStep(t, r, hears(1, updateMessage(reachOf(impl.Told{Prefix: some, Attrs: worse}))))
	if len(slices.Concat(got.Out...)) != 0 || len(got.Router.Routes) != 2 {
		t.Errorf("a worse route is told: %+v", got)
	}
}

func TestWhoCameUpHearsAll(t *testing.T) {
	for _, n := range []int{0, 1, 2, 12, 60} {
		for peer := range int64(3) {
			for _, x := range []impl.Settings{someSettings(), ruledSettings()} {
				states := [3]int64{3, 3, 3}
				states[peer] = impl.StateConfirm
				r := routerAt(x, states, manyRoutes(n))
				got := checkStep(t, r, hears(peer, keepMessage()))
				want := wordsExportTo(r.Routes, peer, x.Export, 9, 77).Told
				var list []impl.Message
				for _, one := range want {
					list = append(list, updateMessage(reachOf(one)))
				}
				if !bytes.Equal(got.Out[peer], stream(list...)) || !sameTold(got.Router.Links[peer].Told, want) || len(got.Out[(peer+1)%3])+len(got.Out[(peer+2)%3]) != 0 {
					t.Errorf("peer %d came up, and is sent % x", peer, got.Out)
				}
			}
		}
	}
	// Who is up, and was told all, hears it only once; who is not up yet hears nothing.
	r := routerAt(someSettings(), [3]int64{3, 1, 2}, onePerPrefix(60, 0))
	got := checkStep(t, r, hears(1, openOf(9)))
	if !bytes.Equal(got.Out[1], stream(keepMessage())) || len(got.Out[2]) != 0 {
		t.Errorf("who is not up hears %+v", got.Out)
	}
}

func TestExportRulesOfARouter(t *testing.T) {
	some, other := somePrefix(), impl.Prefix{Addr: 4096, Len: 12}
	u := impl.Update{Has: true, Attrs: impl.Attrs{Path: []int64{20}, Local: 3}, Reach: []impl.Prefix{some, other}}
	tell := func(p impl.Prefix, path ...int64) impl.Message {
		return updateMessage(reachOf(impl.Told{Prefix: p, Attrs: impl.Attrs{Path: path, Next: 77}}))
	}
	for i, c := range []struct {
		rules []impl.Rule
		want  []impl.Message
	}{
		{nil, says(tell(some, 9, 20), tell(other, 9, 20))}, {[]impl.Rule{denyRule()}, nil}, {[]impl.Rule{{Most: 8, Deny: true, Local: -1}}, says(tell(other, 9, 20))},
		{[]impl.Rule{{Within: some, Least: 8, Most: 16, Local: 700, Prepend: 2}}, says(tell(some, 9, 9, 9, 20), tell(other, 9, 20))},
		{[]impl.Rule{{Most: 16, As: 20, Local: -1, Prepend: 3}}, says(tell(some, 9, 9, 9, 9, 20), tell(other, 9, 9, 9, 9, 20))},
		{[]impl.Rule{{Most: 16, As: 21, Deny: true, Local: -1}}, says(tell(some, 9, 20), tell(other, 9, 20))},
	} {
		x := someSettings()
		x.Export = c.rules
		got := checkStep(t, routerAt(x, [3]int64{3, 3, 0}, nil), hears(0, updateMessage(u)))
		if !bytes.Equal(got.Out[1], stream(c.want...)) || len(got.Router.Routes) != 2 || got.Router.Routes[0].Attrs.Local != 3 {
			t.Errorf("case %d: peer 1 is sent % x, and %+v are known", i, got.Out[1], got.Router.Routes)
		}
	}
}

func TestWhatEachLinkWasTold(t *testing.T) {
	// Whatever it was told, and whatever happens: behind an event it is told what there is.
	loose := rightRouters()[len(rightRouters())-2]
	for _, e := range []impl.Event{tick(), start(0), start(2), hears(1, keepMessage()), stop(1), inputOf(0, 255), hears(2, updateMessage(impl.Update{}))} {
		got := checkStep(t, loose, e)
		for peer, l := range got.Router.Links {
			if l.Session.State == impl.StateUp && !sameTold(l.Told, wordsExportTo(got.Router.Routes, int64(peer), nil, 9, 77).Told) {
				t.Errorf("%+v: peer %d was told %+v", e, peer, l.Told)
			}
		}
		// Then nothing more is sent.
		if again := checkStep(t, got.Router, start(2)); len(slices.Concat(again.Out...)) != 0 {
			t.Errorf("%+v: behind it % x is sent", e, again.Out)
		}
	}
	idle := roomyCopy(loose)
	idle.Links[1], idle.Routes = impl.Link{}, wordsDropPeer(idle.Routes, 1).Routes
	if got := checkStep(t, idle, hello(1)); len(got.Out[0]) == 0 || len(got.Out[1]) != 0 || len(got.Out[2]) == 0 {
		t.Errorf("behind an input at an idle session % x is sent", got.Out)
	}
}

// talker makes events by chance: of each peer a stream, in pieces.
type talker struct {
	*rand.Rand
	places int
	left   [3][]byte
}

// more is what a peer sends next: mostly updates, and seldom what ends a session.
func (k *talker) more(peer int64) []byte {
	switch n := k.Intn(60); {
	case n == 0:
		return stream(rightMessage(k.Rand))
	case n == 1:
		data := make([]byte, 1+k.Intn(12))
		k.Read(data)
		return data
	case n == 2:
		// A byte of an update that is another one.
		data := stream(updateMessage(placedUpdate(k.Rand, k.places)))
		data[5+k.Intn(len(data)-5)] = byte(k.Intn(256))
		return data
	case n == 3:
		return stream(notifyOf(1+k.Int63n(6), k.Int63n(21)))
	case n < 15:
		return stream(keepMessage())
	}
	return stream(updateMessage(placedUpdate(k.Rand, k.places)))
}

// event is one that fits to where the router is, mostly.
func (k *talker) event(r impl.Router) impl.Event {
	peer := k.Int63n(3)
	idle := r.Links[peer].Session.State == impl.StateIdle
	switch n := k.Intn(40); {
	case n == 0:
		return stop(peer)
	case n == 1 || idle && n < 30:
		if idle {
			k.left[peer] = hello(peer).Bytes
		}
		return start(peer)
	case n < 7:
		return tick()
	}
	for k.Intn(3) > 0 || len(k.left[peer]) == 0 {
		k.left[peer] = append(k.left[peer], k.more(peer)...)
	}
	cut := min(len(k.left[peer]), 1+k.Intn(60))
	if k.Intn(2) == 0 {
		cut = min(len(k.left[peer]), 60)
	}
	data := slices.Clone(k.left[peer][:cut])
	k.left[peer] = k.left[peer][cut:]
	return inputOf(peer, data...)
}

// settingsBy chance have rules of the few places of which updates speak.
func settingsBy(r *rand.Rand) impl.Settings {
	x := impl.Settings{Config: impl.Config{As: 9, Id: 1 + r.Int63n(65535), Hold: []int64{0, 3, 9, 200}[r.Intn(4)]}, Next: r.Int63n(65536)}
	for _, list := range []*[]impl.Rule{&x.Import, &x.Export} {
		for range r.Intn(4) {
			rule := impl.Rule{Least: r.Int63n(9), Most: 8 + r.Int63n(9), As: []int64{0, 0, 7, 8, 110}[r.Intn(5)], Local: -1}
			if r.Intn(3) == 0 {
				rule.Deny = true
			} else {
				rule.Local, rule.Prepend = r.Int63n(3)-1, r.Int63n(4)
			}
			if r.Intn(2) == 0 {
				rule.Within = impl.Prefix{Addr: r.Int63n(8) * 1024, Len: 6}
			}
			*list = append(*list, rule)
		}
	}
	return x
}

// seen counts what happened in lists of events.
type seen struct {
	up, full, failed, buffers, told int
}

func (s *seen) count(was impl.Router, got impl.RouterResult) {
	for peer, l := range got.Router.Links {
		before := was.Links[peer].Session.State
		s.up += int(codeIf(l.Session.State == impl.StateUp && before != impl.StateUp, 1))
		s.buffers += min(1, len(l.Buffer))
		s.told += min(1, len(l.Told))
		s.full += int(codeIf(bytes.HasPrefix(got.Out[peer], stream(notifyOf(6, 1))), 1))
		s.failed += int(codeIf(before != impl.StateIdle && l.Session.State == impl.StateIdle, 1))
	}
}

// eventsBy chance are some that a router hears, and where it comes to.
func eventsBy(t *testing.T, k *talker, x impl.Settings, n int, s *seen) ([]impl.Event, impl.RouterResult) {
	t.Helper()
	told := impl.NewRouter(x)
	var list []impl.Event
	for range n {
		e := k.event(told.Router)
		got := checkStep(t, told.Router, e)
		s.count(told.Router, got)
		list = append(list, e)
		told = impl.RouterResult{Router: got.Router, Out: joined(told.Out, got.Out)}
		if t.Failed() {
			t.Fatalf("behind %+v of %+v", list, x)
		}
	}
	return list, told
}

func TestManyListsOfEvents(t *testing.T) {
	r := rand.New(rand.NewSource(92))
	var s seen
	for range 90 {
		x := settingsBy(r)
		k := &talker{Rand: r, places: 4 + r.Intn(300)}
		list, told := eventsBy(t, k, x, r.Intn(121), &s)
		// It comes to where it comes event by event, and sends the same.
		wantRouter(t, impl.RunRouter(x, list), told, "RunRouter", x, list)
		// Run in two parts it comes to the same.
		for range 3 {
			cut := r.Intn(len(list) + 1)
			first := impl.RunRouter(x, list[:cut])
			for _, e := range list[cut:] {
				next := impl.StepRouter(first.Router, e)
				first = impl.RouterResult{Router: next.Router, Out: joined(first.Out, next.Out)}
			}
			wantRouter(t, first, told, "in two parts", x, list, cut)
		}
	}
	if s.up < 300 || s.full < 5 || s.failed < 200 || s.buffers < 2000 || s.told < 2000 {
		t.Errorf("too little happened: %+v", s)
	}
}

// inPieces is where a router comes to when it hears bytes of a peer in pieces of at most 60.
func inPieces(t *testing.T, r impl.Router, peer int64, pieces ...[]byte) impl.Router {
	t.Helper()
	for _, piece := range pieces {
		for data := range slices.Chunk(piece, 60) {
			got := impl.StepRouter(r, inputOf(peer, data...))
			if got.Code != impl.OK {
				t.Fatalf("code %d", got.Code)
			}
			r = got.Router
		}
	}
	return r
}

func TestInputCutInEveryWay(t *testing.T) {
	open := stream(openOf(9))
	for _, data := range [][]byte{open, slices.Concat(open, []byte{255, 255, 0}), append(stream(keepMessage(), keepMessage()), 255, 0, 1), append(stream(notifyOf(6, 2)), 255, 255, 1),
		append(stream(keepMessage()), 255, 255, 0, 4, 4), stream(updateMessage(impl.Update{Gone: []impl.Prefix{{}}}))} {
		for state := int64(1); state < 4; state++ {
			r := routerAt(someSettings(), [3]int64{0, state, 3}, []impl.Route{routeOf(1, impl.Prefix{}), routeOf(2, impl.Prefix{})})
			want := inPieces(t, r, 1, data)
			for way := range 1 << (len(data) - 1) {
				var pieces [][]byte
				from := 0
				for at := 1; at <= len(data); at++ {
					if at == len(data) || way>>(at-1)&1 == 1 {
						pieces = append(pieces, data[from:at])
						from = at
					}
				}
				if got := inPieces(t, r, 1, pieces...); !sameRouter(got, want) || !impl.SameRouters(got, want) {
					t.Fatalf("% x at state %d comes to %+v, and in one piece to %+v", pieces, state, got, want)
				}
			}
		}
	}
}

func TestInputCutOnceAndTwice(t *testing.T) {
	some, other := tellingAt(3), tellingAt(9)
	other.Attrs.Path = []int64{8}
	two := impl.Update{Gone: prefixesOfTold(toldFrom(0, 3)), Has: true, Attrs: other.Attrs, Reach: prefixesOfTold(toldFrom(9, 3))}
	data := stream(keepMessage(), updateMessage(reachOf(some)), updateMessage(two), updateMessage(impl.Update{Gone: []impl.Prefix{some.Prefix}}))
	for _, end := range [][]byte{nil, {255, 255, 0}, {1}, stream(notifyOf(6, 2), openOf(9)), stream(openOf(9), keepMessage())} {
		data := append(slices.Clone(data), end...)
		for state := int64(2); state < 4; state++ {
			for _, x := range []impl.Settings{someSettings(), ruledSettings()} {
				r := routerAt(x, [3]int64{state, 3, 3}, manyRoutes(20))
				want := inPieces(t, r, 0, data)
				for a := range data {
					for b := a; b < len(data); b += 7 {
						if got := inPieces(t, r, 0, data[:a], data[a:b], data[b:]); !sameRouter(got, want) {
							t.Fatalf("% x cut at %d and %d comes to %+v, and not to %+v", data, a, b, got, want)
						}
					}
				}
				var bytewise [][]byte
				for i := range data {
					bytewise = append(bytewise, data[i:i+1])
				}
				if got := inPieces(t, r, 0, bytewise...); !sameRouter(got, want) {
					t.Fatalf("% x byte by byte comes to %+v, and not to %+v", data, got, want)
				}
			}
		}
	}
}

func TestInputCutByChance(t *testing.T) {
	r := rand.New(rand.NewSource(93))
	ended := 0
	for range 150 {
		k := &talker{Rand: r, places: 4 + r.Intn(120)}
		states := [3]int64{3, 3, 3}
		peer := r.Int63n(3)
		states[peer] = 1 + r.Int63n(3)
		router := routerAt(settingsBy(r), states, manyRoutes(r.Intn(61)))
		var data []byte
		if states[peer] == impl.StateSent {
			data = hello(peer).Bytes
		}
		for range 1 + r.Intn(12) {
			data = append(data, k.more(peer)...)
		}
		want := inPieces(t, router, peer, data)
		ended += int(codeIf(want.Links[peer].Session.State == impl.StateIdle, 1))
		for range 8 {
			var pieces [][]byte
			for rest := data; len(rest) > 0; {
				n := 1 + r.Intn(min(len(rest), 1+r.Intn(60)))
				pieces, rest = append(pieces, rest[:n]), rest[n:]
			}
			if got := inPieces(t, router, peer, pieces...); !sameRouter(got, want) {
				t.Fatalf("% x of peer %d comes to %+v, and in other pieces to %+v", pieces, peer, got, want)
			}
		}
	}
	if ended < 10 || ended > 140 {
		t.Errorf("of 150 sessions %d ended", ended)
	}
}

func TestCodesOfRunRouter(t *testing.T) {
	right := []impl.Event{start(0), hello(0), tick(), start(1), stop(0)}
	for _, x := range faultySettings() {
		want := impl.RouterResult{Code: wordsSettingsFault(x)}
		// The settings, ahead of how many events there are and of each of them.
		for _, list := range [][]impl.Event{nil, right, make([]impl.Event, 121), faultyEvents()} {
			wantRouter(t, impl.RunRouter(x, list), want, "RunRouter", x, list)
		}
	}
	x := someSettings()
	for n := range 125 {
		list := slices.Repeat([]impl.Event{tick()}, n)
		wantRouter(t, impl.RunRouter(x, list), wordsRunAll(x, list), "RunRouter", n, "ticks")
		if code := codeIf(n > 120, impl.ErrMany); impl.RunRouter(x, list).Code != code {
			t.Errorf("%d events: not the code %d", n, code)
		}
		// How many there are is asked ahead of each one.
		want := impl.RouterResult{Code: firstCode(codeIf(n > 120, impl.ErrMany), impl.ErrRange)}
		if n > 0 {
			list[n/2].Peer = 1
			wantRouter(t, impl.RunRouter(x, list), want, "RunRouter", n, "ticks, one of a peer")
		}
	}
	wantRouter(t, impl.RunRouter(x, make([]impl.Event, 5000)), impl.RouterResult{Code: impl.ErrMany}, "RunRouter of 5000")
	all := faultyEvents()
	for i, bad := range all {
		for at := range len(right) + 1 {
			list := slices.Insert(slices.Clone(right), at, bad)
			want := impl.RouterResult{Code: wordsEventFault(bad)}
			wantRouter(t, impl.RunRouter(x, list), want, "RunRouter", x, list)
			// Of several the first one.
			list = append(list, all[(i*5+at)%len(all)], all[(i+7)%len(all)])
			wantRouter(t, impl.RunRouter(x, list), want, "RunRouter", x, list)
		}
	}
}

func TestRunRouter(t *testing.T) {
	x := ruledSettings()
	list := []impl.Event{start(0), hello(0), start(2), hello(2)}
	for i := range 20 {
		list = append(list, hears(int64(i%2*2), updateMessage(reachOf(tellingAt(3*i)))), tick())
	}
	list = append(list, start(1), hello(1), hears(0, updateMessage(impl.Update{Gone: []impl.Prefix{tellingAt(0).Prefix}})), stop(2), tick())
	for n := range len(list) + 1 {
		wantRouter(t, impl.RunRouter(x, list[:n]), wordsRunAll(x, list[:n]), "RunRouter", x, list[:n])
	}
	got := impl.RunRouter(x, list)
	for peer := range 3 {
		if len(readAll(t, got.Out[peer])) < 5 {
			t.Errorf("peer %d is sent % x", peer, got.Out[peer])
		}
	}
	// 120 events of which each is told to others.
	list = []impl.Event{start(0), hello(0), start(1), hello(1)}
	for i := range 116 {
		list = append(list, hears(0, updateMessage(reachOf(impl.Told{Prefix: somePrefix(), Attrs: impl.Attrs{Path: []int64{int64(100 + i)}}}))))
	}
	got = impl.RunRouter(someSettings(), list)
	wantRouter(t, got, wordsRunAll(someSettings(), list), "RunRouter", list)
	if n := len(readAll(t, got.Out[1])); n != 118 {
		t.Errorf("%d messages are sent to peer 1", n)
	}
}

// bendsOfSameness change each one thing of a router that has something of all.
func bendsOfSameness() []func(r *impl.Router) {
	var list []func(r *impl.Router)
	add := func(bends ...func(r *impl.Router)) { list = append(list, bends...) }
	add(func(r *impl.Router) { r.Settings.Config.As++ }, func(r *impl.Router) { r.Settings.Config.Id++ }, func(r *impl.Router) { r.Settings.Config.Hold-- },
		func(r *impl.Router) { r.Settings.Next++ }, func(r *impl.Router) { r.Settings.Next = -1 },
		func(r *impl.Router) { r.Settings.Import = nil }, func(r *impl.Router) { r.Settings.Export = nil },
		func(r *impl.Router) { r.Settings.Import = r.Settings.Import[:1] }, func(r *impl.Router) { r.Settings.Export = append(r.Settings.Export, impl.Rule{}) },
		func(r *impl.Router) { slices.Reverse(r.Settings.Import) }, func(r *impl.Router) { slices.Reverse(r.Settings.Export) },
		func(r *impl.Router) { r.Settings.Import, r.Settings.Export = r.Settings.Export, r.Settings.Import },
		func(r *impl.Router) { r.Links = nil }, func(r *impl.Router) { r.Links = r.Links[:2] }, func(r *impl.Router) { r.Links = append(r.Links, impl.Link{}) }, func(r *impl.Router) { slices.Reverse(r.Links) },
		func(r *impl.Router) { r.Routes = nil }, func(r *impl.Router) { r.Routes = r.Routes[:len(r.Routes)-1] }, func(r *impl.Router) { r.Routes = append(r.Routes, impl.Route{}) }, func(r *impl.Router) { slices.Reverse(r.Routes) })
	for _, bend := range []func(x *impl.Rule){
		func(x *impl.Rule) { x.Within.Addr++ }, func(x *impl.Rule) { x.Within.Len++ }, func(x *impl.Rule) { x.Least++ }, func(x *impl.Rule) { x.Most-- },
		func(x *impl.Rule) { x.As = 1 - x.As }, func(x *impl.Rule) { x.Deny = !x.Deny }, func(x *impl.Rule) { x.Local-- }, func(x *impl.Rule) { x.Prepend++ },
	} {
		for place := range 2 {
			add(func(r *impl.Router) { bend(&r.Settings.Import[place]) }, func(r *impl.Router) { bend(&r.Settings.Export[place]) })
		}
	}
	for peer := range 3 {
		for i := range 5 {
			add(func(r *impl.Router) { *sessionNumbers(&r.Links[peer].Session)[i]++ })
		}
		add(func(r *impl.Router) { r.Links[peer].Buffer = nil }, func(r *impl.Router) { r.Links[peer].Buffer[1]++ }, func(r *impl.Router) { r.Links[peer].Buffer = append(r.Links[peer].Buffer, 0) },
			func(r *impl.Router) { r.Links[peer].Told = nil }, func(r *impl.Router) { r.Links[peer].Told = r.Links[peer].Told[1:] }, func(r *impl.Router) { slices.Reverse(r.Links[peer].Told) },
			func(r *impl.Router) { r.Links[peer].Told[1].Prefix.Addr++ }, func(r *impl.Router) { r.Links[peer].Told[1].Prefix.Len++ })
		for _, bend := range bendsOfAttrs() {
			add(func(r *impl.Router) { bend(&r.Links[peer].Told[1].Attrs) })
		}
	}
	for place := range 4 {
		add(func(r *impl.Router) { r.Routes[place].Peer++ }, func(r *impl.Router) { r.Routes[place].Prefix.Addr-- }, func(r *impl.Router) { r.Routes[place].Prefix.Len++ })
		for _, bend := range bendsOfAttrs() {
			add(func(r *impl.Router) { bend(&r.Routes[place].Attrs) })
		}
	}
	return list
}

// fullOfAll has something in each of its lists.
func fullOfAll() impl.Router {
	r := routerAt(ruledSettings(), [3]int64{3, 3, 3}, manyRoutes(12))
	for peer := range r.Links {
		r.Links[peer].Buffer = []byte{255, 255, byte(peer)}
		r.Links[peer].Told = toldFrom(peer*3, 4)
	}
	return r
}

func TestSameRouters(t *testing.T) {
	for i, bend := range bendsOfSameness() {
		a, b := fullOfAll(), fullOfAll()
		bend(&a)
		if sameRouter(a, b) {
			t.Fatalf("bend %d changes nothing", i)
		}
		wantSameRouters(t, a, b, false)
		bend(&b)
		wantSameRouters(t, a, b, true)
		wantSameRouters(t, a, roomyCopy(b), true)
	}
	list := rightRouters()
	for i, a := range list {
		for j, b := range list {
			wantSameRouters(t, a, b, i == j || sameRouter(a, b))
		}
		wantSameRouters(t, a, roomyCopy(a), true)
		wantSameRouters(t, a, hollow(a, false), true)
		wantSameRouters(t, hollow(a, true), hollow(a, false), true)
	}
	wantSameRouters(t, impl.Router{}, impl.Router{}, true)
	wantSameRouters(t, impl.Router{}, hollow(impl.Router{}, true), true)
	wantSameRouters(t, impl.Router{}, emptyRouter(impl.Settings{}), false)
}

func TestSameRoutersOfFaults(t *testing.T) {
	bends := bendsOfRouters()
	var list []impl.Router
	for i := 0; i < len(bends); i += 3 {
		r := upRouter()
		bends[i](&r)
		list = append(list, r)
	}
	for i, a := range list {
		wantSameRouters(t, a, upRouter(), false)
		for j, b := range list {
			wantSameRouters(t, a, b, i == j || sameRouter(a, b))
		}
		wantSameRouters(t, a, roomyCopy(a), true)
	}
}

// roomyCopy shares nothing with what it is of, and has room behind each list.
func roomyCopy[T any](x T) T {
	return roomyValue(reflect.ValueOf(x)).Interface().(T)
}

func roomyValue(v reflect.Value) reflect.Value {
	switch v.Kind() {
	case reflect.Slice:
		out := reflect.MakeSlice(v.Type(), v.Len()+2, v.Len()+2)
		for i := range v.Len() {
			out.Index(i).Set(roomyValue(v.Index(i)))
		}
		return out.Slice(0, v.Len())
	case reflect.Struct:
		out := reflect.New(v.Type()).Elem()
		for i := range v.NumField() {
			out.Field(i).Set(roomyValue(v.Field(i)))
		}
		return out
	}
	return v
}

// hollow is a copy in which all lists that are empty are nil, or none is.
func hollow[T any](x T, isNil bool) T {
	return hollowValue(reflect.ValueOf(x), isNil).Interface().(T)
}

func hollowValue(v reflect.Value, isNil bool) reflect.Value {
	switch v.Kind() {
	case reflect.Slice:
		if v.Len() == 0 && isNil {
			return reflect.Zero(v.Type())
		}
		out := reflect.MakeSlice(v.Type(), v.Len(), v.Len())
		for i := range v.Len() {
			out.Index(i).Set(hollowValue(v.Index(i), isNil))
		}
		return out
	case reflect.Struct:
		out := reflect.New(v.Type()).Elem()
		for i := range v.NumField() {
			out.Field(i).Set(hollowValue(v.Field(i), isNil))
		}
		return out
	}
	return v
}

// eachList visits all lists of a value, up to what stands behind them.
func eachList(v reflect.Value, visit func(list reflect.Value)) {
	switch v.Kind() {
	case reflect.Slice:
		visit(v)
		for i := range v.Cap() {
			eachList(v.Slice(0, v.Cap()).Index(i), visit)
		}
	case reflect.Struct:
		for i := range v.NumField() {
			eachList(v.Field(i), visit)
		}
	}
}

// memoryOfAll is what all lists have, with what stands behind them.
func memoryOfAll(values ...any) string {
	var said []any
	for _, x := range values {
		said = append(said, x)
		eachList(reflect.ValueOf(x), func(list reflect.Value) {
			said = append(said, list.Slice(0, list.Cap()).Interface())
		})
	}
	return fmt.Sprint(said...)
}

// span is where a list stands in memory.
type span struct{ from, to uintptr }

func spansOf(x any) []span {
	var list []span
	eachList(reflect.ValueOf(x), func(v reflect.Value) {
		if v.Cap() > 0 {
			list = append(list, span{v.Pointer(), v.Pointer() + uintptr(v.Cap())*v.Type().Elem().Size()})
		}
	})
	return list
}

// shareMemory tells whether any list stands where another one does.
func shareMemory(list []span) bool {
	slices.SortFunc(list, func(a, b span) int { return int(a.from) - int(b.from) })
	for i := 1; i < len(list); i++ {
		if list[i].from < list[i-1].to {
			return true
		}
	}
	return false
}

// routerArgs are all that the functions of this chapter take.
type routerArgs struct {
	Router   impl.Router
	Settings impl.Settings
	Event    impl.Event
	Events   []impl.Event
}

func routerCalls() []func(x routerArgs) impl.RouterResult {
	return []func(x routerArgs) impl.RouterResult{
		func(x routerArgs) impl.RouterResult { return impl.NewRouter(x.Settings) },
		func(x routerArgs) impl.RouterResult { return impl.StepRouter(x.Router, x.Event) },
		func(x routerArgs) impl.RouterResult { return impl.RunRouter(x.Settings, x.Events) },
		func(x routerArgs) impl.RouterResult { return impl.RunRouter(x.Settings, nil) },
	}
}

// someRouterArgs have nothing, something, all that may be, and faults; of some nothing happens.
func someRouterArgs() []routerArgs {
	r := rand.New(rand.NewSource(94))
	events := append(oneOfEachEvent(), hello(0), hello(1), hello(2), start(0), start(2), hears(0, updateMessage(smallUpdate())), hears(1, notifyOf(6, 2)), inputOf(2, 0),
		hears(1, updateMessage(reachOf(tellingAt(4))), updateMessage(impl.Update{Gone: prefixesOfTold(toldFrom(0, 3))})), hears(2, updateMessage(impl.Update{})))
	k := &talker{Rand: r, places: 30}
	list := []routerArgs{{}, {Settings: someSettings()}}
	for i, router := range rightRouters() {
		x := routerArgs{Router: router, Settings: router.Settings, Event: events[i%len(events)]}
		for range r.Intn(40) {
			x.Events = append(x.Events, k.event(router))
		}
		list = append(list, x)
		x.Event, x.Events = events[(i*3+1)%len(events)], append(x.Events, faultyEvents()[i%len(faultyEvents())])
		list = append(list, x)
	}
	bends := bendsOfRouters()
	for i := 0; i < len(bends); i += 9 {
		router := fullOfAll()
		bends[i](&router)
		list = append(list, routerArgs{Router: router, Settings: router.Settings, Event: events[i%len(events)], Events: events})
	}
	return list
}

func TestRoutersChangeNoArgument(t *testing.T) {
	for _, was := range someRouterArgs() {
		x := roomyCopy(was)
		memory := memoryOfAll(x)
		for i, call := range routerCalls() {
			call(x)
			if memoryOfAll(x) != memory {
				t.Fatalf("call %d has changed its arguments: %+v", i, was)
			}
		}
		impl.SettingsFault(x.Settings)
		impl.RouterFault(x.Router)
		impl.EventFault(x.Event)
		impl.SameRouters(x.Router, x.Router)
		impl.SameRouters(x.Router, upRouter())
		if memoryOfAll(x) != memory {
			t.Fatalf("%+v was changed", was)
		}
	}
}

func TestRoutersAnswerNewMemory(t *testing.T) {
	for _, was := range someRouterArgs() {
		for i, call := range routerCalls() {
			x := roomyCopy(was)
			first, second := call(x), call(x)
			if shareMemory(slices.Concat(spansOf(x), spansOf(first), spansOf(second))) {
				t.Fatalf("call %d: lists share memory with one another, or with the arguments: %+v", i, was)
			}
			wantRouter(t, second, first, "again", was)
			// So that none of them is gone ahead of being looked at.
			reflect.ValueOf([]any{x, first, second}).Len()
		}
	}
}

func TestRoutersOfSharedLists(t *testing.T) {
	// All lists of the arguments are one and the same: in an answer each is its own.
	path, data, rules := append(longPath(3), 1, 2, 3), bytes.Repeat([]byte{255}, 8), []impl.Rule{anyRule(), {Most: 16, Local: 7}}
	told, known := toldFrom(0, 6), manyRoutes(9)
	for i := range told {
		told[i].Attrs.Path = path[:3]
	}
	for i := range known {
		known[i].Attrs.Path = path[:2]
	}
	x := impl.Settings{Config: someConfig(), Import: rules[:1], Export: rules[:1]}
	r := impl.Router{Settings: x, Routes: known}
	for peer := range int64(3) {
		r.Links = append(r.Links, impl.Link{Session: sessionAt(3, peer), Buffer: data[:2], Told: told[:4]})
	}
	args := []any{path, data, rules, told[:0], known[:0]}
	memory := memoryOfAll(append(args, r)...)
	for _, e := range []impl.Event{tick(), start(1), inputOf(1, data[2:4]...), stop(1), inputOf(0, 0, 5), inputOf(2, data[:1]...)} {
		got := impl.StepRouter(r, e)
		if got.Code != impl.OK || shareMemory(spansOf(got)) || memoryOfAll(append(args, r)...) != memory {
			t.Fatalf("behind %+v lists are shared, or arguments changed", e)
		}
		for _, s := range spansOf(got) {
			for _, arg := range append(args, r) {
				for _, other := range spansOf(arg) {
					if s.from < other.to && other.from < s.to {
						t.Fatalf("behind %+v what is answered shares memory with an argument", e)
					}
				}
			}
		}
	}
}

// allOfRouters tells all that the functions of this chapter answer, nil and empty lists apart.
func allOfRouters(x routerArgs) string {
	said := []any{impl.SettingsFault(x.Settings), impl.RouterFault(x.Router), impl.EventFault(x.Event), impl.SameRouters(x.Router, x.Router), impl.SameRouters(x.Router, upRouter())}
	for _, call := range routerCalls() {
		said = append(said, fmt.Sprintf("%#v", call(x)))
	}
	return fmt.Sprint(said...)
}

func TestRoutersHangOnArgumentsAlone(t *testing.T) {
	list := someRouterArgs()
	for i, x := range list {
		first := allOfRouters(x)
		allOfRouters(list[(i*7+5)%len(list)])
		if allOfRouters(x) != first || allOfRouters(roomyCopy(x)) != first {
			t.Fatalf("what is told of %+v hangs on more than it", x)
		}
		if allOfRouters(hollow(x, true)) != first || allOfRouters(hollow(x, false)) != first {
			t.Fatalf("nil and an empty list in %+v are not answered alike", x)
		}
	}
}
