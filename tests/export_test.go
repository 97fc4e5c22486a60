package tests

import (
	"fmt"
	"math"
	"math/rand"
	"reflect"
	"slices"
	"testing"

	"loop.example/g00263/impl"
)

// wordsAhead tells whether p stands ahead of q, where neither has a fault.
func wordsAhead(p, q impl.Prefix) bool {
	return p.Addr*100+p.Len < q.Addr*100+q.Len
}

func wordsToldFault(list []impl.Told) int64 {
	if len(list) > 60 {
		return impl.ErrMany
	}
	for i, x := range list {
		for _, code := range []int64{wordsFault(x.Prefix), wordsAttrsFault(x.Attrs)} {
			if code != impl.OK {
				return code
			}
		}
		if i > 0 && !wordsAhead(list[i-1].Prefix, x.Prefix) {
			return impl.ErrForm
		}
	}
	return impl.OK
}

func wordsExportFault(list []impl.Route, peer int64, rules []impl.Rule, mine, next int64) int64 {
	codes := []int64{wordsRibFault(list), impl.OK, wordsRulesFault(rules), impl.OK}
	if peer < 0 || peer > 2 {
		codes[1] = impl.ErrRange
	}
	if mine < 1 || mine > 65535 || next < 0 || next > 65535 {
		codes[3] = impl.ErrRange
	}
	for _, code := range codes {
		if code != impl.OK {
			return code
		}
	}
	return impl.OK
}

func wordsExportTo(list []impl.Route, peer int64, rules []impl.Rule, mine, next int64) impl.ToldResult {
	told := impl.ToldResult{Code: wordsExportFault(list, peer, rules, mine, next)}
	if told.Code != impl.OK {
		return told
	}
	for _, best := range wordsBestOfAll(list).Routes {
		ruled := wordsApply(rules, mine, best.Prefix, best.Attrs)
		out := wordsExport(ruled.Attrs, mine, next)
		if best.Peer != peer && ruled.Code == impl.OK && out.Code == impl.OK {
			told.Told = append(told.Told, impl.Told{Prefix: best.Prefix, Attrs: out.Attrs})
		}
	}
	return told
}

func placeOf(list []impl.Told, p impl.Prefix) int {
	return slices.IndexFunc(list, func(x impl.Told) bool { return x.Prefix == p })
}

func reachOf(x impl.Told) impl.Update {
	return impl.Update{Has: true, Attrs: x.Attrs, Reach: []impl.Prefix{x.Prefix}}
}

func wordsDelta(was, now []impl.Told) impl.UpdatesResult {
	for _, code := range []int64{wordsToldFault(was), wordsToldFault(now)} {
		if code != impl.OK {
			return impl.UpdatesResult{Code: code}
		}
	}
	var out []impl.Update
	for _, x := range was {
		if placeOf(now, x.Prefix) >= 0 {
			continue
		}
		if len(out) == 0 || len(out[len(out)-1].Gone) == 8 {
			out = append(out, impl.Update{})
		}
		last := &out[len(out)-1]
		last.Gone = append(last.Gone, x.Prefix)
	}
	for _, x := range now {
		if at := placeOf(was, x.Prefix); at < 0 || !sameAttrs(was[at].Attrs, x.Attrs) {
			out = append(out, reachOf(x))
		}
	}
	return impl.UpdatesResult{Updates: out}
}

func withoutPrefix(list []impl.Told, p impl.Prefix) []impl.Told {
	return slices.DeleteFunc(slices.Clone(list), func(x impl.Told) bool { return x.Prefix == p })
}

func wordsTake(list []impl.Told, updates []impl.Update) impl.ToldResult {
	if code := wordsToldFault(list); code != impl.OK {
		return impl.ToldResult{Code: code}
	}
	if len(updates) > 200 {
		return impl.ToldResult{Code: impl.ErrMany}
	}
	for _, u := range updates {
		if code := wordsUpdateFault(u); code != impl.OK {
			return impl.ToldResult{Code: code}
		}
	}
	for _, u := range updates {
		for _, p := range u.Gone {
			list = withoutPrefix(list, p)
		}
		for _, p := range u.Reach {
			list = withoutPrefix(list, p)
			at := slices.IndexFunc(list, func(x impl.Told) bool { return wordsAhead(p, x.Prefix) })
			if at < 0 {
				at = len(list)
			}
			list = slices.Insert(list, at, impl.Told{Prefix: p, Attrs: u.Attrs})
		}
		if len(list) > 60 {
			return impl.ToldResult{Code: impl.ErrMany}
		}
	}
	return impl.ToldResult{Told: list}
}

func sameTelling(a, b impl.Told) bool {
	return a.Prefix == b.Prefix && sameAttrs(a.Attrs, b.Attrs)
}

func sameTold(a, b []impl.Told) bool {
	return slices.EqualFunc(a, b, sameTelling)
}

func wantToldFault(t *testing.T, list []impl.Told, code int64) {
	t.Helper()
	if got := impl.ToldFault(list); got != code {
		t.Errorf("ToldFault(%v): %d, want %d", list, got, code)
	}
}

func wantTold(t *testing.T, got, want impl.ToldResult, what string, args ...any) {
	t.Helper()
	if got.Code != want.Code || !sameTold(got.Told, want.Told) {
		t.Errorf("%s%v: %+v, want %+v", what, args, got, want)
	}
	if got.Code != impl.OK && !reflect.DeepEqual(got, impl.ToldResult{Code: got.Code}) {
		t.Errorf("%s%v: %#v is not zero beside its code", what, args, got)
	}
	// What is told is a list that all others take.
	if code := impl.ToldFault(got.Told); code != impl.OK {
		t.Errorf("%s%v: %+v has the fault %d", what, args, got, code)
	}
}

func wantExportTo(t *testing.T, list []impl.Route, peer int64, rules []impl.Rule, mine, next int64, want impl.ToldResult) {
	t.Helper()
	wantTold(t, impl.ExportTo(list, peer, rules, mine, next), want, "ExportTo", list, peer, rules, mine, next)
}

func wantTake(t *testing.T, list []impl.Told, updates []impl.Update, want impl.ToldResult) {
	t.Helper()
	wantTold(t, impl.TakeUpdates(list, updates), want, "TakeUpdates", list, updates)
}

func wantDelta(t *testing.T, was, now []impl.Told, want impl.UpdatesResult) {
	t.Helper()
	got := impl.DeltaOf(was, now)
	if got.Code != want.Code || !slices.EqualFunc(got.Updates, want.Updates, sameUpdates) {
		t.Errorf("DeltaOf(%v, %v): %+v, want %+v", was, now, got, want)
	}
	if got.Code != impl.OK && !reflect.DeepEqual(got, impl.UpdatesResult{Code: got.Code}) {
		t.Errorf("DeltaOf(%v, %v): %#v is not zero beside its code", was, now, got)
	}
	for _, u := range got.Updates {
		if code := impl.UpdateFault(u); code != impl.OK {
			t.Errorf("DeltaOf(%v, %v): %v has the fault %d", was, now, u, code)
		}
	}
}

func wantSameTold(t *testing.T, a, b []impl.Told, want bool) {
	t.Helper()
	if impl.SameTold(a, b) != want || impl.SameTold(b, a) != want {
		t.Errorf("SameTold(%v, %v) or the other way round: not %v", a, b, want)
	}
}

// tellingAt is the one that stands at a place of all that could be told in order.
func tellingAt(place int) impl.Told {
	at := int64(place)
	p := impl.Prefix{Addr: at / 2 * 256, Len: 8 + at%2*8}
	a := pathAttrs(7+at%3, 100+at)
	a.Med = at
	return impl.Told{Prefix: p, Attrs: a}
}

// toldFrom are n that stand behind one another in order, from a place on.
func toldFrom(place, n int) []impl.Told {
	var list []impl.Told
	for i := range n {
		list = append(list, tellingAt(place+i))
	}
	return list
}

func prefixesOfTold(list []impl.Told) []impl.Prefix {
	var out []impl.Prefix
	for _, x := range list {
		out = append(out, x.Prefix)
	}
	return out
}

// faultyTellings have each one fault.
func faultyTellings() []impl.Told {
	var list []impl.Told
	for _, p := range faultyPrefixes() {
		list = append(list, impl.Told{Prefix: p, Attrs: pathAttrs(7)})
	}
	for _, a := range faultyAttrs() {
		list = append(list, impl.Told{Prefix: impl.Prefix{Addr: 65280, Len: 8}, Attrs: a})
	}
	return list
}

func swappedTold(list []impl.Told, i, j int) []impl.Told {
	list[i], list[j] = list[j], list[i]
	return list
}

// faultyTolds are lists that have each one fault.
func faultyTolds() [][]impl.Told {
	lists := [][]impl.Told{toldFrom(0, 61), swappedTold(toldFrom(0, 2), 0, 1), swappedTold(toldFrom(0, 9), 3, 7), append(toldFrom(0, 4), tellingAt(3))}
	for _, x := range faultyTellings() {
		lists = append(lists, []impl.Told{x}, append(toldFrom(0, 2), x))
	}
	return lists
}

// bendsOfAttrs change each one field, to another one without a fault.
func bendsOfAttrs() []func(a *impl.Attrs) {
	return []func(a *impl.Attrs){
		func(a *impl.Attrs) { a.Origin = 1 - a.Origin/2 }, func(a *impl.Attrs) { a.Next++ },
		func(a *impl.Attrs) { a.Med++ }, func(a *impl.Attrs) { a.Local-- },
		func(a *impl.Attrs) { a.Path = append(slices.Clone(a.Path), 7) }, func(a *impl.Attrs) { a.Path = nil },
		func(a *impl.Attrs) { a.Path = a.Path[:len(a.Path)-1] },
		func(a *impl.Attrs) { a.Path = append([]int64{a.Path[0] + 1}, a.Path[1:]...) },
		func(a *impl.Attrs) {
			a.Path = append(slices.Clone(a.Path[:len(a.Path)-1]), a.Path[len(a.Path)-1]+1)
		},
		func(a *impl.Attrs) { a.Path = []int64{a.Path[1], a.Path[0]} },
	}
}

func TestHowMuchMayBeTold(t *testing.T) {
	wantToldFault(t, nil, impl.OK)
	wantToldFault(t, []impl.Told{}, impl.OK)
	for n := range 70 {
		want := int64(impl.OK)
		if n > 60 {
			want = impl.ErrMany
		}
		wantToldFault(t, toldFrom(0, n), want)
		wantToldFault(t, toldFrom(300, n), want)
	}
	wantToldFault(t, make([]impl.Told, 5000), impl.ErrMany)
}

func TestPrefixAndAttrsOfWhatIsTold(t *testing.T) {
	for _, p := range edgePrefixes() {
		wantToldFault(t, []impl.Told{{Prefix: p}}, wordsFault(p))
	}
	for _, x := range faultyTellings() {
		want := wordsToldFault([]impl.Told{x})
		if want == impl.OK {
			t.Errorf("%v should have a fault", x)
		}
		wantToldFault(t, []impl.Told{x}, want)
	}
	for _, u := range rightUpdates() {
		wantToldFault(t, []impl.Told{{Prefix: somePrefix(), Attrs: u.Attrs}}, impl.OK)
	}
}

func TestOrderOfWhatIsTold(t *testing.T) {
	var rising []impl.Told
	for _, p := range []impl.Prefix{{}, {Len: 1}, {Len: 8}, {Len: 16}, {Addr: 1, Len: 16}, {Addr: 2560, Len: 7}, {Addr: 2560, Len: 8}, {Addr: 2560, Len: 16},
		{Addr: 2561, Len: 16}, {Addr: 32768, Len: 1}, {Addr: 32768, Len: 16}, {Addr: 65535, Len: 16}} {
		rising = append(rising, impl.Told{Prefix: p, Attrs: pathAttrs(7)})
	}
	wantToldFault(t, rising, impl.OK)
	for i, a := range rising {
		for j, b := range rising {
			want := int64(impl.ErrForm)
			if i < j {
				want = impl.OK
			}
			wantToldFault(t, []impl.Told{a, b}, want)
			// Attributes put nothing ahead of anything.
			a.Attrs, b.Attrs = pathAttrs(1, 2), impl.Attrs{Local: 200}
			wantToldFault(t, []impl.Told{a, b}, want)
			wantToldFault(t, []impl.Told{b, a}, wordsToldFault([]impl.Told{b, a}))
		}
	}
	for i := range rising {
		for j := range i {
			wantToldFault(t, swappedTold(slices.Clone(rising), i, j), impl.ErrForm)
		}
		wantToldFault(t, slices.Insert(slices.Clone(rising), i, rising[i]), impl.ErrForm)
	}
}

func TestWhichFaultOfWhatIsTold(t *testing.T) {
	late, wide := impl.Prefix{Addr: 1, Len: 8}, impl.Prefix{Addr: 65536, Len: 8}
	low, some := impl.Prefix{}, somePrefix()
	long, bent, right := pathAttrs(longPath(7)...), pathAttrs(7, 0), pathAttrs(7)
	of := func(p impl.Prefix, a impl.Attrs) impl.Told { return impl.Told{Prefix: p, Attrs: a} }
	cases := []struct {
		list []impl.Told
		code int64
	}{
		// Of one: the prefix, then the attributes, then the order.
		{[]impl.Told{of(late, bent)}, impl.ErrForm}, {[]impl.Told{of(late, long)}, impl.ErrForm}, {[]impl.Told{of(wide, long)}, impl.ErrRange},
		{[]impl.Told{of(some, right), of(low, long)}, impl.ErrMany}, {[]impl.Told{of(some, right), of(low, bent)}, impl.ErrRange},
		{[]impl.Told{of(some, right), of(some, long)}, impl.ErrMany}, {[]impl.Told{of(some, right), of(impl.Prefix{Addr: -1, Len: 8}, right)}, impl.ErrRange},
		{[]impl.Told{of(some, right), of(impl.Prefix{Len: -1}, long)}, impl.ErrRange},
		// The first one that has a fault is told, whatever the others have.
		{[]impl.Told{of(late, right), of(wide, right)}, impl.ErrForm}, {[]impl.Told{of(wide, right), of(late, right)}, impl.ErrRange},
		{[]impl.Told{of(low, long), of(late, right)}, impl.ErrMany}, {[]impl.Told{of(low, bent), of(some, long)}, impl.ErrRange},
		{[]impl.Told{of(low, long), of(some, bent)}, impl.ErrMany}, {[]impl.Told{of(late, right), of(some, long)}, impl.ErrForm},
		{[]impl.Told{of(some, right), of(some, right), of(wide, right)}, impl.ErrForm}, {[]impl.Told{of(some, right), of(low, right), of(some, long)}, impl.ErrForm},
		{[]impl.Told{of(some, right), of(wide, right), of(low, right)}, impl.ErrRange}, {[]impl.Told{of(some, long), of(low, right)}, impl.ErrMany},
		// How many there are is asked ahead of all.
		{append([]impl.Told{of(late, bent)}, toldFrom(0, 60)...), impl.ErrMany}, {append(toldFrom(0, 60), of(wide, right)), impl.ErrMany},
		{append(toldFrom(0, 60), tellingAt(0)), impl.ErrMany}, {append([]impl.Told{of(late, bent)}, toldFrom(0, 59)...), impl.ErrForm},
		{append(toldFrom(0, 59), of(wide, long)), impl.ErrRange}, {append(toldFrom(0, 59), tellingAt(0)), impl.ErrForm},
	}
	for _, c := range cases {
		wantToldFault(t, c.list, c.code)
	}
}

func TestFaultAtEachPlaceOfWhatIsTold(t *testing.T) {
	all := faultyTellings()
	for place := range 60 {
		for i, x := range all {
			list := toldFrom(0, 60)
			list[place] = x
			wantToldFault(t, list, wordsToldFault([]impl.Told{x}))
			list[59-place] = all[(i*7+3)%len(all)]
			wantToldFault(t, list, wordsToldFault(list))
		}
		if place > 0 {
			wantToldFault(t, swappedTold(toldFrom(0, 60), place-1, place), impl.ErrForm)
			list := toldFrom(0, 60)
			list[place] = list[place-1]
			wantToldFault(t, list, impl.ErrForm)
		}
	}
}

func TestCodesOfExportTo(t *testing.T) {
	loose, nine := []impl.Rule{{Least: 1}}, slices.Repeat([]impl.Rule{anyRule()}, 9)
	for _, list := range faultyRibs() {
		want := impl.ToldResult{Code: wordsRibFault(list)}
		for _, peer := range []int64{-1, 0, 2, 3} {
			wantExportTo(t, list, peer, nil, 9, 5, want)
			wantExportTo(t, list, peer, loose, 0, 5, want)
			wantExportTo(t, list, peer, nine, 9, -1, want)
		}
	}
	outOfRange := impl.ToldResult{Code: impl.ErrRange}
	for _, list := range [][]impl.Route{nil, manyRoutes(7), manyRoutes(60)} {
		for _, peer := range []int64{-1, 3, 4, math.MinInt64, math.MaxInt64} {
			// A peer that is none, ahead of what is wrong of the rules.
			for _, rules := range [][]impl.Rule{nil, loose, nine} {
				wantExportTo(t, list, peer, rules, 9, 5, outOfRange)
				wantExportTo(t, list, peer, rules, 0, -1, outOfRange)
			}
		}
		for _, peer := range []int64{0, 1, 2} {
			// The rules, ahead of mine and next.
			for _, bad := range faultyRules() {
				want := impl.ToldResult{Code: wordsRuleFault(bad)}
				wantExportTo(t, list, peer, []impl.Rule{denyRule(), bad}, 9, 5, want)
				wantExportTo(t, list, peer, []impl.Rule{bad}, 0, 65536, want)
			}
			wantExportTo(t, list, peer, nine, 0, 5, impl.ToldResult{Code: impl.ErrMany})
			wantExportTo(t, list, peer, loose, 9, -1, impl.ToldResult{Code: impl.ErrForm})
			for _, n := range edgeNumbers {
				wantExportTo(t, list, peer, nil, n, 5, wordsExportTo(list, peer, nil, n, 5))
				wantExportTo(t, list, peer, nil, 9, n, wordsExportTo(list, peer, nil, 9, n))
			}
			for _, pair := range [][2]int64{{0, 5}, {65536, 5}, {-1, 5}, {9, -1}, {9, 65536}, {0, -1}, {math.MinInt64, 0}, {1, math.MaxInt64}} {
				wantExportTo(t, list, peer, []impl.Rule{denyRule()}, pair[0], pair[1], outOfRange)
			}
		}
	}
	for _, peer := range []int64{0, 1, 2} {
		for _, pair := range [][2]int64{{1, 0}, {65535, 65535}} {
			wantExportTo(t, nil, peer, nil, pair[0], pair[1], impl.ToldResult{})
		}
	}
}

// exportedAs is what others are told of attributes, with these systems ahead of the Path.
func exportedAs(p impl.Prefix, a impl.Attrs, next int64, ahead ...int64) impl.Told {
	return impl.Told{Prefix: p, Attrs: impl.Attrs{Origin: a.Origin, Path: append(ahead, a.Path...), Next: next}}
}

func TestNobodyIsToldWhatTheyTold(t *testing.T) {
	some := somePrefix()
	for best := range int64(3) {
		var list []impl.Route
		for peer := range int64(3) {
			r := impl.Route{Peer: peer, Prefix: some, Attrs: pathAttrs(70 + peer)}
			if peer == best {
				r.Attrs.Local = 200
			}
			list = append(list, r)
		}
		for peer := range int64(3) {
			want := impl.ToldResult{Told: []impl.Told{exportedAs(some, list[best].Attrs, 77, 9)}}
			if peer == best {
				want = impl.ToldResult{}
			}
			wantExportTo(t, list, peer, nil, 9, 77, want)
			wantExportTo(t, list, peer, []impl.Rule{anyRule()}, 9, 77, want)
			// With the best one alone it is the same: no other one is told in its place.
			wantExportTo(t, list[best:best+1], peer, nil, 9, 77, want)
		}
	}
	for peer := range int64(3) {
		wantExportTo(t, onePerPrefix(60, peer), peer, nil, 9, 77, impl.ToldResult{})
	}
}

func TestRulesOfWhatIsExported(t *testing.T) {
	some, other := somePrefix(), impl.Prefix{Addr: 4096, Len: 12}
	list := []impl.Route{{Peer: 0, Prefix: some, Attrs: pathAttrs(7, 8)}, {Peer: 1, Prefix: some, Attrs: pathAttrs(6, 5, 4)}, {Peer: 0, Prefix: other, Attrs: pathAttrs(8)}}
	one, two := exportedAs(some, list[0].Attrs, 77, 9), exportedAs(other, list[2].Attrs, 77, 9)
	narrow := func(r impl.Rule) impl.Rule { r.Within = other; return r }
	withAs := func(r impl.Rule, as int64) impl.Rule { r.As = as; return r }
	prepend := func(n int64) impl.Rule { r := anyRule(); r.Prepend = n; return r }
	local := impl.Rule{Most: 16, Local: 500}
	cases := []struct {
		rules []impl.Rule
		want  []impl.Told
	}{
		{nil, []impl.Told{one, two}}, {[]impl.Rule{anyRule()}, []impl.Told{one, two}}, {[]impl.Rule{narrow(anyRule())}, []impl.Told{one, two}},
		// What is rejected is left out, and the worse route is not told in its place.
		{[]impl.Rule{denyRule()}, nil}, {[]impl.Rule{narrow(denyRule())}, []impl.Told{one}}, {[]impl.Rule{withAs(denyRule(), 7)}, []impl.Told{two}},
		{[]impl.Rule{withAs(denyRule(), 6)}, []impl.Told{one, two}}, {[]impl.Rule{narrow(anyRule()), denyRule()}, []impl.Told{two}},
		{[]impl.Rule{{Most: 8, Deny: true, Local: -1}}, []impl.Told{two}}, {[]impl.Rule{{Least: 9, Most: 16, Deny: true, Local: -1}}, []impl.Told{one}},
		// The rules see the Path as it was heard: the own system is not in it yet.
		{[]impl.Rule{withAs(denyRule(), 9)}, []impl.Told{one, two}},
		// Systems that a rule puts ahead are told, a Local that it gives is not.
		{[]impl.Rule{prepend(1)}, []impl.Told{exportedAs(some, list[0].Attrs, 77, 9, 9), exportedAs(other, list[2].Attrs, 77, 9, 9)}},
		{[]impl.Rule{narrow(prepend(3))}, []impl.Told{one, exportedAs(other, list[2].Attrs, 77, 9, 9, 9, 9)}},
		{[]impl.Rule{prepend(3)}, []impl.Told{exportedAs(some, list[0].Attrs, 77, 9, 9, 9, 9), exportedAs(other, list[2].Attrs, 77, 9, 9, 9, 9)}},
		{[]impl.Rule{local}, []impl.Told{one, two}},
		// A Local that a rule gives does not make another route the best one.
		{[]impl.Rule{withAs(local, 6), withAs(denyRule(), 6)}, []impl.Told{one, two}},
	}
	for _, c := range cases {
		wantExportTo(t, list, 2, c.rules, 9, 77, impl.ToldResult{Told: c.want})
		wantExportTo(t, list, 1, c.rules, 9, 77, impl.ToldResult{Told: c.want})
		wantExportTo(t, list, 0, c.rules, 9, 77, impl.ToldResult{})
	}
}

func TestFullPathIsNotExported(t *testing.T) {
	some := somePrefix()
	behind := impl.Route{Peer: 0, Prefix: impl.Prefix{Addr: 65535, Len: 16}}
	for size := range 7 {
		for prepend := range int64(4) {
			r := impl.Route{Peer: 0, Prefix: some, Attrs: pathAttrs(longPath(size)...)}
			rules := []impl.Rule{{Within: some, Least: 8, Most: 8, Local: -1, Prepend: prepend}}
			last := exportedAs(behind.Prefix, impl.Attrs{}, 5, 9)
			want := []impl.Told{last}
			if size+int(prepend)+1 <= 6 {
				want = []impl.Told{exportedAs(some, r.Attrs, 5, slices.Repeat([]int64{9}, 1+int(prepend))...), last}
			}
			wantExportTo(t, []impl.Route{r, behind}, 1, rules, 9, 5, impl.ToldResult{Told: want})
			// A route of another peer whose Path is longer yet is not told in its place.
			worse := r
			worse.Peer, worse.Attrs.Local = 2, 0
			wantExportTo(t, []impl.Route{r, worse, behind}, 1, rules, 9, 5, impl.ToldResult{Told: want})
			worse.Attrs.Path = nil
			wantExportTo(t, []impl.Route{r, worse, behind}, 1, rules, 9, 5, impl.ToldResult{Told: want})
		}
	}
}

func TestOrderOfWhatIsExported(t *testing.T) {
	for _, n := range []int{0, 1, 2, 59, 60} {
		list := onePerPrefix(n, 1)
		var want []impl.Told
		for i := range list {
			// However good they are.
			list[i].Attrs.Local = int64(i * 37 % 60)
			want = append(want, exportedAs(list[i].Prefix, list[i].Attrs, 77, 9))
		}
		wantExportTo(t, list, 0, nil, 9, 77, impl.ToldResult{Told: want})
		wantExportTo(t, list, 2, []impl.Rule{anyRule()}, 9, 77, impl.ToldResult{Told: want})
	}
	for n := range 61 {
		for peer := range int64(3) {
			list := manyRoutes(n)
			wantExportTo(t, list, peer, nil, 9, 77, wordsExportTo(list, peer, nil, 9, 77))
		}
	}
}

// someRib has as many routes as are put, at most.
func someRib(r *rand.Rand, all []impl.Prefix, puts int) []impl.Route {
	var list []impl.Route
	for range puts {
		if told := impl.PutRoute(list, someRoute(r, all)); told.Code == impl.OK {
			list = told.Routes
		}
	}
	return list
}

func checkExport(t *testing.T, list []impl.Route, peer int64, rules []impl.Rule) impl.ToldResult {
	t.Helper()
	want := wordsExportTo(list, peer, rules, 9, 77)
	wantExportTo(t, list, peer, rules, 9, 77, want)
	got := impl.ExportTo(list, peer, rules, 9, 77)
	for _, x := range got.Told {
		if best := impl.BestFor(list, x.Prefix); best.Code != impl.OK || best.Route.Peer == peer {
			t.Fatalf("peer %d is told %v, and the best of it is %v", peer, x, best)
		}
	}
	return got
}

func TestExportOfManyLists(t *testing.T) {
	r := rand.New(rand.NewSource(81))
	all := rightPrefixes()[:50]
	sizes := map[int]int{}
	for range 600 {
		list := someRib(r, all, r.Intn(110))
		sizes[len(list)]++
		var rules []impl.Rule
		for range r.Intn(4) {
			rules = append(rules, someRule(r))
		}
		for peer := range int64(3) {
			checkExport(t, list, peer, nil)
			checkExport(t, list, peer, rules)
		}
	}
	if sizes[0] < 5 || sizes[60] < 5 {
		t.Errorf("lists of 0 and 60 routes were hardly asked: %d, %d", sizes[0], sizes[60])
	}
}

func TestCodesOfDeltaOf(t *testing.T) {
	right := [][]impl.Told{nil, toldFrom(0, 1), toldFrom(0, 60)}
	for _, bad := range faultyTolds() {
		want := impl.UpdatesResult{Code: wordsToldFault(bad)}
		if want.Code == impl.OK {
			t.Errorf("%v should have a fault", bad)
		}
		for _, list := range right {
			wantDelta(t, bad, list, want)
			wantDelta(t, list, bad, want)
		}
		// Both have a fault: that of what was told is told, and the same one with itself.
		for _, other := range faultyTolds() {
			wantDelta(t, bad, other, want)
		}
	}
	wantDelta(t, toldFrom(0, 61), faultyTellings()[:1], impl.UpdatesResult{Code: impl.ErrMany})
	wantDelta(t, faultyTellings()[:1], toldFrom(0, 61), impl.UpdatesResult{Code: impl.ErrRange})
	wantDelta(t, swappedTold(toldFrom(0, 2), 0, 1), toldFrom(0, 61), impl.UpdatesResult{Code: impl.ErrForm})
}

func TestHowManyAreGone(t *testing.T) {
	for n := range 61 {
		was := toldFrom(0, n)
		var want []impl.Update
		for chunk := range slices.Chunk(prefixesOfTold(was), 8) {
			want = append(want, impl.Update{Gone: chunk})
		}
		if len(want) != (n+7)/8 {
			t.Fatal("the words of DeltaOf are wrong")
		}
		wantDelta(t, was, nil, impl.UpdatesResult{Updates: want})
		wantDelta(t, was, []impl.Told{}, impl.UpdatesResult{Updates: want})
		// What is still told between them, and ahead of and behind them, changes nothing.
		now := []impl.Told{tellingAt(n), tellingAt(59)}
		if n < 59 {
			wantDelta(t, append(slices.Clone(was), now...), now, impl.UpdatesResult{Updates: want})
		}
	}
	counts := map[int][]int{0: nil, 1: {1}, 7: {7}, 8: {8}, 9: {8, 1}, 16: {8, 8}, 17: {8, 8, 1}, 60: {8, 8, 8, 8, 8, 8, 8, 4}}
	for n, want := range counts {
		var got []int
		for _, u := range impl.DeltaOf(toldFrom(0, n), nil).Updates {
			got = append(got, len(u.Gone))
		}
		if !slices.Equal(got, want) {
			t.Errorf("%d are gone: %v to an update, want %v", n, got, want)
		}
	}
}

func TestWhatIsNew(t *testing.T) {
	for n := range 61 {
		now := toldFrom(0, n)
		var want []impl.Update
		for _, x := range now {
			want = append(want, reachOf(x))
		}
		wantDelta(t, nil, now, impl.UpdatesResult{Updates: want})
		wantDelta(t, now, now, impl.UpdatesResult{})
		wantDelta(t, now, toldFrom(0, n), impl.UpdatesResult{})
		for place := range n {
			without := slices.Delete(toldFrom(0, n), place, place+1)
			wantDelta(t, without, now, impl.UpdatesResult{Updates: want[place : place+1]})
			wantDelta(t, now, without, impl.UpdatesResult{Updates: []impl.Update{{Gone: []impl.Prefix{now[place].Prefix}}}})
		}
	}
	// Another Addr or another Len is another prefix.
	for _, p := range []impl.Prefix{{Addr: 2560, Len: 7}, {Addr: 2560, Len: 16}, {Addr: 2816, Len: 8}} {
		was, now := impl.Told{Prefix: somePrefix(), Attrs: pathAttrs(7)}, impl.Told{Prefix: p, Attrs: pathAttrs(7)}
		want := []impl.Update{{Gone: []impl.Prefix{somePrefix()}}, reachOf(now)}
		wantDelta(t, []impl.Told{was}, []impl.Told{now}, impl.UpdatesResult{Updates: want})
	}
}

func TestAttributesThatAreZero(t *testing.T) {
	// They are attributes as others are: what is new has them, and is told.
	bare, other := impl.Told{Prefix: somePrefix()}, impl.Told{Prefix: somePrefix(), Attrs: pathAttrs(7)}
	behind := tellingAt(100)
	gone := impl.Update{Gone: []impl.Prefix{somePrefix()}}
	for _, c := range []struct {
		was, now []impl.Told
		want     []impl.Update
	}{
		{nil, []impl.Told{bare}, []impl.Update{reachOf(bare)}}, {[]impl.Told{behind}, []impl.Told{bare, behind}, []impl.Update{reachOf(bare)}},
		{[]impl.Told{bare}, nil, []impl.Update{gone}}, {[]impl.Told{bare}, []impl.Told{bare}, nil},
		{[]impl.Told{bare}, []impl.Told{other}, []impl.Update{reachOf(other)}}, {[]impl.Told{other}, []impl.Told{bare}, []impl.Update{reachOf(bare)}},
		{[]impl.Told{{}}, []impl.Told{bare}, []impl.Update{{Gone: []impl.Prefix{{}}}, reachOf(bare)}},
	} {
		wantDelta(t, c.was, c.now, impl.UpdatesResult{Updates: c.want})
		wantTake(t, c.was, c.want, impl.ToldResult{Told: c.now})
	}
	list := []impl.Route{{Prefix: somePrefix()}}
	wantExportTo(t, list, 1, nil, 9, 0, impl.ToldResult{Told: []impl.Told{{Prefix: somePrefix(), Attrs: impl.Attrs{Path: []int64{9}}}}})
}

func TestWhatHasOtherAttributes(t *testing.T) {
	for _, n := range []int{1, 5, 60} {
		for _, bend := range bendsOfAttrs() {
			for place := range n {
				was, now := toldFrom(0, n), toldFrom(0, n)
				bend(&now[place].Attrs)
				if impl.ToldFault(now) != impl.OK || sameTold(was, now) {
					t.Fatalf("%v is not bent right", now[place])
				}
				wantDelta(t, was, now, impl.UpdatesResult{Updates: []impl.Update{reachOf(now[place])}})
				wantDelta(t, now, was, impl.UpdatesResult{Updates: []impl.Update{reachOf(was[place])}})
			}
		}
	}
	// All of them have others, and some are gone behind those.
	was, now := toldFrom(0, 60), toldFrom(0, 51)
	want := []impl.Update{{Gone: prefixesOfTold(was[51:59])}, {Gone: prefixesOfTold(was[59:])}}
	for i := range now {
		now[i].Attrs.Next = 6
		want = append(want, reachOf(now[i]))
	}
	wantDelta(t, was, now, impl.UpdatesResult{Updates: want})
}

func TestGoneStandsAheadOfReach(t *testing.T) {
	// What is new stands ahead of what is gone, between it, and behind it.
	was := []impl.Told{tellingAt(10), tellingAt(20), tellingAt(30), tellingAt(40)}
	now := []impl.Told{tellingAt(5), tellingAt(15), tellingAt(20), tellingAt(25), tellingAt(30), tellingAt(45)}
	now[4].Attrs.Med = 3
	want := []impl.Update{{Gone: []impl.Prefix{tellingAt(10).Prefix, tellingAt(40).Prefix}},
		reachOf(now[0]), reachOf(now[1]), reachOf(now[3]), reachOf(now[4]), reachOf(now[5])}
	wantDelta(t, was, now, impl.UpdatesResult{Updates: want})
	// 60 that are all others: each goes ahead of any that comes.
	want = nil
	for chunk := range slices.Chunk(prefixesOfTold(toldFrom(60, 60)), 8) {
		want = append(want, impl.Update{Gone: chunk})
	}
	for _, x := range toldFrom(0, 60) {
		want = append(want, reachOf(x))
	}
	wantDelta(t, toldFrom(60, 60), toldFrom(0, 60), impl.UpdatesResult{Updates: want})
	wantTake(t, toldFrom(60, 60), want, impl.ToldResult{Told: toldFrom(0, 60)})
}

// someTold are n of the first places, some of them with other attributes.
func someTold(r *rand.Rand, n, places int) []impl.Told {
	at := r.Perm(places)[:n]
	slices.Sort(at)
	var list []impl.Told
	for _, place := range at {
		x := tellingAt(place)
		if r.Intn(8) == 0 {
			x.Attrs = impl.Attrs{}
		} else if r.Intn(3) == 0 {
			bends := bendsOfAttrs()
			bends[r.Intn(len(bends))](&x.Attrs)
		}
		list = append(list, x)
	}
	return list
}

func checkDelta(t *testing.T, was, now []impl.Told) {
	t.Helper()
	wantDelta(t, was, now, wordsDelta(was, now))
	told := impl.DeltaOf(was, now)
	if told.Code != impl.OK {
		t.Fatalf("DeltaOf(%v, %v): %v", was, now, told)
	}
	wantTake(t, was, told.Updates, impl.ToldResult{Told: now})
	// Who takes them in two parts comes to the same.
	half := len(told.Updates) / 2
	first := impl.TakeUpdates(was, told.Updates[:half])
	wantTake(t, first.Told, told.Updates[half:], impl.ToldResult{Told: now})
	for _, list := range [][]impl.Told{was, now} {
		if same := impl.DeltaOf(list, list); same.Code != impl.OK || len(same.Updates) != 0 {
			t.Fatalf("of %v and itself %v is told", list, same)
		}
	}
}

func TestDeltaLeadsFromWhatWasToWhatIs(t *testing.T) {
	r := rand.New(rand.NewSource(82))
	for was := range 61 {
		for now := range 61 {
			checkDelta(t, someTold(r, was, 60+r.Intn(60)), someTold(r, now, 60+r.Intn(60)))
		}
	}
}

func TestWhatIsExportedIsTaken(t *testing.T) {
	r := rand.New(rand.NewSource(83))
	all := rightPrefixes()[:60]
	var was []impl.Told
	for range 600 {
		list := someRib(r, all, r.Intn(90))
		for peer := range int64(3) {
			now := impl.ExportTo(list, peer, nil, 9, 77).Told
			checkDelta(t, was, now)
			was = now
		}
	}
}

func TestCodesOfTakeUpdates(t *testing.T) {
	many, right := make([]impl.Update, 201), []impl.Update{smallUpdate()}
	for _, bad := range faultyTolds() {
		want := impl.ToldResult{Code: wordsToldFault(bad)}
		for _, updates := range [][]impl.Update{nil, right, many, faultyUpdates()[:1], faultyUpdates()[1:2]} {
			wantTake(t, bad, updates, want)
		}
	}
	broken := impl.Update{Gone: []impl.Prefix{{Addr: 65536}}}
	for n := range 205 {
		want := impl.ToldResult{Told: toldFrom(0, 3)}
		if n > 200 {
			want = impl.ToldResult{Code: impl.ErrMany}
		}
		wantTake(t, toldFrom(0, 3), make([]impl.Update, n), want)
		// How many there are is asked ahead of each.
		if n > 0 {
			want = impl.ToldResult{Code: impl.ErrRange}
		}
		if n > 200 {
			want = impl.ToldResult{Code: impl.ErrMany}
		}
		updates := make([]impl.Update, n)
		for i := range updates {
			updates[i] = broken
		}
		wantTake(t, toldFrom(0, 3), updates, want)
	}
	wantTake(t, nil, make([]impl.Update, 5000), impl.ToldResult{Code: impl.ErrMany})
}

func TestFaultOfAnyUpdate(t *testing.T) {
	late := impl.Update{Gone: []impl.Prefix{{Addr: 1, Len: 8}}}
	for _, bad := range append(faultyUpdates(), late) {
		want := impl.ToldResult{Code: wordsUpdateFault(bad)}
		if want.Code == impl.OK {
			t.Errorf("%v should have a fault", bad)
		}
		for _, n := range []int{0, 1, 5, 199} {
			for _, list := range [][]impl.Told{nil, toldFrom(0, 60)} {
				for _, at := range []int{0, n / 2, n} {
					updates := make([]impl.Update, n)
					for i := range updates {
						updates[i] = impl.Update{Gone: manyPrefixes(1 + i%8)}
					}
					wantTake(t, list, slices.Insert(updates, at, bad), want)
				}
			}
		}
		// Behind one beside which there would be too many it is told, too.
		over := reachOf(tellingAt(70))
		wantTake(t, toldFrom(0, 60), []impl.Update{over}, impl.ToldResult{Code: impl.ErrMany})
		wantTake(t, toldFrom(0, 60), []impl.Update{over, bad}, want)
		wantTake(t, toldFrom(0, 60), []impl.Update{over, {}, over, {}, bad}, want)
		wantTake(t, toldFrom(0, 60), []impl.Update{bad, over}, want)
		// Of several the first one.
		wantTake(t, nil, []impl.Update{{}, bad, faultyUpdates()[0], late}, want)
	}
	form := impl.Update{Has: true}
	wide := impl.Update{Has: true, Reach: []impl.Prefix{{Len: 17}}}
	wantTake(t, nil, []impl.Update{{}, form, wide}, impl.ToldResult{Code: impl.ErrForm})
	wantTake(t, nil, []impl.Update{{}, wide, form}, impl.ToldResult{Code: impl.ErrRange})
}

func TestGoneAndReachOfOneUpdate(t *testing.T) {
	some := somePrefix()
	was := []impl.Told{{Prefix: some, Attrs: pathAttrs(7)}}
	now := impl.Told{Prefix: some, Attrs: pathAttrs(8, 9)}
	both := reachOf(now)
	both.Gone = []impl.Prefix{some}
	for _, list := range [][]impl.Told{nil, was, {now}} {
		wantTake(t, list, []impl.Update{both}, impl.ToldResult{Told: []impl.Told{now}})
		wantTake(t, list, []impl.Update{reachOf(now)}, impl.ToldResult{Told: []impl.Told{now}})
		wantTake(t, list, []impl.Update{{Gone: []impl.Prefix{some}}}, impl.ToldResult{})
		wantTake(t, list, []impl.Update{{Gone: []impl.Prefix{some, some}}}, impl.ToldResult{})
		wantTake(t, list, []impl.Update{both, {Gone: []impl.Prefix{some}}}, impl.ToldResult{})
		wantTake(t, list, []impl.Update{{Gone: []impl.Prefix{some}}, both}, impl.ToldResult{Told: []impl.Told{now}})
		wantTake(t, list, []impl.Update{reachOf(now), reachOf(was[0])}, impl.ToldResult{Told: was})
		wantTake(t, list, []impl.Update{reachOf(was[0]), reachOf(now)}, impl.ToldResult{Told: []impl.Told{now}})
		// One that is reached twice by one update is there once.
		twice := reachOf(now)
		twice.Reach = []impl.Prefix{some, some}
		wantTake(t, list, []impl.Update{twice}, impl.ToldResult{Told: []impl.Told{now}})
		wantTake(t, list, []impl.Update{{}, {}}, impl.ToldResult{Told: list})
		wantTake(t, list, nil, impl.ToldResult{Told: list})
	}
}

func TestGoneThatWasNotThere(t *testing.T) {
	for _, n := range []int{0, 1, 9, 60} {
		list := toldFrom(0, n)
		gone := []impl.Prefix{tellingAt(80).Prefix, {}, {Addr: 65535, Len: 16}, {Len: 7}, {Len: 9}}
		wantTake(t, list, []impl.Update{{Gone: gone}}, impl.ToldResult{Told: list})
		for place := range n {
			mixed := impl.Update{Gone: append(slices.Clone(gone), list[place].Prefix)}
			wantTake(t, list, []impl.Update{mixed, mixed}, impl.ToldResult{Told: slices.Delete(toldFrom(0, n), place, place+1)})
		}
	}
}

func TestReachWithOtherAttributes(t *testing.T) {
	for _, n := range []int{1, 7, 60} {
		for _, bend := range bendsOfAttrs() {
			for place := range n {
				want := toldFrom(0, n)
				bend(&want[place].Attrs)
				wantTake(t, toldFrom(0, n), []impl.Update{reachOf(want[place])}, impl.ToldResult{Told: want})
			}
		}
	}
	// Eight at once, in whatever order they are named: they are told in theirs.
	a := pathAttrs(3)
	at := []int{9, 3, 61, 0, 80, 4, 30, 2}
	u := impl.Update{Has: true, Attrs: a}
	want := toldFrom(0, 30)
	for _, place := range at {
		u.Reach = append(u.Reach, tellingAt(place).Prefix)
	}
	for _, place := range []int{0, 2, 3, 4, 9} {
		want[place].Attrs = a
	}
	for _, place := range []int{30, 61, 80} {
		want = append(want, impl.Told{Prefix: tellingAt(place).Prefix, Attrs: a})
	}
	wantTake(t, toldFrom(0, 30), []impl.Update{u}, impl.ToldResult{Told: want})
}

func TestFullListTakesUpdates(t *testing.T) {
	many := impl.ToldResult{Code: impl.ErrMany}
	more := tellingAt(60)
	full, gone := toldFrom(0, 60), impl.Update{Gone: []impl.Prefix{tellingAt(0).Prefix}}
	both := reachOf(more)
	both.Gone = gone.Gone
	shifted := impl.ToldResult{Told: toldFrom(1, 60)}
	wantTake(t, full, nil, impl.ToldResult{Told: full})
	wantTake(t, toldFrom(0, 59), []impl.Update{reachOf(tellingAt(59))}, impl.ToldResult{Told: full})
	wantTake(t, full, []impl.Update{reachOf(more)}, many)
	wantTake(t, full, []impl.Update{both}, shifted)
	wantTake(t, full, []impl.Update{gone, reachOf(more)}, shifted)
	// Update by update: what goes later is too late.
	wantTake(t, full, []impl.Update{reachOf(more), gone}, many)
	wantTake(t, full, []impl.Update{reachOf(more), {Gone: []impl.Prefix{more.Prefix}}}, many)
	wantTake(t, full, []impl.Update{gone, reachOf(more), reachOf(tellingAt(0))}, many)
	// What is reached anew is no more.
	wantTake(t, full, []impl.Update{reachOf(tellingAt(5)), reachOf(tellingAt(59))}, impl.ToldResult{Told: full})
	// One that goes and was not there makes no room.
	wrong := both
	wrong.Gone = []impl.Prefix{tellingAt(70).Prefix}
	wantTake(t, full, []impl.Update{wrong}, many)
	// One that goes and comes back at once makes none, either.
	back := impl.Update{Gone: gone.Gone, Has: true, Attrs: pathAttrs(1), Reach: []impl.Prefix{gone.Gone[0], more.Prefix}}
	wantTake(t, full, []impl.Update{back}, many)
	for n := 50; n <= 60; n++ {
		u := impl.Update{Has: true, Attrs: pathAttrs(1), Reach: prefixesOfTold(toldFrom(100, 8))}
		wantTake(t, toldFrom(0, n), []impl.Update{u}, wordsTake(toldFrom(0, n), []impl.Update{u}))
		want := int64(impl.OK)
		if n > 52 {
			want = impl.ErrMany
		}
		if got := impl.TakeUpdates(toldFrom(0, n), []impl.Update{u}); got.Code != want {
			t.Errorf("%d and 8 more: code %d, want %d", n, got.Code, want)
		}
	}
}

// placedUpdate is one without a fault of few places, so that it often speaks of what is there.
func placedUpdate(r *rand.Rand, places int) impl.Update {
	var u impl.Update
	for range r.Intn(9) {
		u.Gone = append(u.Gone, tellingAt(r.Intn(places)).Prefix)
	}
	if r.Intn(4) > 0 {
		u.Has, u.Attrs = true, tellingAt(r.Intn(places)).Attrs
		for range 1 + r.Intn(8) {
			u.Reach = append(u.Reach, tellingAt(r.Intn(places)).Prefix)
		}
	}
	return u
}

func TestUpdatesOneAfterTheOther(t *testing.T) {
	r := rand.New(rand.NewSource(84))
	codes := map[int64]int{}
	for range 3000 {
		places := 40 + r.Intn(80)
		list := someTold(r, r.Intn(min(61, places)), places)
		var updates []impl.Update
		for range r.Intn(12) {
			updates = append(updates, placedUpdate(r, places))
		}
		if r.Intn(10) == 0 {
			updates = append(updates, faultyUpdates()[1+r.Intn(3)])
		}
		want := wordsTake(list, updates)
		codes[want.Code]++
		wantTake(t, list, updates, want)
		if want.Code != impl.OK {
			continue
		}
		one := impl.ToldResult{Told: list}
		for _, u := range updates {
			one = impl.TakeUpdates(one.Told, []impl.Update{u})
		}
		wantTold(t, one, want, "one after the other", list, updates)
	}
	for _, code := range []int64{impl.OK, impl.ErrMany, impl.ErrForm} {
		if codes[code] < 30 {
			t.Errorf("code %d was hardly asked: %d", code, codes[code])
		}
	}
	// 200 updates, each of one more change.
	var updates []impl.Update
	for i := range 200 {
		updates = append(updates, impl.Update{Gone: []impl.Prefix{tellingAt(i).Prefix}, Has: true, Attrs: tellingAt(i + 60).Attrs, Reach: []impl.Prefix{tellingAt(i + 60).Prefix}})
	}
	wantTake(t, toldFrom(0, 60), updates, impl.ToldResult{Told: toldFrom(200, 60)})
}

func TestSameTold(t *testing.T) {
	wantSameTold(t, nil, nil, true)
	wantSameTold(t, nil, []impl.Told{}, true)
	wantSameTold(t, []impl.Told{}, []impl.Told{}, true)
	wantSameTold(t, nil, make([]impl.Told, 1), false)
	wantSameTold(t, []impl.Told{}, make([]impl.Told, 1), false)
	for m := range 62 {
		for n := range 62 {
			wantSameTold(t, toldFrom(0, m), toldFrom(0, n), m == n)
		}
		if m > 0 {
			wantSameTold(t, toldFrom(0, m), toldFrom(1, m), false)
			wantSameTold(t, toldFrom(0, m), toldFrom(1, m-1), false)
		}
	}
	bends := []func(x *impl.Told){
		func(x *impl.Told) { x.Prefix.Addr++ }, func(x *impl.Told) { x.Prefix.Len-- }, func(x *impl.Told) { x.Prefix.Addr = -x.Prefix.Addr - 1 },
		func(x *impl.Told) { x.Attrs.Origin = -1 }, func(x *impl.Told) { x.Attrs.Local = math.MaxInt64 },
		func(x *impl.Told) { x.Attrs.Path = append(longPath(300), x.Attrs.Path...) },
	}
	for _, bend := range bendsOfAttrs() {
		bends = append(bends, func(x *impl.Told) { bend(&x.Attrs) })
	}
	for _, n := range []int{1, 3, 60, 61} {
		for _, bend := range bends {
			for place := range n {
				bent := toldFrom(0, n)
				bend(&bent[place])
				wantSameTold(t, bent, toldFrom(0, n), false)
				again := toldFrom(0, n)
				bend(&again[place])
				wantSameTold(t, bent, again, true)
			}
		}
	}
}

func TestSameToldOfFaults(t *testing.T) {
	lists := faultyTolds()
	for i, a := range lists {
		for j, b := range lists {
			wantSameTold(t, a, b, i == j || sameTold(a, b))
		}
		wantSameTold(t, a, cloneTold(a), true)
	}
	// The order counts, and a Path that is nil is one that is empty.
	wantSameTold(t, swappedTold(toldFrom(0, 2), 0, 1), toldFrom(0, 2), false)
	wantSameTold(t, []impl.Told{{Attrs: impl.Attrs{Path: []int64{}}}}, []impl.Told{{}}, true)
	wantSameTold(t, make([]impl.Told, 5000), make([]impl.Told, 5000), true)
	wantSameTold(t, make([]impl.Told, 5000), make([]impl.Told, 4999), false)
}

func cloneTold(list []impl.Told) []impl.Told {
	out := slices.Clone(list)
	for i := range out {
		out[i].Attrs.Path = slices.Clone(out[i].Attrs.Path)
	}
	return out
}

func cloneUpdates(list []impl.Update) []impl.Update {
	out := slices.Clone(list)
	for i := range out {
		out[i] = cloneUpdate(out[i])
	}
	return out
}

// exportArgs are all that the functions of this chapter take.
type exportArgs struct {
	routes   []impl.Route
	peer     int64
	rules    []impl.Rule
	was, now []impl.Told
	updates  []impl.Update
}

func roomyTold(list []impl.Told) []impl.Told {
	out := append(cloneTold(list), tellingAt(0), tellingAt(1))
	for i := range out {
		path := out[i].Attrs.Path
		out[i].Attrs.Path = append(path, 1, 2, 3)[:len(path)]
	}
	return out[:len(list)]
}

// roomyArgs are a copy with room behind each list.
func roomyArgs(x exportArgs) exportArgs {
	updates := append(slices.Clone(x.updates), smallUpdate(), fullUpdate())
	for i := range updates {
		updates[i] = roomy(updates[i])
	}
	rules := append(slices.Clone(x.rules), anyRule(), denyRule())
	return exportArgs{routes: roomyRoutes(x.routes), peer: x.peer, rules: rules[:len(x.rules)],
		was: roomyTold(x.was), now: roomyTold(x.now), updates: updates[:len(x.updates)]}
}

func memoryOfTold(list []impl.Told) string {
	said := []any{}
	for _, x := range list[:cap(list)] {
		said = append(said, x, x.Attrs.Path[:cap(x.Attrs.Path)])
	}
	return fmt.Sprint(said...)
}

func memoryOfUpdates(list []impl.Update) string {
	said := []any{}
	for _, u := range list[:cap(list)] {
		said = append(said, u, u.Gone[:cap(u.Gone)], u.Reach[:cap(u.Reach)], u.Attrs.Path[:cap(u.Attrs.Path)])
	}
	return fmt.Sprint(said...)
}

// memoryOfArgs is all that the lists have, with what stands behind them.
func memoryOfArgs(x exportArgs) string {
	return fmt.Sprint(allMemory(x.routes), x.rules[:cap(x.rules)], memoryOfTold(x.was), memoryOfTold(x.now), memoryOfUpdates(x.updates))
}

func spoilTold(list []impl.Told) {
	for i, x := range list[:cap(list)] {
		spoilUpdate(impl.Update{Attrs: x.Attrs})
		list[:cap(list)][i] = impl.Told{Prefix: impl.Prefix{Addr: -7}}
	}
}

func spoilUpdates(list []impl.Update) {
	for i, u := range list[:cap(list)] {
		spoilUpdate(u)
		list[:cap(list)][i] = impl.Update{Has: true}
	}
}

func spoilArgs(x exportArgs) {
	spoilRoutes(x.routes)
	spoilTold(x.was)
	spoilTold(x.now)
	spoilUpdates(x.updates)
	for i := range x.rules[:cap(x.rules)] {
		x.rules[:cap(x.rules)][i] = impl.Rule{As: -7}
	}
}

// exportAnswer is what a call of this chapter answers, of either kind.
type exportAnswer struct {
	code    int64
	told    []impl.Told
	updates []impl.Update
}

func exportCalls() []func(x exportArgs) exportAnswer {
	return []func(x exportArgs) exportAnswer{
		func(x exportArgs) exportAnswer {
			got := impl.ExportTo(x.routes, x.peer, x.rules, 9, 77)
			return exportAnswer{code: got.Code, told: got.Told}
		},
		func(x exportArgs) exportAnswer {
			got := impl.DeltaOf(x.was, x.now)
			return exportAnswer{code: got.Code, updates: got.Updates}
		},
		func(x exportArgs) exportAnswer {
			got := impl.TakeUpdates(x.was, x.updates)
			return exportAnswer{code: got.Code, told: got.Told}
		},
		func(x exportArgs) exportAnswer {
			got := impl.TakeUpdates(x.was, nil)
			return exportAnswer{code: got.Code, told: got.Told}
		},
	}
}

// someExportArgs have nothing, something, all that may be, and faults; of some nothing is changed.
func someExportArgs() []exportArgs {
	r := rand.New(rand.NewSource(85))
	prepend := impl.Rule{Most: 16, Local: 5, Prepend: 2}
	list := []exportArgs{
		{}, {routes: []impl.Route{}, rules: []impl.Rule{}, was: []impl.Told{}, now: []impl.Told{}, updates: []impl.Update{}},
		{routes: manyRoutes(60), peer: 1, was: toldFrom(0, 60), now: toldFrom(0, 60), updates: []impl.Update{{}, {Gone: prefixesOfTold(toldFrom(90, 5))}}},
		{routes: onePerPrefix(60, 1), rules: []impl.Rule{prepend}, was: toldFrom(0, 60), now: toldFrom(60, 60), updates: []impl.Update{reachOf(tellingAt(4))}},
		{routes: manyRoutes(9), peer: 2, rules: []impl.Rule{denyRule()}, was: toldFrom(0, 20), now: toldFrom(3, 2), updates: rightUpdates()},
		{routes: manyRoutes(61), was: toldFrom(0, 61), now: toldFrom(0, 3), updates: rightUpdates()},
		{routes: manyRoutes(4), rules: faultyRules()[:1], was: toldFrom(0, 3), now: toldFrom(0, 61), updates: faultyUpdates()},
		{routes: manyRoutes(4), peer: 3, was: toldFrom(0, 60), updates: []impl.Update{reachOf(tellingAt(70))}},
		{routes: []impl.Route{{}}, peer: 1, was: []impl.Told{{}}, now: []impl.Told{{Prefix: impl.Prefix{Len: 3}}}, updates: []impl.Update{{Has: true, Reach: []impl.Prefix{{Len: 1}, {Len: 2}}}}},
	}
	for range 30 {
		x := exportArgs{routes: someRib(r, rightPrefixes()[:40], r.Intn(90)), peer: r.Int63n(3), was: someTold(r, r.Intn(61), 90), now: someTold(r, r.Intn(61), 90)}
		for range r.Intn(6) {
			x.rules = append(x.rules, someRule(r))
			x.updates = append(x.updates, placedUpdate(r, 90))
		}
		list = append(list, x)
	}
	return list
}

func TestExportsChangeNoArgument(t *testing.T) {
	for _, was := range someExportArgs() {
		x := roomyArgs(was)
		memory := memoryOfArgs(x)
		for i, call := range exportCalls() {
			call(x)
			if memoryOfArgs(x) != memory {
				t.Fatalf("call %d has changed its arguments: %v", i, was)
			}
		}
		impl.ToldFault(x.was)
		impl.ToldFault(x.now)
		impl.SameTold(x.was, x.now)
		impl.SameTold(x.was, x.was)
		if memoryOfArgs(x) != memory {
			t.Fatalf("%v was changed", was)
		}
	}
}

func TestExportsAnswerNewMemory(t *testing.T) {
	for _, was := range someExportArgs() {
		for i, call := range exportCalls() {
			x := roomyArgs(was)
			memory := memoryOfArgs(x)
			got := call(x)
			want := exportAnswer{got.code, cloneTold(got.told), cloneUpdates(got.updates)}
			spoilTold(got.told)
			spoilUpdates(got.updates)
			if memoryOfArgs(x) != memory {
				t.Fatalf("call %d: what is answered shares memory with %v", i, was)
			}
			again := call(x)
			spoilArgs(x)
			if again.code != want.code || !sameTold(again.told, want.told) || !slices.EqualFunc(again.updates, want.updates, sameUpdates) {
				t.Fatalf("call %d: what is answered shares memory with its arguments, or with what was answered", i)
			}
		}
	}
}

// spoilEach changes one list of an answer after the other: none of the others may change with it.
func spoilEach(t *testing.T, call int, got exportAnswer) {
	t.Helper()
	for i := range got.told {
		left := cloneTold(got.told[i+1:])
		spoilUpdate(impl.Update{Attrs: got.told[i].Attrs})
		if !sameTold(got.told[i+1:], left) {
			t.Fatalf("call %d: the Path at %d is shared", call, i)
		}
	}
	for i, u := range got.updates {
		for part, one := range []impl.Update{{Gone: u.Gone}, {Reach: u.Reach}, {Attrs: u.Attrs}} {
			left := cloneUpdates(got.updates[i+1:])
			rest := cloneUpdate(u)
			spoilUpdate(one)
			if !slices.EqualFunc(got.updates[i+1:], left, sameUpdates) || part == 0 && !slices.Equal(u.Reach, rest.Reach) || part < 2 && !slices.Equal(u.Attrs.Path, rest.Attrs.Path) {
				t.Fatalf("call %d: part %d of the update at %d is shared", call, part, i)
			}
		}
	}
}

func TestListsOfAnExportShareNothing(t *testing.T) {
	for _, x := range someExportArgs() {
		for i, call := range exportCalls() {
			spoilEach(t, i, call(roomyArgs(x)))
		}
	}
	// All arguments have one Path, and all updates one list of prefixes: in an answer each has its own.
	path, prefixes := append(longPath(3), 1, 2, 3), append(prefixesOfTold(toldFrom(40, 8)), prefixesOfTold(toldFrom(0, 8))...)
	pathWas, prefixesWere := slices.Clone(path), slices.Clone(prefixes)
	x := exportArgs{routes: onePerPrefix(20, 0), peer: 1, was: toldFrom(0, 40), now: toldFrom(20, 40)}
	for i := range x.routes {
		x.routes[i].Attrs.Path = path[:3]
	}
	for i := range x.was {
		x.was[i].Attrs.Path, x.now[i].Attrs.Path = path[:3], path[1:4]
	}
	for range 4 {
		a := pathAttrs()
		a.Path = path[:3]
		x.updates = append(x.updates, impl.Update{Gone: prefixes[8:], Has: true, Attrs: a, Reach: prefixes[:8]})
	}
	for i, call := range exportCalls() {
		got := call(x)
		if len(got.told)+len(got.updates) == 0 {
			t.Fatalf("call %d tells nothing", i)
		}
		spoilEach(t, i, got)
		if !slices.Equal(path, pathWas) || !slices.Equal(prefixes, prefixesWere) {
			t.Fatalf("call %d: what is answered shares memory with an argument", i)
		}
	}
}

// allOfExports tells all that the functions of this chapter answer.
func allOfExports(x exportArgs) string {
	said := []any{impl.ToldFault(x.was), impl.ToldFault(x.now), impl.SameTold(x.was, x.now), impl.SameTold(x.now, x.was)}
	for _, call := range exportCalls() {
		said = append(said, fmt.Sprintf("%#v", call(x)))
	}
	return fmt.Sprint(said...)
}

// hollowArgs have no Path, and none of what may be missing: as nil, or as lists that are empty.
func hollowArgs(x exportArgs, path []int64, prefixes []impl.Prefix) exportArgs {
	x = roomyArgs(x)
	for i := range x.routes {
		x.routes[i].Attrs.Path = path
	}
	for _, list := range [][]impl.Told{x.was, x.now} {
		for i := range list {
			list[i].Attrs.Path = path
		}
	}
	for i := range x.updates {
		x.updates[i].Attrs.Path = path
		x.updates[i].Gone = prefixes
		if !x.updates[i].Has {
			x.updates[i].Reach = prefixes
		}
	}
	return x
}

func TestExportsHangOnArgumentsAlone(t *testing.T) {
	list := someExportArgs()
	if allOfExports(list[0]) != allOfExports(list[1]) {
		t.Error("nil and an empty list are not answered alike")
	}
	for _, x := range list {
		first := allOfExports(x)
		if allOfExports(hollowArgs(x, nil, nil)) != allOfExports(hollowArgs(x, []int64{}, []impl.Prefix{})) {
			t.Fatalf("nil and an empty list in %v are not answered alike", x)
		}
		for _, other := range list[:8] {
			allOfExports(other)
			if allOfExports(x) != first || allOfExports(roomyArgs(x)) != first {
				t.Fatalf("what is told of %v hangs on more than it", x)
			}
		}
	}
}
