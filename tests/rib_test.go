package tests

import (
	"fmt"
	"math"
	"math/rand"
	"slices"
	"testing"

	"loop.example/g00263/impl"
)

// wordsStand tells whether b stands behind a, where neither has a fault: all that they are ordered by as one number.
func wordsStand(a, b impl.Route) bool {
	number := func(r impl.Route) int64 { return r.Prefix.Addr*1000 + r.Prefix.Len*10 + r.Peer }
	return number(a) < number(b)
}

func wordsRouteFault(r impl.Route) int64 {
	if r.Peer != 0 && r.Peer != 1 && r.Peer != 2 {
		return impl.ErrRange
	}
	if code := wordsFault(r.Prefix); code != impl.OK {
		return code
	}
	return wordsAttrsFault(r.Attrs)
}

func wordsRibFault(list []impl.Route) int64 {
	if len(list) > 60 {
		return impl.ErrMany
	}
	for i, r := range list {
		if code := wordsRouteFault(r); code != impl.OK {
			return code
		}
		if i > 0 && !wordsStand(list[i-1], r) {
			return impl.ErrForm
		}
	}
	return impl.OK
}

func sameKey(a, b impl.Route) bool {
	return a.Peer == b.Peer && a.Prefix == b.Prefix
}

func wordsPut(list []impl.Route, r impl.Route) impl.RibResult {
	for _, code := range []int64{wordsRibFault(list), wordsRouteFault(r)} {
		if code != impl.OK {
			return impl.RibResult{Code: code}
		}
	}
	// Those ahead of it, it, and those behind it: that of its place is neither.
	var out []impl.Route
	for _, other := range list {
		if wordsStand(other, r) {
			out = append(out, other)
		}
	}
	out = append(out, r)
	for _, other := range list {
		if wordsStand(r, other) {
			out = append(out, other)
		}
	}
	if len(out) > 60 {
		return impl.RibResult{Code: impl.ErrMany}
	}
	return impl.RibResult{Routes: out}
}

func wordsDrop(list []impl.Route, peer int64, p impl.Prefix) impl.RibResult {
	codes := []int64{wordsRibFault(list), wordsRouteFault(impl.Route{Peer: peer, Prefix: p})}
	for _, code := range codes {
		if code != impl.OK {
			return impl.RibResult{Code: code}
		}
	}
	var told impl.RibResult
	for _, r := range list {
		if !sameKey(r, impl.Route{Peer: peer, Prefix: p}) {
			told.Routes = append(told.Routes, r)
		}
	}
	return told
}

func wordsDropPeer(list []impl.Route, peer int64) impl.RibResult {
	told := impl.RibResult{Code: wordsRibFault(list)}
	if told.Code == impl.OK && (peer < 0 || peer > 2) {
		told.Code = impl.ErrRange
	}
	for _, r := range list {
		if told.Code == impl.OK && r.Peer != peer {
			told.Routes = append(told.Routes, r)
		}
	}
	return told
}

// wordsBetter goes from one number to the next, as long as they are the same.
func wordsBetter(a, b impl.Route) bool {
	lesser := [][2]int64{
		{b.Attrs.Local, a.Attrs.Local}, {int64(len(a.Attrs.Path)), int64(len(b.Attrs.Path))},
		{a.Attrs.Origin, b.Attrs.Origin}, {a.Attrs.Med, b.Attrs.Med}, {a.Peer, b.Peer},
	}
	for _, pair := range lesser {
		if pair[0] != pair[1] {
			return pair[0] < pair[1]
		}
	}
	return false
}

func wordsBestFor(list []impl.Route, p impl.Prefix) impl.RouteResult {
	for _, code := range []int64{wordsRibFault(list), wordsFault(p)} {
		if code != impl.OK {
			return impl.RouteResult{Code: code}
		}
	}
	told := impl.RouteResult{Code: impl.ErrNone}
	for _, r := range list {
		if r.Prefix == p && (told.Code != impl.OK || wordsBetter(r, told.Route)) {
			told = impl.RouteResult{Route: r}
		}
	}
	return told
}

func wordsBestOfAll(list []impl.Route) impl.RibResult {
	if code := wordsRibFault(list); code != impl.OK {
		return impl.RibResult{Code: code}
	}
	var told impl.RibResult
	for i, r := range list {
		if i == 0 || list[i-1].Prefix != r.Prefix {
			told.Routes = append(told.Routes, wordsBestFor(list, r.Prefix).Route)
		}
	}
	return told
}

func sameRoute(a, b impl.Route) bool {
	return sameKey(a, b) && sameAttrs(a.Attrs, b.Attrs)
}

func sameRoutes(a, b []impl.Route) bool {
	return slices.EqualFunc(a, b, sameRoute)
}

func wantRib(t *testing.T, got, want impl.RibResult, what string, args ...any) {
	t.Helper()
	if got.Code != want.Code || !sameRoutes(got.Routes, want.Routes) {
		t.Errorf("%s%v: %+v, want %+v", what, args, got, want)
	}
	// What is told is a list that all others take.
	if code := impl.RibFault(got.Routes); code != impl.OK {
		t.Errorf("%s%v: %+v has the fault %d", what, args, got, code)
	}
}

func wantRibFault(t *testing.T, list []impl.Route, code int64) {
	t.Helper()
	if got := impl.RibFault(list); got != code {
		t.Errorf("RibFault(%v): %d, want %d", list, got, code)
	}
}

func wantPut(t *testing.T, list []impl.Route, r impl.Route, want impl.RibResult) {
	t.Helper()
	wantRib(t, impl.PutRoute(list, r), want, "PutRoute", list, r)
}

func wantDrop(t *testing.T, list []impl.Route, peer int64, p impl.Prefix, want impl.RibResult) {
	t.Helper()
	wantRib(t, impl.DropRoute(list, peer, p), want, "DropRoute", list, peer, p)
}

func wantDropPeer(t *testing.T, list []impl.Route, peer int64, want impl.RibResult) {
	t.Helper()
	wantRib(t, impl.DropPeer(list, peer), want, "DropPeer", list, peer)
}

func wantBestOfAll(t *testing.T, list []impl.Route, want impl.RibResult) {
	t.Helper()
	wantRib(t, impl.BestOfAll(list), want, "BestOfAll", list)
}

func wantBestFor(t *testing.T, list []impl.Route, p impl.Prefix, want impl.RouteResult) {
	t.Helper()
	if got := impl.BestFor(list, p); got.Code != want.Code || !sameRoute(got.Route, want.Route) {
		t.Errorf("BestFor(%v, %v): %+v, want %+v", list, p, got, want)
	}
}

// routeOf is a route whose attributes tell where it is from.
func routeOf(peer int64, p impl.Prefix) impl.Route {
	a := pathAttrs(7+peer, 1+p.Addr%500)
	a.Med = p.Len
	return impl.Route{Peer: peer, Prefix: p, Attrs: a}
}

// manyRoutes are n routes without a fault: of one prefix three, and then two, and then one, and so on.
func manyRoutes(n int) []impl.Route {
	var list []impl.Route
	for i := int64(0); len(list) < n; i++ {
		for peer := i % 3; peer < 3 && len(list) < n; peer++ {
			list = append(list, routeOf(peer, impl.Prefix{Addr: i / 2 * 256, Len: 8 + i%2*8}))
		}
	}
	return list
}

// onePerPrefix are n routes of the peer, each of its own prefix.
func onePerPrefix(n int, peer int64) []impl.Route {
	var list []impl.Route
	for i := range int64(n) {
		list = append(list, routeOf(peer, impl.Prefix{Addr: 256 + i*256, Len: 8}))
	}
	return list
}

func faultyRoutes() []impl.Route {
	var list []impl.Route
	for _, peer := range []int64{-1, 3, 4, math.MinInt64, math.MaxInt64} {
		list = append(list, routeOf(peer, somePrefix()))
	}
	for _, p := range faultyPrefixes() {
		list = append(list, impl.Route{Prefix: p, Attrs: pathAttrs(7)})
	}
	for _, a := range faultyAttrs() {
		list = append(list, impl.Route{Prefix: somePrefix(), Attrs: a})
	}
	return list
}

// faultyRibs have each one fault.
func faultyRibs() [][]impl.Route {
	list := [][]impl.Route{manyRoutes(61), swapped(manyRoutes(3), 0, 1), swapped(manyRoutes(8), 2, 3)}
	list = append(list, append(manyRoutes(4), manyRoutes(4)[3]))
	for _, r := range faultyRoutes() {
		list = append(list, []impl.Route{r}, append(manyRoutes(2), r))
	}
	return list
}

func swapped(list []impl.Route, i, j int) []impl.Route {
	list[i], list[j] = list[j], list[i]
	return list
}

func TestBoundsOfRoutes(t *testing.T) {
	if impl.MaxRoutes != 60 || impl.MaxPeers != 3 {
		t.Error(impl.MaxRoutes, impl.MaxPeers)
	}
}

func TestHowManyRoutes(t *testing.T) {
	wantRibFault(t, nil, impl.OK)
	wantRibFault(t, []impl.Route{}, impl.OK)
	for n := range 70 {
		want := int64(impl.OK)
		if n > 60 {
			want = impl.ErrMany
		}
		wantRibFault(t, manyRoutes(n), want)
		wantRibFault(t, onePerPrefix(n, int64(n%3)), want)
	}
	wantRibFault(t, make([]impl.Route, 5000), impl.ErrMany)
}

func TestPeerOfARoute(t *testing.T) {
	for _, peer := range append([]int64{3, 4}, edgeNumbers...) {
		want := int64(impl.ErrRange)
		if peer == 0 || peer == 1 || peer == 2 {
			want = impl.OK
		}
		r := routeOf(0, somePrefix())
		r.Peer = peer
		wantRibFault(t, []impl.Route{r}, want)
		wantRibFault(t, append(onePerPrefix(3, 1), r), want)
	}
}

func TestPrefixAndAttrsOfARoute(t *testing.T) {
	for _, p := range edgePrefixes() {
		wantRibFault(t, []impl.Route{{Peer: 1, Prefix: p}}, wordsFault(p))
	}
	for _, r := range faultyRoutes() {
		wantRibFault(t, []impl.Route{r}, wordsRouteFault(r))
		if wordsRouteFault(r) == impl.OK {
			t.Errorf("%v should have a fault", r)
		}
	}
	for _, u := range rightUpdates() {
		wantRibFault(t, []impl.Route{{Prefix: somePrefix(), Attrs: u.Attrs}}, impl.OK)
	}
}

func TestOrderOfRoutes(t *testing.T) {
	at := func(peer, addr, length int64) impl.Route {
		return impl.Route{Peer: peer, Prefix: impl.Prefix{Addr: addr, Len: length}}
	}
	rising := []impl.Route{at(0, 0, 0), at(1, 0, 0), at(2, 0, 0), at(0, 0, 1), at(2, 0, 8), at(0, 0, 16), at(1, 1, 16),
		at(2, 2560, 8), at(0, 2560, 9), at(1, 2560, 9), at(1, 2560, 16), at(0, 32768, 1), at(2, 32768, 16), at(0, 65535, 16), at(2, 65535, 16)}
	wantRibFault(t, rising, impl.OK)
	for i, a := range rising {
		for j, b := range rising {
			want := int64(impl.ErrForm)
			if i < j {
				want = impl.OK
			}
			wantRibFault(t, []impl.Route{a, b}, want)
			// Attributes put nothing ahead of anything.
			a.Attrs, b.Attrs = pathAttrs(1, 2), pathAttrs()
			b.Attrs.Local = 200
			wantRibFault(t, []impl.Route{a, b}, want)
			wantRibFault(t, []impl.Route{b, a}, wordsRibFault([]impl.Route{b, a}))
		}
	}
	for i := range rising {
		for j := range i {
			wantRibFault(t, swapped(slices.Clone(rising), i, j), impl.ErrForm)
		}
		wantRibFault(t, slices.Insert(slices.Clone(rising), i, rising[i]), impl.ErrForm)
	}
}

func TestWhichFaultOfRoutes(t *testing.T) {
	late, wide := impl.Prefix{Addr: 1, Len: 8}, impl.Prefix{Addr: 65536, Len: 8}
	low, some := impl.Prefix{}, somePrefix()
	long, bent, right := pathAttrs(longPath(7)...), pathAttrs(7, 0), pathAttrs(7)
	of := func(peer int64, p impl.Prefix, a impl.Attrs) impl.Route {
		return impl.Route{Peer: peer, Prefix: p, Attrs: a}
	}
	cases := []struct {
		list []impl.Route
		code int64
	}{
		// Of one route.
		{[]impl.Route{of(3, late, right)}, impl.ErrRange}, {[]impl.Route{of(3, some, long)}, impl.ErrRange}, {[]impl.Route{of(-1, late, long)}, impl.ErrRange},
		{[]impl.Route{of(2, late, bent)}, impl.ErrForm}, {[]impl.Route{of(2, late, long)}, impl.ErrForm}, {[]impl.Route{of(2, wide, long)}, impl.ErrRange},
		{[]impl.Route{of(0, some, right), of(3, low, right)}, impl.ErrRange}, {[]impl.Route{of(0, some, right), of(0, low, long)}, impl.ErrMany},
		{[]impl.Route{of(0, some, right), of(0, some, bent)}, impl.ErrRange}, {[]impl.Route{of(0, some, right), of(0, wide, right)}, impl.ErrRange},
		// The first route that has a fault is told, whatever the others have.
		{[]impl.Route{of(0, late, right), of(3, some, right)}, impl.ErrForm}, {[]impl.Route{of(0, some, long), of(3, some, right)}, impl.ErrMany},
		{[]impl.Route{of(3, some, right), of(0, late, right)}, impl.ErrRange}, {[]impl.Route{of(0, some, long), of(0, late, right)}, impl.ErrMany},
		{[]impl.Route{of(1, some, right), of(0, some, right), of(3, some, right)}, impl.ErrForm},
		{[]impl.Route{of(1, some, right), of(0, some, right), of(0, some, long)}, impl.ErrForm},
		{[]impl.Route{of(1, some, right), of(0, some, long), of(3, some, right)}, impl.ErrMany},
		{[]impl.Route{of(1, some, right), of(3, some, right), of(0, some, right)}, impl.ErrRange},
		{[]impl.Route{of(0, low, bent), of(0, some, long)}, impl.ErrRange}, {[]impl.Route{of(0, low, long), of(0, some, bent)}, impl.ErrMany},
		{[]impl.Route{of(0, low, right), of(1, low, right), of(0, some, right), of(0, some, right)}, impl.ErrForm},
		// How many there are is asked ahead of all.
		{append([]impl.Route{of(3, late, bent)}, manyRoutes(60)...), impl.ErrMany}, {append(manyRoutes(60), impl.Route{Peer: 3}), impl.ErrMany},
		{append([]impl.Route{of(3, late, bent)}, manyRoutes(59)...), impl.ErrRange}, {append(manyRoutes(59), impl.Route{Peer: 3}), impl.ErrRange},
		{append(manyRoutes(59), impl.Route{}), impl.ErrForm},
	}
	for _, c := range cases {
		wantRibFault(t, c.list, c.code)
	}
}

func TestFaultAtEachPlaceOfRoutes(t *testing.T) {
	for place := range 60 {
		for i, r := range faultyRoutes() {
			list := manyRoutes(60)
			list[place] = r
			wantRibFault(t, list, wordsRouteFault(r))
			other := faultyRoutes()[(i*7+3)%len(faultyRoutes())]
			list[59-place] = other
			want := wordsRouteFault(r)
			if 59-place < place {
				want = wordsRouteFault(other)
			}
			wantRibFault(t, list, want)
		}
	}
}

func TestCodesOfListsOfRoutes(t *testing.T) {
	wrong := routeOf(3, impl.Prefix{Addr: 1, Len: 8})
	for _, list := range faultyRibs() {
		code := wordsRibFault(list)
		if code == impl.OK {
			t.Errorf("%v should have a fault", list)
		}
		wantPut(t, list, routeOf(0, somePrefix()), impl.RibResult{Code: code})
		wantPut(t, list, wrong, impl.RibResult{Code: code})
		for _, peer := range []int64{-1, 0, 2, 3} {
			wantDrop(t, list, peer, somePrefix(), impl.RibResult{Code: code})
			wantDrop(t, list, peer, wrong.Prefix, impl.RibResult{Code: code})
			wantDropPeer(t, list, peer, impl.RibResult{Code: code})
		}
		wantBestFor(t, list, somePrefix(), impl.RouteResult{Code: code})
		wantBestFor(t, list, wrong.Prefix, impl.RouteResult{Code: code})
		wantBestOfAll(t, list, impl.RibResult{Code: code})
	}
}

func TestCodesOfPutRoute(t *testing.T) {
	for _, n := range []int{0, 1, 59, 60} {
		for _, r := range faultyRoutes() {
			wantPut(t, manyRoutes(n), r, impl.RibResult{Code: wordsRouteFault(r)})
		}
	}
	late := impl.Prefix{Addr: 1, Len: 8}
	for _, n := range []int{0, 5, 60} {
		wantPut(t, manyRoutes(n), impl.Route{Peer: 3, Prefix: late, Attrs: pathAttrs(longPath(7)...)}, impl.RibResult{Code: impl.ErrRange})
		wantPut(t, manyRoutes(n), impl.Route{Peer: 2, Prefix: late, Attrs: pathAttrs(0)}, impl.RibResult{Code: impl.ErrForm})
		wantPut(t, manyRoutes(n), impl.Route{Prefix: impl.Prefix{Len: 17}, Attrs: pathAttrs(longPath(7)...)}, impl.RibResult{Code: impl.ErrRange})
		wantPut(t, manyRoutes(n), impl.Route{Attrs: pathAttrs(0)}, impl.RibResult{Code: impl.ErrRange})
	}
	// Both have a fault: that of the list is told.
	wantPut(t, manyRoutes(61), impl.Route{Peer: 3}, impl.RibResult{Code: impl.ErrMany})
	wantPut(t, swapped(manyRoutes(3), 0, 1), impl.Route{Peer: 3}, impl.RibResult{Code: impl.ErrForm})
	wantPut(t, []impl.Route{{Peer: 3}}, impl.Route{Prefix: late}, impl.RibResult{Code: impl.ErrRange})
	// The fault of the route is told ahead of a list that is full.
	wantPut(t, manyRoutes(60), impl.Route{Prefix: late}, impl.RibResult{Code: impl.ErrForm})
}

func TestFullListOfRoutes(t *testing.T) {
	for n := 57; n <= 60; n++ {
		list := onePerPrefix(n, 1)
		for place, was := range list {
			in := routeOf(1, was.Prefix)
			in.Attrs = pathAttrs(longPath(place % 7)...)
			want := slices.Clone(list)
			want[place] = in
			wantPut(t, list, in, impl.RibResult{Routes: want})
			for _, peer := range []int64{0, 2} {
				beside := routeOf(peer, was.Prefix)
				at := place + int(peer/2)
				more := impl.RibResult{Routes: slices.Insert(slices.Clone(list), at, beside)}
				if n == 60 {
					more = impl.RibResult{Code: impl.ErrMany}
				}
				wantPut(t, list, beside, more)
			}
		}
		for at, p := range map[int]impl.Prefix{0: {}, n: {Addr: 65535, Len: 16}} {
			more := impl.RibResult{Routes: slices.Insert(slices.Clone(list), at, routeOf(1, p))}
			if n == 60 {
				more = impl.RibResult{Code: impl.ErrMany}
			}
			wantPut(t, list, routeOf(1, p), more)
		}
	}
}

func TestWhereARouteIsPut(t *testing.T) {
	low, some, high := impl.Prefix{}, somePrefix(), impl.Prefix{Addr: 65535, Len: 16}
	wantPut(t, nil, routeOf(2, some), impl.RibResult{Routes: []impl.Route{routeOf(2, some)}})
	list := []impl.Route{routeOf(1, low), routeOf(1, some), routeOf(1, high)}
	for at, r := range map[int]impl.Route{
		0: routeOf(0, low), 1: routeOf(2, low), 2: routeOf(2, some), 3: routeOf(2, high),
	} {
		wantPut(t, list, r, impl.RibResult{Routes: slices.Insert(slices.Clone(list), at, r)})
	}
	narrow, wide := impl.Prefix{Addr: 2560, Len: 9}, impl.Prefix{Addr: 2560, Len: 7}
	for at, p := range map[int]impl.Prefix{1: wide, 2: narrow} {
		for peer := range int64(3) {
			r := routeOf(peer, p)
			wantPut(t, list, r, impl.RibResult{Routes: slices.Insert(slices.Clone(list), at, r)})
		}
	}
	// Whatever the order in which they are put, they stand in one.
	want := []impl.Route{routeOf(0, some), routeOf(1, some), routeOf(2, some)}
	for _, order := range [][]int64{{0, 1, 2}, {0, 2, 1}, {1, 0, 2}, {1, 2, 0}, {2, 0, 1}, {2, 1, 0}} {
		var got []impl.Route
		for _, peer := range order {
			got = impl.PutRoute(got, routeOf(peer, some)).Routes
		}
		wantRib(t, impl.RibResult{Routes: got}, impl.RibResult{Routes: want}, "put in the order", order)
	}
}

func TestRouteInPlaceOfThatOfItsPeer(t *testing.T) {
	var list []impl.Route
	for peer := range int64(3) {
		list = append(list, routeOf(peer, somePrefix()))
	}
	for peer := range int64(3) {
		for _, u := range rightUpdates() {
			r := impl.Route{Peer: peer, Prefix: somePrefix(), Attrs: u.Attrs}
			want := slices.Clone(list)
			want[peer] = r
			wantPut(t, list, r, impl.RibResult{Routes: want})
			wantPut(t, want, r, impl.RibResult{Routes: want})
			wantPut(t, want, list[peer], impl.RibResult{Routes: list})
		}
	}
}

func TestDropRoute(t *testing.T) {
	for _, n := range []int{0, 1, 2, 3, 6, 59, 60} {
		list := manyRoutes(n)
		for place, r := range list {
			wantDrop(t, list, r.Peer, r.Prefix, impl.RibResult{Routes: slices.Delete(manyRoutes(n), place, place+1)})
		}
		for _, p := range rightPrefixes() {
			for peer := range int64(3) {
				wantDrop(t, list, peer, p, wordsDrop(list, peer, p))
			}
		}
	}
	some, narrow := somePrefix(), impl.Prefix{Addr: 2560, Len: 9}
	list := []impl.Route{routeOf(0, some), routeOf(2, some), routeOf(1, narrow)}
	// Neither the route of another peer, nor that of another prefix.
	wantDrop(t, list, 1, some, impl.RibResult{Routes: list})
	wantDrop(t, list, 0, narrow, impl.RibResult{Routes: list})
	wantDrop(t, list, 2, some, impl.RibResult{Routes: []impl.Route{list[0], list[2]}})
	wantDrop(t, list[:1], 0, some, impl.RibResult{})
	wantDrop(t, nil, 0, some, impl.RibResult{})
}

func TestCodesOfDropRoute(t *testing.T) {
	for _, list := range [][]impl.Route{nil, manyRoutes(7), manyRoutes(60)} {
		for _, peer := range append([]int64{3, 4}, edgeNumbers...) {
			wantPeer := peer >= 0 && peer <= 2
			for _, p := range append(faultyPrefixes(), somePrefix(), impl.Prefix{}) {
				want := wordsDrop(list, peer, p)
				if !wantPeer && want.Code != impl.ErrRange || wantPeer && want.Code != wordsFault(p) {
					t.Fatalf("the words of DropRoute are wrong: %v", want)
				}
				wantDrop(t, list, peer, p, want)
			}
		}
	}
	wantDrop(t, manyRoutes(4), 3, impl.Prefix{Addr: 1, Len: 8}, impl.RibResult{Code: impl.ErrRange})
	wantDrop(t, manyRoutes(4), 2, impl.Prefix{Addr: 1, Len: 8}, impl.RibResult{Code: impl.ErrForm})
}

func TestDropPeer(t *testing.T) {
	for _, list := range [][]impl.Route{nil, {}, manyRoutes(1), manyRoutes(3), manyRoutes(7), manyRoutes(60), onePerPrefix(60, 1), onePerPrefix(5, 0), onePerPrefix(5, 2)} {
		for _, peer := range append([]int64{3, 4}, edgeNumbers...) {
			wantDropPeer(t, list, peer, wordsDropPeer(list, peer))
		}
	}
	for peer := range int64(3) {
		wantDropPeer(t, onePerPrefix(60, peer), peer, impl.RibResult{})
		wantDropPeer(t, onePerPrefix(60, peer), (peer+1)%3, impl.RibResult{Routes: onePerPrefix(60, peer)})
	}
	for _, peer := range []int64{-1, 3, math.MinInt64, math.MaxInt64} {
		wantDropPeer(t, nil, peer, impl.RibResult{Code: impl.ErrRange})
		wantDropPeer(t, manyRoutes(4), peer, impl.RibResult{Code: impl.ErrRange})
	}
}

func wantBetter(t *testing.T, a, b impl.Route, want bool) {
	t.Helper()
	if got := impl.BetterRoute(a, b); got != want {
		t.Errorf("BetterRoute(%v, %v): %v, want %v", a, b, got, want)
	}
}

// worth is a route of numbers in the order in which they decide.
func worth(local int64, size int, origin, med, peer int64) impl.Route {
	return impl.Route{Peer: peer, Attrs: impl.Attrs{Local: local, Path: longPath(size), Origin: origin, Med: med}}
}

func TestBetterRoute(t *testing.T) {
	// Of each pair the first one is better, though all behind what decides speaks for the other one.
	pairs := [][2]impl.Route{
		{worth(100, 1, 0, 0, 0), worth(90, 0, 0, 0, 0)}, {worth(101, 6, 2, 9, 2), worth(100, 0, 0, 0, 0)}, {worth(65535, 0, 0, 0, 0), worth(0, 0, 0, 0, 0)},
		{worth(5, 0, 2, 9, 2), worth(5, 1, 0, 0, 0)}, {worth(5, 5, 0, 0, 0), worth(5, 6, 0, 0, 0)}, {worth(0, 2, 2, 65535, 2), worth(0, 3, 0, 0, 0)},
		{worth(5, 2, 0, 9, 2), worth(5, 2, 1, 0, 0)}, {worth(5, 2, 1, 9, 2), worth(5, 2, 2, 0, 0)}, {worth(5, 2, 0, 0, 0), worth(5, 2, 2, 0, 0)},
		{worth(5, 2, 1, 8, 2), worth(5, 2, 1, 9, 0)}, {worth(5, 2, 1, 0, 2), worth(5, 2, 1, 65535, 1)},
		{worth(5, 2, 1, 8, 0), worth(5, 2, 1, 8, 1)}, {worth(5, 2, 1, 8, 1), worth(5, 2, 1, 8, 2)}, {worth(5, 2, 1, 8, 0), worth(5, 2, 1, 8, 2)},
	}
	for _, pair := range pairs {
		wantBetter(t, pair[0], pair[1], true)
		wantBetter(t, pair[1], pair[0], false)
		wantBetter(t, pair[0], pair[0], false)
	}
	// Neither the prefix, nor Next, nor who is in the Path decides anything.
	a, b := worth(5, 2, 1, 8, 1), worth(5, 2, 1, 8, 1)
	b.Prefix, b.Attrs.Next, b.Attrs.Path = somePrefix(), 77, []int64{9, 9}
	wantBetter(t, a, b, false)
	wantBetter(t, b, a, false)
	b.Attrs.Med = 7
	wantBetter(t, b, a, true)
}

func TestBetterRouteOfWhateverNumbers(t *testing.T) {
	puts := []func(r *impl.Route, n int64){
		func(r *impl.Route, n int64) { r.Attrs.Local = n }, func(r *impl.Route, n int64) { r.Attrs.Origin = n },
		func(r *impl.Route, n int64) { r.Attrs.Med = n }, func(r *impl.Route, n int64) { r.Peer = n },
	}
	for i, put := range puts {
		for _, m := range edgeNumbers {
			for _, n := range edgeNumbers {
				a, b := worth(3, 2, 1, 1, 1), worth(3, 2, 1, 1, 1)
				put(&a, m)
				put(&b, n)
				wantBetter(t, a, b, i == 0 && m > n || i > 0 && m < n)
			}
		}
	}
	for _, m := range []int{0, 1, 6, 7, 255, 256, 70000} {
		for _, n := range []int{0, 1, 6, 7, 255, 256, 70000} {
			wantBetter(t, worth(3, m, 2, 2, 2), worth(3, n, 2, 2, 2), m < n)
		}
	}
	// It asks for no fault, of the prefix neither.
	a, b := worth(3, 2, 1, 1, 1), worth(2, 2, 1, 1, 1)
	a.Prefix, a.Attrs.Path, b.Attrs.Next = impl.Prefix{Addr: -1, Len: 99}, []int64{0, -1}, math.MaxInt64
	wantBetter(t, a, b, true)
	wantBetter(t, b, a, false)
}

func TestBetterRouteIsAnOrder(t *testing.T) {
	r := rand.New(rand.NewSource(71))
	some := func() impl.Route {
		return worth(r.Int63n(2), r.Intn(2), r.Int63n(2), r.Int63n(2), r.Int63n(2))
	}
	for range 20000 {
		a, b, c := some(), some(), some()
		wantBetter(t, a, b, wordsBetter(a, b))
		if impl.BetterRoute(a, b) && impl.BetterRoute(b, a) {
			t.Errorf("%v and %v are each the better one", a, b)
		}
		if impl.BetterRoute(a, b) && impl.BetterRoute(b, c) && !impl.BetterRoute(a, c) {
			t.Errorf("%v is not better than %v", a, c)
		}
	}
}

func TestBestForOfEachNumberOfPeers(t *testing.T) {
	grades := []impl.Route{worth(5, 1, 0, 0, 0), worth(5, 1, 0, 1, 0), worth(5, 1, 1, 0, 0), worth(5, 2, 0, 0, 0), worth(4, 1, 0, 0, 0)}
	for peers := range 8 {
		for at := range len(grades) * len(grades) * len(grades) {
			var list []impl.Route
			for peer := range 3 {
				r := grades[at/[]int{1, len(grades), len(grades) * len(grades)}[peer]%len(grades)]
				r.Peer, r.Prefix = int64(peer), somePrefix()
				if peers>>peer&1 == 1 {
					list = append(list, r)
				}
			}
			wantBestFor(t, list, somePrefix(), wordsBestFor(list, somePrefix()))
			wantBestOfAll(t, list, wordsBestOfAll(list))
			if len(list) == 0 {
				wantBestFor(t, list, somePrefix(), impl.RouteResult{Code: impl.ErrNone})
			}
		}
	}
}

func TestBestForIsOfThePrefixAlone(t *testing.T) {
	some := somePrefix()
	others := []impl.Prefix{{}, {Len: 1}, {Addr: 2560, Len: 7}, {Addr: 2560, Len: 9}, {Addr: 2560, Len: 16}, {Addr: 2561, Len: 16}, {Addr: 2816, Len: 8}, {Addr: 2048, Len: 5}}
	for _, p := range others {
		best := impl.Route{Prefix: p, Attrs: impl.Attrs{Local: 65535}}
		list := impl.PutRoute(nil, best).Routes
		wantBestFor(t, list, some, impl.RouteResult{Code: impl.ErrNone})
		list = impl.PutRoute(list, routeOf(2, some)).Routes
		wantBestFor(t, list, some, impl.RouteResult{Route: routeOf(2, some)})
		wantBestFor(t, list, p, impl.RouteResult{Route: best})
	}
}

func TestCodesOfBestFor(t *testing.T) {
	for _, list := range [][]impl.Route{nil, manyRoutes(1), manyRoutes(60)} {
		for _, p := range edgePrefixes() {
			wantBestFor(t, list, p, wordsBestFor(list, p))
		}
		for _, p := range faultyPrefixes() {
			wantBestFor(t, list, p, impl.RouteResult{Code: wordsFault(p)})
		}
		wantBestFor(t, list, impl.Prefix{Addr: 65535, Len: 16}, impl.RouteResult{Code: impl.ErrNone})
	}
}

func TestBestOfAll(t *testing.T) {
	wantBestOfAll(t, nil, impl.RibResult{})
	for _, peer := range []int64{0, 1, 2} {
		for _, n := range []int{1, 2, 59, 60} {
			wantBestOfAll(t, onePerPrefix(n, peer), impl.RibResult{Routes: onePerPrefix(n, peer)})
		}
	}
	for n := range 61 {
		wantBestOfAll(t, manyRoutes(n), wordsBestOfAll(manyRoutes(n)))
	}
	// They are told in the order of their prefixes, however good they are.
	list := onePerPrefix(60, 1)
	for i := range list {
		list[i].Attrs.Local = int64(i * 37 % 60)
	}
	wantBestOfAll(t, list, impl.RibResult{Routes: list})
}

// someRoute is one of few prefixes and few grades, so that many are of one prefix, and many as good.
func someRoute(r *rand.Rand, all []impl.Prefix) impl.Route {
	a := pathAttrs(longPath(r.Intn(3))...)
	a.Local, a.Origin, a.Med = r.Int63n(2), r.Int63n(2), r.Int63n(2)
	return impl.Route{Peer: r.Int63n(3), Prefix: all[r.Intn(len(all))], Attrs: a}
}

func checkPut(t *testing.T, was []impl.Route, r impl.Route) []impl.Route {
	t.Helper()
	wantPut(t, was, r, wordsPut(was, r))
	told := impl.PutRoute(was, r)
	if told.Code != impl.OK {
		return was
	}
	place := slices.IndexFunc(told.Routes, func(o impl.Route) bool { return sameKey(o, r) })
	if place < 0 || !sameRoute(told.Routes[place], r) {
		t.Fatalf("%v is not there: %v", r, told.Routes)
	}
	left := slices.DeleteFunc(slices.Clone(was), func(o impl.Route) bool { return sameKey(o, r) })
	if !sameRoutes(left, slices.Delete(slices.Clone(told.Routes), place, place+1)) {
		t.Fatalf("%v was put: of %v all others should stay: %v", r, was, told.Routes)
	}
	return told.Routes
}

func checkBest(t *testing.T, list []impl.Route) {
	t.Helper()
	wantBestOfAll(t, list, wordsBestOfAll(list))
	told := map[impl.Prefix]impl.Route{}
	for _, r := range impl.BestOfAll(list).Routes {
		if _, twice := told[r.Prefix]; twice {
			t.Fatalf("of %v two are told", r.Prefix)
		}
		told[r.Prefix] = r
	}
	for _, r := range list {
		best, is := told[r.Prefix]
		if !is || impl.BetterRoute(r, best) || !sameKey(r, best) && !impl.BetterRoute(best, r) {
			t.Fatalf("of %v %v is told, and %v is better", r.Prefix, best, r)
		}
		wantBestFor(t, list, r.Prefix, impl.RouteResult{Route: best})
	}
}

func TestRoutesThatArePutAndDropped(t *testing.T) {
	r := rand.New(rand.NewSource(72))
	all := rightPrefixes()[:40]
	sizes := map[int]int{}
	for range 60 {
		var list []impl.Route
		for range 120 {
			route := someRoute(r, all)
			list = checkPut(t, list, route)
			sizes[len(list)]++
			checkBest(t, list)
			asked := someRoute(r, all)
			wantDrop(t, list, asked.Peer, asked.Prefix, wordsDrop(list, asked.Peer, asked.Prefix))
			wantDropPeer(t, list, asked.Peer, wordsDropPeer(list, asked.Peer))
			wantBestFor(t, list, asked.Prefix, wordsBestFor(list, asked.Prefix))
			if r.Intn(4) == 0 {
				list = impl.DropRoute(list, asked.Peer, asked.Prefix).Routes
			}
		}
		if r.Intn(2) == 0 {
			list = impl.DropPeer(list, r.Int63n(3)).Routes
			checkBest(t, list)
		}
	}
	for _, size := range []int{1, 10, 30, 59, 60} {
		if sizes[size] < 20 {
			t.Errorf("lists of %d routes were hardly asked: %d", size, sizes[size])
		}
	}
}

func TestAnyListOfRoutes(t *testing.T) {
	r := rand.New(rand.NewSource(73))
	all := rightPrefixes()[:40]
	faulty := faultyRoutes()
	told := map[int64]int{}
	for range 20000 {
		var list []impl.Route
		for range r.Intn(6) {
			list = append(list, someRoute(r, all))
		}
		if r.Intn(2) == 0 {
			slices.SortFunc(list, func(a, b impl.Route) int {
				if wordsStand(a, b) {
					return -1
				}
				return 1
			})
		}
		for range r.Intn(2) * r.Intn(2) * r.Intn(3) {
			list = append(list, faulty[r.Intn(len(faulty))])
		}
		code := wordsRibFault(list)
		told[code]++
		wantRibFault(t, list, code)
		route := someRoute(r, all)
		wantPut(t, list, route, wordsPut(list, route))
		wantDrop(t, list, route.Peer, route.Prefix, wordsDrop(list, route.Peer, route.Prefix))
		wantDropPeer(t, list, route.Peer, wordsDropPeer(list, route.Peer))
		wantBestFor(t, list, route.Prefix, wordsBestFor(list, route.Prefix))
		wantBestOfAll(t, list, wordsBestOfAll(list))
	}
	for _, code := range []int64{impl.OK, impl.ErrForm, impl.ErrRange, impl.ErrMany} {
		if told[code] < 50 {
			t.Errorf("code %d was hardly asked: %d", code, told[code])
		}
	}
}

func cloneRoute(r impl.Route) impl.Route {
	r.Attrs.Path = slices.Clone(r.Attrs.Path)
	return r
}

func cloneRoutes(list []impl.Route) []impl.Route {
	out := slices.Clone(list)
	for i := range out {
		out[i] = cloneRoute(out[i])
	}
	return out
}

// roomyRoutes have room behind the list and behind each Path.
func roomyRoutes(list []impl.Route) []impl.Route {
	out := append(cloneRoutes(list), routeOf(1, somePrefix()), routeOf(2, somePrefix()))
	for i := range out {
		path := out[i].Attrs.Path
		out[i].Attrs.Path = append(path, 1, 2, 3)[:len(path)]
	}
	return out[:len(list)]
}

// allMemory is what the list and its Paths have, with what stands behind them.
func allMemory(list []impl.Route) string {
	said := []any{}
	for _, r := range list[:cap(list)] {
		said = append(said, r, r.Attrs.Path[:cap(r.Attrs.Path)])
	}
	return fmt.Sprint(said...)
}

func spoilRoutes(list []impl.Route) {
	for i, r := range list[:cap(list)] {
		spoilUpdate(impl.Update{Attrs: r.Attrs})
		list[:cap(list)][i] = impl.Route{Peer: -7, Prefix: impl.Prefix{Addr: -7}}
	}
}

// ribCalls are the calls that answer routes.
func ribCalls() []func(list []impl.Route, r impl.Route) []impl.Route {
	return []func(list []impl.Route, r impl.Route) []impl.Route{
		func(list []impl.Route, r impl.Route) []impl.Route { return impl.PutRoute(list, r).Routes },
		func(list []impl.Route, r impl.Route) []impl.Route {
			return impl.DropRoute(list, r.Peer, r.Prefix).Routes
		},
		func(list []impl.Route, r impl.Route) []impl.Route { return impl.DropPeer(list, r.Peer).Routes },
		func(list []impl.Route, r impl.Route) []impl.Route {
			return []impl.Route{impl.BestFor(list, r.Prefix).Route}
		},
		func(list []impl.Route, _ impl.Route) []impl.Route { return impl.BestOfAll(list).Routes },
	}
}

func ribLists() [][]impl.Route {
	lists := [][]impl.Route{nil, {}, onePerPrefix(60, 1), {routeOf(1, somePrefix())}, {{}}}
	for _, n := range []int{1, 2, 3, 7, 59, 60} {
		lists = append(lists, manyRoutes(n))
	}
	return append(lists, faultyRibs()...)
}

func ribRoutes() []impl.Route {
	list := []impl.Route{routeOf(1, somePrefix()), routeOf(0, impl.Prefix{Len: 8}), routeOf(2, impl.Prefix{Addr: 256, Len: 8}), {},
		{Peer: 2, Prefix: somePrefix(), Attrs: pathAttrs()}, {Prefix: impl.Prefix{Addr: 65535, Len: 16}, Attrs: pathAttrs(longPath(6)...)}}
	return append(list, faultyRoutes()[0], faultyRoutes()[6], faultyRoutes()[18])
}

func TestRoutesChangeNoArgument(t *testing.T) {
	for _, was := range ribLists() {
		for _, r := range ribRoutes() {
			list := roomyRoutes(was)
			one := roomyRoutes([]impl.Route{r})
			memory, single := allMemory(list), allMemory(one)
			for _, call := range ribCalls() {
				call(list, one[0])
			}
			impl.RibFault(list)
			for _, other := range list {
				impl.BetterRoute(one[0], other)
			}
			if allMemory(list) != memory || allMemory(one) != single {
				t.Fatalf("%v or %v was changed", was, r)
			}
		}
	}
}

func TestRoutesAnswerNewMemory(t *testing.T) {
	for _, was := range ribLists() {
		for _, r := range ribRoutes() {
			for i, call := range ribCalls() {
				list := roomyRoutes(was)
				one := roomyRoutes([]impl.Route{r})
				memory, single := allMemory(list), allMemory(one)
				got := call(list, one[0])
				want := cloneRoutes(got)
				spoilRoutes(got)
				if allMemory(list) != memory || allMemory(one) != single {
					t.Fatalf("call %d: what is answered shares memory with %v or %v", i, was, r)
				}
				again := call(list, one[0])
				spoilRoutes(list)
				spoilRoutes(one)
				if !sameRoutes(again, want) {
					t.Fatalf("call %d: what is answered shares memory with its arguments, or with what was answered", i)
				}
			}
		}
	}
}

func TestPathsOfAnAnswerShareNothing(t *testing.T) {
	// All routes of the list have one Path: in an answer each has its own.
	path := append(longPath(3), 1, 2, 3)
	list := manyRoutes(12)
	for i := range list {
		list[i].Attrs.Path = path[:3]
	}
	for i, call := range ribCalls() {
		got := call(list, impl.Route{Peer: 1, Prefix: list[4].Prefix, Attrs: impl.Attrs{Path: path[:3]}})
		for j := range got {
			spoilUpdate(impl.Update{Attrs: got[j].Attrs})
			for k := j + 1; k < len(got); k++ {
				if !slices.Equal(got[k].Attrs.Path, path[:3]) {
					t.Fatalf("call %d: the routes %d and %d share their Path", i, j, k)
				}
			}
		}
		if !slices.Equal(path, append(longPath(3), 1, 2, 3)) {
			t.Fatalf("call %d: the Path of an argument is shared", i)
		}
	}
}

// allOfRoutes tells all that the functions of routes answer.
func allOfRoutes(list []impl.Route, r impl.Route) string {
	said := []any{impl.RibFault(list)}
	for _, told := range []impl.RibResult{impl.PutRoute(list, r), impl.DropRoute(list, r.Peer, r.Prefix), impl.DropPeer(list, r.Peer), impl.BestOfAll(list)} {
		said = append(said, fmt.Sprintf("%#v", told))
	}
	said = append(said, fmt.Sprintf("%#v", impl.BestFor(list, r.Prefix)))
	for _, other := range list {
		said = append(said, impl.BetterRoute(r, other), impl.BetterRoute(other, r))
	}
	return fmt.Sprint(said...)
}

func TestRoutesHangOnArgumentsAlone(t *testing.T) {
	for _, r := range ribRoutes() {
		if allOfRoutes(nil, r) != allOfRoutes([]impl.Route{}, r) {
			t.Errorf("no routes are not answered alike of %v", r)
		}
	}
	for _, list := range ribLists() {
		none, empty := cloneRoutes(list), cloneRoutes(list)
		for i := range list {
			none[i].Attrs.Path, empty[i].Attrs.Path = nil, []int64{}
		}
		for _, r := range ribRoutes() {
			hollow, bare := r, r
			hollow.Attrs.Path, bare.Attrs.Path = nil, []int64{}
			if allOfRoutes(none, hollow) != allOfRoutes(empty, bare) {
				t.Errorf("a Path that is nil and one that is empty are not answered alike of %v", list)
			}
			first := allOfRoutes(list, r)
			allOfRoutes(manyRoutes(9), routeOf(2, impl.Prefix{}))
			allOfRoutes(faultyRibs()[1], r)
			if allOfRoutes(list, r) != first || allOfRoutes(roomyRoutes(list), roomyRoutes([]impl.Route{r})[0]) != first {
				t.Fatalf("what is told of %v and %v hangs on more than them", list, r)
			}
		}
	}
}
