package tests

import (
	"fmt"
	"math"
	"math/rand"
	"slices"
	"strings"
	"testing"

	"loop.example/g00263/impl"
)

// wordsRuleFault asks the document's words in their order.
func wordsRuleFault(r impl.Rule) int64 {
	if code := wordsFault(r.Within); code != impl.OK {
		return code
	}
	bounds := [][3]int64{{r.Least, 0, 16}, {r.Most, 0, 16}, {r.As, 0, 65535}, {r.Local, -1, 65535}, {r.Prepend, 0, 3}}
	for _, b := range bounds {
		if b[0] < b[1] || b[0] > b[2] {
			return impl.ErrRange
		}
	}
	if r.Least > r.Most || r.Deny && r.Local != -1 || r.Deny && r.Prepend != 0 {
		return impl.ErrForm
	}
	return impl.OK
}

func wordsRulesFault(list []impl.Rule) int64 {
	if len(list) > 8 {
		return impl.ErrMany
	}
	for _, r := range list {
		if code := wordsRuleFault(r); code != impl.OK {
			return code
		}
	}
	return impl.OK
}

func wordsMatches(r impl.Rule, p impl.Prefix, a impl.Attrs) bool {
	for _, code := range []int64{wordsRuleFault(r), wordsFault(p), wordsAttrsFault(a)} {
		if code != impl.OK {
			return false
		}
	}
	if p.Len < r.Within.Len || !strings.HasPrefix(bitsOf(p.Addr), bitsOf(r.Within.Addr)[:r.Within.Len]) {
		return false
	}
	hasAs := r.As == 0
	for _, system := range a.Path {
		hasAs = hasAs || system == r.As
	}
	return hasAs && r.Least <= p.Len && p.Len <= r.Most
}

func wordsApply(list []impl.Rule, mine int64, p impl.Prefix, a impl.Attrs) impl.AttrsResult {
	if code := wordsRulesFault(list); code != impl.OK {
		return impl.AttrsResult{Code: code}
	}
	if mine < 1 || mine > 65535 {
		return impl.AttrsResult{Code: impl.ErrRange}
	}
	for _, code := range []int64{wordsFault(p), wordsAttrsFault(a)} {
		if code != impl.OK {
			return impl.AttrsResult{Code: code}
		}
	}
	place := slices.IndexFunc(list, func(r impl.Rule) bool { return wordsMatches(r, p, a) })
	if place < 0 {
		return impl.AttrsResult{Rule: -1, Attrs: a}
	}
	told := impl.AttrsResult{Rule: int64(place)}
	switch r := list[place]; {
	case r.Deny:
		told.Code = impl.ErrNone
	case len(a.Path)+int(r.Prepend) > 6:
		told.Code = impl.ErrMany
	default:
		told.Attrs = a
		for range r.Prepend {
			told.Attrs.Path = append([]int64{mine}, told.Attrs.Path...)
		}
		if r.Local >= 0 {
			told.Attrs.Local = r.Local
		}
	}
	return told
}

func wordsExport(a impl.Attrs, mine, next int64) impl.AttrsResult {
	if code := wordsAttrsFault(a); code != impl.OK {
		return impl.AttrsResult{Code: code}
	}
	if mine < 1 || mine > 65535 || next < 0 || next > 65535 {
		return impl.AttrsResult{Code: impl.ErrRange}
	}
	if len(a.Path) >= 6 {
		return impl.AttrsResult{Code: impl.ErrMany}
	}
	return impl.AttrsResult{Rule: -1, Attrs: impl.Attrs{Origin: a.Origin, Path: append([]int64{mine}, a.Path...), Next: next}}
}

func sameAttrs(a, b impl.Attrs) bool {
	return a.Origin == b.Origin && slices.Equal(a.Path, b.Path) && a.Next == b.Next && a.Med == b.Med && a.Local == b.Local
}

func wantAttrs(t *testing.T, what string, got, want impl.AttrsResult) {
	t.Helper()
	if got.Code != want.Code || got.Rule != want.Rule || !sameAttrs(got.Attrs, want.Attrs) {
		t.Errorf("%s: %+v, want %+v", what, got, want)
	}
}

func wantApply(t *testing.T, list []impl.Rule, mine int64, p impl.Prefix, a impl.Attrs, want impl.AttrsResult) {
	t.Helper()
	wantAttrs(t, fmt.Sprintf("ApplyRules(%v, %d, %v, %v)", list, mine, p, a), impl.ApplyRules(list, mine, p, a), want)
}

func wantExport(t *testing.T, a impl.Attrs, mine, next int64, want impl.AttrsResult) {
	t.Helper()
	wantAttrs(t, fmt.Sprintf("ExportAttrs(%v, %d, %d)", a, mine, next), impl.ExportAttrs(a, mine, next), want)
}

func wantRuleFault(t *testing.T, r impl.Rule, code int64) {
	t.Helper()
	if got := impl.RuleFault(r); got != code {
		t.Errorf("RuleFault(%+v): %d, want %d", r, got, code)
	}
}

func wantMatches(t *testing.T, r impl.Rule, p impl.Prefix, a impl.Attrs, want bool) {
	t.Helper()
	if got := impl.RuleMatches(r, p, a); got != want {
		t.Errorf("RuleMatches(%+v, %v, %v): %v, want %v", r, p, a, got, want)
	}
}

// anyRule is of all routes, and changes nothing of them.
func anyRule() impl.Rule {
	return impl.Rule{Most: 16, Local: -1}
}

func denyRule() impl.Rule {
	return impl.Rule{Most: 16, Deny: true, Local: -1}
}

func somePrefix() impl.Prefix {
	return impl.Prefix{Addr: 2560, Len: 8}
}

// pathAttrs have no number that another one could be taken for.
func pathAttrs(path ...int64) impl.Attrs {
	return impl.Attrs{Origin: 2, Path: path, Next: 5, Med: 60, Local: 100}
}

// faultyRules have each one fault.
func faultyRules() []impl.Rule {
	var list []impl.Rule
	for _, bend := range []func(r *impl.Rule){
		func(r *impl.Rule) { r.Within.Addr = -1 }, func(r *impl.Rule) { r.Within.Len = 17 },
		func(r *impl.Rule) { r.Within = impl.Prefix{Addr: 1, Len: 8} },
		func(r *impl.Rule) { r.Least = -1 }, func(r *impl.Rule) { r.Most = 17 },
		func(r *impl.Rule) { r.As = -1 }, func(r *impl.Rule) { r.As = 65536 },
		func(r *impl.Rule) { r.Local = -2 }, func(r *impl.Rule) { r.Local = 65536 },
		func(r *impl.Rule) { r.Prepend = -1 }, func(r *impl.Rule) { r.Prepend = 4 },
		func(r *impl.Rule) { r.Least, r.Most = 9, 8 },
		func(r *impl.Rule) { r.Deny, r.Local = true, 0 }, func(r *impl.Rule) { r.Deny, r.Prepend = true, 1 },
	} {
		r := anyRule()
		bend(&r)
		list = append(list, r)
	}
	return list
}

func faultyPrefixes() []impl.Prefix {
	return []impl.Prefix{{Addr: -1, Len: 16}, {Addr: 65536, Len: 16}, {Len: -1}, {Len: 17}, {Addr: 1, Len: 15}, {Addr: 1},
		{Addr: math.MaxInt64, Len: 16}, {Len: math.MinInt64}}
}

func faultyAttrs() []impl.Attrs {
	return []impl.Attrs{{Origin: 3}, {Origin: -1}, {Next: 65536}, {Med: -1}, {Local: 65536}, {Path: longPath(7)},
		{Path: []int64{0}}, {Path: []int64{7, 65536}}, {Local: math.MinInt64}, {Path: []int64{math.MaxInt64}}}
}

func TestMaxRules(t *testing.T) {
	if impl.MaxRules != 8 {
		t.Error(impl.MaxRules)
	}
}

func TestBoundsOfARule(t *testing.T) {
	type put func(r *impl.Rule, n int64)
	cases := []struct {
		name         string
		put          put
		least, great int64
	}{
		// With a Len of 16 any Addr in its bounds has no late bit, with an Addr of 0 any Len.
		{"Addr", func(r *impl.Rule, n int64) { r.Within = impl.Prefix{Addr: n, Len: 16} }, 0, 65535},
		{"Len", func(r *impl.Rule, n int64) { r.Within.Len = n }, 0, 16},
		{"Least", func(r *impl.Rule, n int64) { r.Least = n }, 0, 16},
		{"Most", func(r *impl.Rule, n int64) { r.Most = n }, 0, 16},
		{"As", func(r *impl.Rule, n int64) { r.As = n }, 0, 65535},
		{"Local", func(r *impl.Rule, n int64) { r.Local = n }, -1, 65535},
		{"Prepend", func(r *impl.Rule, n int64) { r.Prepend = n }, 0, 3},
	}
	for _, c := range cases {
		for _, n := range append([]int64{-2, 3, 4}, edgeNumbers...) {
			r := anyRule()
			c.put(&r, n)
			want := int64(impl.OK)
			if n < c.least || n > c.great {
				want = impl.ErrRange
			}
			if got := impl.RuleFault(r); got != want {
				t.Errorf("RuleFault with %s %d: %d, want %d", c.name, n, got, want)
			}
		}
	}
}

func TestFormOfARule(t *testing.T) {
	for least := range int64(17) {
		for most := range int64(17) {
			want := int64(impl.OK)
			if least > most {
				want = impl.ErrForm
			}
			wantRuleFault(t, impl.Rule{Least: least, Most: most, Local: -1}, want)
			wantRuleFault(t, impl.Rule{Least: least, Most: most, Deny: true, Local: -1}, want)
		}
	}
	for _, local := range []int64{-1, 0, 1, 100, 65535} {
		for prepend := range int64(4) {
			r := impl.Rule{Most: 16, Local: local, Prepend: prepend}
			wantRuleFault(t, r, impl.OK)
			r.Deny = true
			want := int64(impl.ErrForm)
			if local == -1 && prepend == 0 {
				want = impl.OK
			}
			wantRuleFault(t, r, want)
		}
	}
	for addr := range int64(65536) {
		p := impl.Prefix{Addr: addr, Len: addr % 17}
		wantRuleFault(t, impl.Rule{Within: p, Most: 16, Local: -1}, wordsFault(p))
	}
}

func TestWhichFaultOfARule(t *testing.T) {
	late := impl.Prefix{Addr: 1, Len: 8}
	wide := impl.Prefix{Addr: 65536, Len: 8}
	cases := []struct {
		rule impl.Rule
		code int64
	}{
		{impl.Rule{}, impl.OK}, {anyRule(), impl.OK}, {denyRule(), impl.OK},
		// All of Within ahead of all else: its ErrForm is told ahead of an ErrRange.
		{impl.Rule{Within: late, Least: -1}, impl.ErrForm}, {impl.Rule{Within: late, Most: 17}, impl.ErrForm},
		{impl.Rule{Within: late, As: 65536}, impl.ErrForm}, {impl.Rule{Within: late, Local: -2}, impl.ErrForm},
		{impl.Rule{Within: late, Prepend: 4}, impl.ErrForm}, {impl.Rule{Within: late, Least: 1}, impl.ErrForm},
		{impl.Rule{Within: wide, Least: 1}, impl.ErrRange}, {impl.Rule{Within: wide, Deny: true}, impl.ErrRange},
		{impl.Rule{Within: impl.Prefix{Len: 17}, Least: 1}, impl.ErrRange},
		// The bounds ahead of how they stand to one another.
		{impl.Rule{Least: 17, Most: 16}, impl.ErrRange}, {impl.Rule{Least: 0, Most: -1}, impl.ErrRange},
		{impl.Rule{Least: 5, Most: 4, As: -1}, impl.ErrRange}, {impl.Rule{Least: 5, Most: 4, Local: 65536}, impl.ErrRange},
		{impl.Rule{Least: 5, Most: 4, Prepend: -1}, impl.ErrRange}, {impl.Rule{Least: 5, Most: 4}, impl.ErrForm},
		{impl.Rule{Deny: true, Local: -2}, impl.ErrRange}, {impl.Rule{Deny: true, Local: 65536}, impl.ErrRange},
		{impl.Rule{Deny: true, Local: -1, Prepend: 4}, impl.ErrRange}, {impl.Rule{Deny: true, Local: 5, As: 65536}, impl.ErrRange},
		{impl.Rule{Deny: true, Local: 5, Prepend: 1}, impl.ErrForm}, {impl.Rule{Deny: true}, impl.ErrForm},
	}
	for _, c := range cases {
		wantRuleFault(t, c.rule, c.code)
	}
}

func TestRuleFaultOfAnyNumbers(t *testing.T) {
	r := rand.New(rand.NewSource(61))
	few := []int64{-2, -1, 0, 1, 3, 4, 8, 16, 17, 256, 65535, 65536, math.MinInt64, math.MaxInt64}
	pick := func() int64 {
		if r.Intn(4) > 0 {
			return r.Int63n(4)
		}
		return few[r.Intn(len(few))]
	}
	told := map[int64]int{}
	for range 60000 {
		rule := impl.Rule{Within: impl.Prefix{Addr: pick(), Len: 16 - pick()}, Least: pick(), Most: pick(), As: pick(),
			Deny: r.Intn(3) == 0, Local: pick() - 1, Prepend: pick()}
		want := wordsRuleFault(rule)
		told[want]++
		wantRuleFault(t, rule, want)
	}
	for _, code := range []int64{impl.OK, impl.ErrRange, impl.ErrForm} {
		if told[code] < 100 {
			t.Errorf("code %d was hardly asked: %v", code, told)
		}
	}
}

func TestRulesFault(t *testing.T) {
	bad := impl.Rule{Least: 17}
	loose := impl.Rule{Least: 1}
	nine := slices.Repeat([]impl.Rule{anyRule()}, 9)
	cases := []struct {
		list []impl.Rule
		code int64
	}{
		{nil, impl.OK}, {[]impl.Rule{}, impl.OK}, {nine[:1], impl.OK}, {nine[:7], impl.OK}, {nine[:8], impl.OK}, {nine, impl.ErrMany},
		{slices.Repeat([]impl.Rule{bad}, 9), impl.ErrMany}, {slices.Repeat([]impl.Rule{loose}, 9), impl.ErrMany},
		{slices.Repeat([]impl.Rule{loose}, 3000), impl.ErrMany},
		{[]impl.Rule{bad, loose}, impl.ErrRange}, {[]impl.Rule{loose, bad}, impl.ErrForm},
		{[]impl.Rule{anyRule(), loose, denyRule(), bad}, impl.ErrForm}, {[]impl.Rule{anyRule(), bad, loose, loose}, impl.ErrRange},
	}
	for _, c := range cases {
		if got := impl.RulesFault(c.list); got != c.code {
			t.Errorf("RulesFault of %d rules: %d, want %d", len(c.list), got, c.code)
		}
	}
	for _, bad := range faultyRules() {
		for size := 1; size <= 8; size++ {
			for at := range size {
				list := slices.Repeat([]impl.Rule{anyRule()}, size)
				list[at] = bad
				if got, want := impl.RulesFault(list), wordsRuleFault(bad); got != want || want == impl.OK {
					t.Errorf("RulesFault with %+v at %d of %d: %d, want %d", bad, at, size, got, want)
				}
			}
		}
	}
}

func TestWhatHasAFaultMatchesNot(t *testing.T) {
	wantMatches(t, anyRule(), somePrefix(), pathAttrs(7), true)
	for _, r := range faultyRules() {
		for _, p := range []impl.Prefix{{}, somePrefix(), {Addr: 65535, Len: 16}} {
			wantMatches(t, r, p, impl.Attrs{}, false)
			wantMatches(t, r, p, pathAttrs(7, 65535), false)
		}
	}
	for _, p := range faultyPrefixes() {
		wantMatches(t, anyRule(), p, pathAttrs(7), false)
	}
	for _, a := range faultyAttrs() {
		wantMatches(t, anyRule(), somePrefix(), a, false)
	}
	// The fault is asked of where the rule would look, too.
	wantMatches(t, impl.Rule{Most: 16, As: 7}, somePrefix(), pathAttrs(7, 0), false)
	wantMatches(t, impl.Rule{Most: 16, As: 7}, somePrefix(), pathAttrs(7, 7, 7, 7, 7, 7, 7), false)
}

func TestWithinWhichARuleMatches(t *testing.T) {
	rule := impl.Rule{Within: somePrefix(), Most: 16}
	cases := []struct {
		prefix impl.Prefix
		want   bool
	}{
		{impl.Prefix{Addr: 2560, Len: 8}, true}, {impl.Prefix{Addr: 2560, Len: 9}, true}, {impl.Prefix{Addr: 2688, Len: 9}, true},
		{impl.Prefix{Addr: 2815, Len: 16}, true}, {impl.Prefix{Addr: 2560, Len: 16}, true},
		// Around it.
		{impl.Prefix{Addr: 2560, Len: 7}, false}, {impl.Prefix{}, false}, {impl.Prefix{Addr: 2048, Len: 5}, false},
		// Beside it.
		{impl.Prefix{Addr: 2816, Len: 8}, false}, {impl.Prefix{Addr: 2304, Len: 8}, false}, {impl.Prefix{Addr: 2816, Len: 16}, false},
		{impl.Prefix{Addr: 2559, Len: 16}, false}, {impl.Prefix{Len: 8}, false},
	}
	for _, c := range cases {
		wantMatches(t, rule, c.prefix, pathAttrs(7), c.want)
	}
	for _, q := range rightPrefixes() {
		for _, p := range rightPrefixes() {
			rule.Within = q
			wantMatches(t, rule, p, pathAttrs(), wordsMatches(rule, p, pathAttrs()))
		}
	}
}

func TestLenAtWhichARuleMatches(t *testing.T) {
	for least := range int64(17) {
		for most := least; most <= 16; most++ {
			for length := range int64(17) {
				rule := impl.Rule{Least: least, Most: most}
				wantMatches(t, rule, impl.Prefix{Len: length}, pathAttrs(7), length >= least && length <= most)
			}
		}
	}
}

func TestSystemAtWhichARuleMatches(t *testing.T) {
	cases := []struct {
		as   int64
		path []int64
		want bool
	}{
		{0, nil, true}, {0, []int64{}, true}, {0, []int64{7}, true}, {0, longPath(6), true},
		{7, []int64{7}, true}, {7, []int64{7, 8, 9}, true}, {7, []int64{9, 8, 7}, true}, {7, []int64{9, 7, 8}, true},
		{7, []int64{1, 2, 3, 4, 5, 7}, true}, {7, []int64{7, 7}, true}, {65535, []int64{1, 65535}, true}, {1, []int64{1}, true},
		{7, nil, false}, {7, []int64{8}, false}, {7, []int64{1, 2, 3, 4, 5, 6}, false}, {65535, []int64{65534}, false}, {1, []int64{257}, false},
	}
	for _, c := range cases {
		wantMatches(t, impl.Rule{Most: 16, As: c.as}, somePrefix(), pathAttrs(c.path...), c.want)
		wantMatches(t, impl.Rule{Most: 16, As: c.as, Deny: true, Local: -1}, somePrefix(), pathAttrs(c.path...), c.want)
	}
}

// otherRules match no route of somePrefix by a path of 7, each for a reason of its own.
func otherRules() []impl.Rule {
	return []impl.Rule{
		{Within: impl.Prefix{Addr: 2816, Len: 8}, Most: 16, Local: 901},
		{Least: 9, Most: 16, Local: 902}, {Most: 7, Deny: true, Local: -1}, {Most: 16, As: 8, Local: 903, Prepend: 3},
		{Within: impl.Prefix{Addr: 2560, Len: 9}, Most: 16, Deny: true, Local: -1},
	}
}

// rulesBy has a rule that matches just where a bit of pattern is 1; each of these gives a Local of its own.
func rulesBy(size, pattern int) []impl.Rule {
	var list []impl.Rule
	for at := range size {
		if pattern>>at&1 == 1 {
			list = append(list, impl.Rule{Within: somePrefix(), Least: 8, Most: 8, As: 7, Local: int64(200 + at), Prepend: int64(at % 4)})
		} else {
			list = append(list, otherRules()[(at+pattern)%len(otherRules())])
		}
	}
	return list
}

func firstBit(size, pattern int) int {
	for at := range size {
		if pattern>>at&1 == 1 {
			return at
		}
	}
	return -1
}

func TestFirstRuleThatMatchesDecides(t *testing.T) {
	a := pathAttrs(7, 300)
	for size := range 9 {
		for pattern := range 1 << size {
			list := rulesBy(size, pattern)
			first := firstBit(size, pattern)
			want := impl.AttrsResult{Rule: -1, Attrs: a}
			if first >= 0 {
				want = impl.AttrsResult{Rule: int64(first), Attrs: pathAttrs(append(slices.Repeat([]int64{9}, first%4), 7, 300)...)}
				want.Attrs.Local = int64(200 + first)
			}
			wantApply(t, list, 9, somePrefix(), a, want)
			if first < 0 {
				continue
			}
			for behind := first + 1; behind < size; behind++ {
				for _, other := range append(otherRules(), anyRule(), denyRule(), list[first]) {
					changed := slices.Clone(list)
					changed[behind] = other
					wantApply(t, changed, 9, somePrefix(), a, want)
				}
			}
			wantApply(t, list[:first], 9, somePrefix(), a, impl.AttrsResult{Rule: -1, Attrs: a})
			wantApply(t, list[:first+1], 9, somePrefix(), a, want)
			list[first] = denyRule()
			wantApply(t, list, 9, somePrefix(), a, impl.AttrsResult{Code: impl.ErrNone, Rule: int64(first)})
		}
	}
}

func TestWithoutARuleNothingIsChanged(t *testing.T) {
	for _, u := range rightUpdates() {
		for _, list := range [][]impl.Rule{nil, {}, {{Within: impl.Prefix{Addr: 2816, Len: 8}, Most: 16, Local: 5, Prepend: 1}}} {
			for _, mine := range []int64{1, 7, 65535} {
				wantApply(t, list, mine, somePrefix(), u.Attrs, impl.AttrsResult{Rule: -1, Attrs: u.Attrs})
			}
		}
	}
}

func TestCodesOfApplyRules(t *testing.T) {
	late, wide := impl.Prefix{Addr: 1, Len: 8}, impl.Prefix{Addr: 65536, Len: 8}
	long, bent := pathAttrs(longPath(7)...), pathAttrs(7, 0)
	some := pathAttrs(7)
	right := []impl.Rule{denyRule()}
	nine := slices.Repeat(right, 9)
	loose := []impl.Rule{anyRule(), {Least: 1}}
	cases := []struct {
		list []impl.Rule
		mine int64
		p    impl.Prefix
		a    impl.Attrs
		code int64
	}{
		{nine, 9, somePrefix(), some, impl.ErrMany}, {loose, 9, somePrefix(), some, impl.ErrForm},
		{right, 0, somePrefix(), some, impl.ErrRange}, {right, 65536, somePrefix(), some, impl.ErrRange},
		{right, -1, somePrefix(), some, impl.ErrRange}, {right, math.MinInt64, somePrefix(), some, impl.ErrRange},
		{right, math.MaxInt64, somePrefix(), some, impl.ErrRange}, {nil, 0, somePrefix(), some, impl.ErrRange},
		{right, 9, late, some, impl.ErrForm}, {right, 9, wide, some, impl.ErrRange}, {nil, 9, late, some, impl.ErrForm},
		{right, 9, somePrefix(), long, impl.ErrMany}, {right, 9, somePrefix(), bent, impl.ErrRange}, {nil, 9, somePrefix(), long, impl.ErrMany},
		// Each one ahead of those that stand behind it.
		{nine, 0, late, bent, impl.ErrMany}, {loose, 0, wide, long, impl.ErrForm}, {loose, 9, wide, some, impl.ErrForm},
		{loose, 9, somePrefix(), long, impl.ErrForm}, {nine, 9, late, some, impl.ErrMany}, {nine, 9, somePrefix(), bent, impl.ErrMany},
		{right, 0, late, some, impl.ErrRange}, {right, 65536, late, long, impl.ErrRange}, {right, 0, somePrefix(), long, impl.ErrRange},
		{right, 9, late, long, impl.ErrForm}, {right, 9, late, bent, impl.ErrForm}, {right, 9, wide, long, impl.ErrRange},
		// A rule that has a fault is told even where one ahead of it would decide.
		{[]impl.Rule{denyRule(), {Least: 1}}, 9, somePrefix(), some, impl.ErrForm},
		{[]impl.Rule{anyRule(), {Least: 17}}, 9, somePrefix(), some, impl.ErrRange},
	}
	for _, c := range cases {
		wantApply(t, c.list, c.mine, c.p, c.a, impl.AttrsResult{Code: c.code})
	}
	for _, mine := range []int64{1, 2, 65534, 65535} {
		list := []impl.Rule{{Most: 16, Local: -1, Prepend: 1}}
		wantApply(t, list, mine, somePrefix(), some, impl.AttrsResult{Attrs: pathAttrs(mine, 7)})
	}
}

func TestRuleThatDenies(t *testing.T) {
	for place := range 8 {
		list := slices.Repeat([]impl.Rule{otherRules()[0]}, 8)
		list[place] = denyRule()
		want := impl.AttrsResult{Code: impl.ErrNone, Rule: int64(place)}
		wantApply(t, list, 9, somePrefix(), pathAttrs(7), want)
		wantApply(t, list, 9, somePrefix(), pathAttrs(longPath(6)...), want)
		list[place] = anyRule()
		wantApply(t, list, 9, somePrefix(), pathAttrs(7), impl.AttrsResult{Rule: int64(place), Attrs: pathAttrs(7)})
	}
}

func TestPathThatGetsLonger(t *testing.T) {
	for size := range 7 {
		for prepend := range int64(4) {
			for place := range 8 {
				list := slices.Repeat([]impl.Rule{otherRules()[0]}, 8)
				list[place] = impl.Rule{Most: 16, Local: 8, Prepend: prepend}
				want := impl.AttrsResult{Code: impl.ErrMany, Rule: int64(place)}
				if size+int(prepend) <= impl.MaxPath {
					want.Code = impl.OK
					want.Attrs = pathAttrs(append(slices.Repeat([]int64{9}, int(prepend)), longPath(size)...)...)
					want.Attrs.Local = 8
				}
				wantApply(t, list, 9, somePrefix(), pathAttrs(longPath(size)...), want)
			}
		}
	}
}

func TestLocalThatIsGiven(t *testing.T) {
	for _, was := range []int64{0, 1, 100, 65535} {
		for _, local := range []int64{-1, 0, 1, 99, 65535} {
			a := pathAttrs(7)
			a.Local = was
			want := a
			if local != -1 {
				want.Local = local
			}
			wantApply(t, []impl.Rule{{Most: 16, Local: local}}, 9, somePrefix(), a, impl.AttrsResult{Attrs: want})
		}
	}
}

func TestOwnSystemIsPutAhead(t *testing.T) {
	for _, c := range []struct {
		prepend int64
		path    []int64
		want    []int64
	}{
		{0, []int64{7, 8}, []int64{7, 8}}, {1, []int64{7, 8}, []int64{9, 7, 8}}, {2, []int64{7, 8}, []int64{9, 9, 7, 8}},
		{3, []int64{7, 8}, []int64{9, 9, 9, 7, 8}}, {0, nil, nil}, {3, nil, []int64{9, 9, 9}}, {1, []int64{9}, []int64{9, 9}},
		{3, []int64{1, 2, 3}, []int64{9, 9, 9, 1, 2, 3}}, {0, []int64{1, 2, 3, 4, 5, 6}, []int64{1, 2, 3, 4, 5, 6}},
	} {
		list := []impl.Rule{{Most: 16, Local: -1, Prepend: c.prepend}}
		wantApply(t, list, 9, somePrefix(), pathAttrs(c.path...), impl.AttrsResult{Attrs: pathAttrs(c.want...)})
	}
}

// someRule is mostly without a fault, and mostly one of a few routes.
func someRule(r *rand.Rand) impl.Rule {
	if r.Intn(40) == 0 {
		return faultyRules()[r.Intn(len(faultyRules()))]
	}
	all := rightPrefixes()
	rule := impl.Rule{Within: all[r.Intn(20)], Least: r.Int63n(10), Most: 8 + r.Int63n(9), Local: -1}
	if rule.Least > rule.Most {
		rule.Least, rule.Most = rule.Most, rule.Least
	}
	if r.Intn(2) == 0 {
		rule.As = []int64{1, 255, 256, 65535}[r.Intn(4)]
	}
	if r.Intn(4) == 0 {
		rule.Deny = true
		return rule
	}
	rule.Local = []int64{-1, 0, 1, 65535}[r.Intn(4)]
	rule.Prepend = r.Int63n(4)
	return rule
}

func TestWhatIsMadeOfAnyRoute(t *testing.T) {
	r := rand.New(rand.NewSource(62))
	told := map[[2]int64]int{}
	all := rightPrefixes()
	for range 20000 {
		var list []impl.Rule
		for range r.Intn(9) {
			list = append(list, someRule(r))
		}
		mine := []int64{1, 9, 65535, 65536}[min(3, r.Intn(40)/13)]
		p, a := all[r.Intn(len(all))], rightUpdate(r).Attrs
		want := wordsApply(list, mine, p, a)
		told[[2]int64{want.Code, want.Rule}]++
		wantApply(t, list, mine, p, a, want)
		for _, rule := range list {
			wantMatches(t, rule, p, a, wordsMatches(rule, p, a))
		}
		wantExport(t, a, mine, p.Addr, wordsExport(a, mine, p.Addr))
	}
	for _, is := range [][2]int64{{impl.OK, -1}, {impl.OK, 0}, {impl.OK, 3}, {impl.ErrNone, 0}, {impl.ErrNone, 2}, {impl.ErrMany, 0}, {impl.ErrMany, 2}, {impl.ErrRange, 0}, {impl.ErrForm, 0}} {
		if told[is] < 20 {
			t.Errorf("code and rule %v were hardly asked: %d", is, told[is])
		}
	}
}

func TestHasLoop(t *testing.T) {
	cases := []struct {
		path []int64
		mine int64
		want bool
	}{
		{nil, 9, false}, {[]int64{}, 9, false}, {nil, 0, false}, {[]int64{9}, 9, true}, {[]int64{8}, 9, false},
		{[]int64{9, 1, 2}, 9, true}, {[]int64{1, 2, 9}, 9, true}, {[]int64{1, 9, 2}, 9, true}, {[]int64{1, 2, 3}, 9, false},
		{longPath(6), 1 + 5*257, true}, {longPath(6), 1, true}, {longPath(6), 2, false},
		// It asks for no fault: mine is in the Path, whatever both are.
		{[]int64{0}, 0, true}, {[]int64{7}, 0, false}, {[]int64{-1, 65536}, 65536, true}, {[]int64{-1, 65536}, -1, true}, {[]int64{1}, 65537, false},
		{[]int64{math.MinInt64}, math.MinInt64, true}, {[]int64{math.MinInt64}, math.MaxInt64, false}, {[]int64{math.MaxInt64}, math.MaxInt64, true},
		{append(longPath(300), 9), 9, true}, {longPath(300), 9, false},
	}
	for _, c := range cases {
		for _, a := range []impl.Attrs{pathAttrs(c.path...), {Path: c.path}, {Origin: -1, Path: c.path, Next: 9, Med: 9, Local: 9}} {
			if got := impl.HasLoop(a, c.mine); got != c.want {
				t.Errorf("HasLoop(%v, %d): %v, want %v", a, c.mine, got, c.want)
			}
		}
	}
}

func TestCodesOfExportAttrs(t *testing.T) {
	full, long, bent := pathAttrs(longPath(6)...), pathAttrs(longPath(7)...), pathAttrs(7, 0)
	some := pathAttrs(7)
	cases := []struct {
		a          impl.Attrs
		mine, next int64
		code       int64
	}{
		{long, 9, 5, impl.ErrMany}, {bent, 9, 5, impl.ErrRange}, {full, 9, 5, impl.ErrMany},
		{some, 0, 5, impl.ErrRange}, {some, 65536, 5, impl.ErrRange}, {some, -1, 5, impl.ErrRange},
		{some, 9, -1, impl.ErrRange}, {some, 9, 65536, impl.ErrRange}, {some, 9, math.MaxInt64, impl.ErrRange},
		{some, math.MinInt64, 5, impl.ErrRange}, {some, math.MaxInt64, 5, impl.ErrRange}, {some, 9, math.MinInt64, impl.ErrRange},
		// Each one ahead of those that stand behind it.
		{long, 0, 5, impl.ErrMany}, {long, 9, -1, impl.ErrMany}, {full, 0, 5, impl.ErrRange}, {full, 9, -1, impl.ErrRange},
		{full, 9, 65536, impl.ErrRange}, {full, 65536, 5, impl.ErrRange}, {pathAttrs(1, 2, 3, 4, 5, 0), 9, 5, impl.ErrRange},
	}
	for _, c := range cases {
		wantExport(t, c.a, c.mine, c.next, impl.AttrsResult{Code: c.code})
	}
	for _, a := range faultyAttrs() {
		wantExport(t, a, 9, 5, impl.AttrsResult{Code: wordsAttrsFault(a)})
	}
}

func TestExportAttrs(t *testing.T) {
	for size := range 6 {
		for _, mine := range []int64{1, 9, 65535} {
			for _, next := range []int64{0, 1, 5, 65535} {
				for origin := range int64(3) {
					a := pathAttrs(longPath(size)...)
					a.Origin = origin
					want := impl.Attrs{Origin: origin, Path: append([]int64{mine}, longPath(size)...), Next: next}
					wantExport(t, a, mine, next, impl.AttrsResult{Rule: -1, Attrs: want})
					got := impl.ExportAttrs(a, mine, next).Attrs
					if impl.AttrsFault(got) != impl.OK || !impl.HasLoop(got, mine) {
						t.Errorf("%v is told: it has a fault, or not the own system", got)
					}
				}
			}
		}
	}
	// The own system is put ahead even where it is there already.
	wantExport(t, pathAttrs(9, 7, 9), 9, 5, impl.AttrsResult{Rule: -1, Attrs: impl.Attrs{Origin: 2, Path: []int64{9, 9, 7, 9}, Next: 5}})
}

// policyCall is one of the calls that answer attributes, or that take a list.
type policyCall func(list []impl.Rule, p impl.Prefix, a impl.Attrs) impl.AttrsResult

func policyCalls() []policyCall {
	apply := func(list []impl.Rule, p impl.Prefix, a impl.Attrs) impl.AttrsResult {
		return impl.ApplyRules(list, 9, p, a)
	}
	export := func(_ []impl.Rule, p impl.Prefix, a impl.Attrs) impl.AttrsResult {
		return impl.ExportAttrs(a, 9, p.Addr)
	}
	return []policyCall{apply, export}
}

// policyLists end in each way that a list of rules can.
func policyLists() [][]impl.Rule {
	lists := [][]impl.Rule{nil, {anyRule()}, {denyRule()}, otherRules(), {faultyRules()[0]}, slices.Repeat([]impl.Rule{anyRule()}, 9)}
	for prepend := range int64(4) {
		lists = append(lists, []impl.Rule{otherRules()[0], {Most: 16, Local: 3, Prepend: prepend}, denyRule()})
	}
	return lists
}

func policyAttrs() []impl.Attrs {
	list := append(faultyAttrs(), impl.Attrs{}, impl.Attrs{Path: []int64{}})
	for size := range 7 {
		list = append(list, pathAttrs(longPath(size)...))
	}
	return list
}

func TestPoliciesChangeNoArgument(t *testing.T) {
	for _, list := range policyLists() {
		rules := append(slices.Clone(list), anyRule(), denyRule())
		rulesWere := slices.Clone(rules)
		for _, a := range policyAttrs() {
			path := append(slices.Clone(a.Path), 1, 2, 3, 4)
			pathWas := slices.Clone(path)
			a.Path = path[:len(a.Path)]
			short := rules[:len(list)]
			for _, call := range policyCalls() {
				call(short, somePrefix(), a)
			}
			impl.RulesFault(short)
			impl.HasLoop(a, 9)
			for _, r := range short {
				impl.RuleMatches(r, somePrefix(), a)
			}
			if !slices.Equal(rules, rulesWere) || !slices.Equal(path, pathWas) {
				t.Fatalf("%v or %v was changed", short, a)
			}
		}
	}
}

func TestPoliciesAnswerNewMemory(t *testing.T) {
	for _, list := range policyLists() {
		for _, a := range policyAttrs() {
			a.Path = append(slices.Clone(a.Path), 1, 2, 3, 4)[:len(a.Path)]
			was := slices.Clone(a.Path[:cap(a.Path)])
			for i, call := range policyCalls() {
				got := call(list, somePrefix(), a)
				want := slices.Clone(got.Attrs.Path)
				spoilUpdate(impl.Update{Attrs: got.Attrs})
				if !slices.Equal(a.Path[:cap(a.Path)], was) {
					t.Fatalf("call %d: what is answered shares memory with the Path %v", i, was)
				}
				if again := call(list, somePrefix(), a); !slices.Equal(again.Attrs.Path, want) {
					t.Fatalf("call %d: what is answered shares memory with what was answered ahead of it", i)
				}
			}
		}
	}
}

// allOfPolicies tells all that the functions of policies answer.
func allOfPolicies(list []impl.Rule, p impl.Prefix, a impl.Attrs) string {
	said := []any{impl.RulesFault(list), impl.HasLoop(a, 9), impl.HasLoop(a, 1)}
	for _, call := range policyCalls() {
		said = append(said, fmt.Sprintf("%#v", call(list, p, a)))
	}
	for _, r := range list {
		said = append(said, impl.RuleFault(r), impl.RuleMatches(r, p, a))
	}
	return fmt.Sprint(said...)
}

func TestPoliciesHangOnArgumentsAlone(t *testing.T) {
	for _, list := range policyLists() {
		none, empty := pathAttrs(), pathAttrs([]int64{}...)
		none.Path, empty.Path = nil, []int64{}
		if allOfPolicies(list, somePrefix(), none) != allOfPolicies(list, somePrefix(), empty) {
			t.Errorf("a Path that is nil and one that is empty are not answered alike with %v", list)
		}
	}
	for _, a := range policyAttrs() {
		if allOfPolicies(nil, somePrefix(), a) != allOfPolicies([]impl.Rule{}, somePrefix(), a) {
			t.Errorf("no rules are not answered alike of %v", a)
		}
		for _, list := range policyLists() {
			first := allOfPolicies(list, somePrefix(), a)
			for _, other := range policyLists() {
				allOfPolicies(other, impl.Prefix{}, pathAttrs(1))
			}
			roomyList := append(slices.Clone(list), anyRule())[:len(list)]
			roomyAttrs := a
			roomyAttrs.Path = append(slices.Clone(a.Path), 1, 2)[:len(a.Path)]
			if allOfPolicies(list, somePrefix(), a) != first || allOfPolicies(roomyList, somePrefix(), roomyAttrs) != first {
				t.Fatalf("what is told of %v and %v hangs on more than them", list, a)
			}
		}
	}
}
