package tests

import (
	"fmt"
	"math"
	"math/rand"
	"reflect"
	"regexp"
	"slices"
	"strconv"
	"strings"
	"testing"

	"loop.example/g00263/impl"
)

// edgeNumbers are those at which an Addr or a Len begins or ends, and those that a narrow number would take for them.
var edgeNumbers = []int64{
	math.MinInt64, math.MinInt64 + 1, -65536, -256, -17, -16, -1, 0, 1, 2, 7, 8, 15, 16, 17, 32, 63, 64,
	255, 256, 257, 2560, 32767, 32768, 65280, 65534, 65535, 65536, 65537, 65552, 131072,
	1 << 31, 1 << 32, 1<<32 + 8, math.MaxInt64 - 1, math.MaxInt64,
}

// bitsOf writes an address as 16 digits, so that the tests lean on no shift.
func bitsOf(addr int64) string {
	return fmt.Sprintf("%016b", addr)
}

func wordsFault(p impl.Prefix) int64 {
	if p.Addr < 0 || p.Addr > 65535 || p.Len < 0 || p.Len > 16 {
		return impl.ErrRange
	}
	if strings.Contains(bitsOf(p.Addr)[p.Len:], "1") {
		return impl.ErrForm
	}
	return impl.OK
}

func wordsHas(p impl.Prefix, addr int64) bool {
	if wordsFault(p) != impl.OK || addr < 0 || addr > 65535 {
		return false
	}
	return bitsOf(addr)[:p.Len] == bitsOf(p.Addr)[:p.Len]
}

// lastOf is the last address of a prefix without a fault.
func lastOf(p impl.Prefix) int64 {
	last, _ := strconv.ParseInt(bitsOf(p.Addr)[:p.Len]+strings.Repeat("1", int(16-p.Len)), 2, 64)
	return last
}

// edgePrefixes are prefixes with and without a fault.
func edgePrefixes() []impl.Prefix {
	var list []impl.Prefix
	for _, addr := range edgeNumbers {
		for _, length := range edgeNumbers {
			list = append(list, impl.Prefix{Addr: addr, Len: length})
		}
		for length := range int64(17) {
			list = append(list, impl.Prefix{Addr: addr, Len: length})
		}
	}
	return list
}

// rightPrefixes are some of each Len, none with a fault.
func rightPrefixes() []impl.Prefix {
	var list []impl.Prefix
	for length := range int64(17) {
		for _, addr := range []int64{0, 2560, 2561, 2815, 2816, 32767, 32768, 43690, 65535} {
			kept, _ := strconv.ParseInt(bitsOf(addr)[:length]+strings.Repeat("0", int(16-length)), 2, 64)
			p := impl.Prefix{Addr: kept, Len: length}
			if !slices.Contains(list, p) {
				list = append(list, p)
			}
		}
	}
	return list
}

// manyPrefixes are n prefixes without a fault, no two alike.
func manyPrefixes(n int) []impl.Prefix {
	var list []impl.Prefix
	for i := range n {
		list = append(list, impl.Prefix{Addr: int64((i * 37 % 256) * 256), Len: 8 + int64(i%9)})
	}
	return list
}

func TestMaxAddr(t *testing.T) {
	if impl.MaxAddr != 65535 {
		t.Error(impl.MaxAddr)
	}
}

func TestPrefixFault(t *testing.T) {
	cases := []struct{ addr, length, code int64 }{
		{0, 0, impl.OK}, {0, 16, impl.OK}, {65535, 16, impl.OK}, {32768, 1, impl.OK}, {2560, 8, impl.OK}, {2560, 7, impl.OK},
		{0, -1, impl.ErrRange}, {0, 17, impl.ErrRange}, {-1, 0, impl.ErrRange}, {65536, 0, impl.ErrRange},
		{-1, 16, impl.ErrRange}, {65536, 16, impl.ErrRange}, {65536, 17, impl.ErrRange}, {1, 17, impl.ErrRange}, {1, -1, impl.ErrRange},
		{1, 0, impl.ErrForm}, {1, 15, impl.ErrForm}, {1, 16, impl.OK}, {2, 15, impl.OK}, {2, 14, impl.ErrForm},
		{32768, 0, impl.ErrForm}, {65535, 15, impl.ErrForm}, {2560, 6, impl.ErrForm}, {2561, 8, impl.ErrForm},
	}
	for _, c := range cases {
		if got := impl.PrefixFault(impl.Prefix{Addr: c.addr, Len: c.length}); got != c.code {
			t.Errorf("PrefixFault of %d/%d: %d, want %d", c.addr, c.length, got, c.code)
		}
	}
	for _, p := range edgePrefixes() {
		if got, want := impl.PrefixFault(p), wordsFault(p); got != want {
			t.Errorf("PrefixFault(%v): %d, want %d", p, got, want)
		}
	}
	for addr := range int64(65536) {
		for length := int64(-1); length <= 17; length++ {
			p := impl.Prefix{Addr: addr, Len: length}
			// Addr is a multiple of the size of what it begins.
			want := int64(impl.OK)
			if length < 0 || length > 16 {
				want = impl.ErrRange
			} else if addr%(int64(1)<<(16-length)) != 0 {
				want = impl.ErrForm
			}
			if got := impl.PrefixFault(p); got != want {
				t.Fatalf("PrefixFault(%v): %d, want %d", p, got, want)
			}
		}
	}
}

func TestHasAddr(t *testing.T) {
	for _, p := range edgePrefixes() {
		for _, addr := range edgeNumbers {
			if got, want := impl.HasAddr(p, addr), wordsHas(p, addr); got != want {
				t.Fatalf("HasAddr(%v, %d): %v, want %v", p, addr, got, want)
			}
		}
	}
	for _, p := range rightPrefixes() {
		last := lastOf(p)
		for addr := int64(-2); addr <= 65540; addr++ {
			if got, want := impl.HasAddr(p, addr), addr >= p.Addr && addr <= last; got != want {
				t.Fatalf("HasAddr(%v, %d): %v, want %v", p, addr, got, want)
			}
		}
	}
}

func TestWithinHasNoOtherAddress(t *testing.T) {
	list := rightPrefixes()
	for _, p := range list {
		for _, q := range list {
			want := p.Addr >= q.Addr && lastOf(p) <= lastOf(q)
			if got := impl.IsWithin(p, q); got != want {
				t.Fatalf("IsWithin(%v, %v): %v, want %v", p, q, got, want)
			}
			if !want {
				continue
			}
			for addr := p.Addr; addr <= lastOf(p); addr += 1 + (lastOf(p)-p.Addr)/64 {
				if !impl.HasAddr(p, addr) || !impl.HasAddr(q, addr) {
					t.Fatalf("%v is within %v, but not so %d", p, q, addr)
				}
			}
		}
	}
}

func TestWithinAsksBothForFaults(t *testing.T) {
	all := impl.Prefix{}
	one := impl.Prefix{Addr: 2560, Len: 16}
	for _, p := range edgePrefixes() {
		right := wordsFault(p) == impl.OK
		if impl.IsWithin(p, p) != right || impl.IsWithin(p, all) != right {
			t.Errorf("IsWithin of %v, in itself and in all: %v, %v", p, impl.IsWithin(p, p), impl.IsWithin(p, all))
		}
		if got := impl.IsWithin(one, p); got != wordsHas(p, 2560) {
			t.Errorf("IsWithin(%v, %v): %v", one, p, got)
		}
	}
	// Addresses that would be within, if only the fault were not.
	for _, wrong := range []impl.Prefix{{Addr: 2561, Len: 8}, {Addr: 2560, Len: 17}, {Addr: 2560 + 65536, Len: 16}} {
		if impl.IsWithin(wrong, impl.Prefix{Addr: 2560, Len: 8}) || impl.IsWithin(one, wrong) || impl.HasAddr(wrong, 2560) {
			t.Errorf("%v has a fault, and is within", wrong)
		}
	}
}

func TestPrefixText(t *testing.T) {
	cases := []struct {
		prefix impl.Prefix
		text   string
	}{
		{impl.Prefix{}, "0.0/0"}, {impl.Prefix{Len: 16}, "0.0/16"}, {impl.Prefix{Addr: 65535, Len: 16}, "255.255/16"},
		{impl.Prefix{Addr: 2560, Len: 8}, "10.0/8"}, {impl.Prefix{Addr: 1, Len: 16}, "0.1/16"}, {impl.Prefix{Addr: 256, Len: 10}, "1.0/10"},
		{impl.Prefix{Addr: 255, Len: 16}, "0.255/16"}, {impl.Prefix{Addr: 32768, Len: 1}, "128.0/1"}, {impl.Prefix{Addr: 65280, Len: 9}, "255.0/9"},
	}
	for _, c := range cases {
		if got := impl.PrefixText(c.prefix); got != (impl.TextResult{Text: c.text}) {
			t.Errorf("PrefixText(%v): %v, want %q", c.prefix, got, c.text)
		}
	}
	for _, p := range edgePrefixes() {
		code := wordsFault(p)
		if got := impl.PrefixText(p); got.Code != code || code != impl.OK && got.Text != "" {
			t.Errorf("PrefixText(%v): %v, want code %d", p, got, code)
		}
	}
}

func TestPrefixIsReadBack(t *testing.T) {
	count := 0
	texts := make(map[string]bool)
	for length := range int64(17) {
		for addr := int64(0); addr < 65536; addr += int64(1) << (16 - length) {
			p := impl.Prefix{Addr: addr, Len: length}
			text := impl.PrefixText(p).Text
			if want := fmt.Sprintf("%d.%d/%d", addr/256, addr%256, length); text != want {
				t.Fatalf("PrefixText(%v): %q, want %q", p, text, want)
			}
			if got := impl.ParsePrefix(text); got != (impl.PrefixResult{Prefix: p}) {
				t.Fatalf("ParsePrefix(%q): %v, want %v", text, got, p)
			}
			texts[text] = true
			count++
		}
	}
	if count != 131071 || len(texts) != count {
		t.Errorf("%d prefixes have %d texts", count, len(texts))
	}
}

func TestParsePrefix(t *testing.T) {
	cases := []struct {
		text string
		code int64
	}{
		{"0.0/0", impl.OK}, {"0.0/16", impl.OK}, {"255.255/16", impl.OK}, {"100.0/16", impl.OK}, {"9.0/8", impl.OK}, {"99.99/16", impl.OK},
		// A 0 ahead, and 0 itself.
		{"00.0/0", impl.ErrText}, {"0.00/0", impl.ErrText}, {"0.0/00", impl.ErrText}, {"010.0/8", impl.ErrText}, {"10.00/8", impl.ErrText},
		{"10.0/08", impl.ErrText}, {"10.01/16", impl.ErrText}, {"01.0/8", impl.ErrText}, {"10.0/016", impl.ErrText}, {"0.0/017", impl.ErrText},
		{"000.0/0", impl.ErrText}, {"0.000/0", impl.ErrText}, {"0.0/000", impl.ErrText},
		// 3 and 4 digits.
		{"254.0/8", impl.OK}, {"0.254/16", impl.OK}, {"256.0/8", impl.ErrText}, {"0.256/16", impl.ErrText}, {"999.0/8", impl.ErrText}, {"0.999/16", impl.ErrText},
		{"1000.0/8", impl.ErrText}, {"0.1000/16", impl.ErrText}, {"0010.0/8", impl.ErrText}, {"0.0/1000", impl.ErrText}, {"0.0/0016", impl.ErrText},
		{"65536.0/8", impl.ErrText}, {"18446744073709551617.0/8", impl.ErrText}, {"0.0/18446744073709551617", impl.ErrText},
		// The Len.
		{"10.0/16", impl.OK}, {"10.0/17", impl.ErrRange}, {"10.0/999", impl.ErrRange}, {"10.0/100", impl.ErrRange}, {"10.0/256", impl.ErrRange},
		{"10.0/272", impl.ErrRange}, {"10.0/32", impl.ErrRange}, {"10.0/80", impl.ErrRange}, {"10.0/64", impl.ErrRange},
		// A bit behind the first Len.
		{"10.1/8", impl.ErrForm}, {"0.1/0", impl.ErrForm}, {"0.1/15", impl.ErrForm}, {"0.2/15", impl.OK}, {"128.0/0", impl.ErrForm}, {"255.255/15", impl.ErrForm},
		// No such form.
		{"", impl.ErrText}, {".", impl.ErrText}, {"/", impl.ErrText}, {"./", impl.ErrText}, {"10", impl.ErrText}, {"10.0", impl.ErrText}, {"10.0/", impl.ErrText},
		{".0/8", impl.ErrText}, {"10./8", impl.ErrText}, {"10/8", impl.ErrText}, {"/8", impl.ErrText}, {"10.0.8", impl.ErrText}, {"10/0/8", impl.ErrText},
		{"10/0.8", impl.ErrText}, {"10/.0/8", impl.ErrText}, {"8/10.0", impl.ErrText}, {"10.0//8", impl.ErrText}, {"10..0/8", impl.ErrText},
		{"10.0.0/8", impl.ErrText}, {"10.0/8.", impl.ErrText}, {"10.0/8/", impl.ErrText}, {"10.0/8/8", impl.ErrText}, {"10.0/8.0", impl.ErrText},
		{".10.0/8", impl.ErrText}, {"/10.0/8", impl.ErrText}, {"10.0./8", impl.ErrText},
		// Signs, blanks, other bytes.
		{"+10.0/8", impl.ErrText}, {"-10.0/8", impl.ErrText}, {"10.+0/8", impl.ErrText}, {"10.-0/8", impl.ErrText}, {"10.0/+8", impl.ErrText}, {"10.0/-8", impl.ErrText},
		{"-0.0/0", impl.ErrText}, {"0.0/-0", impl.ErrText}, {"10.0/-1", impl.ErrText}, {"0.0/+0", impl.ErrText},
		{" 10.0/8", impl.ErrText}, {"10 .0/8", impl.ErrText}, {"10. 0/8", impl.ErrText}, {"10.0 /8", impl.ErrText}, {"10.0/ 8", impl.ErrText}, {"10.0/8 ", impl.ErrText},
		{"10.0/8\n", impl.ErrText}, {"10.0/8\x00", impl.ErrText}, {"\x0010.0/8", impl.ErrText}, {"10.0/8x", impl.ErrText}, {"x10.0/8", impl.ErrText}, {"a.0/8", impl.ErrText},
		{"1_0.0/8", impl.ErrText}, {"0x1.0/8", impl.ErrText}, {"1e1.0/8", impl.ErrText}, {"10.0/\xff", impl.ErrText}, {"10,0/8", impl.ErrText}, {"10.0:8", impl.ErrText},
		{"1:.0/8", impl.ErrText}, {"10.0/:", impl.ErrText}, {"10.0/٨", impl.ErrText}, {"１.0/8", impl.ErrText},
		// The first code that is so.
		{"256.1/17", impl.ErrText}, {"10.256/17", impl.ErrText}, {"10.1/017", impl.ErrText}, {"10.1/17", impl.ErrRange}, {"10.1/999", impl.ErrRange}, {"10.01/8", impl.ErrText},
		{"10.1/1000", impl.ErrText}, {"10.1/8 ", impl.ErrText}, {"10.1/", impl.ErrText},
	}
	for _, c := range cases {
		got := impl.ParsePrefix(c.text)
		if got.Code != c.code || c.code != impl.OK && got.Prefix != (impl.Prefix{}) {
			t.Errorf("ParsePrefix(%q): %v, want code %d", c.text, got, c.code)
		}
		if c.code == impl.OK && impl.PrefixText(got.Prefix).Text != c.text {
			t.Errorf("ParsePrefix(%q): %v, whose text is another one", c.text, got)
		}
	}
	if got := impl.ParsePrefix(strings.Repeat("1", 1<<20) + ".0/8"); got != (impl.PrefixResult{Code: impl.ErrText}) {
		t.Error(got)
	}
}

var prefixForm = regexp.MustCompile(`^(0|[1-9][0-9]{0,2})\.(0|[1-9][0-9]{0,2})/(0|[1-9][0-9]{0,2})$`)

// wordsParse reads a text by a form, not byte by byte.
func wordsParse(text string) impl.PrefixResult {
	found := prefixForm.FindStringSubmatch(text)
	if found == nil {
		return impl.PrefixResult{Code: impl.ErrText}
	}
	high, _ := strconv.ParseInt(found[1], 10, 64)
	low, _ := strconv.ParseInt(found[2], 10, 64)
	length, _ := strconv.ParseInt(found[3], 10, 64)
	if high > 255 || low > 255 {
		return impl.PrefixResult{Code: impl.ErrText}
	}
	p := impl.Prefix{Addr: high*256 + low, Len: length}
	if code := wordsFault(p); code != impl.OK {
		return impl.PrefixResult{Code: code}
	}
	return impl.PrefixResult{Prefix: p}
}

func TestTextIsWhatIsRead(t *testing.T) {
	numbers := []string{"", "0", "1", "5", "8", "9", "15", "16", "17", "00", "01", "10", "99", "100", "128", "199", "249", "250", "255", "256", "260", "300", "999", "000", "016", "1000", "+1", "-1", " 1", "1 ", "1.", "1/", "a"}
	told := make(map[int64]int)
	check := func(text string) {
		got, want := impl.ParsePrefix(text), wordsParse(text)
		if got != want {
			t.Fatalf("ParsePrefix(%q): %v, want %v", text, got, want)
		}
		if got.Code == impl.OK && impl.PrefixText(got.Prefix) != (impl.TextResult{Text: text}) {
			t.Fatalf("PrefixText of what was read of %q: %v", text, impl.PrefixText(got.Prefix))
		}
		told[got.Code]++
	}
	for _, high := range numbers {
		for _, low := range numbers {
			for _, length := range numbers {
				check(high + "." + low + "/" + length)
			}
		}
	}
	r := rand.New(rand.NewSource(2))
	signs := "0123456789././/  +-"
	for range 40000 {
		text := []byte(fmt.Sprintf("%d.%d/%d", r.Intn(300), []int{0, 0, 128, r.Intn(300)}[r.Intn(4)], r.Intn(20)))
		for range r.Intn(3) {
			text = slices.Insert(text, r.Intn(len(text)+1), signs[r.Intn(len(signs))])
			if at := r.Intn(len(text)); r.Intn(2) == 0 {
				text = slices.Delete(text, at, at+1)
			}
		}
		check(string(text))
	}
	for b := range 256 {
		for at := range len("10.0/8") + 1 {
			text := []byte("10.0/8")
			check(string(slices.Insert(slices.Clone(text), at, byte(b))))
			if at < len(text) {
				text[at] = byte(b)
				check(string(text))
			}
		}
	}
	if told[impl.OK] == 0 || told[impl.ErrText] == 0 || told[impl.ErrRange] == 0 || told[impl.ErrForm] == 0 || len(told) != 4 {
		t.Error(told)
	}
}

func wantOrder(t *testing.T, list []impl.Prefix, code int64, want []impl.Prefix) {
	t.Helper()
	got := impl.OrderPrefixes(list)
	if got.Code != code || !slices.Equal(got.Prefixes, want) {
		t.Errorf("OrderPrefixes of %d (%v): %v, want %d, %v", len(list), list[:min(len(list), 4)], got, code, want)
	}
}

func wantLongest(t *testing.T, list []impl.Prefix, addr int64, code, place int64) {
	t.Helper()
	if got := impl.LongestFor(list, addr); got != (impl.IntResult{Code: code, Value: place}) {
		t.Errorf("LongestFor of %d (%v), %d: %v, want %d, %d", len(list), list[:min(len(list), 4)], addr, got, code, place)
	}
}

func TestOrderPrefixes(t *testing.T) {
	wantOrder(t, nil, impl.OK, nil)
	wantOrder(t, []impl.Prefix{}, impl.OK, nil)
	wantOrder(t, []impl.Prefix{{}}, impl.OK, []impl.Prefix{{}})
	wantOrder(t, []impl.Prefix{{}, {}, {}}, impl.OK, []impl.Prefix{{}})
	// The Addr ahead of the Len; one that stands twice, once.
	wantOrder(t,
		[]impl.Prefix{{Addr: 65535, Len: 16}, {Addr: 2560, Len: 12}, {Addr: 32768, Len: 1}, {Addr: 2560, Len: 8}, {Len: 16}, {Addr: 2560, Len: 12}, {}, {Addr: 2560, Len: 7}},
		impl.OK,
		[]impl.Prefix{{}, {Len: 16}, {Addr: 2560, Len: 7}, {Addr: 2560, Len: 8}, {Addr: 2560, Len: 12}, {Addr: 32768, Len: 1}, {Addr: 65535, Len: 16}})
}

func TestOrderIsThatOfThePrefixesAlone(t *testing.T) {
	r := rand.New(rand.NewSource(3))
	all := rightPrefixes()
	for range 500 {
		var list []impl.Prefix
		for range r.Intn(60) {
			list = append(list, all[r.Intn(1+r.Intn(len(all)))])
		}
		got := impl.OrderPrefixes(list)
		if got.Code != impl.OK {
			t.Fatal(got)
		}
		for i, p := range got.Prefixes {
			if !slices.Contains(list, p) {
				t.Fatalf("%v is not of %v", p, list)
			}
			if i == 0 {
				continue
			}
			q := got.Prefixes[i-1]
			if q.Addr > p.Addr || q.Addr == p.Addr && q.Len >= p.Len {
				t.Fatalf("%v stands ahead of %v", q, p)
			}
		}
		for _, p := range list {
			if !slices.Contains(got.Prefixes, p) {
				t.Fatalf("%v of %v is gone", p, list)
			}
		}
		other := slices.Clone(list)
		r.Shuffle(len(other), func(i, j int) { other[i], other[j] = other[j], other[i] })
		wantOrder(t, other, impl.OK, got.Prefixes)
		wantOrder(t, append(other, list...), impl.OK, got.Prefixes)
		wantOrder(t, got.Prefixes, impl.OK, got.Prefixes)
	}
}

func TestListsOfPrefixesAreBounded(t *testing.T) {
	list := manyPrefixes(201)
	ordered := slices.Clone(list[:200])
	slices.SortFunc(ordered, func(p, q impl.Prefix) int { return int((p.Addr-q.Addr)*17 + p.Len - q.Len) })
	if len(slices.Compact(slices.Clone(ordered))) != 200 {
		t.Fatal("the list has some twice")
	}
	wantOrder(t, list[:200], impl.OK, ordered)
	wantOrder(t, list, impl.ErrMany, nil)
	wantLongest(t, list[:200], list[199].Addr, impl.OK, 199)
	wantLongest(t, list, list[199].Addr, impl.ErrMany, 0)
	// They are counted as they stand, not each once.
	wantOrder(t, make([]impl.Prefix, 200), impl.OK, []impl.Prefix{{}})
	wantOrder(t, make([]impl.Prefix, 201), impl.ErrMany, nil)
	wantLongest(t, make([]impl.Prefix, 200), 0, impl.OK, 0)
	wantLongest(t, make([]impl.Prefix, 201), 0, impl.ErrMany, 0)
}

func TestCodesOfListsOfPrefixes(t *testing.T) {
	form, wide := impl.Prefix{Addr: 1, Len: 8}, impl.Prefix{Addr: 65536}
	cases := []struct {
		list []impl.Prefix
		code int64
	}{
		{[]impl.Prefix{form}, impl.ErrForm},
		{[]impl.Prefix{wide}, impl.ErrRange},
		{[]impl.Prefix{{Len: 17}}, impl.ErrRange},
		{[]impl.Prefix{{Len: -1}}, impl.ErrRange},
		{[]impl.Prefix{{Addr: -1}}, impl.ErrRange},
		{[]impl.Prefix{{Addr: math.MinInt64, Len: math.MaxInt64}}, impl.ErrRange},
		// One by one: the first that has a fault tells it.
		{[]impl.Prefix{form, wide}, impl.ErrForm},
		{[]impl.Prefix{wide, form}, impl.ErrRange},
		{[]impl.Prefix{{}, {Addr: 2560, Len: 8}, form, wide}, impl.ErrForm},
		{append(manyPrefixes(199), form), impl.ErrForm},
		{append(manyPrefixes(199), wide), impl.ErrRange},
		// Too many, ahead of a fault.
		{append([]impl.Prefix{form}, manyPrefixes(200)...), impl.ErrMany},
		{append([]impl.Prefix{wide}, manyPrefixes(200)...), impl.ErrMany},
		{append(manyPrefixes(200), wide), impl.ErrMany},
	}
	for _, c := range cases {
		wantOrder(t, c.list, c.code, nil)
		// A fault of the list is told ahead of one of the address, and of there being none.
		for _, addr := range []int64{math.MinInt64, -1, 0, 1, 2560, 65535, 65536, math.MaxInt64} {
			wantLongest(t, c.list, addr, c.code, 0)
		}
	}
}

func TestLongestFor(t *testing.T) {
	for _, list := range [][]impl.Prefix{nil, {}, {{}}, {{Addr: 2560, Len: 8}}} {
		for _, addr := range []int64{math.MinInt64, -65536, -1, 65536, 65536 + 2560, math.MaxInt64} {
			wantLongest(t, list, addr, impl.ErrRange, 0)
		}
	}
	for _, addr := range []int64{0, 2560, 65535} {
		wantLongest(t, nil, addr, impl.ErrNone, 0)
		wantLongest(t, []impl.Prefix{}, addr, impl.ErrNone, 0)
		wantLongest(t, []impl.Prefix{{}}, addr, impl.OK, 0)
		wantLongest(t, []impl.Prefix{{Addr: 512, Len: 8}, {}, {}}, addr, impl.OK, 1)
	}
	list := []impl.Prefix{{Addr: 2560, Len: 8}, {Addr: 2560, Len: 12}, {Addr: 2561, Len: 16}, {Addr: 2560, Len: 12}, {Addr: 2561, Len: 16}, {Addr: 65535, Len: 16}}
	wantLongest(t, list, 2559, impl.ErrNone, 0)
	wantLongest(t, list, 2560, impl.OK, 1)
	wantLongest(t, list, 2561, impl.OK, 2)
	wantLongest(t, list, 2575, impl.OK, 1)
	wantLongest(t, list, 2576, impl.OK, 0)
	wantLongest(t, list, 2815, impl.OK, 0)
	wantLongest(t, list, 2816, impl.ErrNone, 0)
	wantLongest(t, list, 0, impl.ErrNone, 0)
	wantLongest(t, list, 65534, impl.ErrNone, 0)
	wantLongest(t, list, 65535, impl.OK, 5)
}

// wordsLongest goes through the list, from the first one on.
func wordsLongest(list []impl.Prefix, addr int64) impl.IntResult {
	best := impl.IntResult{Code: impl.ErrNone}
	for place, p := range list {
		if wordsHas(p, addr) && (best.Code != impl.OK || p.Len > list[best.Value].Len) {
			best = impl.IntResult{Value: int64(place)}
		}
	}
	return best
}

func TestLongestIsWithinAllOthers(t *testing.T) {
	r := rand.New(rand.NewSource(4))
	all := rightPrefixes()
	for range 3000 {
		var list []impl.Prefix
		for range r.Intn(30) {
			list = append(list, all[r.Intn(len(all))])
		}
		addr := []int64{0, 2560, 2561, 2815, 32768, 43690, 65535, r.Int63n(65536)}[r.Intn(8)]
		got := impl.LongestFor(list, addr)
		if got != wordsLongest(list, addr) {
			t.Fatalf("LongestFor(%v, %d): %v, want %v", list, addr, got, wordsLongest(list, addr))
		}
		if got.Code != impl.OK {
			continue
		}
		longest := list[got.Value]
		for _, p := range list {
			if impl.HasAddr(p, addr) && !impl.IsWithin(longest, p) {
				t.Fatalf("LongestFor(%v, %d): %v is not within %v", list, addr, longest, p)
			}
		}
		other := slices.Clone(list)
		r.Shuffle(len(other), func(i, j int) { other[i], other[j] = other[j], other[i] })
		if again := impl.LongestFor(other, addr); again.Code != impl.OK || other[again.Value] != longest {
			t.Fatalf("the same prefixes in another order: %v, %d: %v, want the place of %v", other, addr, again, longest)
		}
	}
}

// prefixLists are lists of which some are told with a code.
func prefixLists() [][]impl.Prefix {
	right := rightPrefixes()
	back := slices.Clone(right)
	slices.Reverse(back)
	return [][]impl.Prefix{
		right, back, append(slices.Clone(back[:40]), right[:40]...),
		{{Addr: 2560, Len: 8}}, {{Addr: 2560, Len: 8}, {Addr: 1}}, manyPrefixes(200), manyPrefixes(201),
	}
}

func TestPrefixesChangeNoArgument(t *testing.T) {
	for _, list := range prefixLists() {
		// Room behind the list, in which one could be put.
		room := append(slices.Clone(list), impl.Prefix{Addr: 7, Len: 16}, impl.Prefix{Addr: 5, Len: 16})
		was := slices.Clone(room)
		impl.OrderPrefixes(room[:len(list)])
		impl.LongestFor(room[:len(list)], 2560)
		if !slices.Equal(room, was) {
			t.Errorf("%v was changed", list)
		}
	}
}

func TestPrefixesAnswerNewMemory(t *testing.T) {
	for _, list := range prefixLists() {
		was := slices.Clone(list)
		got := impl.OrderPrefixes(list)
		want := slices.Clone(got.Prefixes)
		whole := got.Prefixes[:cap(got.Prefixes)]
		for i := range whole {
			whole[i] = impl.Prefix{Addr: -9, Len: -9}
		}
		if !slices.Equal(list, was) {
			t.Fatal("what is told shares memory with the list")
		}
		again := impl.OrderPrefixes(list)
		for i := range list {
			list[i] = impl.Prefix{Addr: -8, Len: -8}
		}
		if !slices.Equal(again.Prefixes, want) {
			t.Fatal("what was told changes with the list, or with what was told ahead of it")
		}
	}
	// Already in order, each once: still not the list itself.
	list := []impl.Prefix{{}, {Len: 16}}
	impl.OrderPrefixes(list).Prefixes[0].Len = 3
	if list[0].Len != 0 {
		t.Error("a list in order is handed back")
	}
}

// allOfPrefixes tells all that the functions of prefixes answer of a list.
func allOfPrefixes(list []impl.Prefix) string {
	said := fmt.Sprintf("%#v", impl.OrderPrefixes(list))
	for _, addr := range []int64{-1, 0, 2560, 65535, 65536} {
		said += fmt.Sprint(impl.LongestFor(list, addr))
	}
	for i, p := range list {
		text := impl.PrefixText(p)
		said += fmt.Sprint(impl.PrefixFault(p), text, impl.ParsePrefix(text.Text), impl.HasAddr(p, 2560), impl.IsWithin(p, list[i/2]))
	}
	return said
}

func TestPrefixesHangOnArgumentsAlone(t *testing.T) {
	empty := allOfPrefixes(nil)
	if allOfPrefixes([]impl.Prefix{}) != empty || allOfPrefixes(manyPrefixes(9)[:0]) != empty {
		t.Error("nil and an empty list are not answered alike")
	}
	for _, list := range prefixLists() {
		first := allOfPrefixes(list)
		wide := append(slices.Clone(list), impl.Prefix{Addr: 1}, impl.Prefix{Addr: 2})[:len(list)]
		for range 5 {
			allOfPrefixes([]impl.Prefix{{Addr: 1}})
			if allOfPrefixes(list) != first || allOfPrefixes(wide) != first {
				t.Fatalf("what is told of %v hangs on more than it", list)
			}
		}
	}
}

func TestZeroBesideACodeOfPrefixes(t *testing.T) {
	for _, list := range [][]impl.Prefix{manyPrefixes(201), {{Addr: 2560, Len: 8}, {Addr: 1}}, {{Addr: 2560, Len: 8}, {Addr: -1}}} {
		got := impl.OrderPrefixes(list)
		if got.Code == impl.OK || !reflect.DeepEqual(got, impl.PrefixesResult{Code: got.Code}) {
			t.Error(got)
		}
	}
}
