package tests

import (
	"bytes"
	"fmt"
	"math"
	"math/rand"
	"reflect"
	"slices"
	"testing"

	"loop.example/g00263/impl"
)

// wordsAttrsFault asks the document's words in their order.
func wordsAttrsFault(a impl.Attrs) int64 {
	inPair := func(n int64) bool { return n >= 0 && n <= 65535 }
	switch {
	case a.Origin != 0 && a.Origin != 1 && a.Origin != 2, !inPair(a.Next), !inPair(a.Med), !inPair(a.Local):
		return impl.ErrRange
	case len(a.Path) > 6:
		return impl.ErrMany
	case slices.ContainsFunc(a.Path, func(n int64) bool { return n == 0 || !inPair(n) }):
		return impl.ErrRange
	}
	return impl.OK
}

func wordsUpdateFault(u impl.Update) int64 {
	if len(u.Gone) > 8 || len(u.Reach) > 8 {
		return impl.ErrMany
	}
	for _, p := range slices.Concat(u.Gone, u.Reach) {
		if code := wordsFault(p); code != impl.OK {
			return code
		}
	}
	a := u.Attrs
	zero := a.Origin == 0 && len(a.Path) == 0 && a.Next == 0 && a.Med == 0 && a.Local == 0
	switch {
	case !u.Has && (len(u.Reach) > 0 || !zero), u.Has && len(u.Reach) == 0:
		return impl.ErrForm
	case u.Has:
		return wordsAttrsFault(a)
	}
	return impl.OK
}

func wordsPrefixes(list []impl.Prefix) []byte {
	var out []byte
	for _, p := range list {
		out = append(out, byte(p.Addr>>8), byte(p.Addr), byte(p.Len))
	}
	return out
}

// wordsPack writes whatever fits into its bytes, an update with a fault, too.
func wordsPack(u impl.Update) []byte {
	out := append([]byte{byte(len(u.Gone))}, wordsPrefixes(u.Gone)...)
	if !u.Has {
		return out
	}
	out = append(out, byte(len(u.Attrs.Path)))
	for _, n := range u.Attrs.Path {
		out = append(out, byte(n>>8), byte(n))
	}
	a := u.Attrs
	out = append(out, byte(a.Origin), byte(a.Next>>8), byte(a.Next), byte(a.Med>>8), byte(a.Med), byte(a.Local>>8), byte(a.Local))
	return append(out, wordsPrefixes(u.Reach)...)
}

func wordsThrees(data []byte) []impl.Prefix {
	var list []impl.Prefix
	for three := range slices.Chunk(data, 3) {
		list = append(list, impl.Prefix{Addr: int64(three[0])<<8 | int64(three[1]), Len: int64(three[2])})
	}
	return list
}

func wordsSoft(gone []impl.Prefix, reach []impl.Prefix) impl.UpdateResult {
	var back []impl.Prefix
	for _, p := range slices.Concat(gone, reach) {
		if wordsFault(p) == impl.OK && len(back) < 8 {
			back = append(back, p)
		}
	}
	return impl.UpdateResult{Code: impl.ErrForm, Soft: true, Update: impl.Update{Gone: back}}
}

// wordsUpdate reads an update by the document's words, without a panic.
func wordsUpdate(body []byte) impl.UpdateResult {
	if len(body) == 0 || len(body) < 1+3*int(body[0]) {
		return impl.UpdateResult{Code: impl.ErrText}
	}
	end := 1 + 3*int(body[0])
	gone, left := wordsThrees(body[1:end]), body[end:]
	if slices.ContainsFunc(gone, func(p impl.Prefix) bool { return wordsFault(p) != impl.OK }) {
		return impl.UpdateResult{Code: impl.ErrRange}
	}
	if len(left) == 0 && len(gone) > 8 {
		return wordsSoft(gone, nil)
	}
	if len(left) == 0 {
		return impl.UpdateResult{Update: impl.Update{Gone: gone}}
	}
	behind := 1 + 2*int(left[0])
	if len(left) < behind+7+3 || (len(left)-behind-7)%3 != 0 {
		return wordsSoft(gone, nil)
	}
	var a impl.Attrs
	for two := range slices.Chunk(left[1:behind], 2) {
		a.Path = append(a.Path, int64(two[0])*256+int64(two[1]))
	}
	fixed := left[behind:]
	a.Origin = int64(fixed[0])
	a.Next = int64(fixed[1])*256 + int64(fixed[2])
	a.Med = int64(fixed[3])*256 + int64(fixed[4])
	a.Local = int64(fixed[5])*256 + int64(fixed[6])
	reach := wordsThrees(fixed[7:])
	bad := slices.ContainsFunc(reach, func(p impl.Prefix) bool { return wordsFault(p) != impl.OK })
	if len(gone) > 8 || len(reach) > 8 || bad || wordsAttrsFault(a) != impl.OK {
		return wordsSoft(gone, reach)
	}
	return impl.UpdateResult{Update: impl.Update{Gone: gone, Has: true, Attrs: a, Reach: reach}}
}

// sameUpdates holds nil and an empty list to be the same.
func sameUpdates(u, v impl.Update) bool {
	a, b := u.Attrs, v.Attrs
	return slices.Equal(u.Gone, v.Gone) && u.Has == v.Has && slices.Equal(u.Reach, v.Reach) &&
		a.Origin == b.Origin && slices.Equal(a.Path, b.Path) && a.Next == b.Next && a.Med == b.Med && a.Local == b.Local
}

func wantUpdate(t *testing.T, body []byte, want impl.UpdateResult) {
	t.Helper()
	got := impl.ParseUpdate(body)
	if got.Code != want.Code || got.Soft != want.Soft || !sameUpdates(got.Update, want.Update) {
		t.Errorf("ParseUpdate(% x): %v, want %v", body, got, want)
	}
}

// wantSoft: the code ErrForm, and these are taken back.
func wantSoft(t *testing.T, body []byte, back []impl.Prefix) {
	t.Helper()
	wantUpdate(t, body, impl.UpdateResult{Code: impl.ErrForm, Soft: true, Update: impl.Update{Gone: back}})
}

func longPath(n int) []int64 {
	var path []int64
	for i := range n {
		path = append(path, int64(1+i*257))
	}
	return path
}

// fullUpdate has just as many of all as there may be.
func fullUpdate() impl.Update {
	a := impl.Attrs{Origin: 2, Path: []int64{65535, 1, 256, 255, 7, 65535}, Next: 65535, Med: 256, Local: 65535}
	return impl.Update{Gone: manyPrefixes(8), Has: true, Attrs: a, Reach: manyPrefixes(20)[12:]}
}

// smallUpdate takes one back and reaches three.
func smallUpdate() impl.Update {
	a := impl.Attrs{Origin: 1, Path: []int64{7, 300}, Next: 5, Med: 9, Local: 100}
	return impl.Update{Gone: []impl.Prefix{{Addr: 512, Len: 8}}, Has: true, Attrs: a,
		Reach: []impl.Prefix{{Addr: 2560, Len: 8}, {}, {Addr: 65535, Len: 16}}}
}

// rightUpdates have no fault.
func rightUpdates() []impl.Update {
	one := impl.Update{Has: true, Reach: []impl.Prefix{{}}}
	return []impl.Update{
		{}, {Gone: []impl.Prefix{{}}}, {Gone: manyPrefixes(8)}, {Gone: []impl.Prefix{{Addr: 65535, Len: 16}, {Addr: 65535, Len: 16}}},
		one, smallUpdate(), fullUpdate(),
	}
}

// rightUpdate makes one without a fault by chance.
func rightUpdate(r *rand.Rand) impl.Update {
	all := rightPrefixes()
	var u impl.Update
	for range r.Intn(9) {
		u.Gone = append(u.Gone, all[r.Intn(len(all))])
	}
	if r.Intn(4) == 0 {
		return u
	}
	u.Has = true
	for range 1 + r.Intn(8) {
		u.Reach = append(u.Reach, all[r.Intn(len(all))])
	}
	edges := []int64{0, 1, 255, 256, 65534, 65535, r.Int63n(65536)}
	pick := func() int64 { return edges[r.Intn(len(edges))] }
	u.Attrs = impl.Attrs{Origin: r.Int63n(3), Next: pick(), Med: pick(), Local: pick()}
	for range r.Intn(7) {
		u.Attrs.Path = append(u.Attrs.Path, max(1, pick()))
	}
	return u
}

func TestUpdateBounds(t *testing.T) {
	if impl.MaxPath != 6 || impl.MaxReach != 8 {
		t.Error(impl.MaxPath, impl.MaxReach)
	}
}

func TestAttrsFault(t *testing.T) {
	cases := []struct {
		attrs impl.Attrs
		code  int64
	}{
		{impl.Attrs{}, impl.OK}, {impl.Attrs{Path: []int64{}}, impl.OK},
		{impl.Attrs{Origin: 2}, impl.OK}, {impl.Attrs{Origin: 3}, impl.ErrRange}, {impl.Attrs{Origin: -1}, impl.ErrRange},
		{impl.Attrs{Next: 65535}, impl.OK}, {impl.Attrs{Next: 65536}, impl.ErrRange}, {impl.Attrs{Next: -1}, impl.ErrRange},
		{impl.Attrs{Med: 65535}, impl.OK}, {impl.Attrs{Med: 65536}, impl.ErrRange}, {impl.Attrs{Med: -1}, impl.ErrRange},
		{impl.Attrs{Local: 65535}, impl.OK}, {impl.Attrs{Local: 65536}, impl.ErrRange}, {impl.Attrs{Local: -1}, impl.ErrRange},
		{impl.Attrs{Path: longPath(6)}, impl.OK}, {impl.Attrs{Path: longPath(7)}, impl.ErrMany},
		{impl.Attrs{Path: []int64{1}}, impl.OK}, {impl.Attrs{Path: []int64{65535}}, impl.OK},
		{impl.Attrs{Path: []int64{0}}, impl.ErrRange}, {impl.Attrs{Path: []int64{-1}}, impl.ErrRange}, {impl.Attrs{Path: []int64{65536}}, impl.ErrRange},
		{impl.Attrs{Path: []int64{7, 7, 7}}, impl.OK},
		// Too long, ahead of one that is out of range in it; the other numbers ahead of both.
		{impl.Attrs{Path: append(longPath(6), 0)}, impl.ErrMany}, {impl.Attrs{Path: make([]int64, 7)}, impl.ErrMany},
		{impl.Attrs{Med: 65536, Path: longPath(7)}, impl.ErrRange}, {impl.Attrs{Origin: 3, Path: longPath(7)}, impl.ErrRange},
		{impl.Attrs{Next: -1, Path: longPath(7)}, impl.ErrRange}, {impl.Attrs{Local: -1, Path: make([]int64, 7)}, impl.ErrRange},
		{impl.Attrs{Path: longPath(70000)}, impl.ErrMany},
	}
	for _, c := range cases {
		if got := impl.AttrsFault(c.attrs); got != c.code {
			t.Errorf("AttrsFault of %d %v..: %d, want %d", len(c.attrs.Path), c.attrs.Path[:min(7, len(c.attrs.Path))], got, c.code)
		}
	}
}

func TestAttrsFaultAtEdges(t *testing.T) {
	for _, n := range append([]int64{3, 4, 258}, edgeNumbers...) {
		list := []impl.Attrs{{Origin: n}, {Next: n}, {Med: n}, {Local: n}}
		for size := 1; size <= 7; size++ {
			for _, at := range []int{0, size / 2, size - 1} {
				path := slices.Repeat([]int64{9}, size)
				path[at] = n
				list = append(list, impl.Attrs{Path: path})
			}
		}
		for _, a := range list {
			want := wordsAttrsFault(a)
			if got := impl.AttrsFault(a); got != want {
				t.Errorf("AttrsFault(%v): %d, want %d", a, got, want)
			}
			if got := impl.AttrsText(a); got.Code != want || want != impl.OK && got.Text != "" {
				t.Errorf("AttrsText(%v): %v, want code %d", a, got, want)
			}
			u := impl.Update{Has: true, Attrs: a, Reach: []impl.Prefix{{}}}
			if got := impl.UpdateFault(u); got != want {
				t.Errorf("UpdateFault(%v): %d, want %d", u, got, want)
			}
			if got := impl.PackUpdate(u); got.Code != want || want != impl.OK && len(got.Bytes) != 0 {
				t.Errorf("PackUpdate(%v): %v, want code %d", u, got, want)
			}
		}
	}
}

func TestUpdateFault(t *testing.T) {
	form, wide := impl.Prefix{Addr: 1, Len: 8}, impl.Prefix{Addr: 65536}
	right, bad := []impl.Prefix{{}}, impl.Attrs{Origin: 3}
	cases := []struct {
		update impl.Update
		code   int64
	}{
		{impl.Update{Gone: manyPrefixes(8)}, impl.OK}, {impl.Update{Gone: manyPrefixes(9)}, impl.ErrMany},
		{impl.Update{Has: true, Reach: manyPrefixes(8)}, impl.OK}, {impl.Update{Has: true, Reach: manyPrefixes(9)}, impl.ErrMany},
		{impl.Update{Gone: make([]impl.Prefix, 300)}, impl.ErrMany},
		// Too many, ahead of a fault of one; and ahead of the form.
		{impl.Update{Gone: []impl.Prefix{wide}, Has: true, Reach: manyPrefixes(9)}, impl.ErrMany},
		{impl.Update{Gone: append([]impl.Prefix{form}, manyPrefixes(8)...)}, impl.ErrMany},
		{impl.Update{Reach: manyPrefixes(9)}, impl.ErrMany},
		// Gone ahead of Reach, one by one, each with its own code.
		{impl.Update{Gone: []impl.Prefix{form}}, impl.ErrForm}, {impl.Update{Gone: []impl.Prefix{wide}}, impl.ErrRange},
		{impl.Update{Gone: []impl.Prefix{form, wide}}, impl.ErrForm}, {impl.Update{Gone: []impl.Prefix{{}, wide, form}}, impl.ErrRange},
		{impl.Update{Has: true, Reach: []impl.Prefix{{}, form, wide}}, impl.ErrForm},
		{impl.Update{Has: true, Reach: []impl.Prefix{wide, form}}, impl.ErrRange},
		{impl.Update{Gone: []impl.Prefix{form}, Has: true, Reach: []impl.Prefix{wide}}, impl.ErrForm},
		{impl.Update{Gone: []impl.Prefix{wide}, Has: true, Reach: []impl.Prefix{form}}, impl.ErrRange},
		{impl.Update{Gone: append(manyPrefixes(7), wide)}, impl.ErrRange},
		{impl.Update{Has: true, Reach: append(manyPrefixes(7), wide)}, impl.ErrRange},
		// A prefix, ahead of the form; the form, ahead of the attributes.
		{impl.Update{Reach: []impl.Prefix{wide}}, impl.ErrRange}, {impl.Update{Gone: []impl.Prefix{wide}, Has: true}, impl.ErrRange},
		{impl.Update{Reach: right}, impl.ErrForm}, {impl.Update{Has: true}, impl.ErrForm}, {impl.Update{Has: true, Gone: right}, impl.ErrForm},
		{impl.Update{Has: true, Reach: []impl.Prefix{}}, impl.ErrForm},
		{impl.Update{Has: true, Attrs: bad}, impl.ErrForm}, {impl.Update{Reach: right, Attrs: bad}, impl.ErrForm}, {impl.Update{Attrs: bad}, impl.ErrForm},
		{impl.Update{Has: true, Reach: right, Attrs: bad}, impl.ErrRange},
		{impl.Update{Has: true, Reach: right, Attrs: impl.Attrs{Path: longPath(7)}}, impl.ErrMany},
		{impl.Update{Has: true, Reach: []impl.Prefix{wide}, Attrs: impl.Attrs{Path: longPath(7)}}, impl.ErrRange},
		// Attributes where there are none: each that is not zero.
		{impl.Update{Attrs: impl.Attrs{Origin: 1}}, impl.ErrForm}, {impl.Update{Attrs: impl.Attrs{Path: []int64{1}}}, impl.ErrForm},
		{impl.Update{Attrs: impl.Attrs{Path: []int64{0}}}, impl.ErrForm}, {impl.Update{Attrs: impl.Attrs{Next: 1}}, impl.ErrForm},
		{impl.Update{Attrs: impl.Attrs{Med: 1}}, impl.ErrForm}, {impl.Update{Gone: right, Attrs: impl.Attrs{Local: -1}}, impl.ErrForm},
		{impl.Update{Attrs: impl.Attrs{Path: []int64{}}}, impl.OK},
	}
	for _, u := range rightUpdates() {
		cases = append(cases, struct {
			update impl.Update
			code   int64
		}{u, impl.OK})
	}
	for _, c := range cases {
		if got := impl.UpdateFault(c.update); got != c.code || got != wordsUpdateFault(c.update) {
			t.Errorf("UpdateFault(%v): %d, want %d", c.update, got, c.code)
		}
		if got := impl.PackUpdate(c.update); got.Code != c.code || c.code != impl.OK && len(got.Bytes) != 0 {
			t.Errorf("PackUpdate(%v): %v, want code %d", c.update, got, c.code)
		}
	}
}

func TestUpdateFaultAtEdges(t *testing.T) {
	for _, p := range edgePrefixes() {
		list := []impl.Prefix{{Addr: 2560, Len: 8}, p, {}}
		for _, u := range []impl.Update{{Gone: list}, {Has: true, Reach: list}, {Reach: list}} {
			if got, want := impl.UpdateFault(u), wordsUpdateFault(u); got != want {
				t.Fatalf("UpdateFault(%v): %d, want %d", u, got, want)
			}
		}
	}
}

func TestPackUpdate(t *testing.T) {
	cases := []struct {
		update impl.Update
		want   []byte
	}{
		{impl.Update{}, []byte{0}},
		{impl.Update{Gone: []impl.Prefix{{Addr: 2560, Len: 8}, {Addr: 65535, Len: 16}}}, []byte{2, 10, 0, 8, 255, 255, 16}},
		{impl.Update{Has: true, Reach: []impl.Prefix{{}}}, []byte{0, 0, 0, 0, 0, 0, 0, 0, 0, 0, 0, 0}},
		{smallUpdate(), []byte{1, 2, 0, 8, 2, 0, 7, 1, 44, 1, 0, 5, 0, 9, 0, 100, 10, 0, 8, 0, 0, 0, 255, 255, 16}},
	}
	for _, c := range cases {
		if got := impl.PackUpdate(c.update); got.Code != impl.OK || !bytes.Equal(got.Bytes, c.want) {
			t.Errorf("PackUpdate(%v): %v, want % x", c.update, got, c.want)
		}
	}
	// The greatest update has room in a frame.
	if got := impl.PackUpdate(fullUpdate()); got.Code != impl.OK || len(got.Bytes) != 1+24+1+12+1+6+24 || len(got.Bytes) > impl.MaxBody {
		t.Error(got)
	}
}

func TestUpdateIsReadBack(t *testing.T) {
	r := rand.New(rand.NewSource(5))
	list := rightUpdates()
	for range 5000 {
		list = append(list, rightUpdate(r))
	}
	for _, u := range list {
		packed := impl.PackUpdate(u)
		if packed.Code != impl.OK || !bytes.Equal(packed.Bytes, wordsPack(u)) {
			t.Fatalf("PackUpdate(%v): %v, want % x", u, packed, wordsPack(u))
		}
		got := impl.ParseUpdate(packed.Bytes)
		if got.Code != impl.OK || got.Soft || !sameUpdates(got.Update, u) {
			t.Fatalf("ParseUpdate of what is packed of %v: %v", u, got)
		}
	}
}

// checkUpdate holds what is read of a body to the words of the document, and to the promise of updates.
func checkUpdate(t *testing.T, body []byte) impl.UpdateResult {
	t.Helper()
	got, want := impl.ParseUpdate(body), wordsUpdate(body)
	if got.Code != want.Code || got.Soft != want.Soft || !sameUpdates(got.Update, want.Update) {
		t.Fatalf("ParseUpdate(% x): %v, want %v", body, got, want)
	}
	switch {
	case got.Code == impl.OK:
		packed := impl.PackUpdate(got.Update)
		if got.Soft || packed.Code != impl.OK || !bytes.Equal(packed.Bytes, body) {
			t.Fatalf("ParseUpdate(% x): %v, which is packed as %v", body, got, packed)
		}
	case got.Soft:
		u := got.Update
		if got.Code != impl.ErrForm || u.Has || len(u.Reach) != 0 || !reflect.DeepEqual(u.Attrs, impl.Attrs{}) || impl.UpdateFault(u) != impl.OK {
			t.Fatalf("ParseUpdate(% x): %v does more than to take back", body, got)
		}
	case !reflect.DeepEqual(got, impl.UpdateResult{Code: got.Code}) || got.Code != impl.ErrText && got.Code != impl.ErrRange:
		t.Fatalf("ParseUpdate(% x): %v", body, got)
	}
	return got
}

func TestUpdateWithoutAllOfGone(t *testing.T) {
	text := impl.UpdateResult{Code: impl.ErrText}
	for _, body := range [][]byte{nil, {}, {1}, {1, 0}, {1, 0, 0}, {2, 0, 0, 0}, {2, 0, 0, 0, 0, 0}, {255}, bytes.Repeat([]byte{255}, 765)} {
		wantUpdate(t, body, text)
	}
	// Too few bytes, ahead of one of Gone that is there with a fault, and of there being too many.
	wantUpdate(t, []byte{2, 0, 1, 8}, text)
	wantUpdate(t, append([]byte{9}, make([]byte, 26)...), text)
	full := wordsPack(fullUpdate())
	for cut := range 25 {
		wantUpdate(t, full[:cut], text)
	}
	wantUpdate(t, []byte{0}, impl.UpdateResult{})
	wantUpdate(t, full[:25], impl.UpdateResult{Update: impl.Update{Gone: manyPrefixes(8)}})
}

func TestFaultInGone(t *testing.T) {
	wrong := impl.UpdateResult{Code: impl.ErrRange}
	for _, p := range []impl.Prefix{{Addr: 1, Len: 8}, {Len: 17}, {Len: 255}, {Addr: 65535, Len: 15}, {Addr: 32768}} {
		for _, n := range []int{1, 8, 9, 30} {
			for _, at := range []int{0, n / 2, n - 1} {
				gone := manyPrefixes(n)
				gone[at] = p
				packed := wordsPack(impl.Update{Gone: gone})
				wantUpdate(t, packed, wrong)
				// Whatever is behind them.
				wantUpdate(t, append(packed, 1), wrong)
				wantUpdate(t, append(packed, wordsPack(smallUpdate())[4:]...), wrong)
			}
		}
	}
}

func TestTooManyGone(t *testing.T) {
	for _, n := range []int{9, 10, 85, 255} {
		gone := slices.Repeat(manyPrefixes(15), 17)[:n]
		packed := wordsPack(impl.Update{Gone: gone})
		wantSoft(t, packed, gone[:8])
		wantSoft(t, append(bytes.Clone(packed), 0), gone[:8])
		wantSoft(t, append(bytes.Clone(packed), wordsPack(smallUpdate())[4:]...), gone[:8])
	}
	wantUpdate(t, wordsPack(impl.Update{Gone: manyPrefixes(8)}), impl.UpdateResult{Update: impl.Update{Gone: manyPrefixes(8)}})
}

func TestUpdateCutBehindGone(t *testing.T) {
	u := smallUpdate()
	packed := wordsPack(u)
	for cut := 5; cut < len(packed); cut++ {
		if cut == 19 || cut == 22 {
			reached := u
			reached.Reach = u.Reach[:(cut-16)/3]
			wantUpdate(t, packed[:cut], impl.UpdateResult{Update: reached})
			continue
		}
		// One byte more, attributes with too few, none behind them, a rest that is not of three each.
		wantSoft(t, packed[:cut], u.Gone)
	}
	wantUpdate(t, packed, impl.UpdateResult{Update: u})
	wantSoft(t, append(bytes.Clone(packed), 0), u.Gone)
	wantSoft(t, append(bytes.Clone(packed), 0, 0), u.Gone)
	wantSoft(t, []byte{0, 0}, nil)
	wantSoft(t, []byte{0, 255}, nil)
	// A Path that is told longer than there are bytes.
	wantSoft(t, append([]byte{0, 255}, make([]byte, 519)...), nil)
	wantSoft(t, append([]byte{0, 255}, make([]byte, 520)...), []impl.Prefix{{}})
	wantSoft(t, append([]byte{0, 6}, make([]byte, 21)...), nil)
}

func TestPathOfUpdate(t *testing.T) {
	for n := range 7 {
		u := smallUpdate()
		u.Attrs.Path = longPath(n)
		wantUpdate(t, wordsPack(u), impl.UpdateResult{Update: u})
		for at := range n {
			bad := u
			bad.Attrs.Path = longPath(n)
			bad.Attrs.Path[at] = 0
			wantSoft(t, wordsPack(bad), slices.Concat(u.Gone, u.Reach))
		}
	}
	for _, n := range []int{7, 8, 100, 255} {
		u := smallUpdate()
		u.Attrs.Path = longPath(n)
		wantSoft(t, wordsPack(u), slices.Concat(u.Gone, u.Reach))
	}
}

func TestOriginOfUpdate(t *testing.T) {
	for origin := range int64(256) {
		u := smallUpdate()
		u.Attrs.Origin = origin
		if origin <= 2 {
			wantUpdate(t, wordsPack(u), impl.UpdateResult{Update: u})
		} else {
			wantSoft(t, wordsPack(u), slices.Concat(u.Gone, u.Reach))
		}
	}
}

func TestFaultInReach(t *testing.T) {
	for _, p := range []impl.Prefix{{Addr: 1, Len: 8}, {Len: 17}, {Len: 255}, {Addr: 32768}} {
		for _, n := range []int{1, 2, 3, 7, 8, 9} {
			for at := range n {
				u := smallUpdate()
				u.Reach = manyPrefixes(n)
				u.Reach[at] = p
				back := slices.Concat(u.Gone, slices.Delete(manyPrefixes(n), at, at+1))
				wantSoft(t, wordsPack(u), back[:min(8, len(back))])
			}
		}
	}
	all := impl.Update{Gone: []impl.Prefix{{}}, Has: true, Reach: slices.Repeat([]impl.Prefix{{Len: 17}}, 5)}
	wantSoft(t, wordsPack(all), all.Gone)
	all.Gone = nil
	wantSoft(t, wordsPack(all), nil)
}

func TestAtMostEightAreTakenBack(t *testing.T) {
	for gone := range 12 {
		for reach := 1; reach < 12; reach++ {
			list := manyPrefixes(gone + reach)
			u := impl.Update{Gone: list[:gone], Has: true, Reach: list[gone:]}
			if gone <= 8 && reach <= 8 {
				wantUpdate(t, wordsPack(u), impl.UpdateResult{Update: u})
			} else {
				wantSoft(t, wordsPack(u), list[:min(8, gone+reach)])
			}
			u.Attrs.Origin = 3
			wantSoft(t, wordsPack(u), list[:min(8, gone+reach)])
		}
	}
	// Those with a fault are not counted.
	bad := slices.Repeat([]impl.Prefix{{Addr: 1}}, 20)
	u := impl.Update{Gone: manyPrefixes(5), Has: true, Reach: slices.Concat(bad, manyPrefixes(20)[16:])}
	wantSoft(t, wordsPack(u), slices.Concat(manyPrefixes(5), manyPrefixes(20)[16:19]))
}

func TestWhatIsReadIsJustItsBytes(t *testing.T) {
	r := rand.New(rand.NewSource(6))
	told := make(map[int64]int)
	for range 60000 {
		body := wordsPack(rightUpdate(r))
		for range r.Intn(4) {
			switch at := r.Intn(len(body) + 1); {
			case at == len(body):
				body = append(body, make([]byte, r.Intn(12))...)
			case r.Intn(6) == 0:
				body = slices.Delete(body, at, at+1)
			case r.Intn(6) == 0:
				body = body[:at]
			default:
				body[at] = []byte{0, 1, 2, 3, 6, 7, 8, 9, 16, 17, 255, byte(r.Intn(256))}[r.Intn(12)]
			}
			if len(body) == 0 {
				break
			}
		}
		told[checkUpdate(t, body).Code]++
	}
	for range 20000 {
		body := make([]byte, r.Intn(60))
		for i := range body {
			body[i] = []byte{0, 0, 0, 1, 2, 8, 16}[r.Intn(7)]
		}
		told[checkUpdate(t, body).Code]++
	}
	for _, code := range []int64{impl.OK, impl.ErrForm, impl.ErrRange, impl.ErrText} {
		if told[code] < 100 {
			t.Errorf("the code %d was told %d times", code, told[code])
		}
	}
}

func TestEachByteOfAnUpdate(t *testing.T) {
	for _, u := range rightUpdates() {
		packed := wordsPack(u)
		for at := range packed {
			checkUpdate(t, packed[:at])
			for b := range 256 {
				body := bytes.Clone(packed)
				body[at] = byte(b)
				checkUpdate(t, body)
			}
		}
	}
	checkUpdate(t, make([]byte, 1<<20))
	checkUpdate(t, bytes.Repeat([]byte{255}, 1<<20))
}

func TestSameAttrs(t *testing.T) {
	a := impl.Attrs{Origin: 1, Path: []int64{7, 8, 9}, Next: 5, Med: 6, Local: 7}
	unlike := []impl.Attrs{{}, a, a, a, a, a, a, a, a, a, a}
	unlike[1].Origin = 2
	unlike[2].Next = 6
	unlike[3].Med = 5
	unlike[4].Local = 5
	unlike[5].Path = []int64{7, 8, 9, 10}
	unlike[6].Path = []int64{7, 8}
	unlike[7].Path = []int64{1, 8, 9}
	unlike[8].Path = []int64{7, 1, 9}
	unlike[9].Path = []int64{7, 8, 1}
	unlike[10].Path = nil
	for i, b := range unlike {
		if impl.SameAttrs(a, b) || impl.SameAttrs(b, a) {
			t.Errorf("SameAttrs(%v, %v), at %d", a, b, i)
		}
		if again := b; !impl.SameAttrs(b, again) {
			t.Errorf("%v is not the same as itself", b)
		}
	}
	b := a
	b.Path = []int64{7, 8, 9}
	if !impl.SameAttrs(a, b) || !impl.SameAttrs(impl.Attrs{Path: []int64{}}, impl.Attrs{}) || !impl.SameAttrs(impl.Attrs{}, impl.Attrs{Path: []int64{}}) {
		t.Error("what is the same is not")
	}
	if impl.SameAttrs(impl.Attrs{Path: []int64{0}}, impl.Attrs{}) || impl.SameAttrs(impl.Attrs{Path: []int64{1, 1}}, impl.Attrs{Path: []int64{1}}) {
		t.Error("a longer Path is the same")
	}
	// No fault is asked.
	far := impl.Attrs{Origin: math.MinInt64, Path: slices.Repeat([]int64{math.MaxInt64}, 9), Next: -1, Med: math.MaxInt64, Local: 1 << 40}
	near := far
	near.Path = slices.Clone(far.Path)
	if !impl.SameAttrs(far, near) {
		t.Error("with a fault they are not the same")
	}
	near.Path[8]--
	if impl.SameAttrs(far, near) {
		t.Error("with a fault they are the same")
	}
}

func TestAttrsText(t *testing.T) {
	cases := []struct {
		attrs impl.Attrs
		want  impl.TextResult
	}{
		{impl.Attrs{}, impl.TextResult{Text: "- 0 0 0 0"}},
		{impl.Attrs{Path: []int64{}, Origin: 2, Next: 1, Med: 3, Local: 4}, impl.TextResult{Text: "- 2 1 3 4"}},
		{impl.Attrs{Path: []int64{7}, Next: 5, Local: 100}, impl.TextResult{Text: "7 0 5 0 100"}},
		{impl.Attrs{Path: []int64{7, 7}, Med: 10}, impl.TextResult{Text: "7,7 0 0 10 0"}},
		{impl.Attrs{Path: []int64{1, 20, 300, 4000, 50000, 65535}, Origin: 1, Next: 65535, Med: 65535, Local: 65535},
			impl.TextResult{Text: "1,20,300,4000,50000,65535 1 65535 65535 65535"}},
		{impl.Attrs{Path: longPath(7)}, impl.TextResult{Code: impl.ErrMany}},
		{impl.Attrs{Path: []int64{7, 0}}, impl.TextResult{Code: impl.ErrRange}},
		{impl.Attrs{Path: longPath(7), Med: -1}, impl.TextResult{Code: impl.ErrRange}},
		{impl.Attrs{Origin: 3}, impl.TextResult{Code: impl.ErrRange}},
	}
	for _, c := range cases {
		if got := impl.AttrsText(c.attrs); got != c.want {
			t.Errorf("AttrsText(%v): %v, want %v", c.attrs, got, c.want)
		}
	}
}

func cloneUpdate(u impl.Update) impl.Update {
	u.Gone, u.Reach, u.Attrs.Path = slices.Clone(u.Gone), slices.Clone(u.Reach), slices.Clone(u.Attrs.Path)
	return u
}

// roomy gives each list room behind it, in which something could be put.
func roomy(u impl.Update) impl.Update {
	u.Gone = append(slices.Clone(u.Gone), manyPrefixes(3)...)[:len(u.Gone)]
	u.Reach = append(slices.Clone(u.Reach), manyPrefixes(3)...)[:len(u.Reach)]
	u.Attrs.Path = append(slices.Clone(u.Attrs.Path), 1, 2, 3)[:len(u.Attrs.Path)]
	return u
}

// spoilUpdate changes all memory of an update, what stands behind its lists, too.
func spoilUpdate(u impl.Update) {
	for _, list := range [][]impl.Prefix{u.Gone, u.Reach} {
		for i := range list[:cap(list)] {
			list[:cap(list)][i] = impl.Prefix{Addr: -7, Len: -7}
		}
	}
	path := u.Attrs.Path[:cap(u.Attrs.Path)]
	for i := range path {
		path[i] = -7
	}
}

// faultyUpdates have each one fault.
func faultyUpdates() []impl.Update {
	many, bad, long, loose := fullUpdate(), smallUpdate(), smallUpdate(), smallUpdate()
	many.Gone = manyPrefixes(9)
	bad.Reach[1] = impl.Prefix{Addr: 1, Len: 8}
	long.Attrs.Path = longPath(7)
	loose.Has = false
	return []impl.Update{many, bad, long, loose}
}

func TestUpdatesChangeNoArgument(t *testing.T) {
	for _, u := range append(rightUpdates(), faultyUpdates()...) {
		u = roomy(u)
		whole := impl.Update{Gone: u.Gone[:cap(u.Gone)], Reach: u.Reach[:cap(u.Reach)], Attrs: impl.Attrs{Path: u.Attrs.Path[:cap(u.Attrs.Path)]}}
		was := cloneUpdate(whole)
		impl.UpdateFault(u)
		impl.AttrsFault(u.Attrs)
		impl.PackUpdate(u)
		impl.SameAttrs(u.Attrs, u.Attrs)
		impl.AttrsText(u.Attrs)
		if !sameUpdates(whole, was) {
			t.Errorf("%v was changed", u)
		}
		body := append(wordsPack(u), 1, 2, 3)
		before := bytes.Clone(body)
		impl.ParseUpdate(body[:len(body)-3])
		impl.ParseUpdate(body)
		if !bytes.Equal(body, before) {
			t.Errorf("the bytes of %v were changed", u)
		}
	}
}

func TestUpdatesAnswerNewMemory(t *testing.T) {
	for _, u := range append(rightUpdates(), faultyUpdates()...) {
		body := wordsPack(u)
		got := impl.ParseUpdate(body)
		want := cloneUpdate(got.Update)
		spoilUpdate(impl.Update{Gone: got.Update.Gone})
		if !slices.Equal(got.Update.Reach, want.Reach) {
			t.Fatal("Gone and Reach of one answer share memory")
		}
		spoilUpdate(got.Update)
		if again := impl.ParseUpdate(body); !sameUpdates(again.Update, want) {
			t.Fatal("what is read shares memory with what was read ahead of it")
		}
		packed := impl.PackUpdate(u)
		before := bytes.Clone(packed.Bytes)
		flip(packed.Bytes)
		if again := impl.PackUpdate(u); !bytes.Equal(again.Bytes, before) {
			t.Fatal("what is packed shares memory with what was packed ahead of it")
		}
	}
}

// allOfUpdates tells all that the functions of updates answer of one.
func allOfUpdates(u impl.Update) string {
	said := []any{impl.AttrsFault(u.Attrs), impl.UpdateFault(u), impl.PackUpdate(u), impl.AttrsText(u.Attrs),
		impl.SameAttrs(u.Attrs, impl.Attrs{}), impl.SameAttrs(smallUpdate().Attrs, u.Attrs), fmt.Sprintf("%#v", impl.ParseUpdate(wordsPack(u)))}
	return fmt.Sprint(said...)
}

func TestUpdatesHangOnArgumentsAlone(t *testing.T) {
	none := impl.Update{}
	empty := impl.Update{Gone: []impl.Prefix{}, Attrs: impl.Attrs{Path: []int64{}}, Reach: []impl.Prefix{}}
	for _, has := range []bool{false, true} {
		none.Has, empty.Has = has, has
		if allOfUpdates(none) != allOfUpdates(empty) || allOfUpdates(none) != allOfUpdates(roomy(none)) {
			t.Error("nil and an empty list are not answered alike")
		}
	}
	if !reflect.DeepEqual(impl.ParseUpdate(nil), impl.ParseUpdate([]byte{})) {
		t.Error("no bytes are not answered alike")
	}
	list := append(rightUpdates(), faultyUpdates()...)
	for _, u := range list {
		first := allOfUpdates(u)
		for _, other := range list {
			allOfUpdates(other)
			if allOfUpdates(u) != first || allOfUpdates(roomy(u)) != first {
				t.Fatalf("what is told of %v hangs on more than it", u)
			}
		}
	}
}
