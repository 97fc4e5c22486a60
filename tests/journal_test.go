package tests

import (
	"bytes"
	"fmt"
	"math"
	"math/rand"
	"reflect"
	"runtime"
	"slices"
	"testing"

	"loop.example/g00263/impl"
)

func wordsEntryFault(x impl.Entry) int64 {
	return firstCode(codeIf(x.Epoch < 1 || x.Epoch > 1000, impl.ErrRange), wordsEventFault(x.Event))
}

// summed has a size and a sum ahead that are right for whatever stands behind them.
func summed(behind ...byte) []byte {
	sum := impl.SumBytes(behind)
	return append([]byte{byte(len(behind)), byte(sum >> 8), byte(sum)}, behind...)
}

// rawEntry packs an entry without asking for its fault.
func rawEntry(x impl.Entry) []byte {
	e := x.Event
	behind := []byte{byte(x.Epoch >> 8), byte(x.Epoch), byte(e.Kind), byte(e.Peer), byte(len(e.Bytes))}
	return summed(append(behind, e.Bytes...)...)
}

func rawEntries(list ...impl.Entry) []byte {
	var out []byte
	for _, x := range list {
		out = append(out, rawEntry(x)...)
	}
	return out
}

// wordsFirstEntry asks byte by byte whether an entry stands at the beginning.
func wordsFirstEntry(data []byte) (impl.Entry, bool) {
	if len(data) < 8 || len(data) < 3+int(data[0]) || int(data[0]) != 5+int(data[7]) {
		return impl.Entry{}, false
	}
	behind := data[3 : 8+int(data[7])]
	x := impl.Entry{Epoch: int64(data[3])<<8 | int64(data[4]), Event: impl.Event{Kind: int64(data[5]), Peer: int64(data[6]), Bytes: behind[5:]}}
	isRight := int64(data[1])<<8|int64(data[2]) == impl.SumBytes(behind)
	return x, isRight && wordsEntryFault(x) == impl.OK
}

func wordsEntries(data []byte) impl.EntriesResult {
	if len(data) > 6000 {
		return impl.EntriesResult{Code: impl.ErrMany}
	}
	var got impl.EntriesResult
	for {
		x, ok := wordsFirstEntry(data[got.Used:])
		if !ok {
			return got
		}
		got.Entries = append(got.Entries, x)
		got.Used += 8 + int64(len(x.Event.Bytes))
	}
}

func wordsJournalFault(j impl.Journal) int64 {
	if len(j.Sure)+len(j.Loose) > 6000 {
		return impl.ErrMany
	}
	sure, loose := wordsEntries(j.Sure), wordsEntries(j.Loose)
	return codeIf(sure.Used != int64(len(j.Sure)) || loose.Used != int64(len(j.Loose)), impl.ErrText)
}

// parts are the entries of a journal, the Sure ones and the Loose ones.
type parts struct {
	sure  []impl.Entry
	loose []impl.Entry
}

func partsOf(j impl.Journal) parts {
	return parts{wordsEntries(j.Sure).Entries, wordsEntries(j.Loose).Entries}
}

func (p parts) all() []impl.Entry {
	return slices.Concat(p.sure, p.loose)
}

func (p parts) journal() impl.Journal {
	return impl.Journal{Sure: rawEntries(p.sure...), Loose: rawEntries(p.loose...)}
}

func (p parts) result() impl.JournalResult {
	return impl.JournalResult{Count: int64(len(p.sure) + len(p.loose)), Journal: p.journal()}
}

func wordsAppend(j impl.Journal, x impl.Entry) impl.JournalResult {
	size := len(j.Sure) + len(j.Loose) + 8 + len(x.Event.Bytes)
	if code := firstCode(wordsJournalFault(j), wordsEntryFault(x), codeIf(size > 6000, impl.ErrMany)); code != impl.OK {
		return impl.JournalResult{Code: code}
	}
	p := partsOf(j)
	p.loose = append(p.loose, x)
	return p.result()
}

func wordsSync(j impl.Journal) impl.JournalResult {
	if code := wordsJournalFault(j); code != impl.OK {
		return impl.JournalResult{Code: code}
	}
	return parts{sure: partsOf(j).all()}.result()
}

func wordsCrash(j impl.Journal, kept int64) impl.JournalResult {
	if code := firstCode(wordsJournalFault(j), codeIf(kept < 0 || kept > int64(len(j.Loose)), impl.ErrRange)); code != impl.OK {
		return impl.JournalResult{Code: code}
	}
	p := partsOf(j)
	for _, x := range p.loose {
		kept -= 8 + int64(len(x.Event.Bytes))
		if kept >= 0 {
			p.sure = append(p.sure, x)
		}
	}
	return parts{sure: p.sure}.result()
}

func wordsCut(j impl.Journal, count int64) impl.JournalResult {
	p := partsOf(j)
	if code := firstCode(wordsJournalFault(j), codeIf(count < 0 || count > int64(len(p.all())), impl.ErrRange)); code != impl.OK {
		return impl.JournalResult{Code: code}
	}
	from := min(int(count), len(p.sure))
	return parts{p.sure[:from], p.loose[:int(count)-from]}.result()
}

func sameEntry(a, b impl.Entry) bool {
	return a.Epoch == b.Epoch && a.Event.Kind == b.Event.Kind && a.Event.Peer == b.Event.Peer && bytes.Equal(a.Event.Bytes, b.Event.Bytes)
}

func sameEntries(a, b []impl.Entry) bool {
	return slices.EqualFunc(a, b, sameEntry)
}

// brief tells values, as far as they can be looked at: a full journal has 6000 bytes.
func brief(values ...any) string {
	said := fmt.Sprintf("%+v", values)
	if len(said) > 500 {
		return fmt.Sprintf("%s.. (of %d bytes)", said[:500], len(said))
	}
	return said
}

func wantEntries(t *testing.T, data []byte, want impl.EntriesResult) {
	t.Helper()
	got := impl.ReadEntries(data)
	if got.Code != want.Code || got.Used != want.Used || !sameEntries(got.Entries, want.Entries) {
		t.Errorf("ReadEntries of %s: %s, want %s", brief(data), brief(got), brief(want))
	}
	if got.Code != impl.OK && !reflect.DeepEqual(got, impl.EntriesResult{Code: got.Code}) {
		t.Errorf("ReadEntries of %d bytes: %s is not zero beside its code", len(data), brief(got))
	}
}

// wantRead: just these entries stand at the beginning.
func wantRead(t *testing.T, data []byte, list ...impl.Entry) {
	t.Helper()
	wantEntries(t, data, impl.EntriesResult{Used: int64(len(rawEntries(list...))), Entries: list})
}

func wantJournal(t *testing.T, got, want impl.JournalResult, what string, args ...any) {
	t.Helper()
	if got.Code != want.Code || got.Count != want.Count || !bytes.Equal(got.Journal.Sure, want.Journal.Sure) || !bytes.Equal(got.Journal.Loose, want.Journal.Loose) {
		t.Errorf("%s of %s: %s, want %s", what, brief(args...), brief(got), brief(want))
	}
	if got.Code != impl.OK && !reflect.DeepEqual(got, impl.JournalResult{Code: got.Code}) {
		t.Errorf("%s of %s: %s is not zero beside its code", what, brief(args...), brief(got))
	}
	if code := impl.JournalFault(got.Journal); code != impl.OK {
		t.Errorf("%s of %s: %s has the fault %d", what, brief(args...), brief(got), code)
	}
}

func wantAppend(t *testing.T, j impl.Journal, x impl.Entry, want impl.JournalResult) {
	t.Helper()
	wantJournal(t, impl.AppendJournal(j, x), want, "AppendJournal", j, x)
}

func wantSync(t *testing.T, j impl.Journal, want impl.JournalResult) {
	t.Helper()
	wantJournal(t, impl.SyncJournal(j), want, "SyncJournal", j)
}

func wantCrash(t *testing.T, j impl.Journal, kept int64, want impl.JournalResult) {
	t.Helper()
	wantJournal(t, impl.CrashJournal(j, kept), want, "CrashJournal", j, kept)
}

func wantCut(t *testing.T, j impl.Journal, count int64, want impl.JournalResult) {
	t.Helper()
	wantJournal(t, impl.CutJournal(j, count), want, "CutJournal", j, count)
}

// wantJournalFault holds all that ask the fault of a journal to one code, whatever else is wrong.
func wantJournalFault(t *testing.T, j impl.Journal, code int64) {
	t.Helper()
	if got := impl.JournalFault(j); got != code {
		t.Errorf("JournalFault of %s: %d, want %d", brief(j), got, code)
	}
	if code == impl.OK {
		return
	}
	want := impl.JournalResult{Code: code}
	wantSync(t, j, want)
	for _, x := range []impl.Entry{tickEntry(1), {}, {Epoch: 1001}, {Epoch: 1}, {Epoch: 1, Event: inputOf(0, make([]byte, 61)...)}} {
		wantAppend(t, j, x, want)
	}
	for _, number := range []int64{-1, 0, 1, int64(len(j.Loose)), int64(len(j.Loose)) + 1, 7000, math.MinInt64, math.MaxInt64} {
		wantCrash(t, j, number, want)
		wantCut(t, j, number, want)
	}
}

// wantEntryFault holds all that ask the fault of an entry to one code.
func wantEntryFault(t *testing.T, x impl.Entry, code int64) {
	t.Helper()
	if got := impl.EntryFault(x); got != code {
		t.Errorf("EntryFault(%+v): %d, want %d", x, got, code)
	}
	packed, want := impl.PackEntry(x), impl.BytesResult{Code: code}
	if code == impl.OK {
		want.Bytes = rawEntry(x)
	}
	if !reflect.DeepEqual(packed, want) {
		t.Errorf("PackEntry(%+v): %#v, want %#v", x, packed, want)
	}
	if code == impl.OK {
		wantRead(t, packed.Bytes, x)
		return
	}
	for _, j := range []impl.Journal{{}, somePartsOf(3, 2).journal(), fullParts(0).journal()} {
		wantAppend(t, j, x, impl.JournalResult{Code: code})
	}
}

func tickEntry(epoch int64) impl.Entry {
	return impl.Entry{Epoch: epoch, Event: tick()}
}

func inputEntry(epoch, peer int64, n int) impl.Entry {
	return impl.Entry{Epoch: epoch, Event: inputOf(peer, bodyOf(n)...)}
}

// entryAt is one of a row of entries of all kinds and many sizes.
func entryAt(place int) impl.Entry {
	epoch, peer := int64(place*37%1000+1), int64(place%3)
	switch place % 5 {
	case 0:
		return impl.Entry{Epoch: epoch, Event: start(peer)}
	case 1:
		return tickEntry(epoch)
	case 2:
		return impl.Entry{Epoch: epoch, Event: stop(peer)}
	case 3:
		return inputEntry(epoch, peer, place*7%60+1)
	}
	return inputEntry(epoch, peer, 1)
}

func entriesFrom(place, n int) []impl.Entry {
	var list []impl.Entry
	for i := range n {
		list = append(list, entryAt(place+i))
	}
	return list
}

// somePartsOf has so many entries that are Sure, and that are Loose.
func somePartsOf(sure, loose int) parts {
	return parts{entriesFrom(0, sure), entriesFrom(sure, loose)}
}

// filling are entries of just so many bytes, which are at least 9.
func filling(size int) []impl.Entry {
	var list []impl.Entry
	for size > 68+16 {
		list = append(list, inputEntry(int64(size%1000+1), int64(size%3), 60))
		size -= 68
	}
	if size > 68 {
		list = append(list, tickEntry(9), tickEntry(10))
		size -= 16
	}
	return append(list, inputEntry(11, 2, size-8))
}

// fullParts has room for just so many bytes more, half of it being Loose.
func fullParts(room int) parts {
	list := filling(6000 - room)
	return parts{list[:len(list)/2], list[len(list)/2:]}
}

func rightEvents() []impl.Event {
	list := []impl.Event{tick()}
	for peer := range int64(3) {
		list = append(list, start(peer), stop(peer), inputOf(peer, 0), inputOf(peer, 255), inputOf(peer, bodyOf(59)...), inputOf(peer, bodyOf(60)...), hello(peer))
	}
	return list
}

// rightJournals have nothing, something Sure, Loose or both, and all that there is room for.
func rightJournals() []impl.Journal {
	list := []impl.Journal{{}, {Sure: []byte{}, Loose: []byte{}}}
	for _, p := range []parts{somePartsOf(1, 0), somePartsOf(0, 1), somePartsOf(1, 1), somePartsOf(4, 0), somePartsOf(0, 5), somePartsOf(3, 5), somePartsOf(6, 2), somePartsOf(5, 5),
		fullParts(0), fullParts(7), {sure: filling(6000)}, {loose: filling(5990)}} {
		list = append(list, p.journal())
	}
	return list
}

func TestNumberOfJournals(t *testing.T) {
	if impl.MaxJournal != 6000 {
		t.Errorf("MaxJournal is %d", impl.MaxJournal)
	}
	for size := 9; size < 300; size++ {
		if n := len(rawEntries(filling(size)...)); n != size {
			t.Fatalf("a filling of %d has %d bytes", size, n)
		}
	}
}

func TestEpochOfAnEntry(t *testing.T) {
	for epoch, code := range map[int64]int64{-1: impl.ErrRange, 0: impl.ErrRange, 1: 0, 2: 0, 255: 0, 256: 0, 257: 0, 511: 0, 512: 0, 999: 0, 1000: 0, 1001: impl.ErrRange,
		65535: impl.ErrRange, 65536: impl.ErrRange, 65537: impl.ErrRange, math.MinInt64: impl.ErrRange, math.MinInt64 + 1: impl.ErrRange, math.MaxInt64: impl.ErrRange} {
		for _, e := range rightEvents() {
			wantEntryFault(t, impl.Entry{Epoch: epoch, Event: e}, code)
		}
		for _, e := range faultyEvents() {
			// The Epoch, ahead of all that is wrong with an event.
			wantEntryFault(t, impl.Entry{Epoch: epoch, Event: e}, firstCode(code, wordsEventFault(e)))
		}
	}
	wantEntryFault(t, impl.Entry{}, impl.ErrRange)
}

func TestEventOfAnEntry(t *testing.T) {
	codes := map[int64]int{}
	for _, e := range faultyEvents() {
		code := wordsEventFault(e)
		codes[code]++
		wantEntryFault(t, impl.Entry{Epoch: 7, Event: e}, code)
	}
	if codes[impl.ErrForm] == 0 || codes[impl.ErrRange] == 0 || codes[impl.ErrMany] == 0 || codes[impl.OK] != 0 {
		t.Errorf("not each code was asked: %v", codes)
	}
	one, long := []byte{1}, make([]byte, 61)
	for _, c := range []struct {
		e    impl.Event
		code int64
	}{
		{impl.Event{Kind: 0, Peer: 3}, impl.ErrForm}, {impl.Event{Kind: 5, Peer: 3, Bytes: long}, impl.ErrForm},
		{impl.Event{Kind: impl.EventStart, Peer: 3, Bytes: one}, impl.ErrRange}, {impl.Event{Kind: impl.EventTick, Peer: 1, Bytes: one}, impl.ErrRange},
		{impl.Event{Kind: impl.EventStop, Bytes: long}, impl.ErrForm}, {impl.Event{Kind: impl.EventInput, Bytes: long}, impl.ErrMany},
	} {
		wantEntryFault(t, impl.Entry{Epoch: 1, Event: c.e}, c.code)
		wantEntryFault(t, impl.Entry{Epoch: 1001, Event: c.e}, impl.ErrRange)
	}
}

func TestPackEntry(t *testing.T) {
	for _, c := range []struct {
		x    impl.Entry
		want []byte
	}{
		// The sums were worked out aside.
		{impl.Entry{Epoch: 1, Event: start(0)}, []byte{5, 242, 52, 0, 1, 1, 0, 0}},
		{impl.Entry{Epoch: 1, Event: start(2)}, []byte{5, 244, 54, 0, 1, 1, 2, 0}},
		{tickEntry(1), []byte{5, 246, 84, 0, 1, 3, 0, 0}},
		{impl.Entry{Epoch: 1000, Event: stop(1)}, []byte{5, 37, 169, 3, 232, 4, 1, 0}},
		{impl.Entry{Epoch: 2, Event: inputOf(1, 7)}, []byte{6, 138, 244, 0, 2, 2, 1, 1, 7}},
		{impl.Entry{Epoch: 256, Event: inputOf(2, 255)}, []byte{6, 140, 143, 1, 0, 2, 2, 1, 255}},
		{impl.Entry{Epoch: 513, Event: inputOf(0, 0, 0)}, []byte{7, 22, 45, 2, 1, 2, 0, 2, 0, 0}},
	} {
		got := impl.PackEntry(c.x)
		if got.Code != impl.OK || !bytes.Equal(got.Bytes, c.want) {
			t.Errorf("PackEntry(%+v): %v, want %v", c.x, got, c.want)
		}
		wantRead(t, c.want, c.x)
	}
	for epoch := int64(1); epoch <= 1000; epoch++ {
		for _, e := range rightEvents()[:int(epoch%4)*4+1] {
			x := impl.Entry{Epoch: epoch, Event: e}
			got := impl.PackEntry(x).Bytes
			if !bytes.Equal(got, rawEntry(x)) || len(got) != 8+len(e.Bytes) || int64(got[1])*256+int64(got[2]) != impl.SumBytes(got[3:]) {
				t.Fatalf("PackEntry(%+v): % x", x, got)
			}
		}
	}
}

func TestNothingToRead(t *testing.T) {
	wantRead(t, nil)
	wantRead(t, []byte{})
	for n := range 20 {
		wantRead(t, make([]byte, n))
		wantRead(t, bytes.Repeat([]byte{255}, n))
		wantRead(t, bytes.Repeat([]byte{5}, n))
	}
}

func TestEntriesOneBehindTheOther(t *testing.T) {
	for _, e := range rightEvents() {
		for _, epoch := range []int64{1, 255, 256, 1000} {
			x := impl.Entry{Epoch: epoch, Event: e}
			wantRead(t, rawEntry(x), x)
			wantRead(t, rawEntries(x, tickEntry(3), x), x, tickEntry(3), x)
		}
	}
	for n := range 60 {
		list := entriesFrom(n, n)
		wantRead(t, rawEntries(list...), list...)
	}
}

func TestMostBytesThatAreRead(t *testing.T) {
	ticks := slices.Repeat([]impl.Entry{tickEntry(1)}, 750)
	for _, list := range [][]impl.Entry{ticks, filling(6000), append(filling(5932), inputEntry(1000, 2, 60))} {
		data := rawEntries(list...)
		if len(data) != 6000 {
			t.Fatalf("%d bytes", len(data))
		}
		wantRead(t, data, list...)
		wantRead(t, data[:5999], list[:len(list)-1]...)
		wantEntries(t, append(data, 0), impl.EntriesResult{Code: impl.ErrMany})
		wantEntries(t, append(data, data...), impl.EntriesResult{Code: impl.ErrMany})
	}
	// 6001 bytes that are all of entries, and 6000 that are of none.
	wantEntries(t, rawEntries(filling(6001)...), impl.EntriesResult{Code: impl.ErrMany})
	wantRead(t, rawEntries(filling(5999)...), filling(5999)...)
	wantRead(t, make([]byte, 6000))
	wantEntries(t, make([]byte, 6001), impl.EntriesResult{Code: impl.ErrMany})
	wantEntries(t, make([]byte, 1<<20), impl.EntriesResult{Code: impl.ErrMany})
}

func TestEntryThatIsTorn(t *testing.T) {
	for place := range 12 {
		list := entriesFrom(place, 6)
		data, whole := rawEntries(list...), 0
		for n := range len(data) + 1 {
			if whole < len(list) && len(rawEntries(list[:whole+1]...)) <= n {
				whole++
			}
			wantRead(t, data[:n], list[:whole]...)
			// The bytes behind are not those that were there, but others.
			wantRead(t, append(slices.Clone(data[:n]), rawEntry(tickEntry(1000))...), wordsEntries(append(slices.Clone(data[:n]), rawEntry(tickEntry(1000))...)).Entries...)
		}
	}
}

func TestByteThatIsTurned(t *testing.T) {
	list := []impl.Entry{inputEntry(300, 1, 9), tickEntry(2), {Epoch: 1000, Event: stop(2)}, inputEntry(1, 0, 60), inputEntry(2, 2, 1), {Epoch: 2, Event: start(0)}}
	data := rawEntries(list...)
	ends := []int{}
	for i := range list {
		ends = append(ends, len(rawEntries(list[:i+1]...)))
	}
	for at := range data {
		ahead, _ := slices.BinarySearch(ends, at+1)
		for by := 1; by < 256; by++ {
			bent := slices.Clone(data)
			bent[at] ^= byte(by)
			wantRead(t, bent, list[:ahead]...)
		}
	}
}

// rightByChance have a size and a sum that are right, and are no entry.
func rightByChance() [][]byte {
	var list [][]byte
	add := func(behind ...byte) { list = append(list, summed(behind...)) }
	for _, epoch := range []int{0, 1001, 1002, 1024, 4096, 32768, 65535} {
		high, low := byte(epoch>>8), byte(epoch)
		add(high, low, 1, 0, 0)
		add(high, low, 3, 0, 0)
		add(high, low, 2, 2, 1, 9)
	}
	for _, kind := range []byte{0, 5, 6, 128, 255} {
		add(0, 1, kind, 0, 0)
		add(0, 1, kind, 1, 1, 9)
	}
	for _, peer := range []byte{3, 4, 128, 255} {
		add(0, 1, 1, peer, 0)
		add(0, 1, 3, peer, 0)
		add(0, 1, 4, peer, 0)
		add(0, 1, 2, peer, 1, 9)
	}
	// A tick of another peer; Bytes with another kind, or none with an input.
	add(0, 1, 3, 1, 0)
	add(0, 1, 3, 2, 0)
	for _, kind := range []byte{1, 3, 4} {
		add(0, 1, kind, 0, 1, 9)
		add(append([]byte{0, 1, kind, 0, 60}, bodyOf(60)...)...)
	}
	add(0, 1, 2, 0, 0)
	add(1, 1, 2, 2, 0)
	for _, n := range []int{61, 62, 100, 249, 250} {
		add(append([]byte{0, 1, 2, 0, byte(n)}, bodyOf(n)...)...)
	}
	// A length of Bytes that is not how many there are.
	for _, n := range []int{1, 2, 9, 60} {
		for _, said := range []int{0, n - 1, n + 1, 255} {
			add(append([]byte{0, 1, 2, 0, byte(said)}, bodyOf(n)...)...)
		}
	}
	add(0, 1, 1, 0, 1)
	add(0, 1, 3, 0, 255)
	// Too few to be an entry.
	add()
	add(0)
	add(0, 1)
	add(0, 1, 3)
	add(0, 1, 3, 0)
	return list
}

func TestSumThatIsRightByChance(t *testing.T) {
	ahead := entriesFrom(3, 4)
	for _, bad := range rightByChance() {
		if int64(bad[1])*256+int64(bad[2]) != impl.SumBytes(bad[3:]) || int(bad[0]) != len(bad)-3 {
			t.Fatalf("the sum or the size of % x is not right", bad)
		}
		for n := range len(ahead) + 1 {
			data := append(rawEntries(ahead[:n]...), bad...)
			wantRead(t, data, ahead[:n]...)
			wantRead(t, append(data, rawEntries(ahead...)...), ahead[:n]...)
		}
		wantJournalFault(t, impl.Journal{Sure: bad}, impl.ErrText)
		wantJournalFault(t, impl.Journal{Loose: append(rawEntry(tickEntry(1)), bad...)}, impl.ErrText)
	}
}

// sumAnew lays the sum of the first so many bytes behind it.
func sumAnew(data []byte, size int) {
	sum := impl.SumBytes(data[3 : 3+size])
	data[1], data[2] = byte(sum>>8), byte(sum)
}

func TestSizeThatDoesNotFit(t *testing.T) {
	more := rawEntries(entriesFrom(0, 30)...)
	for _, x := range []impl.Entry{tickEntry(4), {Epoch: 900, Event: start(1)}, inputEntry(3, 1, 1), inputEntry(3, 1, 5), inputEntry(400, 2, 60)} {
		right := 5 + len(x.Event.Bytes)
		for size := range 256 {
			if size == right {
				continue
			}
			// The first byte is another one, with the sum of what was there, and of what it tells.
			bent := append(rawEntry(x), more...)
			bent[0] = byte(size)
			wantRead(t, bent)
			sumAnew(bent, size)
			wantRead(t, bent)
			// The length of Bytes is another one, with either sum.
			if size >= 5 {
				bent = append(rawEntry(x), more...)
				bent[7] = byte(size - 5)
				sumAnew(bent, right)
				wantRead(t, bent)
				sumAnew(bent, size)
				wantRead(t, bent)
			}
		}
	}
}

func TestSumAboveItsModulus(t *testing.T) {
	seen := 0
	for epoch := int64(1); epoch <= 1000; epoch++ {
		for b := range 256 {
			x := impl.Entry{Epoch: epoch, Event: inputOf(1, byte(b))}
			data := rawEntry(x)
			sum := int64(data[1])*256 + int64(data[2])
			if sum+65521 <= 65535 {
				seen++
				wantRead(t, data, x)
				// It leaves the same of the modulus, and is not the sum.
				data[1], data[2] = byte((sum+65521)>>8), byte(sum+65521)
				wantRead(t, data)
			}
		}
	}
	if seen < 20 {
		t.Errorf("only %d small sums", seen)
	}
}

func TestFirstByteBelowFive(t *testing.T) {
	list := entriesFrom(1, 5)
	for size := range byte(5) {
		for n := range len(list) + 1 {
			data := append(rawEntries(list[:n]...), size)
			wantRead(t, data, list[:n]...)
			wantRead(t, append(data, make([]byte, 12)...), list[:n]...)
			wantRead(t, append(data, rawEntries(list...)...), list[:n]...)
			behind := []byte{0, 1, 3, 0, 0}
			sum := impl.SumBytes(behind[:size])
			wantRead(t, slices.Concat(data, []byte{byte(sum >> 8), byte(sum)}, behind, rawEntries(list...)), list[:n]...)
		}
	}
}

func TestBytesBehindTheLastEntry(t *testing.T) {
	r := rand.New(rand.NewSource(101))
	for range 3000 {
		list := entriesFrom(r.Intn(50), r.Intn(6))
		behind := make([]byte, 1+r.Intn(30))
		for i := range behind {
			behind[i] = byte(r.Intn(12))
		}
		if _, ok := wordsFirstEntry(behind); ok {
			continue
		}
		wantRead(t, append(rawEntries(list...), behind...), list...)
	}
}

// someEntry has by chance one of the faults.
func someEntry(r *rand.Rand, faults int) impl.Entry {
	if r.Intn(100) < faults {
		if r.Intn(2) == 0 {
			return impl.Entry{Epoch: []int64{0, 1001, 2000, 65535}[r.Intn(4)], Event: tick()}
		}
		return impl.Entry{Epoch: 1, Event: impl.Event{Kind: int64(r.Intn(7)), Peer: int64(r.Intn(5)), Bytes: bodyOf(r.Intn(4))}}
	}
	x := entryAt(r.Intn(1000))
	x.Epoch = int64(1 + r.Intn(1000))
	return x
}

func TestWhatIsReadOfAnyBytes(t *testing.T) {
	r := rand.New(rand.NewSource(102))
	told, left := 0, 0
	for range 6000 {
		var data []byte
		for range r.Intn(7) {
			data = append(data, rawEntry(someEntry(r, 10))...)
		}
		for range r.Intn(2) {
			if len(data) > 0 {
				data[r.Intn(len(data))] = byte(r.Intn(256))
			}
		}
		data = data[:len(data)-r.Intn(len(data)+1)*r.Intn(2)]
		want := wordsEntries(data)
		wantEntries(t, data, want)
		got := impl.ReadEntries(data)
		var packed []byte
		for _, x := range got.Entries {
			if code := impl.EntryFault(x); code != impl.OK {
				t.Fatalf("of % x an entry with the fault %d is told", data, code)
			}
			packed = append(packed, impl.PackEntry(x).Bytes...)
		}
		if !bytes.Equal(packed, data[:got.Used]) {
			t.Fatalf("of % x % x is told, and %d used", data, packed, got.Used)
		}
		// What is left begins with no entry, also where it stands alone.
		wantRead(t, data[got.Used:])
		told += len(got.Entries)
		if int(got.Used) < len(data) {
			left++
		}
	}
	if told < 5000 || left < 1000 {
		t.Errorf("%d entries are told, and %d times something is left", told, left)
	}
}

func TestHowManyBytesOfAJournal(t *testing.T) {
	for _, size := range []int{5998, 5999, 6000, 6001, 6002, 6008} {
		list := filling(size)
		code := codeIf(size > 6000, impl.ErrMany)
		for _, n := range []int{0, 1, len(list) / 2, len(list) - 1, len(list)} {
			wantJournalFault(t, parts{list[:n], list[n:]}.journal(), code)
		}
	}
	full := rawEntries(filling(6000)...)
	wantJournalFault(t, impl.Journal{Sure: full, Loose: full}, impl.ErrMany)
	// How many there are is asked ahead of what they are.
	for _, j := range []impl.Journal{{Sure: make([]byte, 6001)}, {Loose: make([]byte, 6001)}, {Sure: make([]byte, 1), Loose: full}, {Sure: full, Loose: make([]byte, 1)},
		{Sure: make([]byte, 3000), Loose: make([]byte, 3001)}, {Sure: make([]byte, 1<<20), Loose: make([]byte, 1<<20)}} {
		wantJournalFault(t, j, impl.ErrMany)
	}
	for _, j := range []impl.Journal{{Sure: make([]byte, 6000)}, {Loose: make([]byte, 6000)}, {Sure: make([]byte, 3000), Loose: make([]byte, 3000)}, {Loose: full[:5999]}, {Sure: full[:5999]}, {Sure: full[1:]}, {Sure: make([]byte, 1), Loose: full[:5999]}} {
		wantJournalFault(t, j, impl.ErrText)
	}
}

func TestJournalThatIsNotUsedWhole(t *testing.T) {
	for _, p := range []parts{somePartsOf(0, 0), somePartsOf(3, 0), somePartsOf(0, 4), somePartsOf(3, 4)} {
		right := p.journal()
		wantJournalFault(t, right, impl.OK)
		for _, behind := range [][]byte{{0}, {5}, {5, 0, 0}, make([]byte, 8), rawEntry(tickEntry(1))[:7], summed(0, 0, 3, 0, 0)} {
			wantJournalFault(t, impl.Journal{Sure: append(slices.Clone(right.Sure), behind...), Loose: right.Loose}, impl.ErrText)
			wantJournalFault(t, impl.Journal{Sure: right.Sure, Loose: append(slices.Clone(right.Loose), behind...)}, impl.ErrText)
			wantJournalFault(t, impl.Journal{Sure: append(slices.Clone(right.Sure), behind...), Loose: append(slices.Clone(right.Loose), behind...)}, impl.ErrText)
			wantJournalFault(t, impl.Journal{Sure: append(slices.Clone(behind), right.Sure...), Loose: right.Loose}, impl.ErrText)
			wantJournalFault(t, impl.Journal{Sure: right.Sure, Loose: append(slices.Clone(behind), right.Loose...)}, impl.ErrText)
		}
	}
}

func TestEntryInBothParts(t *testing.T) {
	list := entriesFrom(2, 6)
	data := rawEntries(list...)
	ends := []int{0}
	for i := range list {
		ends = append(ends, len(rawEntries(list[:i+1]...)))
	}
	for at := range len(data) + 1 {
		// Both together are all entries, wherever they are parted.
		code := codeIf(!slices.Contains(ends, at), impl.ErrText)
		wantJournalFault(t, impl.Journal{Sure: data[:at], Loose: data[at:]}, code)
	}
}

func TestFaultsOfAnyJournal(t *testing.T) {
	r := rand.New(rand.NewSource(103))
	codes := map[int64]int{}
	for i := range 1500 {
		var j impl.Journal
		for _, part := range []*[]byte{&j.Sure, &j.Loose} {
			if i%9 == 0 {
				*part = rawEntries(filling(2990 + r.Intn(20))...)
				continue
			}
			for range r.Intn(5) {
				*part = append(*part, rawEntry(someEntry(r, 8))...)
			}
			if r.Intn(12) == 0 {
				*part = append(*part, byte(r.Intn(9)))
			}
		}
		code := wordsJournalFault(j)
		codes[code]++
		wantJournalFault(t, j, code)
		wantSync(t, j, wordsSync(j))
		wantAppend(t, j, tickEntry(5), wordsAppend(j, tickEntry(5)))
	}
	if codes[impl.OK] < 300 || codes[impl.ErrText] < 300 || codes[impl.ErrMany] < 30 {
		t.Errorf("codes: %v", codes)
	}
}

func TestAppendJournal(t *testing.T) {
	for _, x := range []impl.Entry{tickEntry(1), tickEntry(1000), {Epoch: 256, Event: start(2)}, {Epoch: 3, Event: stop(0)}, inputEntry(7, 1, 1), inputEntry(7, 0, 60)} {
		wantAppend(t, impl.Journal{}, x, impl.JournalResult{Count: 1, Journal: impl.Journal{Loose: rawEntry(x)}})
		for sure := range 4 {
			for loose := range 4 {
				p := somePartsOf(sure, loose)
				j := p.journal()
				want := impl.JournalResult{Count: int64(sure + loose + 1), Journal: impl.Journal{Sure: j.Sure, Loose: append(slices.Clone(j.Loose), rawEntry(x)...)}}
				wantAppend(t, j, x, want)
			}
		}
	}
}

func TestRoomForAnEntry(t *testing.T) {
	for _, x := range []impl.Entry{tickEntry(1), {Epoch: 1000, Event: stop(2)}, inputEntry(2, 1, 1), inputEntry(2, 1, 30), inputEntry(9, 0, 60)} {
		size := len(rawEntry(x))
		for _, room := range []int{0, 1, size - 2, size - 1, size, size + 1, size + 70} {
			list := filling(6000 - room)
			for _, n := range []int{0, len(list) / 2, len(list)} {
				p := parts{list[:n], list[n:]}
				want := impl.JournalResult{Code: impl.ErrMany}
				if room >= size {
					want = parts{p.sure, append(slices.Clone(p.loose), x)}.result()
				}
				wantAppend(t, p.journal(), x, want)
				// What is wrong with an entry is told ahead of there being no room.
				bad := x
				bad.Epoch = 1001
				wantAppend(t, p.journal(), bad, impl.JournalResult{Code: impl.ErrRange})
				bad = impl.Entry{Epoch: 1, Event: impl.Event{Kind: 5, Bytes: x.Event.Bytes}}
				wantAppend(t, p.journal(), bad, impl.JournalResult{Code: impl.ErrForm})
			}
		}
	}
}

func TestAppendUntilItIsFull(t *testing.T) {
	var j impl.Journal
	for n := range int64(750) {
		if n%100 == 50 {
			j = impl.SyncJournal(j).Journal
		}
		got := impl.AppendJournal(j, tickEntry(n+1))
		if got.Code != impl.OK || got.Count != n+1 {
			t.Fatalf("behind %d entries: %d, %d", n, got.Code, got.Count)
		}
		j = got.Journal
	}
	wantAppend(t, j, tickEntry(751), impl.JournalResult{Code: impl.ErrMany})
	wantSync(t, j, wordsSync(j))
}

func TestSyncJournal(t *testing.T) {
	wantSync(t, impl.Journal{}, impl.JournalResult{})
	for sure := range 6 {
		for loose := range 6 {
			j := somePartsOf(sure, loose).journal()
			want := impl.JournalResult{Count: int64(sure + loose), Journal: impl.Journal{Sure: slices.Concat(j.Sure, j.Loose)}}
			wantSync(t, j, want)
			wantSync(t, want.Journal, want)
		}
	}
	full := fullParts(0).journal()
	wantSync(t, full, impl.JournalResult{Count: int64(len(filling(6000))), Journal: impl.Journal{Sure: slices.Concat(full.Sure, full.Loose)}})
}

// outside are numbers that are not 0 to most.
func outside(most int) []int64 {
	return []int64{-1, -2, int64(most) + 1, int64(most) + 2, 7000, math.MinInt64, math.MaxInt64, math.MinInt64 + 1, math.MaxInt64 - 1}
}

func TestCrashJournal(t *testing.T) {
	for _, j := range rightJournals() {
		p := partsOf(j)
		for _, kept := range outside(len(j.Loose)) {
			wantCrash(t, j, kept, impl.JournalResult{Code: impl.ErrRange})
		}
		wantCrash(t, j, 0, parts{sure: p.sure}.result())
		wantCrash(t, j, int64(len(j.Loose)), parts{sure: p.all()}.result())
		// At the end of each entry, and a byte to either side.
		for n := range p.loose {
			end := int64(len(rawEntries(p.loose[:n+1]...)))
			wantCrash(t, j, end-1, parts{sure: slices.Concat(p.sure, p.loose[:n])}.result())
			wantCrash(t, j, end, parts{sure: slices.Concat(p.sure, p.loose[:n+1])}.result())
			if n+1 < len(p.loose) {
				wantCrash(t, j, end+1, parts{sure: slices.Concat(p.sure, p.loose[:n+1])}.result())
			}
		}
	}
	one := impl.Journal{Loose: rawEntry(tickEntry(5))}
	for kept := range int64(8) {
		wantCrash(t, one, kept, impl.JournalResult{})
	}
	wantCrash(t, one, 8, impl.JournalResult{Count: 1, Journal: impl.Journal{Sure: one.Loose}})
	wantCrash(t, one, 9, impl.JournalResult{Code: impl.ErrRange})
	wantCrash(t, impl.Journal{}, 0, impl.JournalResult{})
	wantCrash(t, impl.Journal{}, 1, impl.JournalResult{Code: impl.ErrRange})
	// How many are Sure does not matter for how many may be kept.
	wantCrash(t, impl.Journal{Sure: one.Loose}, 1, impl.JournalResult{Code: impl.ErrRange})
	wantCrash(t, impl.Journal{Sure: one.Loose}, 0, impl.JournalResult{Count: 1, Journal: impl.Journal{Sure: one.Loose}})
}

func TestCutJournal(t *testing.T) {
	for _, j := range rightJournals() {
		p := partsOf(j)
		for _, count := range outside(len(p.all())) {
			wantCut(t, j, count, impl.JournalResult{Code: impl.ErrRange})
		}
		wantCut(t, j, 0, impl.JournalResult{})
		wantCut(t, j, int64(len(p.sure)), parts{sure: p.sure}.result())
		wantCut(t, j, int64(len(p.all())), p.result())
		for n := range p.sure {
			wantCut(t, j, int64(n), parts{sure: p.sure[:n]}.result())
		}
		for n := range p.loose {
			wantCut(t, j, int64(len(p.sure)+n), parts{p.sure, p.loose[:n]}.result())
		}
	}
	wantCut(t, impl.Journal{}, 0, impl.JournalResult{})
	wantCut(t, impl.Journal{}, 1, impl.JournalResult{Code: impl.ErrRange})
	// Bytes are not counted, entries are.
	j := somePartsOf(2, 3).journal()
	wantCut(t, j, 6, impl.JournalResult{Code: impl.ErrRange})
	wantCut(t, j, 3, somePartsOf(2, 1).result())
	wantCut(t, j, 5, somePartsOf(2, 3).result())
}

// checkCrashes asks of every number of kept bytes what is promised behind a crash.
func checkCrashes(t *testing.T, j impl.Journal) {
	t.Helper()
	sure, loose := impl.ReadEntries(j.Sure).Entries, impl.ReadEntries(j.Loose).Entries
	before := len(sure)
	for kept := range int64(len(j.Loose)) + 1 {
		got := impl.CrashJournal(j, kept)
		read := impl.ReadEntries(got.Journal.Sure)
		if got.Code != impl.OK || len(got.Journal.Loose) > 0 || read.Used != int64(len(got.Journal.Sure)) || got.Count != int64(len(read.Entries)) {
			t.Fatalf("%s behind a crash with %d kept: %s", brief(j), kept, brief(got))
		}
		n := len(read.Entries)
		if n < len(sure) || n > len(sure)+len(loose) || !sameEntries(read.Entries[:len(sure)], sure) || !sameEntries(read.Entries[len(sure):], loose[:n-len(sure)]) {
			t.Fatalf("%s behind a crash with %d kept has not its first entries: %s", brief(j), kept, brief(got))
		}
		// No entry that was kept whole is gone, and more bytes leave no fewer.
		if n < before || kept == int64(len(j.Loose)) && n != len(sure)+len(loose) {
			t.Fatalf("%s behind a crash with %d kept has only %d entries", brief(j), kept, n)
		}
		before = n
		wantCrash(t, j, kept, wordsCrash(j, kept))
	}
}

// checkAppend asks that what is appended is the last one that is read.
func checkAppend(t *testing.T, j impl.Journal, x impl.Entry) impl.Journal {
	t.Helper()
	was := impl.ReadEntries(slices.Concat(j.Sure, j.Loose))
	got := impl.AppendJournal(j, x)
	read := impl.ReadEntries(slices.Concat(got.Journal.Sure, got.Journal.Loose))
	if got.Code != impl.OK || read.Code != impl.OK || read.Used != int64(len(got.Journal.Sure)+len(got.Journal.Loose)) || got.Count != int64(len(read.Entries)) {
		t.Fatalf("AppendJournal of %s: %s", brief(j, x), brief(got))
	}
	if !sameEntries(read.Entries, append(was.Entries, x)) || !bytes.Equal(got.Journal.Sure, j.Sure) {
		t.Fatalf("AppendJournal of %s: %s, where it is not the last one", brief(j, x), brief(got))
	}
	wantAppend(t, j, x, wordsAppend(j, x))
	return got.Journal
}

// checkCuts asks of every count whether just the first entries are there.
func checkCuts(t *testing.T, j impl.Journal) {
	t.Helper()
	all := impl.ReadEntries(slices.Concat(j.Sure, j.Loose)).Entries
	sure := len(impl.ReadEntries(j.Sure).Entries)
	for count := range len(all) + 1 {
		got := impl.CutJournal(j, int64(count))
		left, loose := impl.ReadEntries(got.Journal.Sure).Entries, impl.ReadEntries(got.Journal.Loose).Entries
		if got.Code != impl.OK || got.Count != int64(count) || !sameEntries(slices.Concat(left, loose), all[:count]) || len(left) != min(count, sure) {
			t.Fatalf("CutJournal of %s, %d: %s", brief(j), count, brief(got))
		}
		wantCut(t, j, int64(count), wordsCut(j, int64(count)))
	}
}

func TestManyJournals(t *testing.T) {
	r := rand.New(rand.NewSource(104))
	crashed, synced, cut := 0, 0, 0
	for range 60 {
		var j impl.Journal
		for range 20 {
			switch move := r.Intn(12); {
			case move < 8:
				j = checkAppend(t, j, someEntry(r, 0))
			case move < 10:
				wantSync(t, j, wordsSync(j))
				j = impl.SyncJournal(j).Journal
				synced++
			case move < 11:
				j = impl.CrashJournal(j, int64(r.Intn(len(j.Loose)+1))).Journal
				crashed++
			default:
				count := int64(len(partsOf(j).all()))
				j = impl.CutJournal(j, r.Int63n(count+1)).Journal
				cut++
			}
			checkCrashes(t, j)
			checkCuts(t, j)
		}
	}
	if crashed < 50 || synced < 100 || cut < 50 {
		t.Errorf("only %d crashes, %d syncs and %d cuts", crashed, synced, cut)
	}
}

func TestEveryShortOrderOfAJournal(t *testing.T) {
	// All orders of seven appends and syncs: which entries are Sure hangs on the last sync alone.
	for order := range 1 << 7 {
		var j impl.Journal
		var p parts
		for i := range 7 {
			if order>>i&1 == 0 {
				x := entryAt(i + order)
				j = checkAppend(t, j, x)
				p.loose = append(p.loose, x)
				continue
			}
			j = impl.SyncJournal(j).Journal
			p = parts{sure: p.all()}
		}
		if want := p.journal(); !bytes.Equal(j.Sure, want.Sure) || !bytes.Equal(j.Loose, want.Loose) {
			t.Fatalf("order %b: %s, want %s", order, brief(j), brief(want))
		}
		checkCrashes(t, j)
		checkCuts(t, j)
	}
}

func TestFullJournals(t *testing.T) {
	for _, p := range []parts{fullParts(0), {loose: filling(6000)}, {sure: filling(5932), loose: []impl.Entry{inputEntry(1, 0, 60)}}} {
		j := p.journal()
		for _, kept := range []int{0, 1, 67, 68, 69, len(j.Loose) / 2, len(j.Loose) - 1, len(j.Loose)} {
			wantCrash(t, j, int64(kept), wordsCrash(j, int64(kept)))
		}
		checkCuts(t, j)
	}
}

func TestWhatWasSureStaysBehindCrashes(t *testing.T) {
	r := rand.New(rand.NewSource(105))
	for range 200 {
		var j impl.Journal
		var sure []impl.Entry
		for range 6 {
			for range r.Intn(4) {
				j = impl.AppendJournal(j, someEntry(r, 0)).Journal
			}
			if r.Intn(2) == 0 {
				j = impl.SyncJournal(j).Journal
				sure = impl.ReadEntries(j.Sure).Entries
			}
			j = impl.CrashJournal(j, int64(r.Intn(len(j.Loose)+1))).Journal
			read := impl.ReadEntries(j.Sure).Entries
			if len(read) < len(sure) || !sameEntries(read[:len(sure)], sure) {
				t.Fatalf("%v was sure, and there is %v", sure, read)
			}
			// What is there behind a crash is sure from now on.
			sure = read
		}
	}
}

// journalArgs are all that the functions of this chapter take.
type journalArgs struct {
	Entry   impl.Entry
	Data    []byte
	Journal impl.Journal
	Number  int64
}

func journalCalls() []func(x journalArgs) any {
	return []func(x journalArgs) any{
		func(x journalArgs) any { return impl.EntryFault(x.Entry) },
		func(x journalArgs) any { return impl.PackEntry(x.Entry) },
		func(x journalArgs) any { return impl.ReadEntries(x.Data) },
		func(x journalArgs) any { return impl.JournalFault(x.Journal) },
		func(x journalArgs) any { return impl.AppendJournal(x.Journal, x.Entry) },
		func(x journalArgs) any { return impl.SyncJournal(x.Journal) },
		func(x journalArgs) any { return impl.CrashJournal(x.Journal, x.Number) },
		func(x journalArgs) any { return impl.CutJournal(x.Journal, x.Number) },
	}
}

// someJournalArgs have journals of which nothing, something and all is kept or cut, and faults.
func someJournalArgs() []journalArgs {
	var list []journalArgs
	entries := []impl.Entry{tickEntry(1), inputEntry(300, 1, 60), inputEntry(2, 0, 1), {Epoch: 9, Event: stop(2)}}
	for _, e := range faultyEvents() {
		entries = append(entries, impl.Entry{Epoch: 1, Event: e})
	}
	for i, j := range rightJournals() {
		x := journalArgs{Entry: entries[i%4], Data: slices.Concat(j.Sure, j.Loose), Journal: j}
		p := partsOf(j)
		for _, number := range []int{-1, 0, 1, len(p.sure), len(p.all()), len(p.all()) - 1, len(j.Loose) - 1, len(j.Loose), len(j.Loose) + 1} {
			x.Number = int64(number)
			list = append(list, x)
		}
		x.Data = append(x.Data, 5, 1, 2)
		list = append(list, x)
	}
	for i, x := range entries {
		list = append(list, journalArgs{Entry: x, Data: make([]byte, i), Journal: impl.Journal{Sure: rawEntry(x)[1:]}, Number: 1},
			journalArgs{Entry: x, Data: rawEntry(x), Journal: impl.Journal{Loose: rawEntry(x)}, Number: 1})
	}
	return append(list, journalArgs{}, journalArgs{Data: make([]byte, 6001), Journal: impl.Journal{Sure: make([]byte, 6001)}})
}

func TestJournalsChangeNoArgument(t *testing.T) {
	for _, was := range someJournalArgs() {
		x := roomyCopy(was)
		memory := memoryOfAll(x)
		for i, call := range journalCalls() {
			call(x)
			if memoryOfAll(x) != memory {
				t.Fatalf("call %d has changed its arguments: %s", i, brief(was))
			}
		}
	}
}

func TestJournalsAnswerNewMemory(t *testing.T) {
	for _, was := range someJournalArgs() {
		for i, call := range journalCalls() {
			x := roomyCopy(was)
			first, second := call(x), call(x)
			if shareMemory(slices.Concat(spansOf(x), spansOf(first), spansOf(second))) {
				t.Fatalf("call %d: lists share memory with one another, or with the arguments: %s", i, brief(was))
			}
			if !reflect.DeepEqual(first, second) {
				t.Fatalf("call %d: %s, and again %s", i, brief(first), brief(second))
			}
			runtime.KeepAlive([]any{x, first, second})
		}
	}
}

func TestJournalsOfSharedLists(t *testing.T) {
	// Sure and Loose are one and the same memory, with more of it behind them, and so are the Bytes of an entry.
	data := rawEntries(entriesFrom(0, 12)...)
	memory := memoryOfAll(data)
	at := len(rawEntries(entriesFrom(0, 5)...))
	end := len(rawEntries(entriesFrom(0, 9)...))
	for _, j := range []impl.Journal{{Sure: data[:at], Loose: data[at:end]}, {Sure: data[:at], Loose: data[:at]}, {Sure: data[:end]}, {Loose: data[:at]}, {Sure: data[:0], Loose: data[at:at]}} {
		x := journalArgs{Entry: impl.Entry{Epoch: 3, Event: inputOf(1, data[:7]...)}, Data: data[:end], Journal: j}
		for _, number := range []int64{0, 1, 3, int64(len(partsOf(j).all())), int64(len(j.Loose))} {
			x.Number = number
			for i, call := range journalCalls() {
				got := call(x)
				spans := append(spansOf(got), spansOf(data[:0])...)
				if shareMemory(spans) || memoryOfAll(data) != memory {
					t.Fatalf("call %d shares or changes memory: %s", i, brief(x))
				}
				runtime.KeepAlive(got)
			}
		}
	}
}

func TestAnswersOfJournalsMayBeSpoiled(t *testing.T) {
	x := inputEntry(7, 1, 9)
	j := somePartsOf(4, 5).journal()
	for i, call := range []func() impl.JournalResult{
		func() impl.JournalResult { return impl.AppendJournal(j, x) },
		func() impl.JournalResult { return impl.SyncJournal(j) },
		func() impl.JournalResult { return impl.CrashJournal(j, int64(len(j.Loose))) },
		func() impl.JournalResult { return impl.CrashJournal(j, 0) },
		func() impl.JournalResult { return impl.CutJournal(j, 9) },
		func() impl.JournalResult { return impl.CutJournal(j, 4) },
		func() impl.JournalResult { return impl.CutJournal(j, 2) },
	} {
		memory, first := memoryOfAll(j, x), call()
		loose := slices.Clone(first.Journal.Loose)
		flip(first.Journal.Sure)
		if !bytes.Equal(first.Journal.Loose, loose) {
			t.Errorf("call %d: Sure and Loose share memory", i)
		}
		flip(first.Journal.Loose)
		if memoryOfAll(j, x) != memory || impl.JournalFault(call().Journal) != impl.OK {
			t.Errorf("call %d: what is answered shares memory with an argument", i)
		}
	}
	data := rawEntries(x, x, x)
	was, got := slices.Clone(data), impl.ReadEntries(data)
	flip(got.Entries[1].Event.Bytes)
	if !bytes.Equal(data, was) || !sameEntry(got.Entries[0], x) || !sameEntry(got.Entries[2], x) {
		t.Errorf("the Bytes of two entries share memory, or with an argument: %+v", got)
	}
}

// allOfJournals tells all that the functions of this chapter answer, nil and empty lists apart.
func allOfJournals(x journalArgs) string {
	var said []any
	for _, call := range journalCalls() {
		said = append(said, fmt.Sprintf("%#v", call(x)))
	}
	return fmt.Sprint(said...)
}

func TestJournalsHangOnArgumentsAlone(t *testing.T) {
	list := someJournalArgs()
	for i, x := range list {
		first := allOfJournals(x)
		allOfJournals(list[(i*7+5)%len(list)])
		if allOfJournals(x) != first || allOfJournals(roomyCopy(x)) != first {
			t.Fatalf("what is told of %s hangs on more than it", brief(x))
		}
		if allOfJournals(hollow(x, true)) != first || allOfJournals(hollow(x, false)) != first {
			t.Fatalf("nil and an empty list in %s are not answered alike", brief(x))
		}
	}
}
