package tests

import (
	"bytes"
	"fmt"
	"math"
	"math/rand"
	"reflect"
	"slices"
	"strconv"
	"strings"
	"testing"

	"loop.example/g00263/impl"
)

// wordsMessageFault asks the document's words in their order.
func wordsMessageFault(m impl.Message) int64 {
	if m.Kind < 1 || m.Kind > 4 {
		return impl.ErrForm
	}
	if m.Kind == impl.KindOpen {
		if m.As < 1 || m.As > 65535 || m.Hold < 0 || m.Hold == 1 || m.Hold == 2 || m.Hold > 200 || m.Id < 1 || m.Id > 65535 {
			return impl.ErrRange
		}
	}
	if m.Kind == impl.KindNotify && (m.Why < 1 || m.Why > 6 || m.Sub < 0 || m.Sub > 20) {
		return impl.ErrRange
	}
	if m.Kind != impl.KindOpen && (m.As != 0 || m.Hold != 0 || m.Id != 0) {
		return impl.ErrForm
	}
	if m.Kind != impl.KindNotify && (m.Why != 0 || m.Sub != 0) {
		return impl.ErrForm
	}
	if m.Kind != impl.KindUpdate && !sameUpdates(m.Update, impl.Update{}) {
		return impl.ErrForm
	}
	return wordsUpdateFault(m.Update)
}

// wordsFrame writes whatever fits into its bytes, a message with a fault, too.
func wordsFrame(m impl.Message) impl.Frame {
	f := impl.Frame{Kind: m.Kind}
	switch m.Kind {
	case impl.KindOpen:
		f.Body = []byte{byte(m.As >> 8), byte(m.As), byte(m.Hold), byte(m.Id >> 8), byte(m.Id)}
	case impl.KindNotify:
		f.Body = []byte{byte(m.Why), byte(m.Sub)}
	case impl.KindUpdate:
		f.Body = wordsPack(m.Update)
	}
	return f
}

func unread(code, why, sub int64) impl.MessageResult {
	return impl.MessageResult{Code: code, Why: why, Sub: sub}
}

// wordsMessage reads a message by the document's words.
func wordsMessage(f impl.Frame) impl.MessageResult {
	if f.Kind < 1 || f.Kind > 4 {
		return unread(impl.ErrRange, 1, 3)
	}
	if len(f.Body) > 120 {
		return unread(impl.ErrMany, 1, 3)
	}
	m := impl.Message{Kind: f.Kind}
	switch {
	case f.Kind == impl.KindOpen && len(f.Body) != 5:
		return unread(impl.ErrText, 2, 0)
	case f.Kind == impl.KindNotify && len(f.Body) != 2, f.Kind == impl.KindKeep && len(f.Body) != 0:
		return unread(impl.ErrText, 1, 2)
	case f.Kind == impl.KindOpen:
		m.As, m.Hold, m.Id = int64(f.Body[0])<<8+int64(f.Body[1]), int64(f.Body[2]), int64(f.Body[3])<<8+int64(f.Body[4])
		switch {
		case m.As == 0:
			return unread(impl.ErrRange, 2, 2)
		case m.Id == 0:
			return unread(impl.ErrRange, 2, 3)
		case m.Hold == 1 || m.Hold == 2 || m.Hold > 200:
			return unread(impl.ErrRange, 2, 6)
		}
	case f.Kind == impl.KindNotify:
		m.Why, m.Sub = int64(f.Body[0]), int64(f.Body[1])
		if m.Why == 0 || m.Why > 6 || m.Sub > 20 {
			return unread(impl.ErrRange, 1, 2)
		}
	case f.Kind == impl.KindUpdate:
		got := wordsUpdate(f.Body)
		if got.Code != impl.OK && !got.Soft {
			return unread(got.Code, 3, 1)
		}
		m.Update = got.Update
	}
	return impl.MessageResult{Message: m}
}

// wordsMessages reads a stream by the document's words, from what SplitFrames tells of it.
func wordsMessages(data []byte) impl.MessagesResult {
	var want impl.MessagesResult
	if len(data) > 400 {
		want.Code = impl.ErrMany
		return want
	}
	split := impl.SplitFrames(data)
	for _, f := range split.Frames {
		one := wordsMessage(f)
		if one.Code != impl.OK {
			want.Code, want.Why, want.Sub = one.Code, one.Why, one.Sub
			return want
		}
		want.Used += 5 + int64(len(f.Body))
		want.Messages = append(want.Messages, one.Message)
	}
	want.Code = split.Code
	if split.Code != impl.OK {
		want.Why = 1
		want.Sub = map[int64]int64{impl.ErrForm: 1, impl.ErrMany: 2, impl.ErrRange: 3}[split.Code]
	}
	return want
}

// sameMessages holds nil and an empty list to be the same.
func sameMessages(m, n impl.Message) bool {
	same := sameUpdates(m.Update, n.Update)
	m.Update, n.Update = impl.Update{}, impl.Update{}
	return same && reflect.DeepEqual(m, n)
}

func sameMessageLists(a, b []impl.Message) bool {
	return slices.EqualFunc(a, b, sameMessages)
}

func wantMessage(t *testing.T, f impl.Frame, want impl.MessageResult) {
	t.Helper()
	got := impl.ParseMessage(f)
	if got.Code != want.Code || got.Why != want.Why || got.Sub != want.Sub || !sameMessages(got.Message, want.Message) {
		t.Errorf("ParseMessage(%v): %v, want %v", f, got, want)
	}
}

func wantMessages(t *testing.T, data []byte, want impl.MessagesResult) {
	t.Helper()
	got := impl.ReadMessages(data)
	if got.Code != want.Code || got.Used != want.Used || got.Why != want.Why || got.Sub != want.Sub || !sameMessageLists(got.Messages, want.Messages) {
		t.Errorf("ReadMessages(% x): %v, want %v", data, got, want)
	}
}

// wantFault holds all that ask the fault of a message to one code.
func wantFault(t *testing.T, m impl.Message, code int64) {
	t.Helper()
	if got := impl.MessageFault(m); got != code || got != wordsMessageFault(m) {
		t.Errorf("MessageFault(%v): %d, want %d", m, got, code)
	}
	if got := impl.PackMessage(m); got.Code != code || code != impl.OK && len(got.Bytes) != 0 {
		t.Errorf("PackMessage(%v): %v, want code %d", m, got, code)
	}
	if got := impl.MessageText(m); got.Code != code || code != impl.OK && got.Text != "" {
		t.Errorf("MessageText(%v): %v, want code %d", m, got, code)
	}
}

func openMessage() impl.Message {
	return impl.Message{Kind: impl.KindOpen, As: 7, Hold: 9, Id: 300}
}

func notifyMessage() impl.Message {
	return impl.Message{Kind: impl.KindNotify, Why: 6, Sub: 2}
}

func keepMessage() impl.Message {
	return impl.Message{Kind: impl.KindKeep}
}

func updateMessage(u impl.Update) impl.Message {
	return impl.Message{Kind: impl.KindUpdate, Update: u}
}

// oneOfEachKind stand in the order of the Kinds.
func oneOfEachKind() []impl.Message {
	return []impl.Message{openMessage(), updateMessage(smallUpdate()), notifyMessage(), keepMessage()}
}

// rightMessages have no fault.
func rightMessages() []impl.Message {
	list := oneOfEachKind()
	for _, as := range []int64{1, 255, 256, 65535} {
		for _, hold := range []int64{0, 3, 4, 199, 200} {
			list = append(list, impl.Message{Kind: impl.KindOpen, As: as, Hold: hold, Id: 65536 - as})
		}
	}
	for why := int64(1); why <= 6; why++ {
		for _, sub := range []int64{0, 1, 19, 20} {
			list = append(list, impl.Message{Kind: impl.KindNotify, Why: why, Sub: sub})
		}
	}
	for _, u := range rightUpdates() {
		list = append(list, updateMessage(u))
	}
	return list
}

// rightMessage makes one without a fault by chance.
func rightMessage(r *rand.Rand) impl.Message {
	switch r.Intn(4) {
	case 0:
		return impl.Message{Kind: impl.KindOpen, As: 1 + r.Int63n(65535), Hold: []int64{0, 3, 90, 200}[r.Intn(4)], Id: 1 + r.Int63n(65535)}
	case 1:
		return impl.Message{Kind: impl.KindNotify, Why: 1 + r.Int63n(6), Sub: r.Int63n(21)}
	case 2:
		return keepMessage()
	}
	return updateMessage(rightUpdate(r))
}

// stream packs messages one behind the other, by the document's words, whatever their faults.
func stream(list ...impl.Message) []byte {
	var frames []impl.Frame
	for _, m := range list {
		frames = append(frames, wordsFrame(m))
	}
	return packAll(frames)
}

func TestKindOfMessage(t *testing.T) {
	for _, kind := range []int64{math.MinInt64, -4, -1, 0, 5, 6, 255, 256, 257, 260, 1 << 32, 1<<32 + 1, math.MaxInt64} {
		for _, m := range append(oneOfEachKind(), impl.Message{}, impl.Message{As: -1, Why: 7}) {
			m.Kind = kind
			wantFault(t, m, impl.ErrForm)
		}
	}
	for _, m := range rightMessages() {
		wantFault(t, m, impl.OK)
	}
}

func TestNumbersOfOpen(t *testing.T) {
	right := func(good bool) int64 {
		if good {
			return impl.OK
		}
		return impl.ErrRange
	}
	for _, n := range append([]int64{2, 3, 4, 199, 200, 201, 203, 65537, 65539}, edgeNumbers...) {
		m := openMessage()
		m.As = n
		wantFault(t, m, right(n >= 1 && n <= 65535))
		m = openMessage()
		m.Id = n
		wantFault(t, m, right(n >= 1 && n <= 65535))
		m = openMessage()
		m.Hold = n
		wantFault(t, m, right(n == 0 || n >= 3 && n <= 200))
	}
	for hold, code := range map[int64]int64{-1: 3, 0: 0, 1: 3, 2: 3, 3: 0, 200: 0, 201: 3, 256: 3, 259: 3} {
		m := openMessage()
		m.Hold = hold
		wantFault(t, m, code)
	}
	for number, code := range map[int64]int64{-1: 3, 0: 3, 1: 0, 65535: 0, 65536: 3} {
		wantFault(t, impl.Message{Kind: impl.KindOpen, As: number, Id: 1}, code)
		wantFault(t, impl.Message{Kind: impl.KindOpen, As: 1, Id: number}, code)
	}
	wantFault(t, impl.Message{Kind: impl.KindOpen}, impl.ErrRange)
}

func TestNumbersOfNotify(t *testing.T) {
	for why, code := range map[int64]int64{math.MinInt64: 3, -1: 3, 0: 3, 1: 0, 6: 0, 7: 3, 257: 3, math.MaxInt64: 3} {
		wantFault(t, impl.Message{Kind: impl.KindNotify, Why: why}, code)
	}
	for sub, code := range map[int64]int64{math.MinInt64: 3, -1: 3, 0: 0, 1: 0, 20: 0, 21: 3, 256: 3, math.MaxInt64: 3} {
		wantFault(t, impl.Message{Kind: impl.KindNotify, Why: 1, Sub: sub}, code)
	}
	wantFault(t, impl.Message{Kind: impl.KindNotify}, impl.ErrRange)
}

// numbersOf points at the numbers of a message, and tells which Kind has each.
func numbersOf(m *impl.Message) ([]*int64, []int64) {
	return []*int64{&m.As, &m.Hold, &m.Id, &m.Why, &m.Sub}, []int64{1, 1, 1, 3, 3}
}

func TestNumbersThatAKindHasNot(t *testing.T) {
	for _, n := range []int64{math.MinInt64, -1, 1, 3, 7, 20, 21, 201, 65536, math.MaxInt64} {
		for _, m := range oneOfEachKind() {
			numbers, kinds := numbersOf(&m)
			for i, number := range numbers {
				if kinds[i] == m.Kind {
					continue
				}
				*number = n
				wantFault(t, m, impl.ErrForm)
				*number = 0
			}
			wantFault(t, m, impl.OK)
		}
	}
}

func TestUpdateWithAnotherKind(t *testing.T) {
	other := []impl.Update{
		{Gone: []impl.Prefix{{}}}, {Has: true}, {Reach: []impl.Prefix{{}}},
		{Attrs: impl.Attrs{Origin: 1}}, {Attrs: impl.Attrs{Path: []int64{0}}}, {Attrs: impl.Attrs{Path: []int64{7}}},
		{Attrs: impl.Attrs{Next: 1}}, {Attrs: impl.Attrs{Med: 1}}, {Attrs: impl.Attrs{Local: 1}},
		{Attrs: impl.Attrs{Next: -1}}, {Gone: manyPrefixes(9)}, {Gone: []impl.Prefix{{Addr: -1}}}, smallUpdate(),
		{Reach: manyPrefixes(9)}, {Reach: []impl.Prefix{{Addr: 65536}}}, {Has: true, Reach: []impl.Prefix{{}}},
	}
	for _, m := range []impl.Message{openMessage(), notifyMessage(), keepMessage()} {
		for _, u := range other {
			m.Update = u
			wantFault(t, m, impl.ErrForm)
		}
		m.Update = impl.Update{Gone: []impl.Prefix{}, Attrs: impl.Attrs{Path: []int64{}}, Reach: []impl.Prefix{}}
		wantFault(t, m, impl.OK)
	}
}

func TestWhichFaultOfAMessage(t *testing.T) {
	many := impl.Update{Gone: manyPrefixes(9)}
	wide := impl.Update{Gone: []impl.Prefix{{Addr: 65536}}}
	cases := []struct {
		message impl.Message
		code    int64
	}{
		// A number that its Kind has, ahead of one that it has not, and of an update.
		{impl.Message{Kind: impl.KindOpen, As: 0, Id: 1, Why: 1}, impl.ErrRange},
		{impl.Message{Kind: impl.KindOpen, As: 1, Id: 0, Update: many}, impl.ErrRange},
		{impl.Message{Kind: impl.KindOpen, As: 1, Id: 1, Hold: 2, Sub: 1}, impl.ErrRange},
		{impl.Message{Kind: impl.KindNotify, Why: 7, As: 1}, impl.ErrRange},
		{impl.Message{Kind: impl.KindNotify, Why: 1, Sub: 21, Update: many}, impl.ErrRange},
		// The form, ahead of the update's fault.
		{impl.Message{Kind: impl.KindUpdate, As: 1, Update: many}, impl.ErrForm},
		{impl.Message{Kind: impl.KindUpdate, Sub: -1, Update: wide}, impl.ErrForm},
		{impl.Message{Kind: impl.KindOpen, As: 1, Id: 1, Update: many}, impl.ErrForm},
		{impl.Message{Kind: impl.KindKeep, Update: wide}, impl.ErrForm},
		{impl.Message{Kind: impl.KindKeep, As: 65536}, impl.ErrForm},
		// No Kind, ahead of all.
		{impl.Message{Kind: 5, As: -1, Update: many}, impl.ErrForm},
		{impl.Message{As: -1, Update: wide}, impl.ErrForm},
		// The update's own.
		{updateMessage(many), impl.ErrMany},
		{updateMessage(wide), impl.ErrRange},
		{updateMessage(impl.Update{Gone: []impl.Prefix{{Addr: 1, Len: 8}}}), impl.ErrForm},
		{updateMessage(impl.Update{Has: true}), impl.ErrForm},
		{updateMessage(impl.Update{Has: true, Reach: []impl.Prefix{{}}, Attrs: impl.Attrs{Path: longPath(7)}}), impl.ErrMany},
	}
	for _, c := range cases {
		wantFault(t, c.message, c.code)
	}
	for _, u := range faultyUpdates() {
		wantFault(t, updateMessage(u), wordsUpdateFault(u))
	}
}

func TestPackMessage(t *testing.T) {
	cases := []struct {
		message impl.Message
		want    []byte
	}{
		{impl.Message{Kind: impl.KindOpen, As: 258, Hold: 200, Id: 65535}, []byte{255, 255, 0, 10, 1, 1, 2, 200, 255, 255}},
		{impl.Message{Kind: impl.KindOpen, As: 7, Id: 256}, []byte{255, 255, 0, 10, 1, 0, 7, 0, 1, 0}},
		{impl.Message{Kind: impl.KindNotify, Why: 6, Sub: 20}, []byte{255, 255, 0, 7, 3, 6, 20}},
		{keepMessage(), []byte{255, 255, 0, 5, 4}},
		{updateMessage(impl.Update{}), []byte{255, 255, 0, 6, 2, 0}},
		{updateMessage(impl.Update{Gone: []impl.Prefix{{Addr: 2560, Len: 8}}}), []byte{255, 255, 0, 9, 2, 1, 10, 0, 8}},
		{updateMessage(fullUpdate()), append([]byte{255, 255, 0, 74, 2}, wordsPack(fullUpdate())...)},
	}
	for _, c := range cases {
		if got := impl.PackMessage(c.message); got.Code != impl.OK || !bytes.Equal(got.Bytes, c.want) {
			t.Errorf("PackMessage(%v): %v, want % x", c.message, got, c.want)
		}
	}
}

func TestMessageIsReadBack(t *testing.T) {
	r := rand.New(rand.NewSource(7))
	list := rightMessages()
	for range 3000 {
		list = append(list, rightMessage(r))
	}
	for _, m := range list {
		packed := impl.PackMessage(m)
		if packed.Code != impl.OK || !bytes.Equal(packed.Bytes, stream(m)) {
			t.Fatalf("PackMessage(%v): %v, want % x", m, packed, stream(m))
		}
		split := impl.SplitFrames(packed.Bytes)
		if split.Code != impl.OK || len(split.Frames) != 1 || split.Used != int64(len(packed.Bytes)) {
			t.Fatalf("SplitFrames of what is packed of %v: %v", m, split)
		}
		wantMessage(t, split.Frames[0], impl.MessageResult{Message: m})
		wantMessages(t, packed.Bytes, impl.MessagesResult{Used: split.Used, Messages: []impl.Message{m}})
	}
}

func TestFrameWithAFault(t *testing.T) {
	for _, kind := range []int64{math.MinInt64, -1, 0, 5, 257, math.MaxInt64} {
		for _, n := range []int{0, 2, 5, 120, 121} {
			wantMessage(t, impl.Frame{Kind: kind, Body: bodyOf(n)}, unread(impl.ErrRange, 1, 3))
		}
	}
	for kind := int64(1); kind <= 4; kind++ {
		wantMessage(t, impl.Frame{Kind: kind, Body: bodyOf(121)}, unread(impl.ErrMany, 1, 3))
		wantMessage(t, impl.Frame{Kind: kind, Body: make([]byte, 70000)}, unread(impl.ErrMany, 1, 3))
	}
}

func TestBodyOfAnotherSize(t *testing.T) {
	sizes := map[int64]int{impl.KindOpen: 5, impl.KindNotify: 2, impl.KindKeep: 0}
	for kind, size := range sizes {
		want := unread(impl.ErrText, 1, 2)
		if kind == impl.KindOpen {
			want = unread(impl.ErrText, 2, 0)
		}
		for n := range 121 {
			if n == size {
				continue
			}
			// The size is asked ahead of what is in it.
			wantMessage(t, impl.Frame{Kind: kind, Body: bytes.Repeat([]byte{1}, n)}, want)
			wantMessage(t, impl.Frame{Kind: kind, Body: make([]byte, n)}, want)
			wantMessage(t, impl.Frame{Kind: kind, Body: bytes.Repeat([]byte{255}, n)}, want)
		}
	}
	for _, m := range oneOfEachKind() {
		f := wordsFrame(m)
		wantMessage(t, f, impl.MessageResult{Message: m})
		if m.Kind == impl.KindUpdate {
			continue
		}
		code := unread(impl.ErrText, 1, 2)
		if m.Kind == impl.KindOpen {
			code = unread(impl.ErrText, 2, 0)
		}
		wantMessage(t, impl.Frame{Kind: m.Kind, Body: append(bytes.Clone(f.Body), 0)}, code)
		if len(f.Body) > 0 {
			wantMessage(t, impl.Frame{Kind: m.Kind, Body: f.Body[:len(f.Body)-1]}, code)
		}
	}
	// Of an update one byte too few or too many is soft behind Gone, and not in it.
	u := smallUpdate()
	f := wordsFrame(updateMessage(u))
	back := impl.MessageResult{Message: updateMessage(impl.Update{Gone: u.Gone})}
	wantMessage(t, impl.Frame{Kind: impl.KindUpdate, Body: append(bytes.Clone(f.Body), 0)}, back)
	wantMessage(t, impl.Frame{Kind: impl.KindUpdate, Body: f.Body[:len(f.Body)-1]}, back)
	wantMessage(t, impl.Frame{Kind: impl.KindUpdate, Body: []byte{1, 10, 0}}, unread(impl.ErrText, 3, 1))
	wantMessage(t, impl.Frame{Kind: impl.KindUpdate}, unread(impl.ErrText, 3, 1))
}

func TestNumbersOfAnOpenThatIsRead(t *testing.T) {
	cases := []struct {
		as, hold, id int64
		code, sub    int64
	}{
		{7, 9, 3, 0, 0}, {1, 0, 1, 0, 0}, {65535, 200, 65535, 0, 0}, {256, 3, 256, 0, 0},
		{0, 9, 3, 3, 2}, {7, 9, 0, 3, 3}, {7, 1, 3, 3, 6}, {7, 2, 3, 3, 6}, {7, 201, 3, 3, 6}, {7, 255, 3, 3, 6},
		// As ahead of Id, Id ahead of Hold.
		{0, 9, 0, 3, 2}, {0, 1, 3, 3, 2}, {0, 201, 0, 3, 2}, {7, 2, 0, 3, 3}, {7, 255, 0, 3, 3},
	}
	for _, c := range cases {
		m := impl.Message{Kind: impl.KindOpen, As: c.as, Hold: c.hold, Id: c.id}
		if c.code == impl.OK {
			wantMessage(t, wordsFrame(m), impl.MessageResult{Message: m})
		} else {
			wantMessage(t, wordsFrame(m), unread(c.code, 2, c.sub))
		}
	}
	for hold := range int64(256) {
		m := impl.Message{Kind: impl.KindOpen, As: 7, Hold: hold, Id: 3}
		want := impl.MessageResult{Message: m}
		if hold == 1 || hold == 2 || hold > 200 {
			want = unread(impl.ErrRange, 2, 6)
		}
		wantMessage(t, wordsFrame(m), want)
	}
}

func TestNumbersOfANotifyThatIsRead(t *testing.T) {
	for why := range int64(256) {
		for _, sub := range []int64{0, 1, 2, 19, 20, 21, 22, 128, 255} {
			m := impl.Message{Kind: impl.KindNotify, Why: why, Sub: sub}
			want := impl.MessageResult{Message: m}
			if why < 1 || why > 6 || sub > 20 {
				want = unread(impl.ErrRange, 1, 2)
			}
			wantMessage(t, wordsFrame(m), want)
		}
	}
}

func TestUpdatesThatAreRead(t *testing.T) {
	// Not soft: the code is told.
	wantMessage(t, impl.Frame{Kind: impl.KindUpdate, Body: []byte{2, 0, 0, 0}}, unread(impl.ErrText, 3, 1))
	wantMessage(t, impl.Frame{Kind: impl.KindUpdate, Body: []byte{1, 0, 1, 8}}, unread(impl.ErrRange, 3, 1))
	wantMessage(t, impl.Frame{Kind: impl.KindUpdate, Body: []byte{1, 0, 0, 17}}, unread(impl.ErrRange, 3, 1))
	// Soft: the message has what is taken back, and there is no code.
	many := wordsPack(impl.Update{Gone: manyPrefixes(9)})
	wantMessage(t, impl.Frame{Kind: impl.KindUpdate, Body: many}, impl.MessageResult{Message: updateMessage(impl.Update{Gone: manyPrefixes(8)})})
	bad := smallUpdate()
	bad.Attrs.Origin = 3
	back := impl.Update{Gone: slices.Concat(bad.Gone, bad.Reach)}
	wantMessage(t, wordsFrame(updateMessage(bad)), impl.MessageResult{Message: updateMessage(back)})
	wantMessage(t, impl.Frame{Kind: impl.KindUpdate, Body: []byte{0, 9}}, impl.MessageResult{Message: updateMessage(impl.Update{})})
	wantMessage(t, impl.Frame{Kind: impl.KindUpdate, Body: make([]byte, 120)}, wordsMessage(impl.Frame{Kind: impl.KindUpdate, Body: make([]byte, 120)}))
}

// bendFrame makes a frame that is nearly one of a message.
func bendFrame(r *rand.Rand) impl.Frame {
	f := wordsFrame(rightMessage(r))
	for range r.Intn(3) {
		at := r.Intn(len(f.Body) + 1)
		switch {
		case r.Intn(5) == 0:
			f.Kind = int64(r.Intn(4) + 1)
		case at == len(f.Body):
			f.Body = append(f.Body, byte(r.Intn(4)))
		case r.Intn(4) == 0:
			f.Body = f.Body[:at]
		case r.Intn(4) == 0:
			clear(f.Body[at:min(at+2, len(f.Body))])
		default:
			f.Body[at] = []byte{0, 1, 2, 3, 6, 7, 20, 21, 200, 201, 255}[r.Intn(11)]
		}
	}
	return f
}

func TestWhatIsReadOfFrames(t *testing.T) {
	r := rand.New(rand.NewSource(8))
	told := make(map[[3]int64]int)
	for range 60000 {
		f := bendFrame(r)
		want := wordsMessage(f)
		wantMessage(t, f, want)
		told[[3]int64{want.Code, want.Why, want.Sub}]++
		if got := impl.ParseMessage(f); got.Code == impl.OK && impl.MessageFault(got.Message) != impl.OK {
			t.Fatalf("ParseMessage(%v) tells a message with a fault: %v", f, got)
		}
		if t.Failed() {
			return
		}
	}
	for _, one := range [][3]int64{{0, 0, 0}, {5, 2, 0}, {5, 1, 2}, {3, 2, 2}, {3, 2, 3}, {3, 2, 6}, {3, 1, 2}, {5, 3, 1}, {3, 3, 1}} {
		if told[one] < 20 {
			t.Errorf("%v was told %d times", one, told[one])
		}
	}
}

// messageStreams are lists of messages of at most MaxInput bytes in all.
func messageStreams() [][]impl.Message {
	full := updateMessage(fullUpdate())
	return [][]impl.Message{
		nil, {keepMessage()}, {full}, oneOfEachKind(),
		{openMessage(), keepMessage(), updateMessage(smallUpdate()), keepMessage(), updateMessage(impl.Update{Gone: manyPrefixes(3)}), notifyMessage()},
		{keepMessage(), keepMessage(), keepMessage()},
		{full, full, full, full, full, updateMessage(impl.Update{Gone: manyPrefixes(6)}), keepMessage()},
		slices.Repeat([]impl.Message{keepMessage()}, 80),
	}
}

func TestMessagesOfAStream(t *testing.T) {
	wantMessages(t, nil, impl.MessagesResult{})
	wantMessages(t, []byte{}, impl.MessagesResult{})
	for _, list := range messageStreams() {
		data := stream(list...)
		wantMessages(t, data, impl.MessagesResult{Used: int64(len(data)), Messages: list})
		for cut := range data {
			used, count := 0, 0
			for count < len(list) && used+len(stream(list[count])) <= cut {
				used += len(stream(list[count]))
				count++
			}
			wantMessages(t, data[:cut], impl.MessagesResult{Used: int64(used), Messages: list[:count]})
		}
	}
}

func TestStreamInTwoParts(t *testing.T) {
	bad := openMessage()
	bad.Id = 0
	lists := messageStreams()
	for _, list := range messageStreams()[:6] {
		lists = append(lists, append(slices.Clone(list), bad), append([]impl.Message{keepMessage(), bad}, list...))
	}
	for _, list := range lists {
		for _, end := range [][]byte{nil, {255}, {0}, {255, 255, 0, 4}, {255, 255, 0, 5, 9}} {
			data := append(stream(list...), end...)
			if len(data) > 400 {
				continue
			}
			whole := impl.ReadMessages(data)
			for cut := range len(data) + 1 {
				first := impl.ReadMessages(data[:cut])
				second := impl.ReadMessages(data[first.Used:])
				second.Used += first.Used
				second.Messages = append(first.Messages, second.Messages...)
				if !sameMessageLists(second.Messages, whole.Messages) || second.Used != whole.Used ||
					second.Code != whole.Code || second.Why != whole.Why || second.Sub != whole.Sub {
					t.Fatalf("% x cut at %d: %v, want %v", data, cut, second, whole)
				}
			}
		}
	}
}

func TestGreatestLengthOfAStream(t *testing.T) {
	keeps := slices.Repeat([]impl.Message{keepMessage()}, 80)
	data := stream(keeps...)
	if len(data) != 400 {
		t.Fatal(len(data))
	}
	wantMessages(t, data, impl.MessagesResult{Used: 400, Messages: keeps})
	for _, more := range [][]byte{{255}, {0}, stream(keepMessage()), make([]byte, 5000)} {
		wantMessages(t, append(bytes.Clone(data), more...), impl.MessagesResult{Code: impl.ErrMany})
	}
	wantMessages(t, make([]byte, 401), impl.MessagesResult{Code: impl.ErrMany})
	wantMessages(t, make([]byte, 400), impl.MessagesResult{Code: impl.ErrForm, Why: 1, Sub: 1})
	// A message with a code that is told in so many bytes is not told in one more.
	bad := append(stream(keeps[:79]...), 255, 255, 0, 5, 1)
	wantMessages(t, bad, impl.MessagesResult{Code: impl.ErrText, Used: 395, Why: 2, Messages: keeps[:79]})
	wantMessages(t, append(bad, 255), impl.MessagesResult{Code: impl.ErrMany})
}

func TestStreamThatIsNotWholeAtTheEnd(t *testing.T) {
	list := oneOfEachKind()
	ahead := stream(list...)
	for _, m := range append(rightMessages()[:8], updateMessage(fullUpdate())) {
		last := stream(m)
		for cut := range last {
			wantMessages(t, append(bytes.Clone(ahead), last[:cut]...), impl.MessagesResult{Used: int64(len(ahead)), Messages: list})
		}
	}
	// One that has a code is not told ahead of all its bytes.
	bad := []byte{255, 255, 0, 7, 3, 9, 9}
	for cut := range bad {
		wantMessages(t, append(bytes.Clone(ahead), bad[:cut]...), impl.MessagesResult{Used: int64(len(ahead)), Messages: list})
	}
	wantMessages(t, append(bytes.Clone(ahead), bad...), impl.MessagesResult{Code: impl.ErrRange, Used: int64(len(ahead)), Why: 1, Sub: 2, Messages: list})
}

// wrongFrames: a frame that is none of a message, and what is told of it.
var wrongFrames = []struct {
	frame          impl.Frame
	code, why, sub int64
}{
	{impl.Frame{Kind: impl.KindOpen, Body: []byte{0, 7, 9, 0}}, impl.ErrText, 2, 0},
	{impl.Frame{Kind: impl.KindOpen, Body: []byte{0, 0, 9, 0, 3}}, impl.ErrRange, 2, 2},
	{impl.Frame{Kind: impl.KindOpen, Body: []byte{0, 7, 9, 0, 0}}, impl.ErrRange, 2, 3},
	{impl.Frame{Kind: impl.KindOpen, Body: []byte{0, 7, 1, 0, 3}}, impl.ErrRange, 2, 6},
	{impl.Frame{Kind: impl.KindNotify, Body: []byte{1}}, impl.ErrText, 1, 2},
	{impl.Frame{Kind: impl.KindNotify, Body: []byte{7, 0}}, impl.ErrRange, 1, 2},
	{impl.Frame{Kind: impl.KindKeep, Body: []byte{0}}, impl.ErrText, 1, 2},
	{impl.Frame{Kind: impl.KindUpdate}, impl.ErrText, 3, 1},
	{impl.Frame{Kind: impl.KindUpdate, Body: []byte{1, 0, 1, 8}}, impl.ErrRange, 3, 1},
}

func TestMessageWithACodeInAStream(t *testing.T) {
	list := oneOfEachKind()
	for _, c := range wrongFrames {
		for at := range len(list) + 1 {
			ahead := stream(list[:at]...)
			data := slices.Concat(ahead, packAll([]impl.Frame{c.frame}), stream(list[at:]...))
			want := impl.MessagesResult{Code: c.code, Used: int64(len(ahead)), Why: c.why, Sub: c.sub, Messages: list[:at]}
			wantMessages(t, data, want)
			// What is behind it is not told, be it a code of SplitFrames or another such message.
			wantMessages(t, append(bytes.Clone(data), 0), want)
			wantMessages(t, append(bytes.Clone(data), 255, 255, 0, 4), want)
			wantMessages(t, append(bytes.Clone(data), 255, 255, 0, 5, 5), want)
			wantMessages(t, append(bytes.Clone(data), 255, 255, 0, 5, 1), want)
		}
	}
}

func TestCodesOfSplitInAStream(t *testing.T) {
	for _, list := range messageStreams()[:7] {
		ahead := stream(list...)
		for _, c := range wrongHeads {
			data := append(bytes.Clone(ahead), c.left...)
			if len(data) > 400 {
				continue
			}
			want := impl.MessagesResult{Code: c.code, Used: int64(len(ahead)), Messages: list}
			if c.code != impl.OK {
				want.Why = 1
			}
			switch c.code {
			case impl.ErrForm:
				want.Sub = 1
			case impl.ErrMany:
				want.Sub = 2
			case impl.ErrRange:
				want.Sub = 3
			}
			wantMessages(t, data, want)
		}
	}
}

func TestSoftUpdateInAStream(t *testing.T) {
	bad := smallUpdate()
	bad.Attrs.Origin = 3
	back := updateMessage(impl.Update{Gone: slices.Concat(bad.Gone, bad.Reach)})
	data := stream(keepMessage(), updateMessage(bad), keepMessage())
	wantMessages(t, data, impl.MessagesResult{Used: int64(len(data)), Messages: []impl.Message{keepMessage(), back, keepMessage()}})
}

func TestWhatIsReadOfStreams(t *testing.T) {
	r := rand.New(rand.NewSource(9))
	for range 10000 {
		var frames []impl.Frame
		for range r.Intn(6) {
			if r.Intn(4) == 0 {
				frames = append(frames, bendFrame(r))
			} else {
				frames = append(frames, wordsFrame(rightMessage(r)))
			}
		}
		data := packAll(frames)
		if len(data) > 0 && r.Intn(2) == 0 {
			data[r.Intn(len(data))] = byte(r.Intn(256))
		}
		wantMessages(t, data, wordsMessages(data))
		if t.Failed() {
			return
		}
	}
	for range 3000 {
		data := bendStream(r)
		wantMessages(t, data, wordsMessages(data))
	}
}

func TestMessageText(t *testing.T) {
	gone := impl.Update{Gone: []impl.Prefix{{Addr: 2560, Len: 8}, {}}}
	reach := impl.Update{Has: true, Attrs: impl.Attrs{Next: 5}, Reach: []impl.Prefix{{Addr: 65535, Len: 16}}}
	cases := []struct {
		message impl.Message
		want    string
	}{
		{impl.Message{Kind: impl.KindOpen, As: 65535, Hold: 0, Id: 1}, "open 65535 0 1"},
		{impl.Message{Kind: impl.KindOpen, As: 10, Hold: 200, Id: 300}, "open 10 200 300"},
		{impl.Message{Kind: impl.KindNotify, Why: 6, Sub: 20}, "notify 6 20"},
		{impl.Message{Kind: impl.KindNotify, Why: 1}, "notify 1 0"},
		{keepMessage(), "keep"},
		{updateMessage(impl.Update{}), "update"},
		{updateMessage(gone), "update -10.0/8 -0.0/0"},
		{updateMessage(reach), "update +255.255/16 - 0 5 0 0"},
		{updateMessage(smallUpdate()), "update -2.0/8 +10.0/8 +0.0/0 +255.255/16 7,300 1 5 9 100"},
	}
	for _, c := range cases {
		if got := impl.MessageText(c.message); got != (impl.TextResult{Text: c.want}) {
			t.Errorf("MessageText(%v): %v, want %s", c.message, got, c.want)
		}
	}
	if got := impl.MessageText(updateMessage(impl.Update{Gone: manyPrefixes(9)})); got != (impl.TextResult{Code: impl.ErrMany}) {
		t.Error(got)
	}
}

// wordsText writes a message without a fault by the document's words.
func wordsText(m impl.Message) string {
	number := func(n int64) string { return " " + strconv.FormatInt(n, 10) }
	switch m.Kind {
	case impl.KindOpen:
		return "open" + number(m.As) + number(m.Hold) + number(m.Id)
	case impl.KindNotify:
		return "notify" + number(m.Why) + number(m.Sub)
	case impl.KindKeep:
		return "keep"
	}
	text := new(strings.Builder)
	text.WriteString("update")
	for _, p := range m.Update.Gone {
		text.WriteString(" -" + impl.PrefixText(p).Text)
	}
	for _, p := range m.Update.Reach {
		text.WriteString(" +" + impl.PrefixText(p).Text)
	}
	if m.Update.Has {
		text.WriteString(" " + impl.AttrsText(m.Update.Attrs).Text)
	}
	return text.String()
}

func TestTextOfAnyMessage(t *testing.T) {
	r := rand.New(rand.NewSource(10))
	list := rightMessages()
	for range 2000 {
		list = append(list, rightMessage(r))
	}
	for _, m := range list {
		if got := impl.MessageText(m); got != (impl.TextResult{Text: wordsText(m)}) {
			t.Errorf("MessageText(%v): %v, want %s", m, got, wordsText(m))
		}
	}
}

// faultyMessages have each one fault.
func faultyMessages() []impl.Message {
	open, notify, keep := openMessage(), notifyMessage(), keepMessage()
	open.Hold, notify.Why, keep.Update = 2, 7, smallUpdate()
	list := []impl.Message{{}, open, notify, keep}
	for _, u := range faultyUpdates() {
		list = append(list, updateMessage(u))
	}
	return list
}

func TestMessagesChangeNoArgument(t *testing.T) {
	for _, m := range append(rightMessages(), faultyMessages()...) {
		m.Update = roomy(m.Update)
		u := m.Update
		whole := impl.Update{Gone: u.Gone[:cap(u.Gone)], Reach: u.Reach[:cap(u.Reach)], Attrs: impl.Attrs{Path: u.Attrs.Path[:cap(u.Attrs.Path)]}}
		was := cloneUpdate(whole)
		impl.MessageFault(m)
		impl.PackMessage(m)
		impl.MessageText(m)
		if !sameUpdates(whole, was) {
			t.Errorf("%v was changed", m)
		}
		data := append(stream(m, m), 1, 2, 3)
		before := bytes.Clone(data)
		f := impl.Frame{Kind: m.Kind, Body: data[5 : len(data)/2]}
		impl.ParseMessage(f)
		impl.ReadMessages(data[:len(data)-3])
		impl.ReadMessages(data)
		if !bytes.Equal(data, before) {
			t.Errorf("the bytes of %v were changed", m)
		}
	}
}

func cloneMessages(list []impl.Message) []impl.Message {
	var out []impl.Message
	for _, m := range list {
		m.Update = cloneUpdate(m.Update)
		out = append(out, m)
	}
	return out
}

func TestMessagesAnswerNewMemory(t *testing.T) {
	for _, m := range append(rightMessages(), faultyMessages()...) {
		f := wordsFrame(m)
		one := impl.ParseMessage(f)
		was := cloneMessages([]impl.Message{one.Message})[0]
		flip(f.Body)
		if !sameMessages(one.Message, was) {
			t.Fatal("what is read shares memory with the frame")
		}
		flip(f.Body)
		spoilUpdate(one.Message.Update)
		if again := impl.ParseMessage(f); !sameMessages(again.Message, was) {
			t.Fatal("what is read shares memory with what was read ahead of it")
		}
		packed := impl.PackMessage(m)
		before := bytes.Clone(packed.Bytes)
		flip(packed.Bytes[:cap(packed.Bytes)])
		if again := impl.PackMessage(m); !bytes.Equal(again.Bytes, before) {
			t.Fatal("what is packed shares memory with what was packed ahead of it")
		}
	}
	data := stream(updateMessage(smallUpdate()), updateMessage(fullUpdate()), updateMessage(smallUpdate()))
	got := impl.ReadMessages(data)
	want := cloneMessages(got.Messages)
	for i := range got.Messages {
		spoilUpdate(got.Messages[i].Update)
		if !sameMessageLists(got.Messages[i+1:], want[i+1:]) {
			t.Fatal("the messages of one answer share memory")
		}
	}
	if again := impl.ReadMessages(data); !sameMessageLists(again.Messages, want) {
		t.Fatal("messages share memory with those that were read ahead of them")
	}
}

// allOfMessages tells all that the functions of messages answer of one.
func allOfMessages(m impl.Message) string {
	f := wordsFrame(m)
	data := append(stream(keepMessage(), m), 255, 255)
	return fmt.Sprintf("%v %#v %v %#v %#v", impl.MessageFault(m), impl.PackMessage(m), impl.MessageText(m), impl.ParseMessage(f), impl.ReadMessages(data))
}

func TestMessagesHangOnArgumentsAlone(t *testing.T) {
	empty := impl.Update{Gone: []impl.Prefix{}, Attrs: impl.Attrs{Path: []int64{}}, Reach: []impl.Prefix{}}
	for kind := range int64(6) {
		for _, m := range []impl.Message{{Kind: kind}, {Kind: kind, As: 1, Id: 1}, {Kind: kind, Why: 1}} {
			like, near := m, m
			like.Update, near.Update = empty, roomy(m.Update)
			if allOfMessages(m) != allOfMessages(like) || allOfMessages(m) != allOfMessages(near) {
				t.Errorf("nil and an empty list are not answered alike in %v", m)
			}
		}
		if !reflect.DeepEqual(impl.ParseMessage(impl.Frame{Kind: kind}), impl.ParseMessage(impl.Frame{Kind: kind, Body: []byte{}})) {
			t.Errorf("no bytes are not answered alike at Kind %d", kind)
		}
	}
	if !reflect.DeepEqual(impl.ReadMessages(nil), impl.ReadMessages([]byte{})) {
		t.Error("no bytes are not answered alike")
	}
	list := append(rightMessages(), faultyMessages()...)
	for _, m := range list {
		first := allOfMessages(m)
		for _, other := range list[:12] {
			allOfMessages(other)
		}
		near := m
		near.Update = roomy(m.Update)
		if allOfMessages(m) != first || allOfMessages(near) != first {
			t.Fatalf("what is told of %v hangs on more than it", m)
		}
	}
}
