package tests

import (
	"bytes"
	"fmt"
	"math"
	"math/rand"
	"reflect"
	"runtime"
	"slices"
	"testing"

	"loop.example/g00263/impl"
)

func wordsWireFault(w impl.Wire) int64 {
	return firstCode(codeIf(w.Epoch < 0 || w.Epoch > 1000, impl.ErrRange),
		codeIf(len(w.Sent) > 2000 || len(w.Got) > 2000, impl.ErrMany),
		codeIf(w.Taken < 0 || w.Taken > int64(len(w.Sent)), impl.ErrRange))
}

// wordsSpeakerFault is all that is asked ahead of what a function with an epoch asks of its own.
func wordsSpeakerFault(w impl.Wire, epoch int64) int64 {
	return firstCode(wordsWireFault(w), codeIf(epoch < 1 || epoch > 1000, impl.ErrRange), codeIf(epoch < w.Epoch, impl.ErrOld))
}

func wordsPeerSends(w impl.Wire, data []byte) impl.WireResult {
	if code := firstCode(wordsWireFault(w), codeIf(len(w.Sent)+len(data) > 2000, impl.ErrMany)); code != impl.OK {
		return impl.WireResult{Code: code}
	}
	w.Sent = append(slices.Clone(w.Sent), data...)
	return impl.WireResult{Wire: w}
}

func wordsFenceWire(w impl.Wire, epoch int64) impl.WireResult {
	if code := wordsSpeakerFault(w, epoch); code != impl.OK {
		return impl.WireResult{Code: code}
	}
	w.Epoch = epoch
	return impl.WireResult{Wire: w}
}

func wordsTakeInput(w impl.Wire, epoch, from, n int64) impl.WireResult {
	isWrong := from < 0 || from > int64(len(w.Sent)) || n < 0 || n > 60
	if code := firstCode(wordsSpeakerFault(w, epoch), codeIf(isWrong, impl.ErrRange)); code != impl.OK {
		return impl.WireResult{Code: code}
	}
	got := impl.WireResult{Wire: w}
	for at, b := range w.Sent {
		if int64(at) >= from && int64(len(got.Bytes)) < n {
			got.Bytes = append(got.Bytes, b)
		}
	}
	return got
}

func wordsAckInput(w impl.Wire, epoch, upto int64) impl.WireResult {
	if code := firstCode(wordsSpeakerFault(w, epoch), codeIf(upto < 0 || upto > int64(len(w.Sent)), impl.ErrRange)); code != impl.OK {
		return impl.WireResult{Code: code}
	}
	if upto > w.Taken {
		w.Taken = upto
	}
	return impl.WireResult{Wire: w}
}

func wordsDeliverOut(w impl.Wire, epoch, at int64, data []byte) impl.WireResult {
	if code := firstCode(wordsSpeakerFault(w, epoch), codeIf(at < 0 || at > int64(len(w.Got)), impl.ErrRange)); code != impl.OK {
		return impl.WireResult{Code: code}
	}
	if int(at)+len(data) > 2000 {
		return impl.WireResult{Code: impl.ErrMany}
	}
	// Place by place: one that is there is asked, one that is not is filled.
	w.Got = slices.Clone(w.Got)
	for i, b := range data {
		place := int(at) + i
		if place == len(w.Got) {
			w.Got = append(w.Got, b)
		}
		if w.Got[place] != b {
			return impl.WireResult{Code: impl.ErrTaken}
		}
	}
	return impl.WireResult{Wire: w}
}

func sameWire(a, b impl.Wire) bool {
	return a.Epoch == b.Epoch && a.Taken == b.Taken && bytes.Equal(a.Sent, b.Sent) && bytes.Equal(a.Got, b.Got)
}

func wantWire(t *testing.T, got, want impl.WireResult, what string, args ...any) {
	t.Helper()
	if got.Code != want.Code || !bytes.Equal(got.Bytes, want.Bytes) || !sameWire(got.Wire, want.Wire) {
		t.Errorf("%s of %s: %s, want %s", what, brief(args...), brief(got), brief(want))
	}
	if got.Code != impl.OK && !reflect.DeepEqual(got, impl.WireResult{Code: got.Code}) {
		t.Errorf("%s of %s: %s is not zero beside its code", what, brief(args...), brief(got))
	}
	if code := impl.WireFault(got.Wire); code != impl.OK {
		t.Errorf("%s of %s: %s has the fault %d", what, brief(args...), brief(got), code)
	}
}

func wantSends(t *testing.T, w impl.Wire, data []byte, want impl.WireResult) {
	t.Helper()
	wantWire(t, impl.PeerSends(w, data), want, "PeerSends", w, len(data), data)
}

func wantFence(t *testing.T, w impl.Wire, epoch int64, want impl.WireResult) {
	t.Helper()
	wantWire(t, impl.FenceWire(w, epoch), want, "FenceWire", epoch, w)
}

func wantTakeInput(t *testing.T, w impl.Wire, epoch, from, n int64, want impl.WireResult) {
	t.Helper()
	wantWire(t, impl.TakeInput(w, epoch, from, n), want, "TakeInput", epoch, from, n, w)
}

func wantAck(t *testing.T, w impl.Wire, epoch, upto int64, want impl.WireResult) {
	t.Helper()
	wantWire(t, impl.AckInput(w, epoch, upto), want, "AckInput", epoch, upto, w)
}

func wantDeliver(t *testing.T, w impl.Wire, epoch, at int64, data []byte, want impl.WireResult) {
	t.Helper()
	wantWire(t, impl.DeliverOut(w, epoch, at, data), want, "DeliverOut", epoch, at, len(data), w)
}

func oldCode() impl.WireResult   { return impl.WireResult{Code: impl.ErrOld} }
func rangeCode() impl.WireResult { return impl.WireResult{Code: impl.ErrRange} }
func manyCode() impl.WireResult  { return impl.WireResult{Code: impl.ErrMany} }
func takenCode() impl.WireResult { return impl.WireResult{Code: impl.ErrTaken} }

func wireAnswer(w impl.Wire) impl.WireResult { return impl.WireResult{Wire: w} }

// greatNumbers would run over wherever one is added to them ahead of a question.
func greatNumbers() []int64 {
	return []int64{math.MinInt64, math.MinInt64 + 1, math.MinInt64 + 60, math.MinInt64 + 2000, math.MinInt32, -1 << 32, 1 << 32, 1<<32 + 1, 1 << 40, math.MaxInt32,
		math.MaxInt64 - 2000, math.MaxInt64 - 60, math.MaxInt64 - 1, math.MaxInt64}
}

// wrongData have bytes that a peer did not get, and more than there is room for.
func wrongData() [][]byte {
	return [][]byte{nil, {1}, bytes.Repeat([]byte{201}, 50), bodyOf(2001)}
}

// wantWireFault holds all that ask the fault of a wire to one code, whatever else is wrong.
func wantWireFault(t *testing.T, w impl.Wire, code int64) {
	t.Helper()
	if got := impl.WireFault(w); got != code {
		t.Errorf("WireFault of %s: %d, want %d", brief(w.Epoch, w.Taken, len(w.Sent), len(w.Got), w), got, code)
	}
	if code == impl.OK {
		return
	}
	want := impl.WireResult{Code: code}
	for _, data := range wrongData() {
		wantSends(t, w, data, want)
	}
	for _, epoch := range []int64{-1, 0, 1, w.Epoch - 1, w.Epoch, 1000, 1001, math.MinInt64, math.MaxInt64} {
		wantFence(t, w, epoch, want)
		for _, place := range []int64{-1, 0, 1, int64(len(w.Sent)), 2001, math.MinInt64, math.MaxInt64} {
			wantTakeInput(t, w, epoch, place, 1, want)
			wantTakeInput(t, w, epoch, 0, place, want)
			wantAck(t, w, epoch, place, want)
			wantDeliver(t, w, epoch, place, []byte{1}, want)
		}
		for _, data := range wrongData() {
			wantDeliver(t, w, epoch, 0, data, want)
		}
	}
}

// wantSpeakerFault holds all that are told an epoch to the code of it, whatever else is wrong behind it.
func wantSpeakerFault(t *testing.T, w impl.Wire, epoch, code int64) {
	t.Helper()
	want := impl.WireResult{Code: code}
	wantFence(t, w, epoch, want)
	for _, place := range []int64{-1, 0, w.Taken, int64(len(w.Sent)), int64(len(w.Got)), 2001, math.MinInt64, math.MaxInt64} {
		for _, n := range []int64{-1, 0, 60, 61} {
			wantTakeInput(t, w, epoch, place, n, want)
		}
		wantAck(t, w, epoch, place, want)
		for _, data := range wrongData() {
			wantDeliver(t, w, epoch, place, data, want)
		}
	}
}

// someWire has so many bytes that are of no two places near each other alike.
func someWire(epoch int64, sent int, taken int64, got int) impl.Wire {
	w := impl.Wire{Epoch: epoch, Taken: taken}
	for i := range sent {
		w.Sent = append(w.Sent, byte(i*31+i/256+1))
	}
	for i := range got {
		w.Got = append(w.Got, byte(i*13+i/256+2))
	}
	return w
}

// rightWires have nothing, something and all that there may be.
func rightWires() []impl.Wire {
	list := []impl.Wire{{}, {Sent: []byte{}, Got: []byte{}}, {Epoch: 1000}}
	for _, epoch := range []int64{0, 1, 500, 1000} {
		list = append(list, someWire(epoch, 1, 0, 0), someWire(epoch, 1, 1, 1), someWire(epoch, 0, 0, 1), someWire(epoch, 9, 4, 7), someWire(epoch, 61, 30, 59), someWire(epoch, 200, 200, 130))
	}
	return append(list, someWire(7, 2000, 0, 2000), someWire(7, 2000, 1999, 0), someWire(7, 1999, 5, 1999), someWire(1000, 2000, 2000, 1940), someWire(0, 0, 0, 2000))
}

func TestNumberOfWires(t *testing.T) {
	if impl.MaxWire != 2000 {
		t.Errorf("MaxWire is %d", impl.MaxWire)
	}
	for _, w := range rightWires() {
		if code := wordsWireFault(w); code != impl.OK {
			t.Fatalf("a right wire has the fault %d", code)
		}
	}
}

func TestEpochOfAWire(t *testing.T) {
	for epoch, code := range map[int64]int64{-1: impl.ErrRange, 0: 0, 1: 0, 2: 0, 999: 0, 1000: 0, 1001: impl.ErrRange, 1002: impl.ErrRange, 65536: impl.ErrRange} {
		for _, w := range rightWires() {
			w.Epoch = epoch
			wantWireFault(t, w, code)
		}
	}
	for _, epoch := range greatNumbers() {
		wantWireFault(t, impl.Wire{Epoch: epoch}, impl.ErrRange)
	}
}

func TestHowManyBytesOfAWire(t *testing.T) {
	for _, sent := range []int{0, 1, 1999, 2000, 2001, 2002, 5000} {
		for _, got := range []int{0, 1, 1999, 2000, 2001, 2002, 5000} {
			code := codeIf(sent > 2000 || got > 2000, impl.ErrMany)
			wantWireFault(t, impl.Wire{Sent: make([]byte, sent), Got: make([]byte, got)}, code)
			wantWireFault(t, impl.Wire{Epoch: 1000, Taken: int64(sent), Sent: bodyOf(sent), Got: bodyOf(got)}, code)
		}
	}
	wantWireFault(t, impl.Wire{Sent: make([]byte, 1<<20)}, impl.ErrMany)
	wantWireFault(t, impl.Wire{Got: make([]byte, 1<<20)}, impl.ErrMany)
}

func TestTakenOfAWire(t *testing.T) {
	for _, sent := range []int{0, 1, 2, 60, 1999, 2000} {
		// What the peer Got has nothing to do with it.
		for _, got := range []int{0, sent + 1, 2000} {
			w := impl.Wire{Epoch: 3, Sent: bodyOf(sent), Got: bodyOf(min(got, 2000))}
			for taken, code := range map[int64]int64{-2: impl.ErrRange, -1: impl.ErrRange, 0: 0, int64(sent) / 2: 0, int64(sent): 0, int64(sent) + 1: impl.ErrRange, int64(sent) + 2: impl.ErrRange} {
				w.Taken = taken
				wantWireFault(t, w, code)
			}
		}
	}
	for _, taken := range greatNumbers() {
		wantWireFault(t, impl.Wire{Sent: bodyOf(2000), Taken: taken}, impl.ErrRange)
		wantWireFault(t, impl.Wire{Taken: taken}, impl.ErrRange)
	}
}

func TestWhichFaultOfAWireIsTold(t *testing.T) {
	right, long := bodyOf(9), bodyOf(2001)
	for _, c := range []struct {
		epoch     int64
		sent, got []byte
		taken     int64
		code      int64
	}{
		{1001, long, right, -1, impl.ErrRange}, {-1, right, long, 10, impl.ErrRange}, {-1, long, long, 2002, impl.ErrRange}, {1001, long, long, 0, impl.ErrRange}, {1001, right, right, 10, impl.ErrRange},
		{1000, long, right, -1, impl.ErrMany}, {0, right, long, 10, impl.ErrMany}, {5, right, long, -1, impl.ErrMany}, {5, long, long, 2002, impl.ErrMany}, {5, long, right, 2001, impl.ErrMany},
		{1000, right, right, 10, impl.ErrRange}, {0, right, right, -1, impl.ErrRange}, {0, right, right, 9, impl.OK},
	} {
		wantWireFault(t, impl.Wire{Epoch: c.epoch, Sent: c.sent, Taken: c.taken, Got: c.got}, c.code)
	}
	codes := map[int64]int{}
	for _, epoch := range []int64{-1, 0, 1000, 1001} {
		for _, sent := range []int{0, 9, 2000, 2001} {
			for _, got := range []int{0, 2000, 2001} {
				for _, taken := range []int64{-1, 0, int64(sent), int64(sent) + 1} {
					w := impl.Wire{Epoch: epoch, Sent: bodyOf(sent), Taken: taken, Got: bodyOf(got)}
					codes[wordsWireFault(w)]++
					wantWireFault(t, w, wordsWireFault(w))
				}
			}
		}
	}
	if codes[impl.OK] < 10 || codes[impl.ErrRange] < 10 || codes[impl.ErrMany] < 10 {
		t.Errorf("codes: %v", codes)
	}
}

func TestPeerSends(t *testing.T) {
	for _, w := range rightWires() {
		room := 2000 - len(w.Sent)
		for _, n := range []int{0, 1, 2, 60, 61, room - 1, room} {
			if n < 0 || n > room {
				continue
			}
			want := w
			want.Sent = append(slices.Clone(w.Sent), bodyOf(n)...)
			wantSends(t, w, bodyOf(n), wireAnswer(want))
		}
		wantSends(t, w, nil, wireAnswer(w))
		wantSends(t, w, []byte{}, wireAnswer(w))
		for _, n := range []int{1, 2, 2000, 4000} {
			wantSends(t, w, bodyOf(room+n), manyCode())
		}
	}
	// It is asked how many are Sent then, not how many the peer Got.
	full := someWire(9, 3, 2, 2000)
	want := full
	want.Sent = append(slices.Clone(full.Sent), 7, 8)
	wantSends(t, full, []byte{7, 8}, wireAnswer(want))
	wantSends(t, impl.Wire{}, bodyOf(2000), wireAnswer(impl.Wire{Sent: bodyOf(2000)}))
	wantSends(t, impl.Wire{}, bodyOf(2001), manyCode())
	wantSends(t, impl.Wire{Sent: bodyOf(2000)}, []byte{0}, manyCode())
}

func TestEpochThatIsTold(t *testing.T) {
	for _, w := range rightWires() {
		if len(w.Sent)+len(w.Got) > 3000 {
			continue
		}
		for _, fence := range []int64{0, 1, 2, 500, 999, 1000} {
			w.Epoch = fence
			for _, epoch := range []int64{-1, 0, 1, 2, fence - 1, fence, fence + 1, 999, 1000, 1001} {
				code := firstCode(codeIf(epoch < 1 || epoch > 1000, impl.ErrRange), codeIf(epoch < fence, impl.ErrOld))
				if code != impl.OK {
					wantSpeakerFault(t, w, epoch, code)
					continue
				}
				fenced := w
				fenced.Epoch = epoch
				wantFence(t, w, epoch, wireAnswer(fenced))
				// None of the others changes Epoch, also where a greater one is told.
				wantTakeInput(t, w, epoch, 0, 0, wireAnswer(w))
				wantAck(t, w, epoch, 0, wireAnswer(w))
				wantDeliver(t, w, epoch, 0, w.Got, wireAnswer(w))
				wantDeliver(t, w, epoch, int64(len(w.Got)), nil, wireAnswer(w))
			}
		}
	}
	for _, epoch := range greatNumbers() {
		wantSpeakerFault(t, impl.Wire{}, epoch, impl.ErrRange)
		wantSpeakerFault(t, someWire(1000, 9, 4, 9), epoch, impl.ErrRange)
	}
}

func TestEveryEpochAgainstTheWires(t *testing.T) {
	for _, fence := range []int64{0, 1, 2, 499, 1000} {
		w := someWire(fence, 5, 2, 4)
		for epoch := int64(-2); epoch <= 1003; epoch++ {
			wantFence(t, w, epoch, wordsFenceWire(w, epoch))
			wantTakeInput(t, w, epoch, 1, 3, wordsTakeInput(w, epoch, 1, 3))
			wantAck(t, w, epoch, 4, wordsAckInput(w, epoch, 4))
			wantDeliver(t, w, epoch, 4, []byte{9}, wordsDeliverOut(w, epoch, 4, []byte{9}))
		}
	}
}

func TestWhoIsBehindTheFence(t *testing.T) {
	w := someWire(0, 20, 3, 10)
	// The greatest epoch is not behind itself, and nobody comes ahead of it any more.
	for _, fence := range []int64{2, 3, 1000} {
		w = impl.FenceWire(w, fence).Wire
		if w.Epoch != fence {
			t.Fatalf("the fence is %d, want %d", w.Epoch, fence)
		}
		wantSpeakerFault(t, w, fence-1, impl.ErrOld)
		wantSpeakerFault(t, w, 1, impl.ErrOld)
		wantFence(t, w, fence, wireAnswer(w))
		wantTakeInput(t, w, fence, 2, 2, impl.WireResult{Bytes: w.Sent[2:4], Wire: w})
	}
	wantSpeakerFault(t, w, 1001, impl.ErrRange)
	wantSpeakerFault(t, w, 0, impl.ErrRange)
	wantSpeakerFault(t, w, -1, impl.ErrRange)
}

func TestFenceWire(t *testing.T) {
	for _, w := range rightWires() {
		for _, by := range []int64{0, 1, 2, 400} {
			if epoch := w.Epoch + by; epoch >= 1 && epoch <= 1000 {
				wantFence(t, w, epoch, wireAnswer(impl.Wire{Epoch: epoch, Sent: w.Sent, Taken: w.Taken, Got: w.Got}))
			}
		}
		wantFence(t, w, 1000, wireAnswer(impl.Wire{Epoch: 1000, Sent: w.Sent, Taken: w.Taken, Got: w.Got}))
	}
}

func TestTakeInput(t *testing.T) {
	for _, w := range rightWires() {
		epoch, sent := max(w.Epoch, 1), int64(len(w.Sent))
		for _, from := range outside(len(w.Sent)) {
			wantTakeInput(t, w, epoch, from, 1, rangeCode())
			wantTakeInput(t, w, epoch, from, 0, rangeCode())
			wantTakeInput(t, w, epoch, from, 61, rangeCode())
		}
		for _, n := range outside(60) {
			wantTakeInput(t, w, epoch, 0, n, rangeCode())
			wantTakeInput(t, w, epoch, sent, n, rangeCode())
			wantTakeInput(t, w, 1000, -1, n, rangeCode())
		}
		for _, n := range []int64{0, 1, 2, 7, 59, 60} {
			// Fewer bytes behind from than n, just as many, and more.
			for _, from := range []int64{0, 1, sent / 2, sent - n - 1, sent - n, sent - n + 1, sent - 1, sent} {
				if from >= 0 && from <= sent {
					wantTakeInput(t, w, epoch, from, n, impl.WireResult{Bytes: w.Sent[from:min(from+n, sent)], Wire: w})
				}
			}
		}
	}
	// What is Taken, and what the peer Got, has nothing to do with it.
	w := someWire(4, 10, 10, 3)
	wantTakeInput(t, w, 4, 0, 60, impl.WireResult{Bytes: w.Sent, Wire: w})
	wantTakeInput(t, w, 4, 9, 60, impl.WireResult{Bytes: w.Sent[9:], Wire: w})
	wantTakeInput(t, w, 4, 10, 60, wireAnswer(w))
	wantTakeInput(t, impl.Wire{Got: bodyOf(9)}, 1, 1, 1, rangeCode())
	wantTakeInput(t, impl.Wire{}, 1, 0, 60, impl.WireResult{})
}

func TestEveryPieceOfWhatIsSent(t *testing.T) {
	for _, sent := range []int{0, 1, 5, 60, 61, 130} {
		w := someWire(3, sent, 0, 4)
		for from := int64(-1); from <= int64(sent)+1; from++ {
			for n := int64(-1); n <= 61; n++ {
				wantTakeInput(t, w, 5, from, n, wordsTakeInput(w, 5, from, n))
			}
		}
	}
}

func TestAckInput(t *testing.T) {
	for _, w := range rightWires() {
		epoch, sent := max(w.Epoch, 1), int64(len(w.Sent))
		for _, upto := range outside(len(w.Sent)) {
			wantAck(t, w, epoch, upto, rangeCode())
		}
		for _, taken := range []int64{0, 1, sent / 2, sent - 1, sent} {
			if taken < 0 || taken > sent {
				continue
			}
			w.Taken = taken
			for _, upto := range []int64{0, 1, taken - 1, taken, taken + 1, sent - 1, sent} {
				if upto < 0 || upto > sent {
					continue
				}
				want := w
				want.Taken = max(taken, upto)
				wantAck(t, w, epoch, upto, wireAnswer(want))
			}
		}
	}
	wantAck(t, impl.Wire{}, 1, 0, impl.WireResult{})
	wantAck(t, impl.Wire{Got: bodyOf(9)}, 1, 1, rangeCode())
	w := someWire(1, 6, 0, 0)
	for taken := range int64(7) {
		for upto := int64(-2); upto <= 8; upto++ {
			w.Taken = taken
			wantAck(t, w, 1, upto, wordsAckInput(w, 1, upto))
		}
	}
}

func TestPlaceWhereItIsDelivered(t *testing.T) {
	for _, w := range rightWires() {
		epoch, got := max(w.Epoch, 1), int64(len(w.Got))
		for _, at := range outside(len(w.Got)) {
			for _, data := range wrongData() {
				// The place is asked ahead of how many there are, and of what they are.
				wantDeliver(t, w, epoch, at, data, rangeCode())
			}
		}
		for _, at := range []int64{0, got / 2, got} {
			wantDeliver(t, w, epoch, at, nil, wireAnswer(w))
			wantDeliver(t, w, epoch, at, []byte{}, wireAnswer(w))
		}
	}
	// What the peer Sent has nothing to do with it.
	wantDeliver(t, impl.Wire{Sent: bodyOf(9)}, 1, 1, []byte{1}, rangeCode())
	wantDeliver(t, impl.Wire{Sent: bodyOf(9)}, 1, 0, []byte{1}, wireAnswer(impl.Wire{Sent: bodyOf(9), Got: []byte{1}}))
}

func TestRoomForWhatIsDelivered(t *testing.T) {
	for _, got := range []int{0, 1, 60, 1000, 1999, 2000} {
		w := someWire(8, 2000, 7, got)
		for _, at := range []int{0, 1, got / 2, got - 1, got} {
			if at < 0 || at > got {
				continue
			}
			whole := someWire(8, 2000, 7, 3000)
			fits := whole
			fits.Got = whole.Got[:2000]
			wantDeliver(t, w, 8, int64(at), whole.Got[at:2000], wireAnswer(fits))
			for _, end := range []int{2001, 2002, 3000} {
				data := slices.Clone(whole.Got[at:end])
				wantDeliver(t, w, 8, int64(at), data, manyCode())
				// How many there are is asked ahead of what they are.
				data[0]++
				wantDeliver(t, w, 8, int64(at), data, manyCode())
			}
			if at < got {
				data := slices.Clone(whole.Got[at:2000])
				data[0]++
				wantDeliver(t, w, 8, int64(at), data, takenCode())
			}
		}
	}
}

func TestBytesThatAreGivenAgain(t *testing.T) {
	whole := someWire(5, 8, 2, 40)
	for got := range 25 {
		w := whole
		w.Got = whole.Got[:got]
		for at := range got + 1 {
			for n := range 16 {
				want := whole
				want.Got = whole.Got[:max(got, at+n)]
				wantDeliver(t, w, 5, int64(at), whole.Got[at:at+n], wireAnswer(want))
				wantDeliver(t, w, 900, int64(at), whole.Got[at:at+n], wireAnswer(want))
				// Given once more it changes nothing any more.
				wantDeliver(t, want, 5, int64(at), whole.Got[at:at+n], wireAnswer(want))
			}
		}
	}
}

func TestByteThatIsAnotherOne(t *testing.T) {
	whole := someWire(5, 8, 2, 40)
	taken := 0
	for _, got := range []int{1, 2, 9, 20} {
		w := whole
		w.Got = whole.Got[:got]
		for at := range got + 1 {
			for _, n := range []int{1, 2, got - at, got - at + 1, got - at + 9} {
				for bent := range n {
					for _, by := range []byte{1, 128, 255} {
						data := slices.Clone(whole.Got[at : at+n])
						data[bent] ^= by
						want := takenCode()
						if at+bent >= got {
							want = wireAnswer(impl.Wire{Epoch: 5, Sent: w.Sent, Taken: 2, Got: slices.Concat(w.Got, data[got-at:])})
						} else {
							taken++
						}
						wantDeliver(t, w, 5, int64(at), data, want)
					}
				}
			}
		}
	}
	if taken < 500 {
		t.Errorf("only %d bytes were other ones", taken)
	}
	// All values of one byte, and all places of a full wire.
	one := impl.Wire{Got: []byte{77}}
	for b := range 256 {
		data := []byte{byte(b)}
		wantDeliver(t, one, 1, 0, data, wordsDeliverOut(one, 1, 0, data))
	}
	full := someWire(5, 0, 0, 2000)
	for bent := range 2000 {
		data := slices.Clone(full.Got)
		data[bent] ^= 64
		wantDeliver(t, full, 5, 0, data, takenCode())
		wantDeliver(t, full, 5, int64(bent), data[bent:bent+1], takenCode())
		if bent > 0 {
			wantDeliver(t, full, 5, 0, data[:bent], wireAnswer(full))
		}
	}
}

func TestWhichCodeOfADeliveryIsTold(t *testing.T) {
	w := someWire(10, 9, 4, 6)
	bad := w
	bad.Taken = 10
	long, wrong := bodyOf(2001), []byte{200}
	wantDeliver(t, bad, 1001, 7, long, rangeCode())
	bad = w
	bad.Got = bodyOf(2001)
	wantDeliver(t, bad, 1001, -1, long, manyCode())
	wantDeliver(t, bad, 9, -1, long, manyCode())
	for _, at := range []int64{-1, 0, 7} {
		for _, data := range [][]byte{nil, wrong, long} {
			wantDeliver(t, w, 1001, at, data, rangeCode())
			wantDeliver(t, w, 0, at, data, rangeCode())
			wantDeliver(t, w, 9, at, data, oldCode())
		}
	}
	wantDeliver(t, w, 10, 7, long, rangeCode())
	wantDeliver(t, w, 10, 0, long, manyCode())
	wantDeliver(t, w, 10, 6, long, manyCode())
	wantDeliver(t, w, 10, 0, wrong, takenCode())
	wantTakeInput(t, w, 9, -1, 61, oldCode())
	wantTakeInput(t, w, 0, -1, 61, rangeCode())
	wantAck(t, w, 9, -1, oldCode())
	wantAck(t, w, 9, 10, oldCode())
}

func TestGreatNumbersToldToWires(t *testing.T) {
	for _, w := range []impl.Wire{{}, someWire(1, 3, 1, 3), someWire(1000, 2000, 2000, 2000), someWire(0, 2000, 0, 1999)} {
		for _, x := range greatNumbers() {
			wantFence(t, w, x, rangeCode())
			for _, y := range append(greatNumbers(), 0, 1, 60, 2000) {
				wantTakeInput(t, w, 1000, x, y, rangeCode())
				wantTakeInput(t, w, 1000, y, x, rangeCode())
				wantTakeInput(t, w, x, y, 1, rangeCode())
				wantAck(t, w, x, y, rangeCode())
				wantDeliver(t, w, x, y, w.Got, rangeCode())
			}
			wantAck(t, w, 1000, x, rangeCode())
			for _, data := range wrongData() {
				wantDeliver(t, w, 1000, x, data, rangeCode())
			}
		}
	}
}

// wireMove is one call with its arguments, of a wire that is told with it.
type wireMove struct {
	kind         int
	epoch, at, n int64
	data         []byte
}

func (m wireMove) done(w impl.Wire) (got, want impl.WireResult) {
	switch m.kind {
	case 0:
		return impl.PeerSends(w, m.data), wordsPeerSends(w, m.data)
	case 1:
		return impl.FenceWire(w, m.epoch), wordsFenceWire(w, m.epoch)
	case 2:
		return impl.TakeInput(w, m.epoch, m.at, m.n), wordsTakeInput(w, m.epoch, m.at, m.n)
	case 3:
		return impl.AckInput(w, m.epoch, m.at), wordsAckInput(w, m.epoch, m.at)
	}
	return impl.DeliverOut(w, m.epoch, m.at, m.data), wordsDeliverOut(w, m.epoch, m.at, m.data)
}

// someMove is mostly one that can be done, by an epoch near the wire's.
func someMove(r *rand.Rand, w impl.Wire) wireMove {
	m := wireMove{kind: r.Intn(8), epoch: w.Epoch + int64(r.Intn(6)) - 1, at: int64(r.Intn(len(w.Sent) + 2)), n: int64(r.Intn(63)) - 1}
	if m.kind == 1 && r.Intn(4) > 0 {
		m.epoch = w.Epoch
	}
	m.data = make([]byte, r.Intn(r.Intn(2)*400+8))
	for i := range m.data {
		m.data[i] = byte(r.Intn(3))
	}
	if m.kind < 4 {
		return m
	}
	m.at = int64(len(w.Got) - r.Intn(min(len(w.Got), 9)+1) + r.Intn(20)/19)
	if r.Intn(3) > 0 && m.at <= int64(len(w.Got)) {
		copy(m.data, w.Got[m.at:])
	}
	return m
}

// checkMove does a move, asks for what is promised of it, and tells the wire behind it.
func checkMove(t *testing.T, w impl.Wire, m wireMove, codes map[int64]int) impl.Wire {
	t.Helper()
	got, want := m.done(w)
	wantWire(t, got, want, "move", m.kind, m.epoch, m.at, m.n, len(m.data), w)
	codes[got.Code]++
	isEpoch := m.epoch >= 1 && m.epoch <= 1000
	if m.kind > 0 && isEpoch && m.epoch < w.Epoch && !reflect.DeepEqual(got, oldCode()) {
		t.Fatalf("%s: who is behind the fence of %d is told %s", brief(m), w.Epoch, brief(got))
	}
	if got.Code != impl.OK {
		return w
	}
	next := got.Wire
	if !bytes.HasPrefix(next.Got, w.Got) || !bytes.HasPrefix(next.Sent, w.Sent) || next.Taken < w.Taken || next.Epoch < w.Epoch {
		t.Fatalf("%s: %s is taken back: %s", brief(m), brief(w), brief(next))
	}
	if m.kind != 1 && next.Epoch != w.Epoch {
		t.Fatalf("%s: the fence is %d, and was %d", brief(m), next.Epoch, w.Epoch)
	}
	return next
}

func TestManyWires(t *testing.T) {
	r := rand.New(rand.NewSource(111))
	codes := map[int64]int{}
	filled := 0
	for i := range 600 {
		w := impl.Wire{}
		if i%3 == 1 {
			w = someWire(int64(990+r.Intn(11)), 1900+r.Intn(101), int64(r.Intn(1900)), 1900+r.Intn(101))
		}
		first := w
		for range 60 {
			w = checkMove(t, w, someMove(r, w), codes)
		}
		if !bytes.HasPrefix(w.Got, first.Got) || !bytes.HasPrefix(w.Sent, first.Sent) || w.Taken < first.Taken || w.Epoch < first.Epoch {
			t.Fatalf("%s is taken back: %s", brief(first), brief(w))
		}
		if len(w.Sent) > 1990 || len(w.Got) > 1990 {
			filled++
		}
	}
	if codes[impl.OK] < 10000 || codes[impl.ErrOld] < 2000 || codes[impl.ErrRange] < 2000 || codes[impl.ErrMany] < 1000 || codes[impl.ErrTaken] < 1000 || filled < 100 {
		t.Errorf("codes: %v, and %d wires were filled", codes, filled)
	}
}

func TestAnyWireAndAnyMove(t *testing.T) {
	r := rand.New(rand.NewSource(112))
	codes := map[int64]int{}
	for range 20000 {
		w := someWire(int64(r.Intn(5)), r.Intn(6), 0, r.Intn(6))
		w.Taken = int64(r.Intn(len(w.Sent) + 1))
		switch r.Intn(30) {
		case 0:
			w.Epoch = []int64{-1, 1001, math.MinInt64, math.MaxInt64}[r.Intn(4)]
		case 1:
			w.Taken = []int64{-1, int64(len(w.Sent)) + 1, math.MinInt64, math.MaxInt64}[r.Intn(4)]
		case 2:
			w.Got = make([]byte, 2001)
		}
		m := someMove(r, w)
		if r.Intn(20) == 0 {
			great := greatNumbers()
			m.epoch, m.at, m.n = great[r.Intn(len(great))], great[r.Intn(len(great))], great[r.Intn(len(great))]
		}
		got, want := m.done(w)
		wantWire(t, got, want, "move", m.kind, m.epoch, m.at, m.n, len(m.data), w)
		codes[got.Code]++
	}
	if codes[impl.OK] < 5000 || codes[impl.ErrOld] < 1000 || codes[impl.ErrRange] < 1000 || codes[impl.ErrMany] < 300 || codes[impl.ErrTaken] < 300 {
		t.Errorf("codes: %v", codes)
	}
}

// TestTwoSpeakers gives two streams that differ at one place, in pieces and again: whichever came there first stays.
func TestTwoSpeakers(t *testing.T) {
	r := rand.New(rand.NewSource(113))
	refused, old := 0, 0
	for range 200 {
		stream := make([]byte, 300)
		for i := range stream {
			stream[i] = byte(r.Intn(4))
		}
		other := slices.Clone(stream)
		other[r.Intn(len(other))] ^= 8
		w := impl.Wire{Epoch: 1}
		for range 60 {
			at := r.Intn(len(w.Got) + 1)
			end := min(at+r.Intn(30), len(stream))
			epoch, said := w.Epoch, stream
			switch r.Intn(5) {
			case 0:
				said = other
			case 1:
				epoch, said = w.Epoch-1, other
			case 2:
				w = impl.FenceWire(w, w.Epoch+1).Wire
				epoch = w.Epoch
			}
			got := impl.DeliverOut(w, epoch, int64(at), said[at:end])
			switch got.Code {
			case impl.OK:
				if !bytes.HasPrefix(got.Wire.Got, w.Got) || !bytes.Equal(got.Wire.Got[at:end], said[at:end]) {
					t.Fatalf("%s is given two values: %s", brief(w), brief(got))
				}
				w = got.Wire
			case impl.ErrTaken:
				refused++
			case impl.ErrOld:
				old++
			}
		}
		wantDeliver(t, w, w.Epoch, 0, w.Got, wireAnswer(w))
	}
	if refused < 100 || old < 1000 {
		t.Errorf("only %d were refused, and %d too late", refused, old)
	}
}

func TestInputThatIsTakenInPieces(t *testing.T) {
	r := rand.New(rand.NewSource(114))
	for range 200 {
		w := impl.PeerSends(impl.Wire{}, bodyOf(r.Intn(500))).Wire
		var taken []byte
		for epoch := int64(1); len(taken) < len(w.Sent); epoch = min(epoch+int64(r.Intn(2)), 1000) {
			w = impl.FenceWire(w, epoch).Wire
			got := impl.TakeInput(w, epoch, int64(len(taken)), int64(1+r.Intn(60)))
			taken = append(taken, got.Bytes...)
			w = impl.AckInput(got.Wire, epoch, int64(r.Intn(len(taken)+1))).Wire
		}
		if !bytes.Equal(taken, w.Sent) || w.Taken > int64(len(w.Sent)) {
			t.Fatalf("%s was taken of %s", brief(taken), brief(w))
		}
	}
}

// wireArgs are all that the functions of this chapter take.
type wireArgs struct {
	Wire  impl.Wire
	Epoch int64
	At    int64
	N     int64
	Data  []byte
}

func wireCalls() []func(x wireArgs) any {
	return []func(x wireArgs) any{
		func(x wireArgs) any { return impl.WireFault(x.Wire) },
		func(x wireArgs) any { return impl.PeerSends(x.Wire, x.Data) },
		func(x wireArgs) any { return impl.FenceWire(x.Wire, x.Epoch) },
		func(x wireArgs) any { return impl.TakeInput(x.Wire, x.Epoch, x.At, x.N) },
		func(x wireArgs) any { return impl.AckInput(x.Wire, x.Epoch, x.At) },
		func(x wireArgs) any { return impl.DeliverOut(x.Wire, x.Epoch, x.At, x.Data) },
	}
}

// someWireArgs have data that is new, given again in whole and in part, other than what was given, none, and faults.
func someWireArgs() []wireArgs {
	var list []wireArgs
	for _, w := range rightWires() {
		got, sent := int64(len(w.Got)), int64(len(w.Sent))
		epoch := max(w.Epoch, 1)
		half := got / 2
		list = append(list,
			wireArgs{Wire: w, Epoch: epoch, At: got, N: 60, Data: []byte{1, 2, 3}},
			wireArgs{Wire: w, Epoch: epoch, At: half, N: 1, Data: slices.Concat(w.Got[half:], []byte{7, 8})},
			wireArgs{Wire: w, Epoch: 1000, At: half, N: 0, Data: slices.Clone(w.Got[half:])},
			wireArgs{Wire: w, Epoch: epoch, At: 0, N: 60, Data: slices.Clone(w.Got[:half])},
			wireArgs{Wire: w, Epoch: epoch, At: sent, N: 60},
			wireArgs{Wire: w, Epoch: epoch, At: sent - 1, N: 9, Data: []byte{200}},
			wireArgs{Wire: w, Epoch: epoch, At: 0, N: 60, Data: []byte{200}},
			wireArgs{Wire: w, Epoch: epoch, At: 0, N: 61, Data: bodyOf(2001)},
			wireArgs{Wire: w, Epoch: w.Epoch - 1, At: 0, N: 5, Data: []byte{1}},
			wireArgs{Wire: w, Epoch: 1001, At: -1, N: -1, Data: []byte{1}})
	}
	for _, w := range []impl.Wire{{Epoch: -1, Sent: bodyOf(4), Got: bodyOf(5)}, {Sent: bodyOf(2001)}, {Got: bodyOf(2001)}, {Sent: bodyOf(3), Taken: 4}} {
		list = append(list, wireArgs{Wire: w, Epoch: 1, At: 1, N: 1, Data: []byte{1}})
	}
	return append(list, wireArgs{})
}

func TestWiresChangeNoArgument(t *testing.T) {
	for _, was := range someWireArgs() {
		x := roomyCopy(was)
		memory := memoryOfAll(x)
		for i, call := range wireCalls() {
			call(x)
			if memoryOfAll(x) != memory {
				t.Fatalf("call %d has changed its arguments: %s", i, brief(was))
			}
		}
	}
}

func TestWiresAnswerNewMemory(t *testing.T) {
	for _, was := range someWireArgs() {
		for i, call := range wireCalls() {
			x := roomyCopy(was)
			first, second := call(x), call(x)
			if shareMemory(slices.Concat(spansOf(x), spansOf(first), spansOf(second))) {
				t.Fatalf("call %d: lists share memory with one another, or with the arguments: %s", i, brief(was))
			}
			if !reflect.DeepEqual(first, second) {
				t.Fatalf("call %d: %s, and again %s", i, brief(first), brief(second))
			}
			runtime.KeepAlive([]any{x, first, second})
		}
	}
}

func TestWiresOfSharedLists(t *testing.T) {
	// Sent, Got and data are one and the same memory, with more of it behind them.
	row := bodyOf(200)
	memory := memoryOfAll(row)
	for _, x := range []wireArgs{
		{Wire: impl.Wire{Sent: row[:90], Got: row[:90]}, Data: row[:100]},
		{Wire: impl.Wire{Sent: row[:90], Got: row[90:150]}, Data: row[90:170]},
		{Wire: impl.Wire{Sent: row[50:90], Got: row[:50]}, Data: row[:50]},
		{Wire: impl.Wire{Sent: row[:0], Got: row[:0]}, Data: row[:0]},
		{Wire: impl.Wire{Sent: row[:40], Got: row[:0]}, Data: row[40:80]},
		{Wire: impl.Wire{Sent: row, Got: row}, Data: row},
	} {
		x.Epoch, x.N = 3, 60
		for _, at := range []int64{0, 1, 40, int64(len(x.Wire.Got)), int64(len(x.Wire.Sent))} {
			x.At = at
			for i, call := range wireCalls() {
				got := call(x)
				spans := append(spansOf(got), spansOf(row[:0])...)
				if shareMemory(spans) || memoryOfAll(row) != memory {
					t.Fatalf("call %d shares or changes memory: %s", i, brief(x))
				}
				runtime.KeepAlive(got)
			}
		}
	}
}

func TestAnswersOfWiresMayBeSpoiled(t *testing.T) {
	w := someWire(3, 30, 9, 20)
	data := slices.Concat(w.Got[10:], []byte{5, 6, 7})
	for i, call := range []func() impl.WireResult{
		func() impl.WireResult { return impl.PeerSends(w, data) },
		func() impl.WireResult { return impl.PeerSends(w, nil) },
		func() impl.WireResult { return impl.PeerSends(impl.Wire{}, data) },
		func() impl.WireResult { return impl.FenceWire(w, 4) },
		func() impl.WireResult { return impl.TakeInput(w, 3, 0, 60) },
		func() impl.WireResult { return impl.TakeInput(w, 3, 7, 5) },
		func() impl.WireResult { return impl.AckInput(w, 3, 12) },
		func() impl.WireResult { return impl.DeliverOut(w, 3, 10, data) },
		func() impl.WireResult { return impl.DeliverOut(w, 3, 10, data[:10]) },
		func() impl.WireResult { return impl.DeliverOut(w, 3, 20, nil) },
		func() impl.WireResult { return impl.DeliverOut(impl.Wire{}, 3, 0, data) },
	} {
		memory, first, second := memoryOfAll(w, data), call(), call()
		flip(first.Bytes)
		if !sameWire(first.Wire, second.Wire) {
			t.Errorf("call %d: Bytes and the wire share memory", i)
		}
		flip(first.Wire.Sent)
		if !bytes.Equal(first.Wire.Got, second.Wire.Got) {
			t.Errorf("call %d: Sent and Got share memory", i)
		}
		flip(first.Wire.Got)
		if memoryOfAll(w, data) != memory || !reflect.DeepEqual(call(), second) {
			t.Errorf("call %d: what is answered shares memory with an argument", i)
		}
	}
}

// allOfWires tells all that the functions of this chapter answer, nil and empty lists apart.
func allOfWires(x wireArgs) string {
	var said []any
	for _, call := range wireCalls() {
		said = append(said, fmt.Sprintf("%#v", call(x)))
	}
	return fmt.Sprint(said...)
}

func TestWiresHangOnArgumentsAlone(t *testing.T) {
	list := someWireArgs()
	for i, x := range list {
		first := allOfWires(x)
		allOfWires(list[(i*7+5)%len(list)])
		if allOfWires(x) != first || allOfWires(roomyCopy(x)) != first {
			t.Fatalf("what is told of %s hangs on more than it", brief(x))
		}
		if allOfWires(hollow(x, true)) != first || allOfWires(hollow(x, false)) != first {
			t.Fatalf("nil and an empty list in %s are not answered alike", brief(x))
		}
	}
}
