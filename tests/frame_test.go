package tests

import (
	"bytes"
	"fmt"
	"math"
	"math/big"
	"math/rand"
	"reflect"
	"slices"
	"testing"

	"loop.example/g00263/impl"
)

// bodyOf makes a body of n bytes that are not all alike.
func bodyOf(n int) []byte {
	body := make([]byte, n)
	for i := range body {
		body[i] = byte(i*7 + n)
	}
	return body
}

// packAll puts the frames one behind the other, by the document's words and not by PackFrame.
func packAll(frames []impl.Frame) []byte {
	var out []byte
	for _, f := range frames {
		size := 5 + len(f.Body)
		out = append(out, 255, 255, byte(size>>8), byte(size), byte(f.Kind))
		out = append(out, f.Body...)
	}
	return out
}

// sameFrames holds nil and an empty list to be the same.
func sameFrames(a, b []impl.Frame) bool {
	if len(a) != len(b) {
		return false
	}
	for i := range a {
		if a[i].Kind != b[i].Kind || !bytes.Equal(a[i].Body, b[i].Body) {
			return false
		}
	}
	return true
}

func wantFrames(t *testing.T, data []byte, code, used int64, frames []impl.Frame) {
	t.Helper()
	got := impl.SplitFrames(data)
	if got.Code != code || got.Used != used || !sameFrames(got.Frames, frames) {
		t.Errorf("SplitFrames(% x): code %d, used %d, frames %v; want %d, %d, %v", data, got.Code, got.Used, got.Frames, code, used, frames)
	}
}

// streams are lists of frames of at most MaxInput bytes in all.
func streams() [][]impl.Frame {
	list := [][]impl.Frame{
		nil,
		{{Kind: impl.KindKeep}},
		{{Kind: impl.KindOpen, Body: bodyOf(120)}},
		{{Kind: impl.KindNotify, Body: bodyOf(119)}, {Kind: impl.KindUpdate, Body: bodyOf(1)}},
		{{Kind: 1, Body: bodyOf(5)}, {Kind: 4}, {Kind: 2, Body: bodyOf(33)}, {Kind: 3, Body: bodyOf(2)}, {Kind: 4}},
		// Bodies that look like frames, and like wrong heads.
		{{Kind: 2, Body: []byte{255, 255, 0, 5, 4}}, {Kind: 3, Body: []byte{255, 255, 0, 4, 9}}, {Kind: 4}},
		{{Kind: 2, Body: bytes.Repeat([]byte{255}, 60)}, {Kind: 1, Body: make([]byte, 60)}},
		// 400 bytes just so.
		{{Kind: 1, Body: bodyOf(120)}, {Kind: 2, Body: bodyOf(120)}, {Kind: 3, Body: bodyOf(120)}, {Kind: 4, Body: bodyOf(20)}},
	}
	var small []impl.Frame
	for i := range 80 {
		small = append(small, impl.Frame{Kind: int64(i%4 + 1)})
	}
	return append(list, small)
}

func TestCodesAndBounds(t *testing.T) {
	codes := []int64{impl.OK, impl.ErrForm, impl.ErrMany, impl.ErrRange, impl.ErrNone, impl.ErrText,
		impl.ErrSum, impl.ErrTaken, impl.ErrBusy, impl.ErrOld, impl.ErrState}
	for number, code := range codes {
		if code != int64(number) {
			t.Errorf("the code at %d is %d", number, code)
		}
	}
	others := []int64{impl.KindOpen, impl.KindUpdate, impl.KindNotify, impl.KindKeep, impl.MaxBody, impl.MaxInput}
	if !slices.Equal(others, []int64{1, 2, 3, 4, 120, 400}) {
		t.Errorf("kinds and bounds are %v", others)
	}
}

func TestFrameFault(t *testing.T) {
	kinds := map[int64]bool{
		math.MinInt64: false, -1: false, 0: false, 1: true, 2: true, 3: true, 4: true, 5: false,
		255: false, 256: false, 257: false, 260: false, 1<<32 + 1: false, math.MaxInt64: false,
	}
	for kind, right := range kinds {
		for _, n := range []int{0, 1, 119, 120, 121, 255, 256, 400, 70000} {
			want := int64(impl.OK)
			if !right {
				want = impl.ErrRange
			} else if n > 120 {
				want = impl.ErrMany
			}
			f := impl.Frame{Kind: kind, Body: bodyOf(n)}
			if got := impl.FrameFault(f); got != want {
				t.Errorf("FrameFault of Kind %d with %d bytes: %d, want %d", kind, n, got, want)
			}
			pack := impl.PackFrame(f)
			if pack.Code != want || want != impl.OK && len(pack.Bytes) != 0 {
				t.Errorf("PackFrame of Kind %d with %d bytes: %v, want code %d", kind, n, pack, want)
			}
		}
	}
}

func TestPackFrame(t *testing.T) {
	cases := []struct {
		frame impl.Frame
		want  []byte
	}{
		{impl.Frame{Kind: impl.KindKeep}, []byte{255, 255, 0, 5, 4}},
		{impl.Frame{Kind: impl.KindOpen, Body: []byte{}}, []byte{255, 255, 0, 5, 1}},
		{impl.Frame{Kind: impl.KindUpdate, Body: []byte{0}}, []byte{255, 255, 0, 6, 2, 0}},
		{impl.Frame{Kind: impl.KindNotify, Body: []byte{9, 255, 7}}, []byte{255, 255, 0, 8, 3, 9, 255, 7}},
		{impl.Frame{Kind: impl.KindUpdate, Body: bodyOf(119)}, append([]byte{255, 255, 0, 124, 2}, bodyOf(119)...)},
		{impl.Frame{Kind: impl.KindUpdate, Body: bodyOf(120)}, append([]byte{255, 255, 0, 125, 2}, bodyOf(120)...)},
	}
	for _, c := range cases {
		got := impl.PackFrame(c.frame)
		if got.Code != impl.OK || !bytes.Equal(got.Bytes, c.want) {
			t.Errorf("PackFrame(%v): %v, want % x", c.frame, got, c.want)
		}
	}
}

func TestFramesAreTold(t *testing.T) {
	for _, frames := range streams() {
		var data []byte
		for _, f := range frames {
			data = append(data, impl.PackFrame(f).Bytes...)
		}
		if !bytes.Equal(data, packAll(frames)) {
			t.Fatalf("PackFrame of %v: % x", frames, data)
		}
		wantFrames(t, data, impl.OK, int64(len(data)), frames)
	}
}

func TestBeginningsTellTheFirstFrames(t *testing.T) {
	for _, frames := range streams() {
		data := packAll(frames)
		for cut := range len(data) + 1 {
			used, count := 0, 0
			for count < len(frames) && used+5+len(frames[count].Body) <= cut {
				used += 5 + len(frames[count].Body)
				count++
			}
			wantFrames(t, data[:cut], impl.OK, int64(used), frames[:count])
		}
	}
}

// wrongHeads: what is left, and the code that is told of it.
var wrongHeads = []struct {
	left []byte
	code int64
}{
	{[]byte{}, impl.OK},
	{[]byte{255}, impl.OK},
	{[]byte{254}, impl.ErrForm},
	{[]byte{0}, impl.ErrForm},
	{[]byte{0, 255}, impl.ErrForm},
	{[]byte{254, 255, 0, 5, 4}, impl.ErrForm},
	{[]byte{255, 255}, impl.OK},
	{[]byte{255, 254}, impl.ErrForm},
	{[]byte{255, 0}, impl.ErrForm},
	{[]byte{255, 0, 0, 5, 4}, impl.ErrForm},
	{[]byte{255, 255, 0}, impl.OK},
	{[]byte{255, 255, 0, 0}, impl.ErrMany},
	{[]byte{255, 255, 0, 4}, impl.ErrMany},
	{[]byte{255, 255, 0, 5}, impl.OK},
	{[]byte{255, 255, 0, 6}, impl.OK},
	{[]byte{255, 255, 0, 124}, impl.OK},
	{[]byte{255, 255, 0, 125}, impl.OK},
	{[]byte{255, 255, 0, 126}, impl.ErrMany},
	{[]byte{255, 255, 0, 255}, impl.ErrMany},
	{[]byte{255, 255, 1, 0}, impl.ErrMany},
	{[]byte{255, 255, 1, 5}, impl.ErrMany},
	{[]byte{255, 255, 1, 5, 4}, impl.ErrMany},
	{[]byte{255, 255, 5, 0, 4}, impl.ErrMany},
	{[]byte{255, 255, 255, 255}, impl.ErrMany},
	{[]byte{255, 255, 0, 4, 0}, impl.ErrMany},
	{[]byte{255, 255, 0, 126, 5}, impl.ErrMany},
	{[]byte{255, 255, 0, 5, 0}, impl.ErrRange},
	{[]byte{255, 255, 0, 5, 5}, impl.ErrRange},
	{[]byte{255, 255, 0, 5, 255}, impl.ErrRange},
	{[]byte{255, 255, 0, 125, 0}, impl.ErrRange},
	{[]byte{255, 255, 0, 125, 5}, impl.ErrRange},
	{[]byte{255, 255, 0, 6, 1}, impl.OK},
	{[]byte{255, 255, 0, 6, 4}, impl.OK},
	{[]byte{255, 255, 0, 7, 2, 1}, impl.OK},
	{[]byte{255, 255, 0, 125, 3}, impl.OK},
	// The first fault decides, where there are several.
	{[]byte{255, 254, 9, 9, 9}, impl.ErrForm},
	{[]byte{0, 0, 0, 0, 0}, impl.ErrForm},
}

func TestCodesOfWhatIsLeft(t *testing.T) {
	for _, frames := range streams()[:6] {
		ahead := packAll(frames)
		for _, c := range wrongHeads {
			data := append(bytes.Clone(ahead), c.left...)
			wantFrames(t, data, c.code, int64(len(ahead)), frames)
			if c.code == impl.OK {
				continue
			}
			// A fault that is told stays, whatever comes behind.
			data = append(data, 255, 255, 0, 5, 4)
			wantFrames(t, data, c.code, int64(len(ahead)), frames)
		}
	}
}

func TestFaultWaitsForItsBytes(t *testing.T) {
	cases := []struct {
		wrong []byte
		code  int64
	}{
		{[]byte{0}, impl.ErrForm},
		{[]byte{255, 0}, impl.ErrForm},
		{[]byte{255, 255, 0, 4}, impl.ErrMany},
		{[]byte{255, 255, 0, 126}, impl.ErrMany},
		{[]byte{255, 255, 0, 125, 0}, impl.ErrRange},
		{[]byte{255, 255, 0, 125, 5}, impl.ErrRange},
	}
	for _, c := range cases {
		for cut := range c.wrong {
			wantFrames(t, c.wrong[:cut], impl.OK, 0, nil)
		}
		wantFrames(t, c.wrong, c.code, 0, nil)
	}
}

func TestMaxInput(t *testing.T) {
	for _, frames := range streams() {
		data := packAll(frames)
		fill := bytes.Repeat([]byte{7}, 401-len(data))
		full := append(bytes.Clone(data), fill...)
		if len(data) < 400 {
			wantFrames(t, full[:400], impl.ErrForm, int64(len(data)), frames)
		} else {
			wantFrames(t, full[:400], impl.OK, 400, frames)
		}
		wantFrames(t, full, impl.ErrMany, 0, nil)
	}
	for _, n := range []int{401, 402, 5000} {
		wantFrames(t, make([]byte, n), impl.ErrMany, 0, nil)
		wantFrames(t, bytes.Repeat([]byte{255, 255, 0, 5, 4}, n), impl.ErrMany, 0, nil)
	}
}

// bendStream makes bytes that are nearly frames: some taken out, some changed, or all of a few values.
func bendStream(r *rand.Rand) []byte {
	var data []byte
	if r.Intn(2) == 0 {
		values := []byte{255, 255, 255, 0, 0, 5, 6, 1, 4}
		for range r.Intn(24) {
			data = append(data, values[r.Intn(len(values))])
		}
		return data
	}
	for range r.Intn(5) {
		f := impl.Frame{Kind: int64(r.Intn(4) + 1), Body: bodyOf(r.Intn(60))}
		data = append(data, packAll([]impl.Frame{f})...)
	}
	for range r.Intn(3) {
		if len(data) > 0 {
			data[r.Intn(len(data))] = byte(r.Intn(256))
		}
	}
	return data[:len(data)-r.Intn(len(data)+1)/4]
}

func hasWholeFrame(left []byte) bool {
	return len(left) >= 5 && left[0] == 255 && left[1] == 255 && left[2] == 0 &&
		left[3] >= 5 && left[3] <= 125 && left[4] >= 1 && left[4] <= 4 && len(left) >= int(left[3])
}

func TestUsedIsJustTheFrames(t *testing.T) {
	r := rand.New(rand.NewSource(1))
	for range 20000 {
		data := bendStream(r)
		got := impl.SplitFrames(data)
		var packed []byte
		for _, f := range got.Frames {
			p := impl.PackFrame(f)
			if p.Code != impl.OK {
				t.Fatalf("SplitFrames(% x) tells a frame with a fault: %v", data, f)
			}
			packed = append(packed, p.Bytes...)
		}
		if got.Used != int64(len(packed)) || !bytes.HasPrefix(data, packed) {
			t.Fatalf("SplitFrames(% x): used %d, but its frames are % x", data, got.Used, packed)
		}
		left := data[got.Used:]
		if hasWholeFrame(left) {
			t.Fatalf("SplitFrames(% x): there is one more frame: % x", data, left)
		}
		// What is left is told the same when it stands alone.
		wantFrames(t, left, got.Code, 0, nil)
	}
}

func TestNumberAt(t *testing.T) {
	data := []byte{0, 1, 2, 255, 255, 255, 255, 128}
	cases := []struct{ at, size, value int64 }{
		{0, 1, 0}, {1, 1, 1}, {7, 1, 128},
		{0, 2, 1}, {1, 2, 258}, {3, 2, 65535}, {6, 2, 65408},
		{0, 3, 258}, {1, 3, 66303}, {3, 3, 16777215}, {5, 3, 16777088},
		{0, 4, 66303}, {3, 4, 4294967295}, {4, 4, 4294967168},
	}
	for _, c := range cases {
		if got := impl.NumberAt(data, c.at, c.size); got != (impl.IntResult{Value: c.value}) {
			t.Errorf("NumberAt(%d, %d): %v, want %d", c.at, c.size, got, c.value)
		}
	}
	for _, one := range []impl.IntResult{impl.NumberAt([]byte{9}, 0, 1), impl.NumberAt([]byte{0, 0, 0, 9}, 0, 4)} {
		if one != (impl.IntResult{Value: 9}) {
			t.Errorf("NumberAt of all bytes that there are: %v", one)
		}
	}
}

func TestNumberAtOutside(t *testing.T) {
	edges := []int64{math.MinInt64, math.MinInt64 + 1, math.MinInt64 + 4, -5, -4, -2, -1, 0, 1, 2, 3, 4, 5, 6, 7, 8, 9,
		math.MaxInt32, math.MaxInt64 - 4, math.MaxInt64 - 3, math.MaxInt64 - 1, math.MaxInt64}
	for n := range 7 {
		data := bytes.Repeat([]byte{1}, n)
		for _, at := range edges {
			for _, size := range edges {
				end := new(big.Int).Add(big.NewInt(at), big.NewInt(size))
				inside := size >= 1 && size <= 4 && at >= 0 && end.Cmp(big.NewInt(int64(n))) <= 0
				got := impl.NumberAt(data, at, size)
				if inside && (got.Code != impl.OK || got.Value == 0) || !inside && got != (impl.IntResult{Code: impl.ErrRange}) {
					t.Errorf("NumberAt of %d bytes, at %d, size %d: %v", n, at, size, got)
				}
			}
		}
	}
}

// sumByPowers works the sum out in whole, and takes what the modulus leaves only at the end.
func sumByPowers(data []byte) int64 {
	sum := big.NewInt(7)
	for _, b := range data {
		sum.Mul(sum, big.NewInt(257))
		sum.Add(sum, big.NewInt(int64(b)+1))
	}
	return sum.Mod(sum, big.NewInt(65521)).Int64()
}

func TestSumBytes(t *testing.T) {
	cases := []struct {
		data []byte
		want int64
	}{
		{nil, 7}, {[]byte{}, 7},
		{[]byte{0}, 1800}, {[]byte{1}, 1801}, {[]byte{255}, 2055},
		{[]byte{0, 0}, 3954}, {[]byte{0, 1}, 3955}, {[]byte{1, 0}, 4211},
	}
	for _, c := range cases {
		if got := impl.SumBytes(c.data); got != c.want {
			t.Errorf("SumBytes(%v): %d, want %d", c.data, got, c.want)
		}
	}
	for _, n := range []int{3, 4, 5, 60, 255, 256, 257, 2000} {
		for _, data := range [][]byte{bodyOf(n), make([]byte, n), bytes.Repeat([]byte{255}, n)} {
			if got, want := impl.SumBytes(data), sumByPowers(data); got != want {
				t.Errorf("SumBytes of %d bytes: %d, want %d", n, got, want)
			}
		}
	}
	// So many that a sum kept without the modulus would leave int64.
	if got := impl.SumBytes(bytes.Repeat([]byte{255}, 1<<20)); got < 0 || got >= 65521 {
		t.Errorf("SumBytes of 2^20 bytes: %d", got)
	}
}

// flip changes all memory of a list, what stands behind its end, too.
func flip(list []byte) {
	whole := list[:cap(list)]
	for i := range whole {
		whole[i] ^= 0x5a
	}
}

func TestFramesChangeNoArgument(t *testing.T) {
	for _, frames := range streams() {
		data := packAll(frames)
		was := bytes.Clone(data)
		impl.SplitFrames(data)
		impl.SumBytes(data)
		for at := range int64(8) {
			impl.NumberAt(data, at, 1+at%4)
		}
		if !bytes.Equal(data, was) {
			t.Errorf("the bytes of %v were changed", frames)
		}
		for _, f := range frames {
			body := bytes.Clone(f.Body)
			impl.FrameFault(f)
			impl.PackFrame(f)
			if !bytes.Equal(f.Body, body) {
				t.Errorf("the body of %v was changed", f)
			}
		}
	}
}

func TestFramesAnswerNewMemory(t *testing.T) {
	for _, frames := range streams() {
		data := packAll(frames)
		was := bytes.Clone(data)
		got := impl.SplitFrames(data)
		for i := range got.Frames {
			flip(got.Frames[i].Body)
			if !bytes.Equal(data, was) {
				t.Fatalf("the body at %d shares memory with the bytes", i)
			}
			if !sameFrames(got.Frames[i+1:], frames[i+1:]) {
				t.Fatalf("the body at %d shares memory with one behind it", i)
			}
		}
		again := impl.SplitFrames(data)
		for i := len(again.Frames) - 1; i >= 0; i-- {
			flip(again.Frames[i].Body)
			if !sameFrames(again.Frames[:i], frames[:i]) {
				t.Fatalf("the body at %d shares memory with one ahead of it", i)
			}
		}
		third := impl.SplitFrames(data)
		flip(data)
		if !sameFrames(third.Frames, frames) {
			t.Fatal("what was told changes with the bytes")
		}
	}
}

func TestPackFrameAnswersNewMemory(t *testing.T) {
	for _, n := range []int{0, 1, 5, 119, 120} {
		// Room around the body, in which a head could be written.
		room := bodyOf(n + 40)
		f := impl.Frame{Kind: impl.KindUpdate, Body: room[20 : 20+n]}
		was := bytes.Clone(room)
		got := impl.PackFrame(f)
		want := bytes.Clone(got.Bytes)
		if !bytes.Equal(room, was) {
			t.Errorf("PackFrame of %d bytes writes around its argument", n)
		}
		flip(got.Bytes)
		if !bytes.Equal(room, was) {
			t.Errorf("PackFrame of %d bytes shares memory with its argument", n)
		}
		got = impl.PackFrame(f)
		flip(room)
		if !bytes.Equal(got.Bytes, want) {
			t.Errorf("what PackFrame told of %d bytes changes with its argument", n)
		}
	}
}

// allOf tells all that the functions of frames answer of some bytes.
func allOf(data []byte) string {
	said := fmt.Sprint(impl.SplitFrames(data), impl.SumBytes(data))
	for _, kind := range []int64{0, 1, 4, 5} {
		f := impl.Frame{Kind: kind, Body: data}
		said += fmt.Sprint(impl.FrameFault(f), impl.PackFrame(f))
	}
	for _, at := range []int64{-1, 0, 1, 4} {
		for size := range int64(6) {
			said += fmt.Sprint(impl.NumberAt(data, at, size))
		}
	}
	return said
}

func TestFramesHangOnArgumentsAlone(t *testing.T) {
	if allOf(nil) != allOf([]byte{}) || allOf(nil) != allOf(bodyOf(9)[:0]) {
		t.Error("nil and an empty list are not answered alike")
	}
	for _, frames := range streams() {
		data := packAll(frames)
		first := allOf(data)
		wide := append(bytes.Clone(data), 255, 255, 0, 5, 4, 1, 2, 3)[:len(data)]
		allOf([]byte{255, 255, 0, 5, 9})
		if allOf(data) != first || allOf(wide) != first {
			t.Errorf("what is told of %v hangs on more than it", frames)
		}
	}
}

func TestZeroBesideACode(t *testing.T) {
	if got := impl.SplitFrames(make([]byte, 401)); !reflect.DeepEqual(got, impl.FramesResult{Code: impl.ErrMany}) {
		t.Error(got)
	}
	if got := impl.PackFrame(impl.Frame{Kind: 5, Body: bodyOf(121)}); got.Code != impl.ErrRange || len(got.Bytes) != 0 {
		t.Error(got)
	}
	if got := impl.PackFrame(impl.Frame{Kind: 4, Body: bodyOf(121)}); got.Code != impl.ErrMany || len(got.Bytes) != 0 {
		t.Error(got)
	}
}
