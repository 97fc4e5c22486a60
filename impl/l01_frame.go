package impl

const OK = 0
const ErrForm = 1
const ErrMany = 2
const ErrRange = 3
const ErrNone = 4
const ErrText = 5
const ErrSum = 6
const ErrTaken = 7
const ErrBusy = 8
const ErrOld = 9
const ErrState = 10
const (
	KindOpen = iota + 1
	KindUpdate
	KindNotify
	KindKeep
)
const MaxBody = 120
const MaxInput = 400

// The head of a frame: two marks, two bytes of size, a byte Kind.
const markByte = 255
const markSize = 2
const kindAt = 4
const headSize = 5

const sumStart = 7
const sumFactor = 257
const sumModulus = 65521

type Frame struct {
	Kind int64
	Body []byte
}
type FramesResult struct {
	Code   int64
	Used   int64
	Frames []Frame
}
type IntResult struct {
	Code  int64
	Value int64
}
type IntsResult struct {
	Code int64
	List []int64
}
type BytesResult struct {
	Code  int64
	Bytes []byte
}
type TextResult struct {
	Code int64
	Text string
}

func FrameFault(f Frame) int64 {
	if !isKind(f.Kind) {
		return ErrRange
	}
	if len(f.Body) > MaxBody {
		return ErrMany
	}
	return OK
}

func PackFrame(f Frame) BytesResult {
	if code := FrameFault(f); code != OK {
		return BytesResult{Code: code}
	}
	size := int64(headSize + len(f.Body))
	out := make([]byte, 0, size)
	out = append(out, markByte, markByte)
	out = appendPair(out, size)
	out = append(out, byte(f.Kind))
	out = append(out, f.Body...)
	return BytesResult{Bytes: out}
}

func SplitFrames(data []byte) FramesResult {
	if len(data) > MaxInput {
		return FramesResult{Code: ErrMany}
	}
	return readFrames(data)
}

func NumberAt(data []byte, at int64, size int64) IntResult {
	// at is held against a difference, as at+size could overflow.
	if size < 1 || size > 4 || at < 0 || at > int64(len(data))-size {
		return IntResult{Code: ErrRange}
	}
	var value int64
	for _, b := range data[at : at+size] {
		value = value*256 + int64(b)
	}
	return IntResult{Value: value}
}

func SumBytes(data []byte) int64 {
	var sum int64 = sumStart
	for _, b := range data {
		sum = (sum*sumFactor + int64(b) + 1) % sumModulus
	}
	return sum
}

// readFrames asks each fault as soon as its own bytes are there, so that a
// fault of a head does not wait for the body.
func readFrames(data []byte) FramesResult {
	var got FramesResult
	var left []byte
	var size int64

nextFrame:
	left = data[got.Used:]
	if hasWrongMark(left) {
		got.Code = ErrForm
		goto done
	}
	if len(left) < kindAt {
		goto done
	}
	size = NumberAt(left, markSize, 2).Value
	if size < headSize || size > headSize+MaxBody {
		got.Code = ErrMany
		goto done
	}
	if len(left) < headSize {
		goto done
	}
	if !isKind(int64(left[kindAt])) {
		got.Code = ErrRange
		goto done
	}
	if int64(len(left)) < size {
		goto done
	}
	got.Frames = append(got.Frames, frameOf(left[:size]))
	got.Used += size
	goto nextFrame

done:
	return got
}

func frameOf(packed []byte) Frame {
	// Appending to nil gives each body memory of its own, and none to an empty one.
	body := append([]byte(nil), packed[headSize:]...)
	return Frame{Kind: int64(packed[kindAt]), Body: body}
}

func hasWrongMark(left []byte) bool {
	for _, b := range left[:min(markSize, len(left))] {
		if b != markByte {
			return true
		}
	}
	return false
}

func isKind(kind int64) bool {
	return kind >= KindOpen && kind <= KindKeep
}

func appendPair(out []byte, number int64) []byte {
	return append(out, byte(number/256), byte(number%256))
}
