package tests

import (
	"fmt"
	"math"
	"math/rand"
	"reflect"
	"runtime"
	"slices"
	"testing"

	"loop.example/g00263/impl"
)

// lastNow is the greatest true time, lastSeen the greatest that a clock may show.
const lastNow, lastSeen = int64(1_000_000_000), int64(1_000_000_002)

func wordsIsSeen(number int64) bool {
	return number >= 0 && number <= lastSeen
}

func wordsClockFault(c impl.Clock) int64 {
	if code := firstCode(codeIf(c.Now < 0 || c.Now > lastNow, impl.ErrRange), codeIf(len(c.Seen) != 2, impl.ErrForm)); code != impl.OK {
		return code
	}
	for _, number := range c.Seen {
		if number < 0 || number < c.Now-2 || number > c.Now+2 {
			return impl.ErrRange
		}
	}
	return impl.OK
}

func wordsTickClock(c impl.Clock, by int64, off []int64) impl.ClockResult {
	isWrong := by < 0 || by > 1000 || c.Now+by > lastNow
	if code := firstCode(wordsClockFault(c), codeIf(isWrong, impl.ErrRange), codeIf(len(off) != 2, impl.ErrForm)); code != impl.OK {
		return clockCode(code)
	}
	for _, number := range off {
		if number < -2 || number > 2 {
			return clockCode(impl.ErrRange)
		}
	}
	now := c.Now + by
	return clockAnswer(now, max(c.Seen[0], now+off[0], 0), max(c.Seen[1], now+off[1], 0))
}

func wordsLeaseFault(x impl.Lease) int64 {
	return codeIf(x.Holder != 0 && x.Holder != 1 || x.Epoch < 1 || x.Epoch > 1000 || !wordsIsSeen(x.Asked) || !wordsIsSeen(x.Heard), impl.ErrRange)
}

func wordsGrant(x impl.Lease, asked, heard int64) impl.LeaseResult {
	code := firstCode(wordsLeaseFault(x), codeIf(!wordsIsSeen(asked) || !wordsIsSeen(heard), impl.ErrRange), codeIf(asked < x.Asked || heard < x.Heard, impl.ErrOld))
	if code != impl.OK {
		return leaseCode(code)
	}
	return leaseAnswer(x.Holder, x.Epoch, asked, heard)
}

func wordsMayLead(x impl.Lease, seen int64) bool {
	return wordsLeaseFault(x) == impl.OK && wordsIsSeen(seen) && seen < x.Asked+6
}

func wordsMayTake(x impl.Lease, seen int64) bool {
	return wordsLeaseFault(x) == impl.OK && wordsIsSeen(seen) && seen >= x.Heard+14
}

func wordsTakeLease(x impl.Lease, seen int64) impl.LeaseResult {
	code := firstCode(wordsLeaseFault(x), codeIf(!wordsMayTake(x, seen), impl.ErrBusy), codeIf(x.Epoch == 1000, impl.ErrRange))
	if code != impl.OK {
		return leaseCode(code)
	}
	return leaseAnswer(1-x.Holder, x.Epoch+1, seen, seen)
}

func clockOf(now int64, seen ...int64) impl.Clock { return impl.Clock{Now: now, Seen: seen} }
func clockCode(code int64) impl.ClockResult       { return impl.ClockResult{Code: code} }
func leaseCode(code int64) impl.LeaseResult       { return impl.LeaseResult{Code: code} }

func clockAnswer(now int64, seen ...int64) impl.ClockResult {
	return impl.ClockResult{Clock: clockOf(now, seen...)}
}

func leaseOf(holder, epoch, asked, heard int64) impl.Lease {
	return impl.Lease{Holder: holder, Epoch: epoch, Asked: asked, Heard: heard}
}

func leaseAnswer(holder, epoch, asked, heard int64) impl.LeaseResult {
	return impl.LeaseResult{Lease: leaseOf(holder, epoch, asked, heard)}
}

func wantClock(t *testing.T, c impl.Clock, by int64, off []int64, want impl.ClockResult) {
	t.Helper()
	got := impl.TickClock(c, by, off)
	if got.Code != want.Code || got.Clock.Now != want.Clock.Now || !slices.Equal(got.Clock.Seen, want.Clock.Seen) {
		t.Errorf("TickClock of %v by %d, off %v: %v, want %v", c, by, off, got, want)
	}
	if got.Code != impl.OK && !reflect.DeepEqual(got, clockCode(got.Code)) {
		t.Errorf("TickClock of %v by %d, off %v: %v is not zero beside its code", c, by, off, got)
	}
}

// wantClockFault holds TickClock to the same code, whatever else is wrong.
func wantClockFault(t *testing.T, c impl.Clock, code int64) {
	t.Helper()
	if got := impl.ClockFault(c); got != code {
		t.Errorf("ClockFault of %v: %d, want %d", c, got, code)
	}
	if code == impl.OK {
		return
	}
	for _, by := range []int64{-1, 0, 1, 1000, 1001, math.MinInt64, math.MaxInt64} {
		for _, off := range [][]int64{nil, {}, {0}, {0, 0}, {2, -2}, {3, 0}, {0, -3}, {0, 0, 0}, {math.MinInt64, math.MaxInt64}} {
			wantClock(t, c, by, off, clockCode(code))
		}
	}
}

func wantLease(t *testing.T, got, want impl.LeaseResult, what string, args ...any) {
	t.Helper()
	if got != want {
		t.Errorf("%s of %s: %+v, want %+v", what, brief(args...), got, want)
	}
	if got.Code == impl.OK && impl.LeaseFault(got.Lease) != impl.OK {
		t.Errorf("%s of %s: %+v has a fault", what, brief(args...), got)
	}
}

func wantGrant(t *testing.T, x impl.Lease, asked, heard int64, want impl.LeaseResult) {
	t.Helper()
	wantLease(t, impl.GrantLease(x, asked, heard), want, "GrantLease", x, asked, heard)
}

func wantTakeLease(t *testing.T, x impl.Lease, seen int64, want impl.LeaseResult) {
	t.Helper()
	wantLease(t, impl.TakeLease(x, seen), want, "TakeLease", x, seen)
}

func wantMayLead(t *testing.T, x impl.Lease, seen int64, want bool) {
	t.Helper()
	if got := impl.MayLead(x, seen); got != want {
		t.Errorf("MayLead of %+v at %d: %v, want %v", x, seen, got, want)
	}
}

func wantMayTake(t *testing.T, x impl.Lease, seen int64, want bool) {
	t.Helper()
	if got := impl.MayTake(x, seen); got != want {
		t.Errorf("MayTake of %+v at %d: %v, want %v", x, seen, got, want)
	}
}

// wantLeaseFault holds all that ask the fault of a lease to it, whatever else is wrong.
func wantLeaseFault(t *testing.T, x impl.Lease, code int64) {
	t.Helper()
	if got := impl.LeaseFault(x); got != code {
		t.Errorf("LeaseFault of %+v: %d, want %d", x, got, code)
	}
	if code == impl.OK {
		return
	}
	numbers := []int64{math.MinInt64, -1, 0, 5, 6, 13, 14, 500, lastSeen, lastSeen + 1, math.MaxInt64}
	for _, number := range numbers {
		wantMayLead(t, x, number, false)
		wantMayTake(t, x, number, false)
		wantTakeLease(t, x, number, leaseCode(code))
		for _, other := range numbers {
			wantGrant(t, x, number, other, leaseCode(code))
		}
	}
}

// timesAt are numbers at the edges of what a clock may show, and far outside.
func timesAt() []int64 {
	return append(greatNumbers(), -3, -2, -1, 0, 1, 2, 3, 5, 6, 7, 13, 14, 15, 20, 999, 1000, 1001,
		lastNow-1001, lastNow-1000, lastNow-14, lastNow-1, lastNow, lastNow+1, lastSeen-15, lastSeen-14, lastSeen-13, lastSeen-6, lastSeen-1, lastSeen, lastSeen+1)
}

func TestClockFault(t *testing.T) {
	for _, x := range []struct {
		now  int64
		code int64
	}{{-1, impl.ErrRange}, {0, impl.OK}, {1, impl.OK}, {lastNow - 1, impl.OK}, {lastNow, impl.OK}, {lastNow + 1, impl.ErrRange}, {math.MinInt64, impl.ErrRange}, {math.MaxInt64, impl.ErrRange}} {
		near := min(max(x.now, 0), lastNow)
		wantClockFault(t, clockOf(x.now, near, near), x.code)
	}
	for _, now := range []int64{0, 1, 2, 500, lastNow} {
		wantClockFault(t, impl.Clock{Now: now}, impl.ErrForm)
		wantClockFault(t, impl.Clock{Now: now, Seen: []int64{}}, impl.ErrForm)
		wantClockFault(t, clockOf(now, now), impl.ErrForm)
		wantClockFault(t, clockOf(now, now, now), impl.OK)
		wantClockFault(t, clockOf(now, now, now, now), impl.ErrForm)
	}
}

func TestClockFaultOfWhatIsSeen(t *testing.T) {
	for _, x := range []struct{ now, seen, code int64 }{
		{500, 497, impl.ErrRange}, {500, 498, impl.OK}, {500, 500, impl.OK}, {500, 502, impl.OK}, {500, 503, impl.ErrRange},
		{0, -3, impl.ErrRange}, {0, -2, impl.ErrRange}, {0, -1, impl.ErrRange}, {0, 0, impl.OK}, {0, 2, impl.OK}, {0, 3, impl.ErrRange},
		{1, -2, impl.ErrRange}, {1, -1, impl.ErrRange}, {1, 0, impl.OK}, {1, 1, impl.OK}, {1, 3, impl.OK}, {1, 4, impl.ErrRange},
		{2, -1, impl.ErrRange}, {2, 0, impl.OK}, {2, 2, impl.OK}, {2, 4, impl.OK}, {2, 5, impl.ErrRange},
		{3, 0, impl.ErrRange}, {3, 1, impl.OK}, {3, 5, impl.OK}, {3, 6, impl.ErrRange},
		{lastNow, lastNow - 3, impl.ErrRange}, {lastNow, lastNow - 2, impl.OK}, {lastNow, lastNow, impl.OK}, {lastNow, lastSeen, impl.OK}, {lastNow, lastSeen + 1, impl.ErrRange},
		{500, math.MinInt64, impl.ErrRange}, {500, math.MaxInt64, impl.ErrRange}, {0, math.MaxInt64, impl.ErrRange}, {lastNow, math.MinInt64, impl.ErrRange},
	} {
		wantClockFault(t, clockOf(x.now, x.seen, x.now), x.code)
		wantClockFault(t, clockOf(x.now, x.now, x.seen), x.code)
		wantClockFault(t, clockOf(x.now, x.seen, x.seen), x.code)
	}
	// The two may be twice the margin apart.
	wantClockFault(t, clockOf(500, 498, 502), impl.OK)
	wantClockFault(t, clockOf(500, 502, 498), impl.OK)
}

func TestClockFaultOfSeveral(t *testing.T) {
	wantClockFault(t, clockOf(-1), impl.ErrRange)
	wantClockFault(t, clockOf(lastNow+1, 5), impl.ErrRange)
	wantClockFault(t, clockOf(-1, -1, -1, -1), impl.ErrRange)
	wantClockFault(t, clockOf(-1, -1, -1), impl.ErrRange)
	wantClockFault(t, clockOf(10, 99), impl.ErrForm)
	wantClockFault(t, clockOf(10, -1, 99, 10), impl.ErrForm)
	wantClockFault(t, clockOf(10, 10, 10, 99), impl.ErrForm)
	wantClockFault(t, clockOf(10, 7, 13), impl.ErrRange)
	wantClockFault(t, clockOf(10, 13, 7), impl.ErrRange)
	wantClockFault(t, clockOf(10, math.MaxInt64, math.MinInt64), impl.ErrRange)
}

func TestTickClockBy(t *testing.T) {
	c, off := clockOf(500, 499, 502), []int64{0, 1}
	wantClock(t, c, -1, off, clockCode(impl.ErrRange))
	wantClock(t, c, 0, off, clockAnswer(500, 500, 502))
	wantClock(t, c, 1, off, clockAnswer(501, 501, 502))
	wantClock(t, c, 1000, off, clockAnswer(1500, 1500, 1501))
	wantClock(t, c, 1001, off, clockCode(impl.ErrRange))
	for _, by := range greatNumbers() {
		wantClock(t, c, by, off, clockCode(impl.ErrRange))
	}
	for _, by := range []int64{0, 1, 7, 1000} {
		late := clockOf(lastNow-by, lastNow-by, lastNow-by)
		wantClock(t, late, by, []int64{2, -2}, clockAnswer(lastNow, lastSeen, max(lastNow-by, lastNow-2)))
		wantClock(t, late, by+1, []int64{2, -2}, clockCode(impl.ErrRange))
	}
}

func TestTickClockOff(t *testing.T) {
	c := clockOf(500, 500, 500)
	for _, off := range [][]int64{nil, {}, {0}, {0, 0, 0}, {0, 0, 9}, {9}, {9, 9, 9}} {
		wantClock(t, c, 5, off, clockCode(impl.ErrForm))
	}
	for off := int64(-2); off <= 2; off++ {
		wantClock(t, c, 5, []int64{off, 0}, clockAnswer(505, 505+off, 505))
		wantClock(t, c, 5, []int64{0, off}, clockAnswer(505, 505, 505+off))
	}
	for _, off := range append(greatNumbers(), -3, 3) {
		wantClock(t, c, 5, []int64{off, 0}, clockCode(impl.ErrRange))
		wantClock(t, c, 5, []int64{0, off}, clockCode(impl.ErrRange))
		wantClock(t, c, 5, []int64{off, off}, clockCode(impl.ErrRange))
	}
}

func TestTickClockOfSeveral(t *testing.T) {
	c := clockOf(lastNow-10, lastNow-10, lastNow-10)
	for _, by := range []int64{-1, 11, 1001, math.MinInt64, math.MaxInt64} {
		for _, off := range [][]int64{nil, {0}, {0, 0, 0}, {3, 0}, {0, -3}, {math.MaxInt64, math.MinInt64}, {0, 0}} {
			wantClock(t, c, by, off, clockCode(impl.ErrRange))
		}
	}
	for _, off := range [][]int64{{3}, {-3}, {3, 3, 3}, {0, 0, math.MaxInt64}} {
		wantClock(t, c, 10, off, clockCode(impl.ErrForm))
	}
}

func TestTickClockDoesNotGoBack(t *testing.T) {
	c := clockOf(500, 502, 500)
	wantClock(t, c, 0, []int64{-2, -2}, clockAnswer(500, 502, 500))
	wantClock(t, c, 3, []int64{-2, -2}, clockAnswer(503, 502, 501))
	wantClock(t, c, 3, []int64{-1, -1}, clockAnswer(503, 502, 502))
	wantClock(t, c, 3, []int64{0, 0}, clockAnswer(503, 503, 503))
	wantClock(t, c, 4, []int64{-2, 2}, clockAnswer(504, 502, 506))
	wantClock(t, c, 5, []int64{-2, -2}, clockAnswer(505, 503, 503))
	// Now and off is below 0.
	wantClock(t, clockOf(0, 0, 0), 0, []int64{-2, -1}, clockAnswer(0, 0, 0))
	wantClock(t, clockOf(0, 0, 2), 0, []int64{-2, -2}, clockAnswer(0, 0, 2))
	wantClock(t, clockOf(0, 1, 0), 1, []int64{-2, -2}, clockAnswer(1, 1, 0))
	wantClock(t, clockOf(0, 0, 0), 2, []int64{-2, 2}, clockAnswer(2, 0, 4))
	wantClock(t, clockOf(0, 0, 0), 3, []int64{-2, -2}, clockAnswer(3, 1, 1))
}

// TestAnyClock is of all clocks and ticks near the edges, right and wrong ones.
func TestAnyClock(t *testing.T) {
	for _, now := range []int64{-1, 0, 1, 2, 3, 700, lastNow - 1000, lastNow - 1, lastNow, lastNow + 1} {
		for _, first := range []int64{-3, -2, 0, 2, 3} {
			for _, second := range []int64{-3, -2, -1, 1, 2, 3} {
				c := clockOf(now, now+first, now+second)
				wantClockFault(t, c, wordsClockFault(c))
				for _, by := range []int64{-1, 0, 1, 2, 4, 999, 1000, 1001} {
					for off := int64(-3); off <= 3; off++ {
						for other := int64(-3); other <= 3; other++ {
							wantClock(t, c, by, []int64{off, other}, wordsTickClock(c, by, []int64{off, other}))
						}
					}
				}
			}
		}
	}
}

func TestAnyGreatClock(t *testing.T) {
	r := rand.New(rand.NewSource(131))
	numbers := timesAt()
	some := func() int64 { return numbers[r.Intn(len(numbers))] }
	list := func() []int64 {
		return [][]int64{nil, {some()}, {some(), some()}, {some(), some()}, {some(), some(), some()}}[r.Intn(5)]
	}
	for range 10000 {
		c := impl.Clock{Now: some(), Seen: list()}
		wantClockFault(t, c, wordsClockFault(c))
		now := max(0, min(c.Now, lastNow))
		c = clockOf(now, now, now)
		by, off := some(), list()
		wantClock(t, c, by, off, wordsTickClock(c, by, off))
	}
}

// checkTick asks for what is promised of a tick that tells no code.
func checkTick(t *testing.T, was impl.Clock, by int64, off ...int64) impl.Clock {
	t.Helper()
	got := impl.TickClock(was, by, off)
	if got.Code != impl.OK || impl.ClockFault(got.Clock) != impl.OK || got.Clock.Now != was.Now+by {
		t.Fatalf("TickClock of %v by %d, off %v: %v", was, by, off, got)
	}
	for node, number := range got.Clock.Seen {
		if number < was.Seen[node] {
			t.Fatalf("TickClock of %v by %d, off %v: %v goes back", was, by, off, got)
		}
	}
	return got.Clock
}

// eachOff visits every off of both nodes.
func eachOff(visit func(first, second int64)) {
	for first := int64(-2); first <= 2; first++ {
		for second := int64(-2); second <= 2; second++ {
			visit(first, second)
		}
	}
}

func TestTicksBehindOneAnother(t *testing.T) {
	for _, now := range []int64{0, 1, 2, 900, lastNow - 24} {
		for _, by := range []int64{0, 1, 2, 3, 4, 5, 6} {
			eachOff(func(first, second int64) {
				eachOff(func(third, fourth int64) {
					c := checkTick(t, clockOf(now, now, now), by, first, second)
					c = checkTick(t, c, by, third, fourth)
					c = checkTick(t, c, by, second, third)
					checkTick(t, c, by, fourth, first)
				})
			})
		}
	}
}

func TestLeaseFault(t *testing.T) {
	right := leaseOf(0, 7, 100, 101)
	wantLeaseFault(t, right, impl.OK)
	for _, x := range []struct{ number, code int64 }{{-1, impl.ErrRange}, {0, impl.OK}, {1, impl.OK}, {2, impl.ErrRange}, {math.MinInt64, impl.ErrRange}, {math.MaxInt64, impl.ErrRange}} {
		wantLeaseFault(t, leaseOf(x.number, 7, 100, 101), x.code)
	}
	for _, x := range []struct{ number, code int64 }{{-1, impl.ErrRange}, {0, impl.ErrRange}, {1, impl.OK}, {1000, impl.OK}, {1001, impl.ErrRange}, {math.MinInt64, impl.ErrRange}, {math.MaxInt64, impl.ErrRange}} {
		wantLeaseFault(t, leaseOf(1, x.number, 100, 101), x.code)
	}
	for _, x := range []struct{ number, code int64 }{{-1, impl.ErrRange}, {0, impl.OK}, {lastNow, impl.OK}, {lastNow + 1, impl.OK}, {lastSeen, impl.OK}, {lastSeen + 1, impl.ErrRange}, {math.MinInt64, impl.ErrRange}, {math.MaxInt64, impl.ErrRange}} {
		wantLeaseFault(t, leaseOf(0, 7, x.number, 101), x.code)
		wantLeaseFault(t, leaseOf(1, 7, 100, x.number), x.code)
	}
	wantLeaseFault(t, impl.Lease{}, impl.ErrRange)
	wantLeaseFault(t, leaseOf(-1, 0, -1, -1), impl.ErrRange)
	// Neither clock is ahead of the other one for sure.
	wantLeaseFault(t, leaseOf(0, 1, lastSeen, 0), impl.OK)
	wantLeaseFault(t, leaseOf(0, 1, 0, lastSeen), impl.OK)
}

func TestGrantLease(t *testing.T) {
	for _, holder := range []int64{0, 1} {
		for _, epoch := range []int64{1, 500, 1000} {
			x := leaseOf(holder, epoch, 100, 200)
			wantGrant(t, x, 99, 200, leaseCode(impl.ErrOld))
			wantGrant(t, x, 99, 300, leaseCode(impl.ErrOld))
			wantGrant(t, x, 100, 199, leaseCode(impl.ErrOld))
			wantGrant(t, x, 300, 199, leaseCode(impl.ErrOld))
			wantGrant(t, x, 99, 199, leaseCode(impl.ErrOld))
			wantGrant(t, x, 0, 0, leaseCode(impl.ErrOld))
			wantGrant(t, x, 100, 200, leaseAnswer(holder, epoch, 100, 200))
			wantGrant(t, x, 101, 200, leaseAnswer(holder, epoch, 101, 200))
			wantGrant(t, x, 100, 201, leaseAnswer(holder, epoch, 100, 201))
			wantGrant(t, x, 400, 200, leaseAnswer(holder, epoch, 400, 200))
			wantGrant(t, x, lastSeen, lastSeen, leaseAnswer(holder, epoch, lastSeen, lastSeen))
		}
	}
	none := leaseOf(1, 1, 0, 0)
	wantGrant(t, none, 0, 0, leaseAnswer(1, 1, 0, 0))
	wantGrant(t, none, 5, 0, leaseAnswer(1, 1, 5, 0))
	wantGrant(t, none, 0, 5, leaseAnswer(1, 1, 0, 5))
}

func TestGrantLeaseOutside(t *testing.T) {
	x := leaseOf(0, 7, 100, 200)
	for _, number := range append(greatNumbers(), -1, lastSeen+1) {
		// ErrRange is told also where the other one is too old, or this one is below what was.
		for _, other := range []int64{math.MinInt64, -1, 0, 99, 300, lastSeen, lastSeen + 1, math.MaxInt64} {
			wantGrant(t, x, number, other, wordsGrant(x, number, other))
			wantGrant(t, x, other, number, wordsGrant(x, other, number))
		}
	}
	wantGrant(t, x, -1, 300, leaseCode(impl.ErrRange))
	wantGrant(t, x, 300, -1, leaseCode(impl.ErrRange))
	wantGrant(t, x, lastSeen+1, 300, leaseCode(impl.ErrRange))
	wantGrant(t, x, 300, lastSeen+1, leaseCode(impl.ErrRange))
	wantGrant(t, x, 99, lastSeen+1, leaseCode(impl.ErrRange))
	wantGrant(t, x, lastSeen+1, 199, leaseCode(impl.ErrRange))
	wantGrant(t, leaseOf(0, 7, 0, 0), -1, 0, leaseCode(impl.ErrRange))
	wantGrant(t, leaseOf(0, 7, 0, 0), 0, -1, leaseCode(impl.ErrRange))
}

func TestMayLead(t *testing.T) {
	for _, holder := range []int64{0, 1} {
		x := leaseOf(holder, 7, 100, 500)
		for seen, want := range map[int64]bool{-1: false, 0: true, 99: true, 100: true, 104: true, 105: true, 106: false, 107: false, 500: false, 514: false, lastSeen: false, lastSeen + 1: false} {
			wantMayLead(t, x, seen, want)
		}
	}
	// What was heard does not matter to the holder.
	wantMayLead(t, leaseOf(0, 1, 100, 0), 105, true)
	wantMayLead(t, leaseOf(0, 1000, 100, lastSeen), 106, false)
	wantMayLead(t, leaseOf(1, 1, 0, 0), 5, true)
	wantMayLead(t, leaseOf(1, 1, 0, 0), 6, false)
	for _, asked := range []int64{lastSeen - 6, lastSeen - 5, lastSeen} {
		x := leaseOf(1, 1, asked, 0)
		wantMayLead(t, x, lastSeen, asked > lastSeen-6)
		wantMayLead(t, x, lastSeen+1, false)
	}
	for _, seen := range greatNumbers() {
		wantMayLead(t, leaseOf(1, 1, lastSeen, 0), seen, seen >= 0 && seen <= lastSeen)
	}
}

func TestMayTake(t *testing.T) {
	for _, holder := range []int64{0, 1} {
		x := leaseOf(holder, 7, 500, 100)
		for seen, want := range map[int64]bool{-1: false, 0: false, 100: false, 106: false, 112: false, 113: false, 114: true, 115: true, 500: true, 514: true, lastSeen - 1: true, lastSeen: true, lastSeen + 1: false} {
			wantMayTake(t, x, seen, want)
		}
	}
	// When it was asked for does not matter to the other one.
	wantMayTake(t, leaseOf(0, 1, lastSeen, 100), 114, true)
	wantMayTake(t, leaseOf(0, 1000, 0, 100), 113, false)
	wantMayTake(t, leaseOf(1, 1, 0, 0), 13, false)
	wantMayTake(t, leaseOf(1, 1, 0, 0), 14, true)
	for _, heard := range []int64{lastSeen - 14, lastSeen - 13, lastSeen} {
		x := leaseOf(1, 1, 0, heard)
		wantMayTake(t, x, lastSeen, heard == lastSeen-14)
		wantMayTake(t, x, lastSeen+1, false)
		wantMayTake(t, x, lastSeen+14, false)
	}
	for _, seen := range greatNumbers() {
		wantMayTake(t, leaseOf(1, 1, 0, 0), seen, seen >= 14 && seen <= lastSeen)
	}
}

func TestTakeLease(t *testing.T) {
	for _, epoch := range []int64{1, 2, 998, 999} {
		wantTakeLease(t, leaseOf(0, epoch, 100, 101), 114, leaseCode(impl.ErrBusy))
		wantTakeLease(t, leaseOf(0, epoch, 100, 101), 115, leaseAnswer(1, epoch+1, 115, 115))
		wantTakeLease(t, leaseOf(1, epoch, 300, 101), 116, leaseAnswer(0, epoch+1, 116, 116))
		wantTakeLease(t, leaseOf(1, epoch, 0, 0), lastSeen, leaseAnswer(0, epoch+1, lastSeen, lastSeen))
	}
	for _, epoch := range []int64{1, 999, 1000} {
		for _, holder := range []int64{0, 1} {
			for _, seen := range append(greatNumbers(), -1, 0, 100, 105, 106, 113, 114, lastSeen+1, lastSeen+14) {
				if seen < 115 || seen > lastSeen {
					wantTakeLease(t, leaseOf(holder, epoch, 100, 101), seen, leaseCode(impl.ErrBusy))
				}
			}
			wantTakeLease(t, leaseOf(holder, epoch, 0, lastSeen-13), lastSeen, leaseCode(impl.ErrBusy))
		}
	}
	wantTakeLease(t, leaseOf(0, 1000, 100, 101), 114, leaseCode(impl.ErrBusy))
	wantTakeLease(t, leaseOf(0, 1000, 100, 101), 115, leaseCode(impl.ErrRange))
	wantTakeLease(t, leaseOf(1, 1000, 100, 101), lastSeen, leaseCode(impl.ErrRange))
}

// TestTakenLease: who took may lead at once, and who held may take it back only behind the whole length.
func TestTakenLease(t *testing.T) {
	x := impl.TakeLease(leaseOf(0, 1, 20, 21), 35).Lease
	wantMayLead(t, x, 35, true)
	wantMayLead(t, x, 40, true)
	wantMayLead(t, x, 41, false)
	wantTakeLease(t, x, 48, leaseCode(impl.ErrBusy))
	wantTakeLease(t, x, 49, leaseAnswer(0, 3, 49, 49))
	wantGrant(t, x, 34, 40, leaseCode(impl.ErrOld))
	wantGrant(t, x, 40, 38, leaseAnswer(1, 2, 40, 38))
}

func TestAnyLease(t *testing.T) {
	r := rand.New(rand.NewSource(132))
	numbers := timesAt()
	codes := map[string]int{}
	near := func(middle int64) int64 {
		if r.Intn(3) == 0 {
			return numbers[r.Intn(len(numbers))]
		}
		return middle + int64(r.Intn(41)) - 20
	}
	for range 30000 {
		x := leaseOf(int64(r.Intn(2)), 1+int64(r.Intn(1000)), near(50), near(50))
		switch r.Intn(12) {
		case 0:
			x.Holder = numbers[r.Intn(len(numbers))]
		case 1:
			x.Epoch = numbers[r.Intn(len(numbers))]
		case 2:
			x.Epoch = 1000
		}
		asked, heard := near(x.Asked), near(x.Heard+5)
		wantLeaseFault(t, x, wordsLeaseFault(x))
		wantGrant(t, x, asked, heard, wordsGrant(x, asked, heard))
		wantMayLead(t, x, asked, wordsMayLead(x, asked))
		wantMayTake(t, x, heard, wordsMayTake(x, heard))
		wantTakeLease(t, x, heard, wordsTakeLease(x, heard))
		codes[fmt.Sprint("grant ", impl.GrantLease(x, asked, heard).Code)]++
		codes[fmt.Sprint("take ", impl.TakeLease(x, heard).Code)]++
	}
	for _, which := range []string{"grant 0", "grant 3", "grant 9", "take 0", "take 3", "take 8"} {
		if codes[which] < 1000 {
			t.Errorf("%s: only %d (%v)", which, codes[which], codes)
		}
	}
}

// TestOneLeadsOrTheOtherTakes is of every off when it is asked, heard and looked at, and of grants that are heard late.
func TestOneLeadsOrTheOtherTakes(t *testing.T) {
	lastLead, firstTake := int64(0), int64(1000)
	for _, late := range []int64{0, 1, 5} {
		eachOff(func(first, second int64) {
			asked := checkTick(t, clockOf(90, 90, 90), 10, first, second)
			eachOff(func(third, fourth int64) {
				heard := checkTick(t, asked, late, third, fourth)
				eachOff(func(fifth, sixth int64) {
					for by := int64(0); by <= 22; by++ {
						c := checkTick(t, heard, by, fifth, sixth)
						for holder := range 2 {
							x := impl.GrantLease(leaseOf(int64(holder), 1, 0, 0), asked.Seen[holder], heard.Seen[1-holder]).Lease
							leads, takes := impl.MayLead(x, c.Seen[holder]), impl.MayTake(x, c.Seen[1-holder])
							if leads && takes {
								t.Fatalf("%+v, asked at %v, heard at %v: both at %v", x, asked, heard, c)
							}
							if leads {
								lastLead = max(lastLead, c.Now)
							}
							if takes {
								firstTake = min(firstTake, c.Now)
							}
						}
					}
				})
			})
		})
	}
	// The margins are no wider than they need be: by the true time the one begins just where the other one ended.
	if lastLead != 109 || firstTake != 110 {
		t.Errorf("the last leads at %d, the first takes at %d", lastLead, firstTake)
	}
}

// leasing is two nodes with one lease, with what was asked and not heard of yet, and the leases that others hold on to.
type leasing struct {
	clock  impl.Clock
	lease  impl.Lease
	asks   []int64
	gone   []impl.Lease
	grants int
	led    int
}

func (l *leasing) check(t *testing.T) {
	t.Helper()
	holder := l.lease.Holder
	leads := impl.MayLead(l.lease, l.clock.Seen[holder])
	if leads && impl.MayTake(l.lease, l.clock.Seen[1-holder]) {
		t.Fatalf("%+v: one may lead, and the other one take, at %v", l.lease, l.clock)
	}
	if leads {
		l.led++
	}
	// Who has not heard that the lease was taken still asks by the old one.
	for _, x := range l.gone {
		if impl.MayLead(x, l.clock.Seen[x.Holder]) {
			t.Fatalf("%+v was taken, and may still lead at %v", x, l.clock)
		}
	}
}

func (l *leasing) step(t *testing.T, r *rand.Rand) {
	t.Helper()
	holder := l.lease.Holder
	switch r.Intn(6) {
	case 0:
		l.asks = append(l.asks, l.clock.Seen[holder])
	case 1:
		if len(l.asks) == 0 {
			return
		}
		at := r.Intn(len(l.asks))
		got := impl.GrantLease(l.lease, l.asks[at], l.clock.Seen[1-holder])
		l.asks = slices.Delete(l.asks, at, at+1)
		if got.Code == impl.OK {
			l.lease = got.Lease
			l.grants++
		}
	case 2:
		got := impl.TakeLease(l.lease, l.clock.Seen[1-holder])
		if got.Code == impl.OK {
			l.gone = append(l.gone, l.lease)
			l.lease, l.asks = got.Lease, nil
		}
	default:
		by := int64(r.Intn(4))
		if r.Intn(20) == 0 {
			by = int64(r.Intn(20))
		}
		l.clock = checkTick(t, l.clock, by, int64(r.Intn(5))-2, int64(r.Intn(5))-2)
	}
	l.check(t)
}

func TestLeasesOverManyTicks(t *testing.T) {
	r := rand.New(rand.NewSource(133))
	takes, grants, led := 0, 0, 0
	for run := range 300 {
		from := []int64{0, 1, 2, 800, lastNow - 20000}[run%5]
		l := leasing{clock: clockOf(from, from, from), lease: leaseOf(int64(run%2), 1, from, from)}
		for range 1000 {
			l.step(t, r)
		}
		takes += len(l.gone)
		grants += l.grants
		led += l.led
	}
	if takes < 1000 || grants < 5000 || led < 50000 {
		t.Errorf("only %d takes, %d grants, and %d times one may lead", takes, grants, led)
	}
}

// leaseArgs are all that the functions of this chapter take.
type leaseArgs struct {
	Clock impl.Clock
	Lease impl.Lease
	By    int64
	Seen  int64
	Off   []int64
}

func leaseCalls() []func(x leaseArgs) any {
	return []func(x leaseArgs) any{
		func(x leaseArgs) any { return impl.LeaseFault(x.Lease) },
		func(x leaseArgs) any { return impl.ClockFault(x.Clock) },
		func(x leaseArgs) any { return impl.GrantLease(x.Lease, x.By, x.Seen) },
		func(x leaseArgs) any { return impl.MayLead(x.Lease, x.Seen) },
		func(x leaseArgs) any { return impl.MayTake(x.Lease, x.Seen) },
		func(x leaseArgs) any { return impl.TickClock(x.Clock, x.By, x.Off) },
		func(x leaseArgs) any { return impl.TakeLease(x.Lease, x.Seen) },
	}
}

func someLeaseArgs() []leaseArgs {
	var list []leaseArgs
	for _, c := range []impl.Clock{clockOf(0, 0, 2), clockOf(500, 498, 502), clockOf(lastNow, lastSeen, lastNow), clockOf(5), clockOf(5, 5), clockOf(5, 5, 9), clockOf(5, 5, 5, 5), clockOf(-1, 0, 0)} {
		for _, off := range [][]int64{nil, {1}, {2, -2}, {-2, 2}, {0, 0}, {3, 0}, {0, -3}, {1, 1, 1}} {
			for _, number := range []int64{-1, 0, 20, 1000, 1001, lastSeen} {
				list = append(list, leaseArgs{Clock: c, Lease: leaseOf(number&1, 5, 10, 6), By: number, Seen: number, Off: off})
			}
		}
	}
	return append(list, leaseArgs{Lease: leaseOf(2, 1, 0, 0)}, leaseArgs{Lease: leaseOf(1, 1000, 3, 3), Seen: 17}, leaseArgs{})
}

func TestLeasesChangeNoArgument(t *testing.T) {
	for _, was := range someLeaseArgs() {
		x := roomyCopy(was)
		memory := memoryOfAll(x)
		for i, call := range leaseCalls() {
			call(x)
			if memoryOfAll(x) != memory {
				t.Fatalf("call %d has changed its arguments: %s", i, brief(was))
			}
		}
	}
}

func TestLeasesAnswerNewMemory(t *testing.T) {
	for _, was := range someLeaseArgs() {
		for i, call := range leaseCalls() {
			x := roomyCopy(was)
			first, second := call(x), call(x)
			if shareMemory(slices.Concat(spansOf(x), spansOf(first), spansOf(second))) {
				t.Fatalf("call %d: lists share memory with one another, or with the arguments: %s", i, brief(was))
			}
			if !reflect.DeepEqual(first, second) {
				t.Fatalf("call %d: %s, and again %s", i, brief(first), brief(second))
			}
			runtime.KeepAlive([]any{x, first, second})
		}
	}
}

func TestClocksOfSharedLists(t *testing.T) {
	// Seen and off are one and the same memory, with more of it behind them.
	row := []int64{1, 2, 0, 1, 2}
	memory := memoryOfAll(row)
	for from := range 4 {
		for at := range 4 {
			seen, off := row[from:from+2], row[at:at+2]
			c := impl.Clock{Now: 1, Seen: seen}
			got := impl.TickClock(c, 3, off)
			wantClock(t, c, 3, off, clockAnswer(4, 4+off[0], 4+off[1]))
			if shareMemory(append(spansOf(got), spansOf(row)...)) || memoryOfAll(row) != memory {
				t.Fatalf("TickClock shares or changes memory: %v, off %v", c, off)
			}
			// What is answered may be spoiled.
			got.Clock.Seen[0], got.Clock.Seen[1] = 77, 78
			_ = append(got.Clock.Seen, 79)
			if memoryOfAll(row) != memory || impl.TickClock(c, 3, off).Clock.Seen[0] != 4+off[0] {
				t.Fatalf("what is answered shares memory with an argument: %v, off %v", c, off)
			}
		}
	}
}

// allOfLeases tells all that the functions of this chapter answer, nil and empty lists apart.
func allOfLeases(x leaseArgs) string {
	var said []any
	for _, call := range leaseCalls() {
		said = append(said, fmt.Sprintf("%#v", call(x)))
	}
	return fmt.Sprint(said...)
}

func TestLeasesHangOnArgumentsAlone(t *testing.T) {
	list := someLeaseArgs()
	for i, x := range list {
		first := allOfLeases(x)
		allOfLeases(list[(i*7+5)%len(list)])
		if allOfLeases(x) != first || allOfLeases(roomyCopy(x)) != first {
			t.Fatalf("what is told of %s hangs on more than it", brief(x))
		}
		if allOfLeases(hollow(x, true)) != first || allOfLeases(hollow(x, false)) != first {
			t.Fatalf("nil and an empty list in %s are not answered alike", brief(x))
		}
	}
}
