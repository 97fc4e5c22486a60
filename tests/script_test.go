package tests

import (
	"bytes"
	"fmt"
	"maps"
	"math"
	"math/rand"
	"reflect"
	"regexp"
	"runtime"
	"slices"
	"strconv"
	"strings"
	"testing"
	"unsafe"

	"loop.example/g00263/impl"
)

// lineCall is what a line stands for.
type lineCall func(p impl.Pair) impl.PairResult

// wordsForm is a line as the document tells it, N a number and W a word, with numbers that do something in toughPair.
type wordsForm struct {
	form    string
	example string
	does    func(n []int64, word string) lineCall
}

func wordsSay(peer int64, m impl.Message) lineCall {
	return func(p impl.Pair) impl.PairResult {
		if code := wordsMessageFault(m); code != impl.OK {
			return pairCode(code)
		}
		return impl.SayPair(p, peer, stream(m))
	}
}

func wordsReach(peer, system, next int64, word string) lineCall {
	parsed := wordsParse(word)
	if parsed.Code != impl.OK {
		return func(impl.Pair) impl.PairResult { return pairCode(parsed.Code) }
	}
	return wordsSay(peer, updateMessage(impl.Update{Has: true, Attrs: impl.Attrs{Path: []int64{system}, Next: next}, Reach: []impl.Prefix{parsed.Prefix}}))
}

func wordsForms() []wordsForm {
	return []wordsForm{
		{"lead N", "lead 1", func(n []int64, _ string) lineCall { return pairLead(n[0]).done }},
		{"sync N", "sync 0", func(n []int64, _ string) lineCall { return pairSync(n[0]).done }},
		{"spread N", "spread 0", func(n []int64, _ string) lineCall { return pairSpread(n[0]).done }},
		{"rise N", "rise 1", func(n []int64, _ string) lineCall { return pairRise(n[0]).done }},
		{"crash N N", "crash 0 1", func(n []int64, _ string) lineCall { return pairCrash(n[0], n[1]).done }},
		{"take N N N", "take 0 1 2", func(n []int64, _ string) lineCall { return pairTake(n[0], n[1], n[2]).done }},
		{"start N N", "start 0 2", func(n []int64, _ string) lineCall { return pairEvent(n[0], start(n[1])).done }},
		{"stop N N", "stop 0 1", func(n []int64, _ string) lineCall { return pairEvent(n[0], stop(n[1])).done }},
		{"tick N", "tick 0", func(n []int64, _ string) lineCall { return pairEvent(n[0], tick()).done }},
		{"deliver N", "deliver 1", func(n []int64, _ string) lineCall { return pairDeliver(n[0], false).done }},
		{"keep N", "keep 1", func(n []int64, _ string) lineCall { return pairDeliver(n[0], true).done }},
		{"lose N", "lose 1", func(n []int64, _ string) lineCall { return pairLose(n[0]).done }},
		{"give N N", "give 0 1", func(n []int64, _ string) lineCall { return pairGive(n[0], n[1]).done }},
		{"settle N N", "settle 0 2", func(n []int64, _ string) lineCall {
			return func(p impl.Pair) impl.PairResult { return impl.SettlePair(p, n[0], n[1]) }
		}},
		{"say N open N N N", "say 1 open 2 9 3", func(n []int64, _ string) lineCall {
			return wordsSay(n[0], impl.Message{Kind: impl.KindOpen, As: n[1], Hold: n[2], Id: n[3]})
		}},
		{"say N keep", "say 2 keep", func(n []int64, _ string) lineCall { return wordsSay(n[0], keepMessage()) }},
		{"say N notify N N", "say 0 notify 6 2", func(n []int64, _ string) lineCall { return wordsSay(n[0], notifyOf(n[1], n[2])) }},
		{"reach N N N W", "reach 0 2 5 10.0/8", func(n []int64, word string) lineCall { return wordsReach(n[0], n[1], n[2], word) }},
	}
}

// toughPair is one in which each example does something, and has no code: node 1 is not up.
func toughPair(t *testing.T) impl.Pair {
	t.Helper()
	p := toldTo(t, someSettings(), talk()...)
	p = afterMoves(t, p, pairSay(1, []byte{9, 8, 7}), pairSpread(0), pairDeliver(0, false), pairSync(1), pairSpread(0), pairCrash(1, 0))
	for range 3 {
		p.Mails = append(p.Mails, takenTo(p.Nodes[0], 1, 1))
	}
	return p
}

// examples are lines of each form, with the pair at which each has no code.
func examples(t *testing.T) (lines []string, pairs []impl.Pair) {
	t.Helper()
	for _, f := range wordsForms() {
		p := toughPair(t)
		if f.example == "lead 1" {
			p = afterMoves(t, p, pairRise(1))
		}
		lines, pairs = append(lines, f.example), append(pairs, p)
	}
	return append(lines, "show"), append(pairs, toughPair(t))
}

func shapeOf(form string) *regexp.Regexp {
	return regexp.MustCompile("^ *" + strings.NewReplacer(" ", " +", "N", "([0-9]{1,5})", "W", "([^ ]+)").Replace(form) + " *$")
}

var scriptShapes = func() (list []*regexp.Regexp) {
	for _, f := range wordsForms() {
		list = append(list, shapeOf(f.form))
	}
	return list
}()

// callOf is what the line stands for, and the form that it has.
func callOf(line string) (lineCall, string) {
	for i, f := range wordsForms() {
		found := scriptShapes[i].FindStringSubmatch(line)
		if found == nil {
			continue
		}
		numbers, word := found[1:], ""
		if strings.HasSuffix(f.form, "W") {
			numbers, word = found[1:len(found)-1], found[len(found)-1]
		}
		var n []int64
		for _, text := range numbers {
			number, _ := strconv.ParseInt(text, 10, 64)
			n = append(n, number)
		}
		return f.does(n, word), f.form
	}
	return nil, ""
}

func scriptCode(code int64) impl.ScriptResult { return impl.ScriptResult{Code: code} }

func wordsPairText(p impl.Pair) string {
	text := ""
	for id, n := range p.Nodes {
		text += fmt.Sprintf("node %d %s %s %d %d %d %d\n", id, map[bool]string{true: "up", false: "down"}[n.Up], []string{"standby", "active"}[n.Role], n.Epoch, len(n.Log), n.Sure, n.Commit)
	}
	for peer, w := range p.Wires {
		text += fmt.Sprintf("wire %d %d %d %d %d\n", peer, w.Epoch, len(w.Sent), w.Taken, len(w.Got))
	}
	return text + fmt.Sprintf("mails %d %d\n", len(p.Mails), len(p.Sealed))
}

// wordsLine is what the document says of StepScript.
func wordsLine(p impl.Pair, line string) impl.ScriptResult {
	if code := firstCode(wordsPairFault(p), codeIf(strings.Contains(line, "\n"), impl.ErrText)); code != impl.OK {
		return scriptCode(code)
	}
	switch strings.Trim(line, " ") {
	case "":
		return impl.ScriptResult{Pair: p}
	case "show":
		return impl.ScriptResult{Pair: p, Said: wordsPairText(p)}
	}
	call, _ := callOf(line)
	if call == nil {
		return scriptCode(impl.ErrText)
	}
	got := call(p)
	if got.Code != impl.OK {
		return scriptCode(got.Code)
	}
	return impl.ScriptResult{Pair: got.Pair, Said: "ok"}
}

// linesOf are the lines of a text.
func linesOf(text string) []string {
	lines := strings.Split(text, "\n")
	if last := len(lines) - 1; lines[last] == "" {
		return lines[:last]
	}
	return lines
}

// wordsScript is what the document says of RunScript.
func wordsScript(p impl.Pair, text string) impl.ScriptResult {
	if code := firstCode(wordsPairFault(p), codeIf(len(text) > 1500 || len(linesOf(text)) > 60, impl.ErrMany)); code != impl.OK {
		return scriptCode(code)
	}
	said := ""
	for _, line := range linesOf(text) {
		told := wordsLine(p, line)
		switch {
		case told.Code != impl.OK:
			said += fmt.Sprintf("! %d\n", told.Code)
			continue
		case told.Said == "ok":
			said += "ok\n"
		default:
			said += told.Said
		}
		p = told.Pair
	}
	return impl.ScriptResult{Pair: p, Said: said}
}

// wantScript asks of each answer what is promised of all of them, too.
func wantScript(t *testing.T, p impl.Pair, text string, got, want impl.ScriptResult) {
	t.Helper()
	if got.Code != want.Code || got.Said != want.Said || !samePair(got.Pair, want.Pair) {
		t.Fatalf("%q at %s: %d %q %s, want %d %q %s", text, pairBrief(p), got.Code, got.Said, pairBrief(got.Pair), want.Code, want.Said, pairBrief(want.Pair))
	}
	if got.Code != impl.OK && !reflect.DeepEqual(got, scriptCode(got.Code)) {
		t.Fatalf("%q at %s: %s is not zero beside its code", text, pairBrief(p), brief(got))
	}
	if got.Code == impl.OK && impl.PairFault(got.Pair) != impl.OK {
		t.Fatalf("%q at %s: a fault: %s", text, pairBrief(p), pairBrief(got.Pair))
	}
}

// wantLine holds StepScript to the document's words, and RunScript of the line alone to what is said of it.
func wantLine(t *testing.T, p impl.Pair, line string) impl.ScriptResult {
	t.Helper()
	got := impl.StepScript(p, line)
	wantScript(t, p, line, got, wordsLine(p, line))
	if len(line) < 1500 && wordsPairFault(p) == impl.OK {
		wantRun(t, p, line)
		wantRun(t, p, line+"\n")
	}
	return got
}

func wantLineCode(t *testing.T, p impl.Pair, line string, code int64) {
	t.Helper()
	wantScript(t, p, line, wantLine(t, p, line), scriptCode(code))
}

// wantLineIs holds a line to the pair that it leads to.
func wantLineIs(t *testing.T, p impl.Pair, line string, then impl.Pair, said string) {
	t.Helper()
	wantScript(t, p, line, wantLine(t, p, line), impl.ScriptResult{Pair: then, Said: said})
}

func wantRun(t *testing.T, p impl.Pair, text string) impl.ScriptResult {
	t.Helper()
	got := impl.RunScript(p, text)
	wantScript(t, p, text, got, wordsScript(p, text))
	return got
}

func wantSaid(t *testing.T, p impl.Pair, text, said string) impl.Pair {
	t.Helper()
	got := wantRun(t, p, text)
	if got.Code != impl.OK || got.Said != said {
		t.Fatalf("%q at %s: %d %q, want %q", text, pairBrief(p), got.Code, got.Said, said)
	}
	return got.Pair
}

// wordsOfBytes goes byte by byte.
func wordsOfBytes(line string) []string {
	var words []string
	begin := 0
	for i := range len(line) + 1 {
		if i < len(line) && line[i] != 32 {
			continue
		}
		if i > begin {
			words = append(words, line[begin:i])
		}
		begin = i + 1
	}
	return words
}

func wantWordsOf(t *testing.T, line string, words ...string) {
	t.Helper()
	if got := impl.WordsOf(line); !reflect.DeepEqual(got, impl.WordsResult{Words: words}) || !slices.Equal(wordsOfBytes(line), words) {
		t.Errorf("WordsOf of %s: %s, want %s", brief(line), brief(got), brief(words))
	}
}

func TestWordsOf(t *testing.T) {
	for _, none := range []string{"", " ", "  ", strings.Repeat(" ", 70), strings.Repeat(" ", 100000)} {
		wantWordsOf(t, none)
	}
	for _, one := range []string{"a", " a", "a ", "  a   ", strings.Repeat(" ", 99) + "a"} {
		wantWordsOf(t, one, "a")
	}
	wantWordsOf(t, "lead 0", "lead", "0")
	wantWordsOf(t, "  b   a  b ", "b", "a", "b")
	wantWordsOf(t, "say 0 open 2 9 3", "say", "0", "open", "2", "9", "3")
	wantWordsOf(t, "1 22  333   22    1", "1", "22", "333", "22", "1")
	for b := range 256 {
		if b == 32 {
			continue
		}
		word := string([]byte{byte(b)})
		wantWordsOf(t, word, word)
		wantWordsOf(t, " "+word+" ", word)
		wantWordsOf(t, "a"+word+"b c"+word+" "+word+"d", "a"+word+"b", "c"+word, word+"d")
		wantWordsOf(t, word+word+" "+word, word+word, word)
	}
	// What looks like a blank in other alphabets, whole and cut.
	for _, word := range []string{"\u00a0", "\u2003", "\u3000", "\u1680", "\u0085", "\ufeff", "\u2028", "\xe2\x80", "\xc2", "\xf0\x9f", "\xff\xfe", "\t\n\r\v\f\x00"} {
		wantWordsOf(t, word, word)
		wantWordsOf(t, "a"+word+"b  "+word, "a"+word+"b", word)
		wantWordsOf(t, word+" "+word+"c", word, word+"c")
	}
}

func TestWordsOfLongLines(t *testing.T) {
	long := strings.Repeat("x", 100000)
	wantWordsOf(t, long, long)
	wantWordsOf(t, long+"  "+long+"y ", long, long+"y")
	for _, count := range []int{2, 59, 60, 61, 200, 1500, 20000} {
		var words []string
		for i := range count {
			words = append(words, strconv.Itoa(i))
		}
		wantWordsOf(t, strings.Join(words, " "), words...)
		wantWordsOf(t, "  "+strings.Join(words, "   ")+" ", words...)
	}
	p := newPair()
	for _, line := range []string{long, long + " 0", "lead " + long, strings.Repeat("0 ", 100000), strings.Repeat("0", 100000), "lead " + strings.Repeat("0", 100000), "lead 0" + strings.Repeat(" 0", 100000), "reach 0 2 5 " + long} {
		wantLineCode(t, p, line, impl.ErrText)
	}
	blanks := strings.Repeat(" ", 100000)
	wantLineIs(t, p, blanks, p, "")
	wantLineIs(t, p, blanks+"lead"+blanks+"0"+blanks, impl.LeadPair(p, 0).Pair, "ok")
}

func TestWordsOfByChance(t *testing.T) {
	r := rand.New(rand.NewSource(161))
	for range 20000 {
		line := make([]byte, r.Intn(30))
		for i := range line {
			line[i] = []byte{' ', ' ', 'a', '7', '\t', '\n', 0, 31, 33, 127, 128, 160, 255, 0xc2, 0xe2}[r.Intn(15)]
		}
		wantWordsOf(t, string(line), wordsOfBytes(string(line))...)
	}
}

func TestSayText(t *testing.T) {
	codes := map[int64]map[int64]int{}
	list := append(rightMessages(), faultyMessages()...)
	for _, a := range []impl.Attrs{{Origin: 3}, {Path: []int64{0}}, {Path: []int64{7, 65536}}, {Next: -1}, {Local: 65536}, {Path: longPath(7)}} {
		list = append(list, updateMessage(impl.Update{Has: true, Attrs: a, Reach: []impl.Prefix{{}}}), updateMessage(impl.Update{Attrs: a}), updateMessage(impl.Update{Gone: []impl.Prefix{{Len: 17}}, Attrs: a}))
	}
	for _, n := range []int64{math.MinInt64, -1, 0, 1, 2, 3, 7, 21, 201, 65535, 65536, math.MaxInt64} {
		for _, m := range oneOfEachKind() {
			numbers, _ := numbersOf(&m)
			for _, number := range numbers {
				was := *number
				*number = n
				list = append(list, m)
				*number = was
			}
			m.Kind = n
			list = append(list, m)
		}
	}
	for _, m := range list {
		got := impl.SayText(m)
		want := impl.BytesResult{Code: wordsMessageFault(m)}
		if want.Code == impl.OK {
			want.Bytes = stream(m)
		}
		if !reflect.DeepEqual(got, want) || !reflect.DeepEqual(got, impl.PackMessage(m)) {
			t.Errorf("SayText of %v: %v, want %v", m, got, want)
		}
		if codes[m.Kind] == nil {
			codes[m.Kind] = map[int64]int{}
		}
		codes[m.Kind][got.Code]++
	}
	for kind, want := range [][]int64{{impl.ErrForm}, {impl.OK, impl.ErrForm, impl.ErrRange}, {impl.OK, impl.ErrForm, impl.ErrMany, impl.ErrRange}, {impl.OK, impl.ErrForm, impl.ErrRange}, {impl.OK, impl.ErrForm}} {
		for _, code := range want {
			if codes[int64(kind)][code] == 0 {
				t.Errorf("no message of the kind %d has the code %d", kind, code)
			}
		}
	}
	if got := impl.SayText(keepMessage()); !bytes.Equal(got.Bytes, []byte{255, 255, 0, 5, 4}) {
		t.Errorf("a keep is %v", got)
	}
}

func wantPairText(t *testing.T, p impl.Pair, text string) {
	t.Helper()
	if got := impl.PairText(p); got != (impl.TextResult{Text: text}) || text != wordsPairText(p) {
		t.Errorf("PairText of %s: %v, want %q", pairBrief(p), got, text)
	}
	for _, bad := range []string{"  ", " \n", "\n ", "\n\n"} {
		if strings.Contains(text, bad) || strings.HasPrefix(text, " ") || !strings.HasSuffix(text, "\n") || strings.Count(text, "\n") != 6 {
			t.Errorf("%q is not laid out as it should be", text)
		}
	}
	wantLineIs(t, p, "show", p, text)
	wantSaid(t, p, "show", text)
	wantSaid(t, p, "show\n\nshow", text+text)
}

func TestPairText(t *testing.T) {
	p := newPair()
	wantPairText(t, p, "node 0 up standby 0 0 0 0\nnode 1 up standby 0 0 0 0\nwire 0 0 0 0 0\nwire 1 0 0 0 0\nwire 2 0 0 0 0\nmails 0 0\n")
	wantPairText(t, afterMoves(t, p, pairLead(1)), "node 0 up standby 0 0 0 0\nnode 1 up active 1 0 0 0\nwire 0 1 0 0 0\nwire 1 1 0 0 0\nwire 2 1 0 0 0\nmails 0 0\n")
	wantPairText(t, afterMoves(t, p, pairLead(0), pairCrash(1, 0)), "node 0 up active 1 0 0 0\nnode 1 down standby 0 0 0 0\nwire 0 1 0 0 0\nwire 1 1 0 0 0\nwire 2 1 0 0 0\nmails 0 0\n")
	wantPairText(t, richPair(), "node 0 up active 7 6 3 2\nnode 1 up standby 7 5 5 1\nwire 0 7 50 4 7\nwire 1 7 61 30 59\nwire 2 7 200 200 130\nmails 5 2\n")
	full := rightPairs()
	p = full[len(full)-1]
	wantPairText(t, p, "node 0 up active 7 6 3 2\nnode 1 up standby 7 5 5 1\nwire 0 7 2000 1999 2000\nwire 1 1000 2000 0 0\nwire 2 0 0 0 2000\nmails 40 100\n")
	p = standbysOf(logOf(times(9, 100)...), logOf(times(10, 12)...), logOf(times(9, 10)...))
	p.Nodes[0].Epoch, p.Nodes[0].Sure, p.Nodes[0].Commit = 1000, 99, 98
	p.Nodes[1].Up = false
	p.Wires = []impl.Wire{someWire(10, 11, 9, 100), someWire(100, 101, 99, 9), someWire(999, 1001, 1000, 10)}
	p.Mails = manyMails(10)
	wantPairText(t, p, "node 0 up standby 1000 100 99 98\nnode 1 down standby 20 12 12 0\nwire 0 10 11 9 100\nwire 1 100 101 99 9\nwire 2 999 1001 1000 10\nmails 10 10\n")
	for _, p := range rightPairs() {
		wantPairText(t, p, wordsPairText(p))
	}
}

// TestPlacesOfPairText: each number of a pair is told at one place, and changes no other word.
func TestPlacesOfPairText(t *testing.T) {
	p := standbysOf(logOf(times(9, 30)...), logOf(times(9, 40)...), logOf(times(9, 5)...))
	p.Nodes[0].Sure, p.Nodes[1].Sure = 20, 21
	p.Mails = manyMails(3)
	for peer := range p.Wires {
		p.Wires[peer] = someWire(20, 60, 50, 70)
	}
	type change struct {
		line, word int
		to         string
		bend       func(p *impl.Pair)
	}
	list := []change{{5, 1, "2", func(p *impl.Pair) { p.Mails = p.Mails[:2] }}, {5, 2, "6", func(p *impl.Pair) { p.Sealed = append(p.Sealed, p.Sealed[0]) }}}
	for node := range 2 {
		list = append(list,
			change{node, 4, "700", func(p *impl.Pair) { p.Nodes[node].Epoch = 700 }}, change{node, 5, "27", func(p *impl.Pair) { p.Nodes[node].Log = p.Nodes[node].Log[:27] }},
			change{node, 6, "18", func(p *impl.Pair) { p.Nodes[node].Sure = 18 }}, change{node, 7, "17", func(p *impl.Pair) { p.Nodes[node].Commit = 17 }},
			change{node, 3, "active", func(p *impl.Pair) { p.Nodes[node].Role = impl.RoleActive }}, change{node, 0, "node", func(p *impl.Pair) { p.Nodes[node].Match = 9 }},
			change{node, 2, "down", func(p *impl.Pair) {
				p.Nodes[node].Up, p.Nodes[node].Log = false, p.Nodes[node].Log[:p.Nodes[node].Sure]
			}})
	}
	for peer := range 3 {
		list = append(list,
			change{2 + peer, 2, "800", func(p *impl.Pair) { p.Wires[peer].Epoch = 800 }}, change{2 + peer, 3, "1500", func(p *impl.Pair) { p.Wires[peer].Sent = bodyOf(1500) }},
			change{2 + peer, 4, "8", func(p *impl.Pair) { p.Wires[peer].Taken = 8 }}, change{2 + peer, 5, "0", func(p *impl.Pair) { p.Wires[peer].Got = nil }})
	}
	for _, c := range list {
		q := bent(p, c.bend)
		lines := linesOf(wordsPairText(p))
		words := strings.Split(lines[c.line], " ")
		if words[c.word] == c.to && c.word > 0 {
			t.Fatalf("%q was there already", c.to)
		}
		words[c.word] = c.to
		if c.to == "down" {
			words[5] = words[6]
		}
		lines[c.line] = strings.Join(words, " ")
		wantPairText(t, q, strings.Join(lines, "\n")+"\n")
	}
}

// someLines are right and wrong.
func someLines(t *testing.T) []string {
	lines, _ := examples(t)
	return append(lines, "", " ", "wink", "lead", "lead 9", "lead x", "sync 0 0", "deliver 99", "crash 0 99999", "take 0 0 61", "take 2 3 9", "settle 0 151", "settle 2 1", "say 9 keep", "say 0 open 0 0 0", "say 0 notify 9 9", "reach 0 0 0 x",
		"reach 9 0 0 10.0/8", "reach 0 1 1 10.1/8", "start 0 9", "show 0", "\n", "show\n", "lead 0\nlead 1", strings.Repeat(" ", 1501), strings.Repeat("\n", 61))
}

func TestFaultsOfAPairInScripts(t *testing.T) {
	lines := someLines(t)
	for i, p := range faultyPairs(t) {
		code := wordsPairFault(p)
		if got := impl.PairText(p); got != (impl.TextResult{Code: code}) {
			t.Errorf("PairText of %s: %v, want code %d", pairBrief(p), got, code)
		}
		for j, line := range lines {
			// All lines at some pairs, and some lines at all pairs.
			if i%20 > 0 && (i+j)%9 > 0 {
				continue
			}
			wantScript(t, p, line, impl.StepScript(p, line), scriptCode(code))
			wantScript(t, p, line, impl.RunScript(p, line), scriptCode(code))
			wantLine(t, p, line)
			wantRun(t, p, line+"\nshow\n")
		}
	}
	// Where there is none, each of these has the code that it has, or none.
	for _, line := range lines {
		wantLine(t, newPair(), line)
	}
}

func TestALineFeedInALine(t *testing.T) {
	lines, pairs := examples(t)
	for i, line := range append(lines, "", " ", "   ", "a") {
		p := newPair()
		if i < len(pairs) {
			p = pairs[i]
			if got := wantLine(t, p, line); got.Code != impl.OK {
				t.Fatalf("%q at %s has the code %d", line, pairBrief(p), got.Code)
			}
		}
		for at := range len(line) + 1 {
			wantScript(t, p, line, impl.StepScript(p, line[:at]+"\n"+line[at:]), scriptCode(impl.ErrText))
		}
	}
}

func TestLinesOfNoWords(t *testing.T) {
	for _, p := range append(rightPairs(), toughPair(t)) {
		for _, line := range []string{"", " ", "  ", strings.Repeat(" ", 1499)} {
			wantLineIs(t, p, line, p, "")
			wantSaid(t, p, line, "")
			wantSaid(t, p, line+"\n", "")
		}
	}
}

// TestExamplesOfLines: each does something, and what is told in other numbers or words is not the same.
func TestExamplesOfLines(t *testing.T) {
	lines, pairs := examples(t)
	for i, line := range lines {
		p := pairs[i]
		if line == "show" {
			wantLineIs(t, p, line, p, impl.PairText(p).Text)
			continue
		}
		call, _ := callOf(line)
		then := call(p)
		if then.Code != impl.OK || samePair(then.Pair, p) && !strings.HasPrefix(line, "give") {
			t.Fatalf("%q at %s: %d", line, pairBrief(p), then.Code)
		}
		wantLineIs(t, p, line, then.Pair, "ok")
		wantLineIs(t, p, "  "+strings.ReplaceAll(line, " ", "   ")+" ", then.Pair, "ok")
	}
	// The calls by their own names, once each.
	p, up := toughPair(t), afterMoves(t, toughPair(t), pairRise(1))
	for _, c := range []struct {
		line string
		was  impl.Pair
		then impl.PairResult
	}{
		{"lead 1", up, impl.LeadPair(up, 1)}, {"sync 0", p, impl.SyncPair(p, 0)}, {"sync 1", up, impl.SyncPair(up, 1)}, {"spread 0", p, impl.SpreadPair(p, 0)}, {"rise 1", p, impl.RisePair(p, 1)},
		{"crash 0 1", p, impl.CrashPair(p, 0, 1)}, {"take 0 1 2", p, impl.TakePair(p, 0, 1, 2)}, {"start 0 2", p, impl.EventPair(p, 0, impl.Event{Kind: impl.EventStart, Peer: 2})},
		{"stop 0 1", p, impl.EventPair(p, 0, impl.Event{Kind: impl.EventStop, Peer: 1})}, {"tick 0", p, impl.EventPair(p, 0, impl.Event{Kind: impl.EventTick})},
		{"deliver 1", p, impl.DeliverPair(p, 1, false)}, {"keep 1", p, impl.DeliverPair(p, 1, true)}, {"lose 1", p, impl.LosePair(p, 1)}, {"give 0 1", p, impl.GivePair(p, 0, 1)}, {"settle 0 2", p, impl.SettlePair(p, 0, 2)},
		{"say 1 open 2 9 3", p, impl.SayPair(p, 1, []byte{255, 255, 0, 10, 1, 0, 2, 9, 0, 3})}, {"say 2 keep", p, impl.SayPair(p, 2, []byte{255, 255, 0, 5, 4})}, {"say 0 notify 6 2", p, impl.SayPair(p, 0, []byte{255, 255, 0, 7, 3, 6, 2})},
		{"reach 0 2 5 10.0/8", p, impl.SayPair(p, 0, []byte{255, 255, 0, 19, 2, 0, 1, 0, 2, 0, 0, 5, 0, 0, 0, 0, 10, 0, 8})},
	} {
		if c.then.Code != impl.OK {
			t.Errorf("%q has the code %d", c.line, c.then.Code)
		}
		wantLineIs(t, c.was, c.line, c.then.Pair, "ok")
	}
}

// isErrText holds a line to be none of those that are told, or one of them, whatever its code.
func isErrText(t *testing.T, p impl.Pair, line string, want bool) {
	t.Helper()
	if got := wantLine(t, p, line); (got.Code == impl.ErrText) != want {
		t.Errorf("%q at %s: %d", line, pairBrief(p), got.Code)
	}
}

func TestLinesOfOtherWords(t *testing.T) {
	p := toughPair(t)
	lines, _ := examples(t)
	for _, line := range lines {
		isErrText(t, p, line, false)
		words := strings.Split(line, " ")
		for place, word := range words {
			with := func(word string) string {
				return strings.Join(slices.Concat(words[:place], []string{word}, words[place+1:]), " ")
			}
			gone := strings.Join(slices.Concat(words[:place], words[place+1:]), " ")
			if gone != "" {
				isErrText(t, p, gone, true)
			}
			for _, more := range []string{"0", "keep", "show", "lead", "10.0/8", "x"} {
				isErrText(t, p, strings.Join(slices.Insert(slices.Clone(words), place, more), " "), true)
				isErrText(t, p, line+" "+more, true)
			}
			if word[0] < 'a' {
				continue
			}
			for _, other := range []string{strings.ToUpper(word), strings.ToUpper(word[:1]) + word[1:], word + "s", word[1:] + "-", word[:len(word)-1] + "_", "x" + word, word + "\t", "\x00" + word, word + "\u00a0", "N", "W", "wink", "0"} {
				isErrText(t, p, with(other), true)
			}
		}
		// Words that are not apart, and words that are by something else than a blank.
		if len(words) > 1 {
			isErrText(t, p, strings.Join(words, ""), true)
			for _, between := range []string{"\t", ",", "\r", "\x00", "\u00a0", "\u3000"} {
				isErrText(t, p, strings.Join(words, between), true)
				isErrText(t, p, strings.Replace(line, " ", between, 1), true)
			}
		}
		isErrText(t, p, line+"\r", true)
		isErrText(t, p, "\t"+line, true)
	}
	for _, f := range wordsForms() {
		isErrText(t, p, f.form, true)
	}
	for _, line := range []string{"wink", "0", "say", "say 0", "say keep", "say keep 0", "say 0 update", "say 0 reach 2 5 10.0/8", "say 0 close", "say 0 open", "say 0 keep 0", "say 0 notify", "say 0 open 2 9", "say 0 open 2 9 3 4", "say 0 notify 6", "say 0 notify 6 2 1",
		"open 0 2 9 3", "notify 0 6 2", "reach 0 2 10.0/8", "reach 0 2 5 7 10.0/8", "reach 10.0/8 2 5 0", "show 0", "show show", "! 5", "ok", "node 0", "mails", "tick", "tick 0 0", "event 0", "input 0 0", "lead0", "lead 0 0", "#", "-", "lose", "keep", "keep 0 0", "deliver", "N", "W"} {
		isErrText(t, p, line, true)
	}
}

func TestNumbersOfLines(t *testing.T) {
	good := []string{"0", "1", "2", "9", "00", "01", "000", "0001", "00000", "00002", "00060", "12345", "65535", "65536", "99999", "09999"}
	bad := []string{"000000", "000001", "100000", "123456", "999999", "0000000000", "9223372036854775807", "9223372036854775808", "18446744073709551616", "18446744073709551617", "+1", "-1", "-0", "+0", "1-", "1+", "0x1", "1.0", "1.", ".1", "1e1", "1_0", "1,0", "a", "0a", "a0", "1a1", "O", "l",
		"/", ":", "0/", ":0", "1:1", "1/1", "1\t", "\t1", "1\r", "\x001", "1\x00", "1\x7f", "1\x80", "\xff", "\u0661", "\uff11", "\u00b2", "1\u00a0", "'1'", "\"1\"", "one", "keep", "N", "W", "10.0/8"}
	p := toughPair(t)
	lines, _ := examples(t)
	for _, line := range lines {
		words := strings.Split(line, " ")
		for place, word := range words {
			if word[0] > '9' || strings.Contains(word, "/") {
				continue
			}
			with := func(word string) string {
				return strings.Join(slices.Concat(words[:place], []string{word}, words[place+1:]), " ")
			}
			for _, number := range good {
				isErrText(t, p, with(number), false)
			}
			for _, number := range bad {
				isErrText(t, p, with(number), true)
			}
			// Noughts ahead change nothing.
			for _, noughts := range []string{"0", "00", "000", "0000"} {
				a, b := impl.StepScript(p, line), impl.StepScript(p, with(noughts+word))
				if !reflect.DeepEqual(a, b) {
					t.Errorf("%q and %q are not the same", line, with(noughts+word))
				}
			}
		}
	}
}

// sentBy is what the line lets the peer say, as a message that is read back.
func sentBy(t *testing.T, line string, peer int64) impl.Message {
	t.Helper()
	p := newPair()
	p.Wires[peer].Sent = bodyOf(9)
	got := wantLine(t, p, line)
	if got.Code != impl.OK || got.Said != "ok" || !bytes.HasPrefix(got.Pair.Wires[peer].Sent, bodyOf(9)) {
		t.Fatalf("%q: %s", line, brief(got))
	}
	read := impl.ReadMessages(got.Pair.Wires[peer].Sent[9:])
	if read.Code != impl.OK || len(read.Messages) != 1 || int(read.Used) != len(got.Pair.Wires[peer].Sent)-9 {
		t.Fatalf("%q: %s", line, brief(read))
	}
	return read.Messages[0]
}

func TestSayLines(t *testing.T) {
	want := func(line string, peer int64, m impl.Message) {
		t.Helper()
		if got := sentBy(t, line, peer); !sameMessages(got, m) {
			t.Errorf("%q: %+v, want %+v", line, got, m)
		}
	}
	for peer := range int64(3) {
		for _, n := range [][3]int64{{2, 9, 3}, {3, 2 + 1, 9}, {65535, 200, 1}, {1, 0, 65535}, {256, 3, 255}, {11111, 111, 22222}} {
			want(fmt.Sprintf("say %d open %d %d %d", peer, n[0], n[1], n[2]), peer, impl.Message{Kind: impl.KindOpen, As: n[0], Hold: n[1], Id: n[2]})
		}
		for why := int64(1); why <= 6; why++ {
			for _, sub := range []int64{0, 1, 7, 20} {
				want(fmt.Sprintf("say %d notify %d %d", peer, why, sub), peer, notifyOf(why, sub))
			}
		}
		want(fmt.Sprintf("say %d keep", peer), peer, keepMessage())
		want(fmt.Sprintf(" say  %d   keep  ", peer), peer, keepMessage())
	}
	p := newPair()
	for _, bad := range []string{"open 0 9 3", "open 65536 9 3", "open 99999 9 3", "open 2 1 3", "open 2 2 3", "open 2 201 3", "open 2 99999 3", "open 2 9 0", "open 2 9 65536", "notify 0 2", "notify 7 2", "notify 6 21", "notify 99999 0", "notify 1 99999"} {
		wantLineCode(t, p, "say 0 "+bad, impl.ErrRange)
	}
	for _, peer := range []string{"3", "4", "00003", "99999"} {
		for _, message := range []string{"open 2 9 3", "keep", "notify 6 2"} {
			wantLineCode(t, p, "say "+peer+" "+message, impl.ErrRange)
		}
	}
	for _, message := range []string{"open 2 9 3", "keep", "notify 6 2"} {
		size := len(wantLine(t, p, "say 1 "+message).Pair.Wires[1].Sent)
		for left := range size + 2 {
			q := bent(p, func(p *impl.Pair) { p.Wires[1].Sent = bodyOf(2000 - left) })
			if got := wantLine(t, q, "say 1 "+message); got.Code != codeIf(left < size, impl.ErrMany) {
				t.Errorf("%q with room for %d: %d", message, left, got.Code)
			}
		}
	}
}

func TestReachLines(t *testing.T) {
	want := func(line string, peer int64, path, next int64, reached impl.Prefix) {
		t.Helper()
		u := impl.Update{Has: true, Attrs: impl.Attrs{Path: []int64{path}, Next: next}, Reach: []impl.Prefix{reached}}
		if got := sentBy(t, line, peer); !sameMessages(got, updateMessage(u)) {
			t.Errorf("%q: %+v, want %+v", line, got, u)
		}
	}
	for peer := range int64(3) {
		for _, n := range [][2]int64{{2, 5}, {5, 2}, {1, 0}, {65535, 65535}, {256, 1}, {1, 256}} {
			for _, p := range append(rightPrefixes()[:20], impl.Prefix{Addr: 2560, Len: 8}, impl.Prefix{}, impl.Prefix{Addr: 65535, Len: 16}) {
				want(fmt.Sprintf("reach %d %d %d %s", peer, n[0], n[1], impl.PrefixText(p).Text), peer, n[0], n[1], p)
			}
		}
	}
	want("reach 0 00007 00000 10.0/8", 0, 7, 0, impl.Prefix{Addr: 2560, Len: 8})
	p := newPair()
	for word, code := range map[string]int64{"10.0": 5, "x": 5, "10": 5, "10.0/": 5, "/": 5, ".": 5, "010.0/8": 5, "10.00/8": 5, "10.0/08": 5, "256.0/8": 5, "10.256/8": 5, "10.0/8x": 5, "10.0/8/": 5, "-1.0/8": 5, "10.0/1000": 5, "\t10.0/8": 5, "10.0/8\xff": 5, "10.0/17": 3, "10.0/999": 3, "10.1/8": 1, "255.255/15": 1, "0.1/0": 1, "show": 5, "W": 5, "0": 5} {
		wantLineCode(t, p, "reach 0 2 5 "+word, code)
	}
	for _, bad := range []string{"0 2 65536", "0 2 99999", "0 0 5", "0 00000 5", "0 65536 5", "0 99999 5", "3 2 5", "99999 2 5"} {
		wantLineCode(t, p, "reach "+bad+" 10.0/8", impl.ErrRange)
	}
	for left := range 25 {
		q := bent(p, func(p *impl.Pair) { p.Wires[2].Sent = bodyOf(2000 - left) })
		if got := wantLine(t, q, "reach 2 2 5 10.0/8"); got.Code != codeIf(left < 19, impl.ErrMany) {
			t.Errorf("with room for %d: %d", left, got.Code)
		}
	}
}

// TestWhichCodeOfALine: where several are so, which one is told.
func TestWhichCodeOfALine(t *testing.T) {
	full := newPair()
	for peer := range full.Wires {
		full.Wires[peer] = someWire(1000, 2000, 0, 2000)
	}
	full.Mails = manyMails(40)
	for line, code := range map[string]int64{
		// What has a line feed or is none of the lines, ahead of all codes of the call.
		"lead 0\n": 5, "lead x": 5, "lead 0 x": 5, "lead 000000": 5, "take 9 9 x": 5, "take x 9 99": 5, "settle 0 x": 5, "settle x 151": 5, "say 9 open 0 0 x": 5, "say x open 0 0 0": 5, "say 9 close": 5, "say 0 keep 1": 5, "say 0 notify 9 x": 5, "reach x 0 0 10.1/8": 5, "reach 9 0 x 10.0/17": 5, "deliver x": 5, "keep 0 0": 5, "crash 0 -1": 5,
		// The code of ParsePrefix ahead of those of the message and of SayPair.
		"reach 9 0 99999 x": 5, "reach 9 0 99999 10.0": 5, "reach 0 0 5 10.1/8": 1, "reach 9 2 5 10.1/8": 1, "reach 0 2 5 10.1/8": 1, "reach 0 2 5 x": 5, "reach 0 2 5 10.0/17": 3,
		// The code of SayText ahead of that of SayPair.
		"say 0 open 0 9 3": 3, "say 0 open 2 1 3": 3, "say 0 notify 7 2": 3, "reach 0 0 5 10.0/8": 3, "reach 0 2 65536 10.0/8": 3, "say 9 open 0 9 3": 3,
		// What is of the call alone.
		"say 0 open 2 9 3": 2, "say 0 keep": 2, "say 0 notify 6 2": 2, "reach 0 2 5 10.0/8": 2, "say 3 open 2 9 3": 3, "say 3 keep": 3, "say 3 notify 6 2": 3, "reach 3 2 5 10.0/8": 3,
		"lead 0": 2, "lead 2": 3, "sync 2": 3, "spread 0": 10, "spread 2": 3, "rise 0": 10, "rise 2": 3, "crash 0 1": 3, "crash 2 0": 3, "take 0 0 61": 10, "take 2 0 0": 3, "take 0 3 0": 3, "start 0 0": 10, "start 2 0": 3, "start 0 3": 10, "stop 0 0": 10, "stop 2 9": 3, "tick 0": 10, "tick 2": 3,
		"deliver 40": 4, "keep 40": 4, "lose 40": 4, "deliver 99999": 4, "give 0 0": 10, "give 2 0": 3, "give 0 3": 3, "settle 0 151": 3, "settle 2 0": 3, "settle 0 1": 2,
	} {
		wantLineCode(t, full, line, code)
		// And ahead of them all the fault of the pair.
		for _, bend := range []func(p *impl.Pair){func(p *impl.Pair) { p.Nodes = nil }, func(p *impl.Pair) { p.Mails = manyMails(41) }} {
			q := bent(full, bend)
			wantScript(t, q, line, impl.StepScript(q, line), scriptCode(wordsPairFault(q)))
		}
	}
}

// TestCodesOfEachLine: over many pairs and numbers each form has just the codes of its call.
func TestCodesOfEachLine(t *testing.T) {
	r := rand.New(rand.NewSource(162))
	codes := map[string]map[int64]int{}
	pairs := append(rightPairs(), toughPair(t), settledTalk(t, 0), settledTalk(t, 1), leaderOf(0, inputOf(0, 97)), leaderOf(1), floodedPair(flood(20, 3)...))
	pairs = append(pairs, bent(settledTalk(t, 0), func(p *impl.Pair) { p.Wires[0].Epoch = 1000 }), bent(settledTalk(t, 0), func(p *impl.Pair) { p.Wires[1].Got[3]++ }), bent(pairs[len(pairs)-1], func(p *impl.Pair) { p.Nodes[1].Epoch = 21 }))
	for range 30 {
		pairs = append(pairs, somePairBy(r), bent(newPair(), func(p *impl.Pair) { p.Wires[0].Sent = bodyOf(1990 + r.Intn(11)) }))
	}
	numbers := []int64{0, 0, 0, 0, 1, 1, 1, 2, 2, 3, 4, 9, 20, 21, 40, 60, 61, 150, 151, 200, 201, 1000, 65535, 65536, 99999}
	prefixes := []string{"10.0/8", "0.0/0", "255.255/16", "10.1/8", "10.0/17", "10.0", "x"}
	for _, p := range pairs {
		for _, f := range wordsForms() {
			if codes[f.form] == nil {
				codes[f.form] = map[int64]int{}
			}
			for range 16 {
				words := strings.Split(f.form, " ")
				for place, word := range words {
					if word == "N" {
						words[place] = strconv.FormatInt(numbers[r.Intn(len(numbers))/(1+r.Intn(3))], 10)
					} else if word == "W" {
						words[place] = prefixes[r.Intn(len(prefixes))]
					}
				}
				got := impl.StepScript(p, strings.Join(words, " "))
				wantScript(t, p, strings.Join(words, " "), got, wordsLine(p, strings.Join(words, " ")))
				codes[f.form][got.Code]++
			}
		}
	}
	for form, want := range map[string][]int64{
		"lead N": {0, 2, 3, 9, 10}, "sync N": {0, 3, 10}, "spread N": {0, 3, 10}, "rise N": {0, 3, 10}, "crash N N": {0, 3, 10}, "take N N N": {0, 2, 3, 9, 10}, "start N N": {0, 2, 3, 10}, "stop N N": {0, 2, 3, 10}, "tick N": {0, 2, 3, 10},
		"deliver N": {0, 4}, "keep N": {0, 4}, "lose N": {0, 4}, "give N N": {0, 3, 7, 9, 10}, "settle N N": {0, 2, 3, 7, 9, 10}, "say N open N N N": {0, 2, 3}, "say N keep": {0, 2, 3}, "say N notify N N": {0, 2, 3}, "reach N N N W": {0, 1, 2, 3, 5},
	} {
		if got := slices.Sorted(maps.Keys(codes[form])); !slices.Equal(got, want) {
			t.Errorf("%q has the codes %v, want %v", form, got, want)
		}
	}
}

func TestSizesOfScripts(t *testing.T) {
	if impl.MaxScript != 1500 || impl.MaxLines != 60 {
		t.Errorf("MaxScript is %d, MaxLines %d", impl.MaxScript, impl.MaxLines)
	}
	for _, p := range []impl.Pair{newPair(), richPair(), toughPair(t)} {
		many := func(text string, isMany bool) {
			t.Helper()
			if got := wantRun(t, p, text); (got.Code == impl.ErrMany) != isMany || got.Code != codeIf(isMany, impl.ErrMany) {
				t.Errorf("%d bytes, %d lines: %d", len(text), len(linesOf(text)), got.Code)
			}
		}
		for size := 1497; size < 1504; size++ {
			many(strings.Repeat(" ", size), size > 1500)
			many(strings.Repeat(" ", size-1)+"\n", size > 1500)
			many("\n"+strings.Repeat(" ", size-1), size > 1500)
			many("show"+strings.Repeat(" ", size-5)+"\n", size > 1500)
			many(strings.Repeat("x", size), size > 1500)
			many(strings.Repeat("show\n", 20)+strings.Repeat("\xff", size-100), size > 1500)
		}
		for count := 57; count < 64; count++ {
			for _, line := range []string{"", " ", "show", "lead 0", "wink", "say 0 keep", "settle 0 3"} {
				if text := strings.Repeat(line+"\n", count); line != "" {
					many(text[:len(text)-1], count > 60)
				}
				many(strings.Repeat(line+"\n", count), count > 60)
				many(strings.Repeat(line+"\n", count-1)+" ", count > 60)
				many(strings.Repeat(line+"\n", count-1)+"lead 0", count > 60)
			}
		}
		many(strings.Repeat("\n", 1500), true)
		many(strings.Repeat("\n", 1501), true)
		many(strings.Repeat("x", 100000), true)
		many(strings.Repeat("\n", 59)+strings.Repeat(" ", 1441), false)
		many(strings.Repeat("\n", 59)+strings.Repeat(" ", 1442), true)
		many(strings.Repeat(strings.Repeat(" ", 24)+"\n", 60), false)
	}
}

func TestRunScript(t *testing.T) {
	p := newPair()
	for _, text := range []string{"", "\n", "\n\n", " ", " \n  \n", "   \n\n "} {
		if got := wantSaid(t, p, text, ""); !samePair(got, p) {
			t.Errorf("%q changes the pair", text)
		}
	}
	led := impl.LeadPair(p, 0).Pair
	show := impl.PairText(led).Text
	for _, c := range []struct {
		text, said string
		then       impl.Pair
	}{
		{"lead 0", "ok\n", led}, {"lead 0\n", "ok\n", led}, {"\nlead 0\n\n", "ok\n", led}, {"lead 0\n \n", "ok\n", led}, {"wink", "! 5\n", p}, {"wink\n", "! 5\n", p}, {"wink\nwink\n", "! 5\n! 5\n", p},
		{"lead 0\nwink\nshow", "ok\n! 5\n" + show, led}, {"wink\nlead 0\nlead 2\n", "! 5\nok\n! 3\n", led}, {"lead 0\nshow\n", "ok\n" + show, led}, {"lead 0\nshow", "ok\n" + show, led},
		{"lead 0\nshow\nshow\nrise 0\nlead 9", "ok\n" + show + show + "! 10\n! 3\n", led}, {"deliver 0\nlead 0\nkeep 0\nlose 9", "! 4\nok\n! 4\n! 4\n", led}, {"reach 0 2 5 10.1/8\nlead 0", "! 1\nok\n", led},
		{"lead 0\rshow\nlead 0", "! 5\nok\n", led}, {"lead 0\n\n\n\nwink\n\n", "ok\n! 5\n", led}, {"\n\nshow x\n\nlead 0", "! 5\nok\n", led}, {"lead 0\x00\nlead 0", "! 5\nok\n", led},
	} {
		if got := wantSaid(t, p, c.text, c.said); !samePair(got, c.then) {
			t.Errorf("%q leads to %s", c.text, pairBrief(got))
		}
	}
	// A line with a code, at any pair, between any two.
	lines := someLines(t)
	for _, p := range []impl.Pair{newPair(), toughPair(t), richPair(), settledTalk(t, 1)} {
		for _, first := range lines {
			for _, wrong := range []string{"wink", "lead 9", "deliver 99", "crash 0 99999", "reach 0 2 5 10.1/8", "say 0 open 0 0 0"} {
				if strings.Contains(first, "\n") || len(first) > 1000 {
					continue
				}
				got := wantRun(t, p, first+"\n"+wrong+"\nsay 1 keep\n")
				code := impl.StepScript(impl.RunScript(p, first).Pair, wrong).Code
				then := wantRun(t, p, first+"\nsay 1 keep\n")
				if !samePair(got.Pair, then.Pair) || code == impl.OK || got.Said != strings.TrimSuffix(then.Said, "ok\n")+fmt.Sprintf("! %d\nok\n", code) {
					t.Fatalf("%q behind %q at %s: %q", wrong, first, pairBrief(p), got.Said)
				}
			}
		}
	}
}

// TestWhatALineTellsIsForgotten: what a line tells is not told of the lines behind it.
func TestWhatALineTellsIsForgotten(t *testing.T) {
	p := impl.LeadPair(newPair(), 0).Pair
	lines := []string{"start 0 2", "tick 0", "say 2 open 65535 200 65535", "say 2 keep", "take 0 2 60", "tick 0", "crash 1 0", "say 1 notify 6 20", "tick 0", "reach 2 7 8 10.0/8", "reach 2 7 8 x", "tick 0", "say 2 open 5 5 x", "say 2 notify 1 x", "settle 0 9", "tick 0", "stop 0 1", "tick 0", "show"}
	for _, first := range lines {
		for _, second := range lines {
			wantRun(t, p, first+"\n"+second+"\n"+first+"\n"+second)
		}
	}
	wantSaid(t, p, "start 0 2\ntick 0\nstop 0 1\ntick 0\ntake 0 2 60\ntick 0\n", "ok\nok\nok\nok\nok\nok\n")
	got := wantRun(t, p, strings.Join(lines, "\n"))
	for _, n := range got.Pair.Nodes {
		for _, x := range n.Log {
			if x.Event.Kind == impl.EventTick && x.Event.Peer != 0 {
				t.Errorf("a tick is of the peer %d", x.Event.Peer)
			}
		}
	}
}

// TestExamplesOfTheDocument: those that can be told by lines.
func TestExamplesOfTheDocument(t *testing.T) {
	p := impl.NewPair(impl.Settings{Config: impl.Config{As: 9, Id: 4, Hold: 9}, Next: 77}).Pair
	if got := wantSaid(t, p, "say 0 keep\n", "ok\n"); !bytes.Equal(got.Wires[0].Sent, []byte{255, 255, 0, 5, 4}) {
		t.Errorf("a keep is % x", got.Wires[0].Sent)
	}
	got := wantSaid(t, p, "reach 0 2 5 10.0/8\n", "ok\n")
	if u := impl.ReadMessages(got.Wires[0].Sent).Messages[0].Update; u.Reach[0] != (impl.Prefix{Addr: 2560, Len: 8}) {
		t.Errorf("what is reached is %v", u)
	}
	// Node 0 leads, takes an open and a keep, both are synced and spread: the peer gets an open and a keep.
	text := "lead 0\nstart 0 0\nsay 0 open 2 9 3\nsay 0 keep\ntake 0 0 60\n"
	p = wantSaid(t, p, text, strings.Repeat("ok\n", 5))
	round := "spread 0\ndeliver 0\nlose 0\nsync 1\nsync 0\ndeliver 0\n"
	p = wantSaid(t, p, round+round, strings.Repeat("ok\n", 12))
	gave := wantSaid(t, p, "give 0 0\nshow\n", "ok\nnode 0 up active 1 2 2 2\nnode 1 up standby 1 2 2 0\nwire 0 1 15 15 15\nwire 1 1 0 0 0\nwire 2 1 0 0 0\nmails 0 2\n")
	want := stream(impl.Message{Kind: impl.KindOpen, As: 9, Hold: 9, Id: 4}, keepMessage())
	if !bytes.Equal(gave.Wires[0].Got, want) {
		t.Errorf("the peer gets % x", gave.Wires[0].Got)
	}
	// Node 0 crashes, node 1 leads and gives: the peer gets the same bytes, from the first on.
	for _, p := range []impl.Pair{p, gave} {
		next := wantSaid(t, p, "crash 0 0\nlead 1\ngive 1 0\n", "ok\nok\nok\n")
		if !bytes.Equal(next.Wires[0].Got, p.Wires[0].Got) || next.Wires[0].Epoch != 2 {
			t.Errorf("the peer got % x", next.Wires[0].Got)
		}
		next = wantSaid(t, next, "give 0 0\nrise 0\ngive 0 0\nsettle 1 8\nshow\n", "! 10\nok\n! 10\nok\nnode 0 up standby 3 3 3 0\nnode 1 up active 3 3 3 3\nwire 0 3 15 15 15\nwire 1 3 0 0 0\nwire 2 3 0 0 0\nmails 0 3\n")
		if !bytes.Equal(next.Wires[0].Got, want) || !impl.SettledPair(next) {
			t.Errorf("the peer got % x", next.Wires[0].Got)
		}
	}
	// Of two routes the better one is told: that of the shorter path.
	text = "start 0 1\nstart 0 2\nsay 1 open 3 9 3\nsay 1 keep\nsay 2 open 4 9 3\nsay 2 keep\nreach 1 3 5 10.0/8\ntake 0 1 60\ntake 0 2 60\nsettle 0 20\n"
	p = wantSaid(t, gave, text, strings.Repeat("ok\n", 10))
	u := impl.Update{Has: true, Attrs: impl.Attrs{Path: []int64{9, 3}, Next: 77}, Reach: []impl.Prefix{{Addr: 2560, Len: 8}}}
	for peer, count := range []int{3, 2, 3} {
		read := impl.ReadMessages(p.Wires[peer].Got).Messages
		if len(read) != count || count == 3 && !sameMessages(read[2], updateMessage(u)) {
			t.Errorf("peer %d got %+v", peer, read)
		}
	}
}

// scripter writes lines that are mostly right.
type scripter struct {
	*weather
	greeted [3]bool
	next    []string
}

// opening is what a peer says first.
func (s *scripter) opening(peer int64) []string {
	s.greeted[peer] = true
	return []string{fmt.Sprintf("say %d open %d %d %d", peer, 20+peer, []int{0, 30, 90}[s.Intn(3)], 3+peer), fmt.Sprintf("say %d keep", peer)}
}

func (s *scripter) saying(peer int64) string {
	// Some calls are of peers that are none.
	if peer >= 0 && peer < 3 && !s.greeted[peer] {
		lines := s.opening(peer)
		s.next = append(s.next, lines[1])
		return lines[0]
	}
	switch s.Intn(12) {
	case 0:
		return fmt.Sprintf("say %d notify %d %d", peer, s.Intn(8), s.Intn(22))
	case 1:
		return fmt.Sprintf("say %d open %d %d %d", peer, s.Intn(9), s.Intn(9), s.Intn(9))
	case 2, 3:
		return fmt.Sprintf("say %d keep", peer)
	}
	return fmt.Sprintf("reach %d %d %d %d.0/8", peer, 20+peer+int64(s.Intn(20)/19*s.Intn(80000)), s.Intn(70), s.Intn(260))
}

// lineOf is a line that stands for the call, or for something else that a peer says.
func (s *scripter) lineOf(m pairMove) string {
	switch m.Kind {
	case doSay:
		return s.saying(m.Peer)
	case doEvent:
		switch m.Event.Kind {
		case impl.EventTick:
			return fmt.Sprintf("tick %d", m.Node)
		case impl.EventStop:
			return fmt.Sprintf("stop %d %d", m.Node, m.Event.Peer)
		}
		return fmt.Sprintf("start %d %d", m.Node, m.Event.Peer)
	case doTake:
		return fmt.Sprintf("take %d %d %d", m.Node, m.Peer, m.Number)
	case doGive:
		return fmt.Sprintf("give %d %d", m.Node, m.Peer)
	case doCrash:
		return fmt.Sprintf("crash %d %d", m.Node, m.Number)
	case doLose:
		return fmt.Sprintf("lose %d", m.Number)
	case doDeliver:
		return fmt.Sprintf("%s %d", map[bool]string{true: "keep", false: "deliver"}[m.Keep], m.Number)
	}
	return fmt.Sprintf("%s %d", map[int]string{doLead: "lead", doSync: "sync", doSpread: "spread", doRise: "rise"}[m.Kind], m.Node)
}

func (s *scripter) line(p impl.Pair) string {
	if len(s.next) > 0 {
		line := s.next[0]
		s.next = s.next[1:]
		return line
	}
	switch s.Intn(40) {
	case 0:
		return strings.Repeat(" ", s.Intn(3))
	case 1:
		return []string{"wink", "lead", "show 1", "take 0 0", "SYNC 0", "sync 000000", "say 0 update", "settle 0 151", "\t", "\x00\xff"}[s.Intn(10)]
	case 2:
		return "show"
	case 3:
		return fmt.Sprintf("settle %d %d", s.Intn(2), s.Intn(16))
	}
	line := s.lineOf(s.weather.next(p))
	if s.Intn(9) == 0 {
		line = strings.Repeat(" ", s.Intn(3)) + strings.ReplaceAll(line, " ", strings.Repeat(" ", 1+s.Intn(3))) + strings.Repeat(" ", s.Intn(3))
	}
	return line
}

func newScripter(r *rand.Rand) *scripter {
	d := &director{talker: &talker{Rand: r, places: 12}, calm: []int{3, 5, 8, 12, 30, 200}[r.Intn(6)], haste: 13 + r.Intn(20)}
	return &scripter{weather: &weather{d, r.Intn(2) == 0, []int{3, 9, 40}[r.Intn(3)]}}
}

// greets lets the node lead, and all peers be heard.
func (s *scripter) greets(node int) {
	s.next = append(s.next, fmt.Sprintf("lead %d", node))
	for peer := range int64(3) {
		s.next = append(append(s.next, fmt.Sprintf("start %d %d", node, peer)), s.opening(peer)...)
	}
	for peer := range 3 {
		s.next = append(s.next, fmt.Sprintf("take %d %d 60", node, peer))
	}
}

// wantInTwo: a script that is cut behind a line feed does in two parts what it does in one.
func wantInTwo(t *testing.T, p impl.Pair, text string, places ...int) {
	t.Helper()
	whole := impl.RunScript(p, text)
	if whole.Code != impl.OK {
		t.Fatalf("%q at %s has the code %d", text, pairBrief(p), whole.Code)
	}
	for _, at := range places {
		first := impl.RunScript(p, text[:at])
		second := impl.RunScript(first.Pair, text[at:])
		if first.Code != impl.OK || second.Code != impl.OK || first.Said+second.Said != whole.Said || !reflect.DeepEqual(second.Pair, whole.Pair) {
			t.Fatalf("%q at %s, cut at %d: %q and %q, not %q", text, pairBrief(p), at, first.Said, second.Said, whole.Said)
		}
	}
}

// cutsOf are the places just behind each line feed.
func cutsOf(text string) []int {
	var places []int
	for at := range len(text) {
		if text[at] == '\n' {
			places = append(places, at+1)
		}
	}
	return places
}

// TestScriptsInTwoParts: the promise of scripts, at pairs of all kinds.
func TestScriptsInTwoParts(t *testing.T) {
	r := rand.New(rand.NewSource(163))
	pairs := append(rightPairs(), toughPair(t), settledTalk(t, 0), settledTalk(t, 1))
	for range 60 {
		pairs = append(pairs, somePairBy(r), impl.NewPair(settingsBy(r)).Pair)
	}
	codes := map[bool]int{}
	for _, p := range pairs {
		wantInTwo(t, p, "")
		wantInTwo(t, p, "\n\n \nshow\n\nwink\n \nshow", cutsOf("\n\n \nshow\n\nwink\n \nshow")...)
		s := newScripter(r)
		text, now := "", p
		for range 8 + r.Intn(50) {
			line := s.line(now)
			if len(text)+len(line) > 1490 {
				break
			}
			text += line + "\n"
			told := impl.StepScript(now, line)
			codes[told.Code == impl.OK]++
			if told.Code == impl.OK {
				now = told.Pair
			}
		}
		if r.Intn(2) == 0 {
			text += []string{"show", "wink", "  ", "lead 0", "say 0 keep"}[r.Intn(5)]
		}
		wantRun(t, p, text)
		wantInTwo(t, p, text, cutsOf(text)...)
	}
	if codes[true] < 1500 || codes[false] < 500 {
		t.Errorf("what became of the lines: %v", codes)
	}
}

// checkSettleLine: either node can lead, and each peer gets all.
func checkSettleLine(t *testing.T, p impl.Pair, node int64) (isSettled bool) {
	t.Helper()
	line := fmt.Sprintf("settle %d %d", node, roundsFor(p, node))
	got := impl.StepScript(p, line)
	log := append(slices.Clone(p.Nodes[node].Log), tickEntry(p.Wires[0].Epoch+1))
	isMany := len(log) > 100
	for _, out := range impl.RunRouter(p.Settings, eventsIn(log)).Out {
		isMany = isMany || len(out) > 2000
	}
	if isMany {
		wantScript(t, p, line, got, scriptCode(impl.ErrMany))
		return false
	}
	if got.Code != impl.OK || got.Said != "ok" || !impl.SettledPair(got.Pair) || !impl.SafePair(got.Pair) || !sameEntries(got.Pair.Sealed, log) {
		t.Fatalf("%q at %s: %d %s", line, pairBrief(p), got.Code, pairBrief(got.Pair))
	}
	return true
}

// TestPairsByScripts: whatever happens to a pair by lines it has no fault, is safe, takes nothing back, and settles.
func TestPairsByScripts(t *testing.T) {
	r := rand.New(rand.NewSource(164))
	var c wentOn
	settled, given, sealed, down := 0, 0, 0, 0
	for round := range 48 {
		s := newScripter(r)
		p := impl.NewPair(settingsBy(r)).Pair
		if round%12 == 0 {
			p = wantSaid(t, p, "lead 1\n"+strings.Repeat("tick 1\n", 50), strings.Repeat("ok\n", 51))
			p = wantSaid(t, p, strings.Repeat("tick 1\n", 46), strings.Repeat("ok\n", 46))
		} else if round%3 > 0 {
			s.greets(r.Intn(2))
		}
		for range 3 + r.Intn(5) {
			begin, text, said := p, "", ""
			for range 30 + r.Intn(30) {
				line := s.line(p)
				if len(text)+len(line) >= 1500 {
					break
				}
				text += line + "\n"
				got := impl.StepScript(p, line)
				if got.Code != impl.OK {
					said += fmt.Sprintf("! %d\n", got.Code)
					continue
				}
				said += got.Said
				if got.Said == "ok" {
					said += "\n"
				}
				m := pairMove{Kind: doAll}
				if words := strings.Fields(line); len(words) == 2 && words[0] == "lead" {
					m = pairLead(int64(words[1][0] - '0'))
				}
				c.checkCall(t, p, m, got.Pair)
				for peer, w := range p.Wires {
					if then := got.Pair.Wires[peer]; impl.PairFault(got.Pair) != impl.OK || !bytes.HasPrefix(then.Got, w.Got) || then.Taken < w.Taken {
						t.Fatalf("%q at %s: it is taken back: %s", line, pairBrief(p), pairBrief(got.Pair))
					}
					given += len(got.Pair.Wires[peer].Got) - len(w.Got)
				}
				sealed += len(got.Pair.Sealed) - len(p.Sealed)
				p = got.Pair
				down += int(codeIf(!p.Nodes[0].Up || !p.Nodes[1].Up, 1))
				for node := range int64(2) {
					if checkSettleLine(t, p, node) {
						settled++
					}
				}
			}
			whole := impl.RunScript(begin, text)
			if whole.Code != impl.OK || whole.Said != said || !samePair(whole.Pair, p) {
				t.Fatalf("%q at %s: %q, line by line %q", text, pairBrief(begin), whole.Said, said)
			}
		}
	}
	if c.calls < 4000 || c.leads < 100 || c.behind < 50 || settled < 8000 || given < 1000 || sealed < 300 || down < 200 {
		t.Errorf("what became of them: %+v, %d settled, %d given, %d sealed, %d down", c, settled, given, sealed, down)
	}
}

// scriptArgs are all that the functions of this chapter take.
type scriptArgs struct {
	Pair    impl.Pair
	Line    string
	Text    string
	Message impl.Message
}

func scriptCalls() []func(x scriptArgs) any {
	return []func(x scriptArgs) any{
		func(x scriptArgs) any { return impl.StepScript(x.Pair, x.Line) },
		func(x scriptArgs) any { return impl.RunScript(x.Pair, x.Text) },
		func(x scriptArgs) any { return impl.PairText(x.Pair) },
		func(x scriptArgs) any { return impl.SayText(x.Message) },
		func(x scriptArgs) any { return impl.WordsOf(x.Line) },
	}
}

func someScriptArgs(t *testing.T) []scriptArgs {
	t.Helper()
	lines, messages := someLines(t), append(rightMessages(), faultyMessages()...)
	ruled := toldTo(t, ruledSettings(), append(talk(), hello(2))...)
	busy := afterMoves(t, ruled, pairSpread(0), pairDeliver(0, true), pairSync(1), pairSpread(0), pairCrash(1, 0))
	pairs := append(rightPairs(), ruled, busy, toughPair(t), settledTalk(t, 1), bent(busy, func(p *impl.Pair) { p.Sealed = make([]impl.Entry, 2) }), bent(busy, func(p *impl.Pair) { p.Wires = nil }))
	text := "show\nspread 0\nkeep 0\nwink\ntick 0\nsync 1\n\nreach 0 7 8 10.0/8\ncrash 0 0\nrise 0\nsettle 1 5\ntake 1 0 60\ndeliver 0\nshow"
	var list []scriptArgs
	for i, p := range pairs {
		for j, line := range lines {
			if (i+j)%5 == 0 || i >= len(pairs)-6 {
				// Some texts change nothing, so that the pair that is told is the one that was handed in.
				list = append(list, scriptArgs{p, line, []string{text, line, "", text[:4]}[(i+j)%4], messages[(i*7+j)%len(messages)]})
			}
		}
	}
	for _, m := range messages {
		list = append(list, scriptArgs{Message: m})
	}
	return list
}

func TestScriptsChangeNoArgument(t *testing.T) {
	for _, was := range someScriptArgs(t) {
		x := roomyCopy(was)
		memory := memoryOfAll(x)
		for i, call := range scriptCalls() {
			call(x)
			if memoryOfAll(x) != memory {
				t.Fatalf("call %d has changed its arguments: %s", i, brief(was))
			}
		}
	}
}

func TestScriptsAnswerNewMemory(t *testing.T) {
	for _, was := range someScriptArgs(t) {
		for i, call := range scriptCalls() {
			x := roomyCopy(was)
			first, second := call(x), call(x)
			if shareMemory(slices.Concat(spansOf(x), spansOf(first), spansOf(second))) {
				t.Fatalf("call %d: lists share memory with one another, or with the arguments: %s", i, brief(was))
			}
			if !reflect.DeepEqual(first, second) {
				t.Fatalf("call %d: %s, and again %s", i, brief(first), brief(second))
			}
			runtime.KeepAlive([]any{x, first, second})
		}
		// Entries that stand in several lists of an argument are in none of the answer twice.
		for i, call := range scriptCalls()[:2] {
			if shareMemory(spansOf(call(was))) {
				t.Fatalf("call %d: lists of one answer share memory: %s", i, brief(was))
			}
		}
	}
}

func TestWordsAreNewMemory(t *testing.T) {
	line := strings.Clone("say 0 open 2 9 3 " + strings.Repeat("x", 99))
	from := uintptr(unsafe.Pointer(unsafe.StringData(line)))
	for _, word := range impl.WordsOf(line).Words {
		if at := uintptr(unsafe.Pointer(unsafe.StringData(word))); at >= from && at < from+uintptr(len(line)) {
			t.Errorf("%q shares memory with the line", word)
		}
	}
	runtime.KeepAlive(line)
}

func TestAnswersOfScriptsMayBeSpoiled(t *testing.T) {
	p := toldTo(t, ruledSettings(), append(talk(), hello(2))...)
	p = afterMoves(t, p, pairSpread(0), pairSync(1), pairSpread(0))
	for _, text := range append(someLines(t), "show\nwink\n", "spread 0\nkeep 0\nshow\nsettle 1 9\n") {
		calls := []func() impl.ScriptResult{func() impl.ScriptResult { return impl.RunScript(p, text) }, func() impl.ScriptResult { return impl.StepScript(p, text) }}
		for i, call := range calls {
			memory, first, second := memoryOfAll(p), call(), call()
			spoilPair(first.Pair)
			if memoryOfAll(p) != memory || !reflect.DeepEqual(call(), second) {
				t.Errorf("call %d of %q: what is answered shares memory with an argument", i, text)
			}
		}
	}
	words := impl.WordsOf("b a b").Words
	clear(words)
	wantWordsOf(t, "b a b", "b", "a", "b")
	said := impl.SayText(keepMessage())
	flip(said.Bytes)
	if got := impl.SayText(keepMessage()); bytes.Equal(got.Bytes, said.Bytes) {
		t.Error("what is said shares memory with what was said ahead of it")
	}
}

// allOfScripts tells all that the functions of this chapter answer, nil and empty lists apart.
func allOfScripts(x scriptArgs) string {
	var said []any
	for _, call := range scriptCalls() {
		said = append(said, fmt.Sprintf("%#v", call(x)))
	}
	return fmt.Sprint(said...)
}

func TestScriptsHangOnArgumentsAlone(t *testing.T) {
	list := someScriptArgs(t)
	for i, x := range list {
		first := allOfScripts(x)
		allOfScripts(list[(i*7+5)%len(list)])
		if allOfScripts(x) != first || allOfScripts(roomyCopy(x)) != first {
			t.Fatalf("what is told of %s hangs on more than it", brief(x))
		}
		if allOfScripts(hollow(x, true)) != first || allOfScripts(hollow(x, false)) != first {
			t.Fatalf("nil and an empty list in %s are not answered alike", brief(x))
		}
	}
}
