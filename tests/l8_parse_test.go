package tests

import (
	"bytes"
	"reflect"
	"strings"
	"testing"

	"loop.example/s02974/impl"
)

// Words that are of their form.
const (
	keyWord  = "00112233445566778899aabbccddeeff0123456789abcdef0f1e2d3c4b5a6978"
	fourWord = "4:0a000001:7"
	sixWord  = "6:20010db8000000000000000000000001:65535"
)

// lines is a text of these lines, the last without a newline byte.
func lines(parts ...string) []byte {
	return []byte(strings.Join(parts, "\n"))
}

// emptied has no lists of no elements but nil ones, since the two are the same value.
func emptied(p impl.Parsed) impl.Parsed {
	if len(p.Config.Clients) == 0 {
		p.Config.Clients = nil
	}
	if len(p.Ops) == 0 {
		p.Ops = nil
	}
	for i := range p.Ops {
		if len(p.Ops[i].Data) == 0 {
			p.Ops[i].Data = nil
		}
	}
	return p
}

func wantParsed(t *testing.T, what string, text []byte, want impl.Parsed) {
	t.Helper()
	w := watch(text)
	got := impl.ParseScript(w.b)
	w.check(t, "the text")
	w.spoil()
	if !reflect.DeepEqual(emptied(got), emptied(want)) {
		t.Errorf("%s: %.200q: got %v, want %v", what, text, got, want)
	}
}

// wantFault wants the code and the line, and nothing beside them.
func wantFault(t *testing.T, text []byte, code, line int) {
	t.Helper()
	wantParsed(t, "a fault", text, impl.Parsed{Code: code, Line: line})
}

// usual is what a script without a line for its configuration gives.
func usual(ops ...impl.Op) impl.Parsed {
	return impl.Parsed{Config: impl.Config{Queue: 64, Table: 1024}, Ops: ops}
}

// wantOps wants these operations of a script that has no other lines.
func wantOps(t *testing.T, what string, text []byte, ops ...impl.Op) {
	t.Helper()
	wantParsed(t, what, text, usual(ops...))
}

func TestCodesOfScripts(t *testing.T) {
	codes := [7]int{impl.ErrLarge, impl.ErrWord, impl.ErrArgs, impl.ErrNumber, impl.ErrHex, impl.ErrFlag, impl.ErrSource}
	if codes != [7]int{1, 2, 3, 4, 5, 6, 7} || impl.MaxScript != 65536 {
		t.Errorf("codes %v, most bytes %d", codes, impl.MaxScript)
	}
}

func TestParseEveryWord(t *testing.T) {
	text := lines("gate "+keyWord, "queue 9", "table 12", "client "+strings.Repeat("f0", 32)+" "+fourWord+" known",
		"client "+keyWord+" "+sixWord+" other",
		"arrive "+sixWord+" 00ff7a", "drain", "tick 5", "draw 0102", "restart", "init 1", "deliver 2", "drop 3")
	wantParsed(t, "every word", text, impl.Parsed{
		Config: impl.Config{Private: keyOfHex(keyWord), Queue: 9, Table: 12, Clients: []impl.Client{
			{Private: [32]byte(repeated(0xF0, 32)), Src: placeA, Known: true}, {Private: keyOfHex(keyWord), Src: placeC}}},
		Ops: script(arrive(placeC, []byte{0, 0xFF, 0x7A}), drain(), tick(5), draw([]byte{1, 2}), restart(), start(1), deliver(2), drop(3)),
	})
}

// Lines of a configuration may stand between and behind operations; of some the last one counts, of clients all do.
func TestLinesInAnyOrder(t *testing.T) {
	zeros := strings.Repeat("00", 32)
	text := lines("drain", "client "+zeros+" "+fourWord+" other", "table 3", "queue 1", "gate "+zeros, "tick 1", "gate "+keyWord, "queue -7",
		"client "+keyWord+" "+fourWord+" known", "client "+zeros+" "+fourWord+" other", "table 0", "drain")
	other := impl.Client{Src: placeA}
	wantParsed(t, "any order", text, impl.Parsed{
		Config: impl.Config{Private: keyOfHex(keyWord), Queue: -7, Clients: []impl.Client{other, {Private: keyOfHex(keyWord), Src: placeA,
			Known: true}, other}},
		Ops: script(drain(), tick(1), drain())})
	one := usual()
	one.Config.Queue = 0
	wantParsed(t, "a queue alone", lines("queue 0"), one)
	two := usual()
	two.Config.Table = 999999999999999999
	wantParsed(t, "a table alone", lines("table 999999999999999999"), two)
}

func TestEmptyScripts(t *testing.T) {
	for _, text := range []string{"", "\n", "\n\n\n", " ", "\t", " \t \n\t\t", "#", "#drain", "# tick x\n  # y", "\t#\n"} {
		wantOps(t, "nothing", []byte(text))
	}
	wantOps(t, "no text", nil)
}

// A remark is a line whose first word begins with the sign, and no other.
func TestRemarks(t *testing.T) {
	wantOps(t, "remarks", lines("# drain", "drain", " \t#tick", "", "## 1 2 3", "tick 2", "#"), drain(), tick(2))
	wantFault(t, lines("drain", "drain #"), impl.ErrArgs, 2)
	wantFault(t, lines("drain# 1"), impl.ErrWord, 1)
	wantFault(t, lines("tick #1"), impl.ErrNumber, 1)
}

// Words are parted by any number of spaces and tabs, and by no other byte.
func TestWordsAndBlanks(t *testing.T) {
	wantOps(t, "blanks", []byte("\t tick \t\t  5\t \n  drain\t\n\tarrive\t"+fourWord+" \t-\n"), tick(5), drain(), arrive(placeA, nil))
	for _, blank := range []string{"\r", "\v", "\f", "\x00", "\u0085", "\u00a0", "\u2003", "\u3000", "\xa0", "\x85"} {
		wantFault(t, []byte("drain"+blank), impl.ErrWord, 1)
		wantFault(t, []byte(blank+"drain"), impl.ErrWord, 1)
		wantFault(t, []byte("drain\ntick"+blank+"5"), impl.ErrWord, 2)
		wantFault(t, []byte("tick 5"+blank), impl.ErrNumber, 1)
		wantFault(t, []byte(blank), impl.ErrWord, 1)
		wantFault(t, []byte(blank+"#"), impl.ErrWord, 1)
	}
	wantFault(t, []byte("drain\r\ntick 5\r\n"), impl.ErrWord, 1)
}

func TestOtherFirstWords(t *testing.T) {
	for _, word := range []string{"Drain", "DRAIN", "drai", "drains", "d", "-", "0", "1", "known", "other", "ticks", "arrive,", "gate:", "\x00",
		"\xff\xfe", "é", "clients", "inıt"} {
		wantFault(t, lines(word), impl.ErrWord, 1)
		wantFault(t, lines("# one", "", "drain", word+" 1 2 3 4 5"), impl.ErrWord, 4)
	}
}

// goodLines is a line of every first word with its words; all of them are of their form.
func goodLines() []string {
	return []string{"gate " + keyWord, "queue 1", "table 1", "client " + keyWord + " " + fourWord + " known", "arrive " + fourWord + " 00",
		"drain", "restart", "tick 1", "init 1", "deliver 1", "drop 1", "draw 00"}
}

// Too few and too many words, whatever they are.
func TestNumbersOfWords(t *testing.T) {
	for _, line := range goodLines() {
		if p := impl.ParseScript(lines(line)); p.Code != 0 || p.Line != 0 {
			t.Errorf("%q: %d %d", line, p.Code, p.Line)
		}
		words := strings.Fields(line)
		for n := 1; n < 8; n++ {
			if n == len(words) {
				continue
			}
			several := append([]string{words[0]}, strings.Fields(strings.Repeat("zz ", n-1))...)
			wantFault(t, lines(strings.Join(several, " ")), impl.ErrArgs, 1)
			copy(several[1:], words[1:])
			wantFault(t, lines("", strings.Join(several, " ")), impl.ErrArgs, 2)
		}
	}
}

func TestNumbers(t *testing.T) {
	for word, n := range map[string]int{"0": 0, "1": 1, "9": 9, "10": 10, "-1": -1, "-9": -9, "65536": 65536,
		"100000000000000000": 100000000000000000,
		"999999999999999999": 999999999999999999, "-999999999999999999": -999999999999999999, "123456789012345678": 123456789012345678} {
		wantOps(t, "a number", lines("tick "+word, "init "+word, "deliver "+word, "drop "+word), tick(n), start(n), deliver(n), drop(n))
		sizes := impl.Parsed{Config: impl.Config{Queue: n, Table: 1024}}
		wantParsed(t, "a queue", lines("queue "+word), sizes)
		sizes.Config.Queue, sizes.Config.Table = 64, n
		wantParsed(t, "a table", lines("table "+word), sizes)
	}
	for _, word := range []string{"-0", "00", "01", "-01", "007", "+1", "+0", "--1", "-", "+", "1-", "x", "1x", "x1", "0x1", "1_0", "1.0", "1e3",
		"1,000", "a", "٣", "１", "\x00",
		"1000000000000000000", "-1000000000000000000", "0000000000000000001", "9223372036854775807", "9223372036854775808",
		"-9223372036854775808", "18446744073709551616",
		"18446744073709551617", strings.Repeat("9", 300), "-" + strings.Repeat("0", 30), strings.Repeat("0", 19)} {
		for _, first := range []string{"tick", "init", "deliver", "drop", "queue", "table"} {
			wantFault(t, lines("drain", first+" "+word), impl.ErrNumber, 2)
		}
	}
}

func TestHexadecimal(t *testing.T) {
	for word, b := range map[string][]byte{"-": nil, "00": {0}, "ff": {255}, "09": {9}, "90": {0x90}, "af": {0xAF}, "fa": {0xFA},
		"0123456789abcdef":        fromHex("0123456789abcdef"),
		strings.Repeat("5a", 148): repeated(0x5A, 148), strings.Repeat("c3", 32000): repeated(0xC3, 32000)} {
		wantOps(t, "bytes", lines("draw "+word, "arrive "+sixWord+" "+word[:min(len(word), 600)]), draw(b), arrive(placeC, b[:min(len(b), 300)]))
	}
	for _, word := range []string{"0", "000", "0A", "A0", "FF", "fF", "0g", "g0", "/0", ":0", "`0", "0`", "0/", "0:", "--", "-0", "-00", "00-",
		"0x00", "é", "\x00\x00", "0\xff", "aaaaa", "00:00"} {
		wantFault(t, lines("draw "+word), impl.ErrHex, 1)
		wantFault(t, lines("drain", "arrive "+fourWord+" "+word), impl.ErrHex, 2)
	}
}

func TestKeys(t *testing.T) {
	for _, word := range []string{"-", "00", keyWord[:63], keyWord[:62], keyWord + "0", keyWord + "00", keyWord + keyWord,
		strings.ToUpper(keyWord), "A" + keyWord[1:], keyWord[:63] + "F",
		keyWord[:63] + "g", "-" + keyWord[1:], "0x" + keyWord[2:], "é" + keyWord[2:]} {
		wantFault(t, lines("gate "+word), impl.ErrHex, 1)
		wantFault(t, lines("", "client "+word+" "+fourWord+" known"), impl.ErrHex, 2)
	}
	for i := range keyWord {
		b := []byte(strings.Repeat("0", 64))
		b[i] = 'd'
		want := usual()
		want.Config.Private[i/2] = []byte{0xD0, 0x0D}[i%2]
		wantParsed(t, "a key's digit", lines("gate "+string(b)), want)
	}
}

func TestFlags(t *testing.T) {
	for _, word := range []string{"Known", "KNOWN", "know", "knowns", "others", "othe", "-", "1", "0", "true", "known,", "\x00"} {
		wantFault(t, lines("client "+keyWord+" "+fourWord+" "+word), impl.ErrFlag, 1)
	}
}

func TestSources(t *testing.T) {
	for word, s := range map[string]impl.Source{
		"4:00000000:0":                                 {},
		"4:0a000001:7":                                 placeA,
		"4:ffffffff:65535":                             {Addr: [16]byte{255, 255, 255, 255}, Port: 65535},
		"4:01020304:256":                               {Addr: [16]byte{1, 2, 3, 4}, Port: 256},
		"6:" + strings.Repeat("0", 32) + ":0":          {V6: true},
		"6:000102030405060708090a0b0c0d0e0f:1":         {V6: true, Addr: [16]byte{0, 1, 2, 3, 4, 5, 6, 7, 8, 9, 10, 11, 12, 13, 14, 15}, Port: 1},
		"6:ffffffffffffffffffffffffffffffff:65535":     {V6: true, Addr: [16]byte(repeated(255, 16)), Port: 65535},
		"6:0a000001" + strings.Repeat("0", 24) + ":10": {V6: true, Addr: placeA.Addr, Port: 10},
	} {
		want := usual(arrive(s, nil))
		want.Config.Clients = []impl.Client{{Private: keyOfHex(keyWord), Src: s, Known: true}}
		wantParsed(t, "a source", lines("arrive "+word+" -", "client "+keyWord+" "+word+" known"), want)
	}
}

func TestWrongSources(t *testing.T) {
	six := sixWord[:34]
	for _, word := range []string{"-", "4", "4:", "4::", "::", ":::", "4::7", "4:0a000001", "4:0a000001:", ":0a000001:7", "5:0a000001:7",
		"44:0a000001:7", "04:0a000001:7", "4:0a000001:7:",
		"4:0a000001:7:7", "4:0a00000:7", "4:0a0000010:7", "4:0a00000100:7", "4:0a0000:7", "4:0A000001:7", "4:0a00000g:7", "4:0a000001:65536",
		"4:0a000001:-1", "4:0a000001:-0",
		"4:0a000001:07", "4:0a000001:00", "4:0a000001:+7", "4:0a000001:7f", "4:0a000001:x", "4:0a000001:99999999999999999",
		"4:0a000001:18446744073709551623", "4:0a000001:-", "4.0a000001.7",
		"4:-:7", "4;0a000001:7", "4:0a000001;7", six + ":65536", six, six + ":", six[:33] + ":7", six + "0:7", six + "00:7",
		"4:" + six[2:] + ":7", "6:0a000001:7", "6:" + strings.ToUpper(six[2:]) + ":7",
		"10.0.0.1:7", "[::1]:7", "4:0a000001:7\x00", "\x004:0a000001:7", "six", "6::7"} {
		wantFault(t, lines("arrive "+word+" 00"), impl.ErrSource, 1)
		wantFault(t, lines("drain", "client "+keyWord+" "+word+" known"), impl.ErrSource, 2)
	}
}

// Within a line: its first word, how many there are, and then each from the left.
func TestOrderOfFaults(t *testing.T) {
	for line, code := range map[string]int{
		"what 1 2":                         impl.ErrWord,
		"client zz zz":                     impl.ErrArgs,
		"client zz zz zz":                  impl.ErrHex,
		"client zz zz known":               impl.ErrHex,
		"arrive zz":                        impl.ErrArgs,
		"arrive zz zz":                     impl.ErrSource,
		"arrive zz zz zz":                  impl.ErrArgs,
		"tick -0 1":                        impl.ErrArgs,
		"gate 1 1":                         impl.ErrArgs,
		"arrive - -":                       impl.ErrSource,
		"draw 0 0":                         impl.ErrArgs,
		"arrive 00 4:00:7":                 impl.ErrSource,
		"client known 4:00:7":              impl.ErrArgs,
		"client " + keyWord + " 4:00:7 zz": impl.ErrSource,
		"client " + keyWord + " " + fourWord + " z": impl.ErrFlag,
		"client " + keyWord + " known " + fourWord:  impl.ErrSource,
		"client " + fourWord + " " + keyWord + " z": impl.ErrHex,
		"arrive " + fourWord + " zz":                impl.ErrHex,
	} {
		wantFault(t, lines(line), code, 1)
	}
}

// The first line with a fault is told, whatever follows, and nothing of what stood before.
func TestFirstFaultyLine(t *testing.T) {
	for n := range 40 {
		text := bytes.Repeat([]byte("\n"), n)
		wantFault(t, append(text, "tick x\nwhat\ndrain 1\n"...), impl.ErrNumber, n+1)
		text = bytes.Repeat([]byte("drain\n"), n)
		wantFault(t, append(text, "what"...), impl.ErrWord, n+1)
	}
	good := strings.Join(goodLines(), "\n") + "\n"
	wantFault(t, []byte(good+good+"drop"), impl.ErrArgs, 2*len(goodLines())+1)
	wantFault(t, []byte("drop\n"+good), impl.ErrArgs, 1)
}

// A text of just the most bytes is read to its end; one byte more isn't read at all.
func TestLongTexts(t *testing.T) {
	blanks := repeated(' ', 65536)
	wantOps(t, "blanks", blanks)
	wantFault(t, append(blanks, ' '), impl.ErrLarge, 0)
	end := append(repeated('\n', 65531), "drain"...)
	wantOps(t, "an operation at the end", end, drain())
	wantFault(t, append(end, '\n'), impl.ErrLarge, 0)
	wantFault(t, append(repeated('\n', 65535), 'x'), impl.ErrWord, 65536)
	wantFault(t, append([]byte("what\n"), blanks...), impl.ErrLarge, 0)
	wantFault(t, make([]byte, 1<<20), impl.ErrLarge, 0)
	// More clients and operations than a run takes are read all the same.
	many := bytes.Repeat([]byte("drain\n"), 10922)
	wantOps(t, "many operations", many, times(10922, drain())...)
	line := "client " + keyWord + " " + fourWord + " other\n"
	p := impl.ParseScript([]byte(strings.Repeat(line, 65536/len(line))))
	if p.Code != 0 || len(p.Config.Clients) != 65536/len(line) {
		t.Errorf("code %d, %d clients", p.Code, len(p.Config.Clients))
	}
}

// No two lists of an answer share memory, and the same text again gives the same.
func TestParsedListsAreNew(t *testing.T) {
	text := lines("draw 0102", "draw 0304", "arrive "+fourWord+" 0506", "draw -")
	first := impl.ParseScript(text)
	for i := range first.Ops {
		whole := first.Ops[i].Data[:cap(first.Ops[i].Data)]
		for k := range whole {
			if whole[k] > 6 {
				t.Errorf("operation %d: shared memory", i)
			}
			whole[k] = 0xEE
		}
	}
	wantOps(t, "again", text, draw([]byte{1, 2}), draw([]byte{3, 4}), arrive(placeA, []byte{5, 6}), draw(nil))
}
