package tests

import (
	"bytes"
	"encoding/hex"
	"fmt"
	"math/rand"
	"regexp"
	"strconv"
	"testing"

	"loop.example/s02974/impl"
)

// plainForm is the form of a word, by a pattern, and the code of a word that is of another.
type plainForm struct {
	pattern *regexp.Regexp
	code    int
}

var (
	plainNumber = plainForm{regexp.MustCompile(`^(0|-?[1-9][0-9]{0,17})$`), 4}
	plainHex    = plainForm{regexp.MustCompile(`^(-|([0-9a-f][0-9a-f])+)$`), 5}
	plainKey    = plainForm{regexp.MustCompile(`^[0-9a-f]{64}$`), 5}
	plainFlag   = plainForm{regexp.MustCompile(`^(known|other)$`), 6}
	plainPlace  = plainForm{regexp.MustCompile(`^(4:[0-9a-f]{8}|6:[0-9a-f]{32}):(0|[1-9][0-9]{0,17})$`), 7}
)

var plainLines = map[string][]plainForm{"gate": {plainKey}, "queue": {plainNumber}, "table": {plainNumber}, "client": {plainKey, plainPlace, plainFlag},
	"arrive": {plainPlace, plainHex}, "drain": nil, "restart": nil, "tick": {plainNumber}, "init": {plainNumber}, "deliver": {plainNumber},
	"drop": {plainNumber}, "draw": {plainHex}}

var plainKinds = map[string]int{"arrive": 1, "drain": 2, "tick": 3, "draw": 4, "restart": 5, "init": 6, "deliver": 7, "drop": 8}

func plainPort(word string) int {
	port, _ := strconv.Atoi(word[bytes.LastIndexByte([]byte(word), ':')+1:])
	return port
}

func plainSource(word string) impl.Source {
	s := impl.Source{V6: word[0] == '6', Port: uint16(plainPort(word))}
	size := 8
	if s.V6 {
		size = 32
	}
	copy(s.Addr[:], fromHex(word[2:2+size]))
	return s
}

// plainFault is the code of a line with words, or 0.
func plainFault(words []string) int {
	forms, found := plainLines[words[0]]
	if !found {
		return 2
	}
	if len(words) != 1+len(forms) {
		return 3
	}
	for i, f := range forms {
		if !f.pattern.MatchString(words[i+1]) || (f.code == 7 && plainPort(words[i+1]) > 65535) {
			return f.code
		}
	}
	return 0
}

// plainRead adds what a line without a fault says.
func plainRead(p *impl.Parsed, words []string) {
	n, last := 0, words[len(words)-1]
	if forms := plainLines[words[0]]; len(forms) == 1 && forms[0].code == 4 {
		n, _ = strconv.Atoi(last)
	}
	op := impl.Op{Kind: plainKinds[words[0]], N: n}
	switch words[0] {
	case "gate":
		p.Config.Private = keyOfHex(last)
	case "queue":
		p.Config.Queue = n
	case "table":
		p.Config.Table = n
	case "client":
		p.Config.Clients = append(p.Config.Clients, impl.Client{Private: keyOfHex(words[1]), Src: plainSource(words[2]), Known: last == "known"})
	case "arrive":
		op.Src = plainSource(words[1])
		fallthrough
	case "draw":
		if last != "-" {
			op.Data = fromHex(last)
		}
	}
	if op.Kind > 0 {
		p.Ops = append(p.Ops, op)
	}
}

// plainParse is chapter 9 in its own words.
func plainParse(text []byte) impl.Parsed {
	if len(text) > 65536 {
		return impl.Parsed{Code: 1}
	}
	p := usual()
	for i, line := range bytes.Split(text, []byte{10}) {
		var words []string
		for _, word := range regexp.MustCompile(`[ \t]+`).Split(string(line), -1) {
			if word != "" {
				words = append(words, word)
			}
		}
		if len(words) == 0 || words[0][0] == '#' {
			continue
		}
		if code := plainFault(words); code != 0 {
			return impl.Parsed{Code: code, Line: i + 1}
		}
		plainRead(&p, words)
	}
	return p
}

func plainTellSource(s impl.Source) string {
	if s.V6 {
		return fmt.Sprintf("6:%x:%d", s.Addr, s.Port)
	}
	return fmt.Sprintf("4:%x:%d", s.Addr[:4], s.Port)
}

func plainTell(r impl.Report) string {
	out := fmt.Sprintf("%d %d\n", r.Code, r.Dh)
	for _, o := range r.Obs {
		load := 0
		if o.Load {
			load = 1
		}
		out += fmt.Sprintf("%d %d %d %d", o.Verdict, o.Dh, load, o.Client)
		if len(o.Out) > 0 {
			out += fmt.Sprintf(" %s %x", plainTellSource(o.To), o.Out)
		}
		if o.Chain != [32]byte{} || o.Hash != [32]byte{} {
			out += fmt.Sprintf(" %x %x", o.Chain, o.Hash)
		}
		out += "\n"
	}
	return out
}

// plainText is a script as text, the configuration ahead of the operations.
func plainText(c impl.Config, ops []impl.Op) []byte {
	out := fmt.Sprintf("gate %x\nqueue %d\ntable %d\n", c.Private, c.Queue, c.Table)
	for _, one := range c.Clients {
		out += fmt.Sprintf("client %x %s %s\n", one.Private, plainTellSource(one.Src), map[bool]string{true: "known", false: "other"}[one.Known])
	}
	for _, op := range ops {
		data := hex.EncodeToString(op.Data)
		if data == "" {
			data = "-"
		}
		switch op.Kind {
		case 1:
			out += "arrive " + plainTellSource(op.Src) + " " + data
		case 4:
			out += "draw " + data
		case 2, 5:
			out += map[int]string{2: "drain", 5: "restart"}[op.Kind]
		default:
			out += map[int]string{3: "tick", 6: "init", 7: "deliver", 8: "drop"}[op.Kind] + " " + strconv.Itoa(op.N)
		}
		out += "\n"
	}
	return []byte(out)
}

// scribble is a text of words that are of a form, or nearly so, in lines that are right more often than not.
func scribble(r *rand.Rand) []byte {
	var out []byte
	for range r.Intn(12) {
		line := pickBetween(r, goodLines()...)
		switch r.Intn(9) {
		case 0:
			line += " " + pickBetween(r, "1", "-", "#", "known", fourWord)
		case 1:
			line = pickBetween(r, "#", " # ", "", "\t", "drain") + line
		case 2:
			b := []byte(line)
			b[r.Intn(len(b))] = pickBetween(r, someBytes(r, 1)[0], ' ', '\t', '\n', '-', '0', ':', 'a', 'F', '#')
			line = string(b)
		case 3:
			n := r.Intn(len(line))
			line = line[:n] + line[min(len(line), n+1+r.Intn(3)):]
		case 4:
			line = pickBetween(r, "tick", "queue", "init") + " " + strconv.Itoa(int(r.Uint64())>>r.Intn(64))
		case 5:
			line = "arrive " + plainTellSource(impl.Source{V6: r.Intn(2) == 0, Addr: [16]byte(someBytes(r, 16))})[:11] + strconv.Itoa(r.Intn(70000)) + " -"
		}
		out = append(append(out, line...), pickBetween(r, "\n", "\n", "\n", "\n\n", " \n\t")...)
	}
	return out
}

func TestParseScriptAgainstTheWords(t *testing.T) {
	r := rand.New(rand.NewSource(9))
	counts := map[int]int{}
	for range 20000 {
		text := scribble(r)
		want := plainParse(text)
		wantParsed(t, "at random", text, want)
		counts[want.Code]++
	}
	for _, code := range []int{0, 2, 3, 4, 5, 6, 7} {
		if counts[code] < 20 {
			t.Errorf("code %d was seen %d times", code, counts[code])
		}
	}
	for range 3000 {
		text := someBytes(r, r.Intn(40))
		wantParsed(t, "any bytes", text, plainParse(text))
	}
}

// A run's script as text is read back as it was, and its report is told as it is.
func TestRunTextAgainstTheWords(t *testing.T) {
	for seed := range 25 {
		a := newAuthor(int64(5000 + seed))
		for range 60 {
			a.line(a.Intn(3))
		}
		c := a.gate.conf
		var ops []impl.Op
		for _, op := range a.ops {
			// Text has no other kinds, no bytes behind an address of version 4, and no numbers of nineteen digits.
			op.N = max(min(op.N, 999999999999999999), -999999999999999999)
			op.Src = withoutRest(op.Src)
			if op.Kind >= 1 && op.Kind <= 8 {
				ops = append(ops, op)
			}
		}
		for i := range c.Clients {
			c.Clients[i].Src = withoutRest(c.Clients[i].Src)
		}
		text := plainText(c, ops)
		wantParsed(t, "there and back", text, impl.Parsed{Config: c, Ops: ops})
		if got, want := string(impl.RunText(text)), plainTell(impl.RunGate(c, ops)); got != want {
			t.Errorf("script %d: got %q, want %q", seed, got, want)
		}
	}
}

func withoutRest(s impl.Source) impl.Source {
	if !s.V6 {
		clear(s.Addr[4:])
	}
	return s
}
