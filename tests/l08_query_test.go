package tests

import (
	"regexp"
	"slices"
	"strconv"
	"strings"
	"testing"
	"unsafe"

	"loop.example/g00229/impl"
)

// askWords are the words of a statement, by Kind.
var askWords = []string{"BEGIN", "COMMIT", "ROLLBACK", "PUT", "CUT", "GET", "MEETS", "IN", "COUNT", "ALL"}

func hasId(kind int) bool { return kind == impl.AskPut || kind == impl.AskCut || kind == impl.AskGet }

func hasShape(kind int) bool {
	return kind == impl.AskPut || kind == impl.AskMeets || kind == impl.AskIn
}

func hasTile(kind int) bool { return kind == impl.AskCount }

func sameAsk(a, b impl.Ask) bool {
	return a.Kind == b.Kind && a.Id == b.Id && a.Tile == b.Tile && sameShape(a.Shape, b.Shape)
}

// bare is a without what its kind does not have.
func bare(a impl.Ask) impl.Ask {
	out := impl.Ask{Kind: a.Kind}
	if hasId(a.Kind) {
		out.Id = a.Id
	}
	if hasShape(a.Kind) {
		out.Shape = a.Shape
	}
	if hasTile(a.Kind) {
		out.Tile = a.Tile
	}
	return out
}

// told is a statement and its text.
type told struct {
	ask  impl.Ask
	text string
}

func ask(kind int) impl.Ask { return impl.Ask{Kind: kind} }

func askId(kind, id int) impl.Ask { return impl.Ask{Kind: kind, Id: id} }

func askShape(kind int, s impl.Shape) impl.Ask { return impl.Ask{Kind: kind, Shape: s} }

func askPut(id int, s impl.Shape) impl.Ask {
	return impl.Ask{Kind: impl.AskPut, Id: id, Shape: s}
}

func askCount(t impl.Tile) impl.Ask { return impl.Ask{Kind: impl.AskCount, Tile: t} }

// rightAsks are statements of each kind, with the edges that the chapter names; none has what its kind does not have.
func rightAsks() []told {
	list := []told{
		{ask(impl.AskBegin), "BEGIN"}, {ask(impl.AskCommit), "COMMIT"}, {ask(impl.AskBack), "ROLLBACK"}, {ask(impl.AskAll), "ALL"},
		{askPut(5, dot(1, 2)), "PUT 5 POINT 1 2"}, {askPut(1, line(0, 0, -4, 4)), "PUT 1 LINE 0 0 -4 4"}, {askPut(idMost, rect(0, 0, 3, 2)), "PUT 999999999 RECT 0 0 3 2"}, {askPut(70, poly(0, 0, 6, 0, 0, 6)), "PUT 70 POLY 0 0 6 0 0 6"},
		{askId(impl.AskCut, 1), "CUT 1"}, {askId(impl.AskCut, 20), "CUT 20"}, {askId(impl.AskCut, idMost), "CUT 999999999"},
		{askId(impl.AskGet, 1), "GET 1"}, {askId(impl.AskGet, 300), "GET 300"}, {askId(impl.AskGet, idMost), "GET 999999999"},
		{askShape(impl.AskMeets, dot(-edge, edge)), "MEETS POINT -30000 30000"}, {askShape(impl.AskMeets, line(0, 0, 1, 1)), "MEETS LINE 0 0 1 1"}, {askShape(impl.AskMeets, rect(5, 5, 5, 5)), "MEETS RECT 5 5 5 5"}, {askShape(impl.AskMeets, poly(0, 0, 4, 0, 4, 4, 0, 4)), "MEETS POLY 0 0 4 0 4 4 0 4"},
		{askShape(impl.AskIn, rect(0, 0, 1, 1)), "IN RECT 0 0 1 1"}, {askShape(impl.AskIn, rect(7, 7, 7, 7)), "IN RECT 7 7 7 7"}, {askShape(impl.AskIn, rect(-edge, -edge, edge, edge)), "IN RECT -30000 -30000 30000 30000"},
		{askCount(tile(0, 0, 0)), "COUNT 0 0 0"}, {askCount(tile(2, 1, 3)), "COUNT 2 1 3"}, {askCount(tile(8, 255, 0)), "COUNT 8 255 0"}, {askCount(tile(8, 0, 255)), "COUNT 8 0 255"},
	}
	for _, s := range rightShapes() {
		text := impl.ShapeText(s)
		list = append(list, told{askPut(9, s), "PUT 9 " + text}, told{askShape(impl.AskMeets, s), "MEETS " + text})
		if s.Kind == impl.KindRect {
			list = append(list, told{askShape(impl.AskIn, s), "IN " + text})
		}
	}
	for level := range levelMost + 1 {
		last := 1<<level - 1
		text := "COUNT " + strconv.Itoa(level) + " "
		list = append(list, told{askCount(tile(level, last, 0)), text + strconv.Itoa(last) + " 0"}, told{askCount(tile(level, 0, last)), text + "0 " + strconv.Itoa(last)})
	}
	return list
}

// wrongAsks have no text, each for one reason.
func wrongAsks() []impl.Ask {
	var list []impl.Ask
	for _, kind := range append([]int{-1, -2, 10, 11, 16, 256}, farInts...) {
		list = append(list, ask(kind), impl.Ask{Kind: kind, Id: 5, Shape: rect(0, 0, 1, 1), Tile: tile(1, 1, 1)})
	}
	for _, id := range noIds() {
		list = append(list, askPut(id, dot(1, 2)), askId(impl.AskCut, id), askId(impl.AskGet, id))
	}
	for _, s := range wrongShapes() {
		list = append(list, askPut(5, s), askShape(impl.AskMeets, s), askShape(impl.AskIn, s))
	}
	for _, s := range rightShapes() {
		if s.Kind != impl.KindRect {
			list = append(list, askShape(impl.AskIn, s))
		}
	}
	for _, no := range noTiles() {
		list = append(list, askCount(no))
	}
	return list
}

// besides are statements of a's kind that have what a has, and beside it all sorts of what its kind does not have.
func besides(a impl.Ask) []impl.Ask {
	var list []impl.Ask
	for _, id := range append(noIds(), 1, 5, idMost) {
		for _, s := range []impl.Shape{{}, dot(1, 2), rect(9, 9, 0, 0), rect(0, 0, 1, 1), shape(77, 1, 1), zigzag(61)} {
			for _, one := range []impl.Tile{{}, tile(2, 1, 3), tile(-1, 0, 0), tile(9, 0, 0), tile(1, 2, -2)} {
				b := impl.Ask{Kind: a.Kind, Id: id, Shape: s, Tile: one}
				if hasId(a.Kind) {
					b.Id = a.Id
				}
				if hasShape(a.Kind) {
					b.Shape = a.Shape
				}
				if hasTile(a.Kind) {
					b.Tile = a.Tile
				}
				list = append(list, b)
			}
		}
	}
	return list
}

func TestQueryConstants(t *testing.T) {
	kinds := []int{impl.AskBegin, impl.AskCommit, impl.AskBack, impl.AskPut, impl.AskCut, impl.AskGet, impl.AskMeets, impl.AskIn, impl.AskCount, impl.AskAll}
	if !slices.Equal(kinds, []int{0, 1, 2, 3, 4, 5, 6, 7, 8, 9}) {
		t.Error("kinds", kinds)
	}
	if impl.TokWord != 0 || impl.TokNumber != 1 || impl.TokBad != 2 {
		t.Error("kinds of words")
	}
}

// TestAsksComeBack is promise 8.
func TestAsksComeBack(t *testing.T) {
	count := make([]int, len(askWords))
	for _, c := range rightAsks() {
		count[c.ask.Kind]++
		if text := impl.AskText(c.ask); text != c.text {
			t.Errorf("text of %v: %q, not %q", c.ask, text, c.text)
		}
		if a, ok := impl.ReadAsk(c.text); !ok || !sameAsk(a, c.ask) {
			t.Errorf("read %q: %v %v", c.text, a, ok)
		}
	}
	if slices.Min(count) < 1 {
		t.Error("a kind is left out", count)
	}
}

// TestAsksOfChanceComeBack has statements of each kind whose ids, shapes and tiles are of all sizes.
func TestAsksOfChanceComeBack(t *testing.T) {
	by := &steps{81}
	for range 4000 {
		a := by.ask()
		text := impl.AskText(a)
		if !strings.HasPrefix(text, askWords[a.Kind]) {
			t.Fatalf("text of %v: %q", a, text)
		}
		if b, ok := impl.ReadAsk(text); !ok || !sameAsk(b, bare(a)) {
			t.Fatalf("read %q: %v %v", text, b, ok)
		}
	}
}

// ask is a right statement that has an id, a shape and a tile, whatever its kind.
func (s *steps) ask() impl.Ask {
	one := s.shape(40)
	one, _ = impl.Move(one, s.between(-edge, edge-40), s.between(-edge, edge-40))
	level, wide := s.below(levelMost+1), 1
	for range s.below(9) {
		wide *= 10
	}
	a := impl.Ask{Kind: s.below(len(askWords)), Id: s.between(wide, 10*wide-1), Shape: one, Tile: tile(level, s.below(1<<level), s.below(1<<level))}
	if a.Kind == impl.AskIn {
		around, _ := impl.ShapeBox(one)
		a.Shape = rect(around.X0, around.Y0, around.X1, around.Y1)
	}
	return a
}

func TestWhatAnAskDoesNotHave(t *testing.T) {
	seen := map[int]int{}
	for _, c := range rightAsks() {
		if seen[c.ask.Kind]++; seen[c.ask.Kind] > 4 {
			continue
		}
		for _, a := range besides(c.ask) {
			if text := impl.AskText(a); text != c.text {
				t.Fatalf("text of %v: %q, not %q", a, text, c.text)
			}
		}
	}
	// What it does have is wrong, whatever stands beside it.
	for _, a := range []impl.Ask{ask(-1), ask(10), askPut(0, dot(1, 1)), askPut(1, rect(1, 0, 0, 0)), askId(impl.AskCut, 0), askId(impl.AskGet, idMost+1), askShape(impl.AskMeets, line(1, 1)), askShape(impl.AskIn, dot(1, 1)), askCount(tile(2, 4, 0))} {
		for _, b := range besides(a) {
			if text := impl.AskText(b); text != "" {
				t.Fatalf("text of %v: %q", b, text)
			}
		}
	}
}

func TestAsksThatAreNone(t *testing.T) {
	for _, a := range wrongAsks() {
		if text := impl.AskText(a); text != "" {
			t.Errorf("text of %v: %q", a, text)
		}
	}
}

// refusesAsk asks for the fixed answer where a text is no statement's.
func refusesAsk(t *testing.T, text string) {
	t.Helper()
	if a, ok := impl.ReadAsk(text); ok || !sameAsk(a, impl.Ask{}) {
		t.Errorf("read %.60q: %v %v", text, a, ok)
	}
}

func TestReadAskRefuses(t *testing.T) {
	for _, text := range []string{
		"", " ", "  ", "   ", "\x00", "5", "0 0 0", "POINT 1 2", "5 POINT 1 2", "RECT 0 0 1 1", "-", "WHAT", "BACK", "SELECT", // no kind's word
		"PUT", "CUT", "GET", "MEETS", "IN", "COUNT", "PUT ", "CUT ", "GET ", "MEETS ", "IN ", "COUNT ", // a kind's word alone that wants more
		"PUT 5", "PUT 5 ", "PUT POINT 1 2", "PUT 5 POINT", "PUT 5 POINT 1", "PUT 5 LINE 0 0", "MEETS POINT 1", "MEETS POINT", "MEETS RECT 0 0 1", "IN RECT 0 0 1", "IN RECT 0 0", "IN RECT", "COUNT 2", "COUNT 2 1", // a word too few
		"BEGIN BEGIN", "BEGIN 5", "COMMIT 0", "ROLLBACK ROLLBACK", "ALL 1", "ALL ALL", "BEGIN COMMIT", "CUT 5 6", "GET 5 6", "GET 5 POINT 1 2", "CUT 5 POINT 1 2", "COUNT 2 1 3 0", "COUNT 0 0 0 0", "COUNT 2 1 3 POINT 1 2", // a word too many
		"PUT 5 POINT 1 2 3", "PUT 5 POINT 1 2 3 4", "PUT 5 6 POINT 1 2", "MEETS POINT 1 2 3", "MEETS 5 POINT 1 2", "MEETS POINT 1 2 POINT 1 2", "IN RECT 0 0 1 1 1", "IN RECT 0 0 1 1 2 2", "IN 5 RECT 0 0 1 1", "PUT 5 POINT 1 2 ALL", "MEETS LINE 0 0 1 1 A", "IN RECT 0 0 1 1 IN", // a word behind a shape, or ahead of it
		"begin", "Begin", "BEGIn", "commit", "rollback", "all", "put 5 POINT 1 2", "PUT 5 point 1 2", "PUT 5 Point 1 2", "cut 5", "get 5", "Get 5", "meets POINT 1 2", "in RECT 0 0 1 1", "IN rect 0 0 1 1", "count 2 1 3", // small letters
		"BEGI", "BEGINS", "ROLL BACK", "ROLLBAC", "AL", "ALLE", "A", "GE 5", "GETS 5", "PUTS 5 POINT 1 2", "MEET POINT 1 2", "INN RECT 0 0 1 1", "I RECT 0 0 1 1", "COUNTS 2 1 3", "CUTS 5", "BEGINALL", // another word
		"BEGIN\t", "ALL\n", "\nALL", "ALL\r\n", "GET\t5", "GET\u00a05", "GET\u20035", "GET\x005", "PUT\t5\tPOINT\t1\t2", "PUT 5 POINT\t1 2", "IN\nRECT 0 0 1 1", "COUNT 2\t1 3", "MEETS POINT 1\u00a02", "ALL\x00", "\ufeffALL", "ALL\xff", // another blank sign, or one that is none
		"GET5", "CUT5", "COUNT213", "COUNT 213", "COUNT 21 3", "PUT5 POINT 1 2", "INRECT 0 0 1 1", "MEETSPOINT 1 2", "PUT 5POINT 1 2", // a blank too few
		"GET 05", "GET 005", "GET +5", "GET -0", "GET 0", "GET 00", "CUT 05", "CUT +5", "PUT 05 POINT 1 2", "PUT +5 POINT 1 2", "PUT 5 POINT 01 2", "PUT 5 POINT 1 +2", "PUT 5 POINT 1 -0", "MEETS POINT 1 02", "IN RECT 0 0 1 01", "IN RECT +0 0 1 1", // signs and noughts
		"COUNT 02 1 3", "COUNT 2 01 3", "COUNT 2 1 03", "COUNT +2 1 3", "COUNT 2 +1 3", "COUNT 2 1 +3", "COUNT -0 0 0", "COUNT 0 -0 0", "COUNT 0 0 -0", "COUNT 00 0 0",
		"GET 5.0", "GET 5e0", "GET 0x5", "GET 1_0", "GET five", "GET A", "GET 5A", "GET A5", "GET '5'", "GET \u0665", "GET -", "COUNT A B C", "COUNT 2 1 C", "COUNT 2 B 3", "COUNT A 1 3", "PUT A POINT 1 2", // no number
		"GET -1", "GET -5", "GET 1000000000", "GET 4294967301", "GET 18446744073709551621", "GET 99999999999999999999", "CUT 0", "CUT -1", "CUT 1000000000", "PUT 0 POINT 1 2", "PUT -5 POINT 1 2", "PUT 1000000000 POINT 1 2", // an Id that is none
		"IN POINT 1 2", "IN LINE 0 0 1 1", "IN POLY 0 0 6 0 0 6", "IN POLY 0 0 4 0 4 4 0 4", "IN LINE 0 0 3 2 0 0", // a shape of another kind
		"IN 0 0 1 1", "MEETS 1 2", "PUT 5 1 2", "MEETS 5", "IN 5", "MEETS ALL", "IN ALL", "IN IN RECT 0 0 1 1", "MEETS MEETS POINT 1 2", "PUT 5 PUT 5 POINT 1 2",
		"COUNT -1 0 0", "COUNT 9 0 0", "COUNT 0 1 0", "COUNT 0 0 1", "COUNT 1 2 0", "COUNT 1 0 2", "COUNT 2 4 0", "COUNT 2 0 4", "COUNT 2 -1 0", "COUNT 2 0 -1", "COUNT 8 256 0", "COUNT 8 0 256", "COUNT 8 4294967296 0", "COUNT 18446744073709551618 1 3", // no tile
		"BEGIN;", "ALL.", "BEGIN\"", "'ALL'", "PUT 5, POINT 1 2", "PUT 5 POINT 1,2", "GET #5", "1 ALL", "0 BEGIN", "- ALL",
	} {
		refusesAsk(t, text)
	}
}

func TestReadAskOfWrongShapes(t *testing.T) {
	for _, text := range wrongTexts() {
		refusesAsk(t, "PUT 5 "+text)
		refusesAsk(t, "MEETS "+text)
		refusesAsk(t, "IN "+text)
	}
	for _, s := range wrongShapes() {
		if s.Kind < 0 || s.Kind > impl.KindPoly {
			continue
		}
		text := textOf([]string{"POINT", "LINE", "RECT", "POLY"}[s.Kind], s)
		refusesAsk(t, "PUT 5 "+text)
		refusesAsk(t, "MEETS "+text)
		refusesAsk(t, "IN "+text)
	}
}

// TestReadAskNearly asks of each right text what is nearly that: a blank or a word more, ahead, behind and between, and each word in small letters, twice or left out.
func TestReadAskNearly(t *testing.T) {
	for _, c := range rightAsks() {
		for _, blank := range []string{" ", "\t", "\n", "\x00", "\u00a0"} {
			refusesAsk(t, blank+c.text)
			refusesAsk(t, c.text+blank)
		}
		refusesAsk(t, c.text+" "+c.text)
		refusesAsk(t, strings.ToLower(c.text))
		words := strings.Split(c.text, " ")
		for i, word := range words {
			refusesAsk(t, joined(words, i, ""))
			refusesAsk(t, joined(words, i, "", word))
			refusesAsk(t, joined(words, i, word+"\t"))
			refusesAsk(t, joined(words, i, word+"a"))
			refusesAsk(t, joined(words, i, "0"+word))
			refusesAsk(t, joined(words, i, "+"+word))
			checkReadAsk(t, joined(words, i, word, word))
			checkReadAsk(t, joined(words, i))
			checkReadAsk(t, joined(words, i, "-"+word))
			checkReadAsk(t, joined(words, i, word+"0"))
		}
		checkReadAsk(t, c.text+" 0")
		checkReadAsk(t, c.text+" 7 8")
		refusesAsk(t, c.text+" ALL")
		refusesAsk(t, "ALL "+c.text)
	}
}

// joined is the text of words with others in the place of one.
func joined(words []string, i int, others ...string) string {
	return strings.Join(slices.Concat(words[:i], others, words[i+1:]), " ")
}

func TestReadAskOfLongTexts(t *testing.T) {
	for _, text := range []string{
		strings.Repeat(" ", 100000), strings.Repeat("A", 100000), strings.Repeat("9", 100000), strings.Repeat("BEGIN ", 100000), strings.Repeat("\xff", 100000),
		"ALL" + strings.Repeat(" ", 100000), strings.Repeat(" ", 100000) + "ALL", "GET " + strings.Repeat("0", 100000) + "5", "GET 5" + strings.Repeat("0", 100000), "GET 5" + strings.Repeat(" 5", 100000),
		"COUNT" + strings.Repeat(" 0", 100000), "MEETS" + strings.Repeat(" 1", 100000), "MEETS POINT" + strings.Repeat(" 1", 100000), "MEETS LINE" + strings.Repeat(" 0 0 1 1", 50000), "IN RECT" + strings.Repeat(" 0 0 1 1", 50000), "PUT 5 POLY" + strings.Repeat(" 0 0 6 0 0 6", 50000), "PUT " + strings.Repeat("5 ", 100000) + "POINT 1 2",
	} {
		refusesAsk(t, text)
	}
}

const (
	idPattern = `([1-9][0-9]{0,8})`
	anyNumber = `(0|[1-9][0-9]{0,2})`
	toTheEnd  = `((?s:.*))`
)

// askPatterns tell the texts of statements by Kind, but for what shapes and tiles there are.
var askPatterns = []*regexp.Regexp{
	regexp.MustCompile(`\ABEGIN\z`),
	regexp.MustCompile(`\ACOMMIT\z`),
	regexp.MustCompile(`\AROLLBACK\z`),
	regexp.MustCompile(`\APUT ` + idPattern + ` ` + toTheEnd + `\z`),
	regexp.MustCompile(`\ACUT ` + idPattern + `\z`),
	regexp.MustCompile(`\AGET ` + idPattern + `\z`),
	regexp.MustCompile(`\AMEETS ` + toTheEnd + `\z`),
	regexp.MustCompile(`\AIN (RECT (?s:.*))\z`),
	regexp.MustCompile(`\ACOUNT ` + anyNumber + ` ` + anyNumber + ` ` + anyNumber + `\z`),
	regexp.MustCompile(`\AALL\z`),
}

func numberOf(text string) int {
	n, _ := strconv.Atoi(text)
	return n
}

// askByPattern is another way to read a statement.
func askByPattern(text string) (impl.Ask, bool) {
	for kind, pattern := range askPatterns {
		parts := pattern.FindStringSubmatch(text)
		if parts == nil {
			continue
		}
		a, ok := impl.Ask{Kind: kind}, true
		if hasId(kind) {
			a.Id = numberOf(parts[1])
		}
		if hasShape(kind) {
			a.Shape, ok = impl.ReadShape(parts[len(parts)-1])
		}
		if hasTile(kind) {
			a.Tile = tile(numberOf(parts[1]), numberOf(parts[2]), numberOf(parts[3]))
			ok = a.Tile.Level <= levelMost && a.Tile.Col < 1<<a.Tile.Level && a.Tile.Row < 1<<a.Tile.Level
		}
		if ok {
			return a, true
		}
	}
	return impl.Ask{}, false
}

// checkReadAsk holds what is read of any text against the patterns, and against its own text.
func checkReadAsk(t *testing.T, text string) bool {
	t.Helper()
	want, there := askByPattern(text)
	a, ok := impl.ReadAsk(text)
	if ok != there || !sameAsk(a, want) {
		t.Fatalf("read %q: %v %v, not %v %v", text, a, ok, want, there)
	}
	if ok && (impl.AskText(a) != text || !sameAsk(a, bare(a))) {
		t.Fatalf("read %q: the text of %v is %q", text, a, impl.AskText(a))
	}
	return ok
}

// TestReadAskOfAllTexts has all texts of up to five of some words.
func TestReadAskOfAllTexts(t *testing.T) {
	words := []string{"ALL", "PUT", "GET", "MEETS", "IN", "COUNT", "POINT", "0", "1", "02", ""}
	texts, count := slices.Clone(words), 0
	for from := 0; from < len(texts); from++ {
		if checkReadAsk(t, texts[from]) {
			count++
		}
		if strings.Count(texts[from], " ") == 4 {
			continue
		}
		for _, word := range words {
			texts = append(texts, texts[from]+" "+word)
		}
	}
	// ALL; GET 1; MEETS and a POINT, and PUT 1 and one, each of 0 and 1; COUNT with 0 0 0 and with 1 and two of 0 and 1.
	if want := 1 + 1 + 4 + 4 + 1 + 4; count != want {
		t.Error("read of all texts", count, want)
	}
}

// TestReadAskOfChance reads texts that were right ahead of some changes to their bytes.
func TestReadAskOfChance(t *testing.T) {
	by := &steps{82}
	count := make([]int, len(askWords))
	for range 30000 {
		text := by.changed(impl.AskText(by.ask()), "0123456789-+  \tABCEGILMNOPRTUYa\xff")
		if checkReadAsk(t, text) {
			a, _ := impl.ReadAsk(text)
			count[a.Kind]++
		}
	}
	for _, kind := range []int{impl.AskPut, impl.AskCut, impl.AskGet, impl.AskMeets, impl.AskIn, impl.AskCount} {
		if count[kind] < 50 {
			t.Error("too few are read", count)
		}
	}
}

func TestTokensTell(t *testing.T) {
	word := func(s string) impl.Token { return impl.Token{Kind: impl.TokWord, Text: s} }
	number := func(s string) impl.Token { return impl.Token{Kind: impl.TokNumber, Text: s} }
	bad := func(s string) impl.Token { return impl.Token{Kind: impl.TokBad, Text: s} }
	for _, c := range []struct {
		s    string
		want []impl.Token
	}{
		{"", []impl.Token{bad("")}}, {" ", []impl.Token{bad(""), bad("")}}, {"   ", []impl.Token{bad(""), bad(""), bad(""), bad("")}},
		{"BEGIN", []impl.Token{word("BEGIN")}}, {" BEGIN ", []impl.Token{bad(""), word("BEGIN"), bad("")}}, {"A  Z", []impl.Token{word("A"), bad(""), word("Z")}},
		{"PUT 5 POINT -1 2", []impl.Token{word("PUT"), number("5"), word("POINT"), number("-1"), number("2")}},
		{"WHAT IS THAT", []impl.Token{word("WHAT"), word("IS"), word("THAT")}}, // words of no statement
		{"0 -0 00 07 -7 +7 7", []impl.Token{number("0"), bad("-0"), bad("00"), bad("07"), number("-7"), bad("+7"), number("7")}},
		{"999999999 1000000000 -999999999 -1000000000", []impl.Token{number("999999999"), bad("1000000000"), number("-999999999"), bad("-1000000000")}},
		{"a Put PUt pUT A1 1A A-1 -A 1-1 A- -", []impl.Token{bad("a"), bad("Put"), bad("PUt"), bad("pUT"), bad("A1"), bad("1A"), bad("A-1"), bad("-A"), bad("1-1"), bad("A-"), bad("-")}},
		{"A. .A A,B ; # ' 1.0 1e3 0x1 1_0 --1", []impl.Token{bad("A."), bad(".A"), bad("A,B"), bad(";"), bad("#"), bad("'"), bad("1.0"), bad("1e3"), bad("0x1"), bad("1_0"), bad("--1")}},
		{"A\tB A\n \nA 1\n \t A\x00 \xff A\xff", []impl.Token{bad("A\tB"), bad("A\n"), bad("\nA"), bad("1\n"), bad("\t"), bad("A\x00"), bad("\xff"), bad("A\xff")}},
		{"\u00c4 A\u00c4A \u0410 \uff21 \u0665 A\u00a0B A\u0301", []impl.Token{bad("\u00c4"), bad("A\u00c4A"), bad("\u0410"), bad("\uff21"), bad("\u0665"), bad("A\u00a0B"), bad("A\u0301")}},
		{"@ A [ Z / 0 : 9 ` {", []impl.Token{bad("@"), word("A"), bad("["), word("Z"), bad("/"), number("0"), bad(":"), number("9"), bad("`"), bad("{")}}, // what stands beside the bounds
		{"A@A A[A 1/1 1:1", []impl.Token{bad("A@A"), bad("A[A"), bad("1/1"), bad("1:1")}},
	} {
		if got := impl.Tokens(c.s); !slices.Equal(got, c.want) {
			t.Errorf("tokens of %q: %v", c.s, got)
		}
	}
}

var (
	wordPattern   = regexp.MustCompile(`\A[A-Z]+\z`)
	numberPattern = regexp.MustCompile(`\A(0|-?[1-9][0-9]{0,8})\z`)
)

// checkTokens holds the tokens of any text against Words and the patterns.
func checkTokens(t *testing.T, s string) {
	t.Helper()
	got, words := impl.Tokens(s), impl.Words(s)
	if len(got) != len(words) || len(got) != strings.Count(s, " ")+1 {
		t.Fatalf("tokens of %.60q: %d of %d", s, len(got), len(words))
	}
	for i, word := range words {
		want := impl.TokBad
		if wordPattern.MatchString(word) {
			want = impl.TokWord
		}
		if numberPattern.MatchString(word) {
			want = impl.TokNumber
		}
		if got[i] != (impl.Token{Kind: want, Text: word}) {
			t.Fatalf("token %d of %.60q: %v", i, s, got[i])
		}
	}
}

// TestTokensOfAnyText has all words of one and of two bytes, all of up to five of some bytes, and long ones.
func TestTokensOfAnyText(t *testing.T) {
	for a := range 256 {
		checkTokens(t, string([]byte{byte(a)}))
		for b := range 256 {
			checkTokens(t, string([]byte{byte(a), byte(b)}))
		}
	}
	texts := []string{""}
	for from := 0; from < len(texts); from++ {
		checkTokens(t, texts[from])
		if len(texts[from]) == 5 {
			continue
		}
		for _, b := range []string{"A", "Z", "a", "0", "1", "-", "+", " "} {
			texts = append(texts, texts[from]+b)
		}
	}
	for _, one := range []string{"A", "1", "-", " ", "A ", "1 ", "\xff", "A1"} {
		checkTokens(t, strings.Repeat(one, 50000))
		checkTokens(t, strings.Repeat(one, 50000)+"a")
	}
	by := &steps{83}
	for range 5000 {
		checkTokens(t, by.changed(impl.AskText(by.ask()), "0123456789-+   ABCZ@[abz/:\t\x00\xff"))
	}
}

func TestReadsTells(t *testing.T) {
	for kind, want := range []bool{false, false, false, false, false, true, true, true, true, true} {
		for _, a := range append(besides(ask(kind)), ask(kind)) {
			a.Kind = kind
			if impl.Reads(a) != want {
				t.Fatal("reads", a, !want)
			}
		}
	}
	for _, kind := range append([]int{-1, -2, -5, -9, 10, 11, 15, 5 + 256, 5 + 1<<16, 5 + 1<<32, 9 - 1<<32}, farInts...) {
		if impl.Reads(ask(kind)) || impl.Reads(impl.Ask{Kind: kind, Id: 5, Shape: rect(0, 0, 1, 1)}) {
			t.Error("reads", kind)
		}
	}
	// Kind alone is looked at: a statement that has no text reads too.
	for _, a := range wrongAsks() {
		if want := a.Kind >= impl.AskGet && a.Kind <= impl.AskAll; impl.Reads(a) != want {
			t.Error("reads", a, !want)
		}
	}
}

func TestAsksWriteNothing(t *testing.T) {
	list := wrongAsks()
	for _, c := range rightAsks() {
		list = append(list, c.ask)
	}
	for _, a := range list {
		was := slices.Clone(a.Shape.Points)
		a.Shape.Points = withRoom(a.Shape.Points)
		impl.AskText(a)
		impl.Reads(a)
		if !slices.Equal(a.Shape.Points, was) || !roomLeft(a.Shape.Points) {
			t.Fatal("a statement is written into", a)
		}
	}
}

// liesIn tells whether a text stands in the bytes of another one.
func liesIn(part, whole string) bool {
	first, at := uintptr(unsafe.Pointer(unsafe.StringData(whole))), uintptr(unsafe.Pointer(unsafe.StringData(part)))
	return part != "" && first <= at && at < first+uintptr(len(whole))
}

func TestAsksAreNewMemory(t *testing.T) {
	for _, c := range rightAsks() {
		text := strings.Clone(c.text)
		a, _ := impl.ReadAsk(text)
		b, _ := impl.ReadAsk(text)
		taken := map[*impl.Point]int{}
		if !takePlaces(a.Shape.Points, taken) || !takePlaces(b.Shape.Points, taken) {
			t.Fatal("two answers share points", c.text)
		}
		first := impl.Tokens(text)
		for _, one := range first {
			if liesIn(one.Text, text) {
				t.Fatalf("the word %q lies in the text", one.Text)
			}
		}
		first[0] = impl.Token{Kind: 9, Text: "other"}
		if impl.Tokens(text)[0].Kind != impl.TokWord || text != c.text {
			t.Fatal("two answers share a list", c.text)
		}
		if hasShape(a.Kind) {
			a.Shape.Points[0] = at(77, 77)
			_ = append(a.Shape.Points, at(78, 78))
		}
		if again, ok := impl.ReadAsk(text); !ok || !sameAsk(again, c.ask) || !sameAsk(b, c.ask) {
			t.Fatal("an answer is kept", c.text, again)
		}
	}
}
