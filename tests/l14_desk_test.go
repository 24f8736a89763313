package tests

import (
	"math"
	"regexp"
	"slices"
	"strconv"
	"strings"
	"sync"
	"testing"

	"loop.example/g00229/impl"
)

const (
	scriptMost    = 20000
	deskLinesMost = 150
)

// deskWords are the words of the desk, each with a line of it.
var deskWords = map[string]string{
	"sync": "sync", "clean": "clean", "crash": "crash 9", "dump": "dump", "tile": "tile 1 1 1", "near": "near 3 -3 2", "pairs": "pairs", "now": "now", "index": "index RECT 0 0 4 4",
}

var (
	crashPattern = regexp.MustCompile(`\Acrash (0|-?[1-9][0-9]{0,8})\z`)
	threePattern = regexp.MustCompile(`\A(tile|near) (0|-?[1-9][0-9]{0,8}) (0|-?[1-9][0-9]{0,8}) (0|-?[1-9][0-9]{0,8})\z`)
	indexPattern = regexp.MustCompile(`(?s)\Aindex (.*)\z`)
	rectPattern  = regexp.MustCompile(`\ARECT (0|-?[1-9][0-9]{0,4}) (0|-?[1-9][0-9]{0,4}) (0|-?[1-9][0-9]{0,4}) (0|-?[1-9][0-9]{0,4})\z`)
)

func numbersIn(texts []string) []int {
	var list []int
	for _, text := range texts {
		list = append(list, numberOf(text))
	}
	return list
}

func orHyphen(text string) string {
	if text == "" {
		return "-"
	}
	return text
}

// indexByHand asks the box of each shape that is there, in the place of the tree.
func indexByHand(r impl.Rows, text string) string {
	m := rectPattern.FindStringSubmatch(text)
	if m == nil {
		return "none"
	}
	n := numbersIn(m[1:])
	b := box(n[0], n[1], n[2], n[3])
	if !impl.BoxOk(b) {
		return "none"
	}
	var found []int
	if impl.RowsOk(r) {
		for _, one := range thereByHand(r, r.Now) {
			if around, _ := impl.ShapeBox(one.Shape); !boxesApart(around, b) {
				found = append(found, one.Id)
			}
		}
	}
	return spaced(found)
}

func pairsTold(r impl.Rows) string {
	said := ""
	for _, one := range impl.Pairs(r, r.Now) {
		said += " " + strconv.Itoa(one[0]) + "-" + strconv.Itoa(one[1])
	}
	return orHyphen(strings.TrimPrefix(said, " "))
}

// deskByWords answers a line by the words of the document.
func deskByWords(s impl.Site, line string) (impl.Site, string) {
	r := s.Db.Store.Rows
	switch line {
	case "sync":
		return impl.SiteSync(s), "done"
	case "clean":
		return impl.SiteClean(s), "done"
	case "dump":
		return s, orHyphen(strings.Join(strings.Split(impl.Dump(r, r.Now), "\n"), ";"))
	case "pairs":
		return s, pairsTold(r)
	case "now":
		return s, strconv.Itoa(r.Now) + " " + strconv.Itoa(len(r.List))
	}
	if m := crashPattern.FindStringSubmatch(line); m != nil {
		return impl.SiteCrash(s, numberOf(m[1])), "done"
	}
	if m := indexPattern.FindStringSubmatch(line); m != nil {
		return s, indexByHand(r, m[1])
	}
	if m := threePattern.FindStringSubmatch(line); m != nil {
		n := numbersIn(m[2:])
		if m[1] == "tile" {
			return s, strconv.Itoa(impl.SiteTile(s, tile(n[0], n[1], n[2])))
		}
		return s, spaced(impl.Nearest(r, r.Now, at(n[0], n[1]), n[2]))
	}
	return impl.SiteDo(s, line)
}

// scriptByWords answers a script by the words of the document.
func scriptByWords(text string) string {
	if len(text) > scriptMost || text != "" && text[len(text)-1] != '\n' || strings.Count(text, "\n") > deskLinesMost {
		return "long\n"
	}
	s, _ := impl.SiteStart(3)
	told := ""
	for line := range strings.Lines(text) {
		next, said := deskByWords(s, strings.TrimSuffix(line, "\n"))
		s, told = next, told+said+"\n"
	}
	return told
}

// deskOnce answers a line, and holds what comes of it against the words of the document.
func deskOnce(t *testing.T, s impl.Site, line string) (impl.Site, string) {
	t.Helper()
	next, said := impl.DeskLine(s, line)
	want, answer := deskByWords(s, line)
	if said != answer || !sameSite(next, want) {
		t.Fatalf("%.80q: said %.80q, not %.80q, or the site is another one", line, said, answer)
	}
	if strings.Contains(said, "\n") {
		t.Fatalf("%.80q: a newline is told: %.80q", line, said)
	}
	return next, said
}

// deskTell has lines and their answers, one behind the other.
func deskTell(t *testing.T, s impl.Site, list ...string) impl.Site {
	t.Helper()
	for i := 0; i < len(list); i += 2 {
		next, said := deskOnce(t, s, list[i])
		if said != list[i+1] {
			t.Fatalf("%.80q: said %.80q, not %.80q", list[i], said, list[i+1])
		}
		if impl.SiteOk(s) && !impl.SiteOk(next) {
			t.Fatalf("%.80q: leaves a site that is not right", list[i])
		}
		s = next
	}
	return s
}

// deskStays asks for an answer that leaves the site as it is.
func deskStays(t *testing.T, s impl.Site, line, want string) {
	t.Helper()
	if next := deskTell(t, s, line, want); !sameSite(next, s) {
		t.Errorf("%.80q: the site is another one", line)
	}
}

// deskSays holds a script and its answers against each other.
func deskSays(t *testing.T, text, want string) {
	t.Helper()
	if told := impl.Desk(text); told != want {
		t.Errorf("%.80q: told %.80q, not %.80q", text, told, want)
	}
	if told := scriptByWords(text); told != want {
		t.Errorf("%.80q: by its words %.80q is told, not %.80q", text, told, want)
	}
}

// manySite has a row of shapes, each of which meets the next one.
func manySite(t *testing.T, n int) impl.Site {
	s := siteStarted(t, 3)
	for i := range n {
		s = tell(t, s, "0 PUT "+strconv.Itoa(10-i)+" RECT "+strconv.Itoa(3*i)+" 0 "+strconv.Itoa(3*i+3)+" 2", "ok")
	}
	return s
}

// deskSites are right sites with nothing in them, with one shape, with many and with open transactions.
func deskSites(t *testing.T) []impl.Site {
	return []impl.Site{siteStarted(t, 3), siteStarted(t, 0), manySite(t, 1), manySite(t, 9), talked(t), busySite(), impl.SiteSync(talked(t)), impl.SiteClean(busySite()), siteBy(t, 2, someLists()...)}
}

func TestDeskConstant(t *testing.T) {
	if impl.MaxScript != scriptMost {
		t.Error("constant")
	}
}

func TestDeskOfNothing(t *testing.T) {
	s := siteStarted(t, 3)
	for line, want := range map[string]string{
		"sync": "done", "clean": "done", "crash 0": "done", "crash 99": "done", "crash -1": "done", "dump": "-", "tile 0 0 0": "0", "tile 4 15 15": "0", "near 0 0 5": "-", "near 0 0 0": "-", "pairs": "-", "now": "0 0",
		"index RECT 0 0 1 1": "-", "index RECT -30000 -30000 30000 30000": "-", "index POINT 1 1": "none", "index ": "none", "index": "what", "0 COMMIT": "none", "3 ALL": "bad", "": "what",
	} {
		deskStays(t, s, line, want)
	}
}

func TestDeskOfOneShape(t *testing.T) {
	s := deskTell(t, siteStarted(t, 3), "1 PUT 7 LINE -3 4 2 9", "ok")
	for line, want := range map[string]string{
		"dump": "7 LINE -3 4 2 9;", "tile 0 0 0": "1", "tile 1 0 1": "1", "tile 1 1 1": "1", "tile 1 0 0": "0", "near 0 0 5": "7", "near 0 0 1": "7", "near 0 0 0": "-", "pairs": "-", "now": "1 1",
		"index RECT 0 0 9 9": "7", "index RECT 2 9 2 9": "7", "index RECT 3 9 3 9": "-", "index RECT -3 9 -3 9": "7", "index RECT 0 0 2 3": "-", "index LINE -3 4 2 9": "none",
	} {
		deskStays(t, s, line, want)
	}
	s = deskTell(t, s, "clean", "done", "now", "1 1", "crash 0", "done", "now", "0 0", "dump", "-", "tile 0 0 0", "0", "index RECT 0 0 9 9", "-")
	if s.Log != "" || len(s.Db.Sessions) != 3 {
		t.Error("behind a crash", s)
	}
}

func TestDeskOfManyShapes(t *testing.T) {
	s := manySite(t, 9)
	for line, want := range map[string]string{
		"dump":       "2 RECT 24 0 27 2;3 RECT 21 0 24 2;4 RECT 18 0 21 2;5 RECT 15 0 18 2;6 RECT 12 0 15 2;7 RECT 9 0 12 2;8 RECT 6 0 9 2;9 RECT 3 0 6 2;10 RECT 0 0 3 2;",
		"pairs":      "2-3 3-4 4-5 5-6 6-7 7-8 8-9 9-10",
		"near 0 0 3": "10 9 8", "near 13 1 300": "6 7 5 8 4 9 3 10 2", "near 30000 30000 1": "2", "near -5 1 2": "10 9",
		"tile 0 0 0": "9", "tile 1 1 1": "9", "tile 1 0 0": "0", "tile 4 8 8": "9", "tile 5 16 16": "0", "now": "9 9",
		"index RECT 5 0 7 1": "8 9", "index RECT 6 2 6 2": "8 9", "index RECT -30000 -30000 30000 30000": "2 3 4 5 6 7 8 9 10", "index RECT 0 3 27 9": "-",
	} {
		deskStays(t, s, line, want)
	}
}

// TestDeskOfOpenTransactions tells what is there for all, whatever sessions see that have a transaction.
func TestDeskOfOpenTransactions(t *testing.T) {
	s := deskTell(t, siteStarted(t, 3), "0 PUT 1 RECT 0 0 4 4", "ok", "0 PUT 2 POINT 4 4", "ok", "1 BEGIN", "ok", "1 PUT 3 POINT 0 0", "ok", "1 CUT 2", "ok", "2 BEGIN", "ok", "0 PUT 1 POINT 4 4", "ok")
	for line, want := range map[string]string{
		"dump": "1 POINT 4 4;2 POINT 4 4;", "pairs": "1-2", "now": "3 3", "near 4 4 9": "1 2", "tile 0 0 0": "2", "index RECT 0 0 3 3": "-", "index RECT 4 4 4 4": "1 2",
		"1 ALL": "1 3", "2 GET 1": "RECT 0 0 4 4", "0 COMMIT": "none", "1 BEGIN": "open",
	} {
		deskStays(t, s, line, want)
	}
	// What an open transaction still sees is not cleaned away, and a crash leaves no transaction open.
	s = deskTell(t, s, "clean", "done", "now", "3 3", "2 GET 1", "RECT 0 0 4 4", "2 ROLLBACK", "ok", "1 GET 1", "RECT 0 0 4 4", "clean", "done", "now", "3 3", "1 COMMIT", "ok", "now", "4 4", "clean", "done", "now", "4 2", "dump", "1 POINT 4 4;3 POINT 0 0;")
	s = deskTell(t, s, "0 BEGIN", "ok", "0 CUT 3", "ok", "sync", "done", "crash 0", "done", "0 COMMIT", "none", "dump", "1 POINT 4 4;3 POINT 0 0;", "now", "4 2")
	if s.Safe != len(s.Log) {
		t.Error("not all is safe", s.Safe)
	}
}

// TestDeskOfEachSite answers each word on each right site as the words of the document ask.
func TestDeskOfEachSite(t *testing.T) {
	lines := []string{"tile 0 0 0", "tile 4 8 8", "near 0 0 2", "near 9 9 300", "crash 0", "crash -1", "crash 33", "crash 999999999", "index RECT -9 -9 9 9", "index RECT 5 5 5 5", "0 ALL", "1 PUT 5 POINT 1 1", "9 ALL", "x", ""}
	for _, line := range deskWords {
		lines = append(lines, line)
	}
	for i, s := range rightSites(t) {
		if s.Db.Store.Rows.Now > 1000 && i%2 == 0 {
			continue
		}
		for _, line := range lines {
			if next, _ := deskOnce(t, s, line); !impl.SiteOk(next) {
				t.Fatal("not right", i, line)
			}
		}
	}
}

// spoiltLines are near to lines of a word, and none of them.
func spoiltLines(word, line string) []string {
	list := []string{
		" " + line, line + " ", "  " + line, line + "  ", strings.ToUpper(line), strings.ToUpper(line[:1]) + line[1:], line + " 0", line + " x", line + " " + word, word + " " + line, "0 " + line,
		line + "\n", "\n" + line, line + "\t", line + "\x00", line + "\r", line + line, word[1:] + line[len(word):], word[:len(word)-1] + line[len(word):], word + "s" + line[len(word):], word + " ", word + "  ", "\"" + line + "\"",
	}
	if behind := line[len(word):]; behind != "" {
		list = append(list, word, word+behind[1:], word+" "+behind, word+"\t"+behind[1:], line[:strings.LastIndex(line, " ")], line[:strings.LastIndex(line, " ")+1], line[:strings.LastIndex(line, " ")]+" "+line[strings.LastIndex(line, " "):])
	}
	return list
}

// TestDeskOfLinesThatAreNone has lines with blanks, words and letters that are wrong: each is any other line, but behind index and a blank, where it is no text of a RECT.
func TestDeskOfLinesThatAreNone(t *testing.T) {
	count := map[string]int{}
	for _, s := range deskSites(t) {
		for word, line := range deskWords {
			for _, spoilt := range spoiltLines(word, line) {
				want := "what"
				if strings.HasPrefix(spoilt, "index ") {
					want = "none"
				}
				count[want]++
				deskStays(t, s, spoilt, want)
				if _, said := impl.SiteDo(s, spoilt); said != "what" {
					t.Fatalf("%q is a line of the site: %q", spoilt, said)
				}
			}
		}
		for _, line := range []string{"", " ", "sync clean", "tile 0 0", "tile 0 0 0 0", "tile", "tile ", "near 1 1", "near 1 1 1 1", "near", "crash", "crash ", "crash 1 1", "crash  1", "crash 1 ", "tile 0  0", "tile 0 0 ", "tile  0 0 0", "near  0 0 1", "near 0 0  1", "dump 0", "now 0", "pairs 1 2", "index", "INDEX RECT 0 0 1 1", "RECT 0 0 1 1", "indexRECT 0 0 1 1", "tile0 0 0", "crash1"} {
			deskStays(t, s, line, "what")
		}
	}
	if count["what"] < 500 || count["none"] < 50 {
		t.Error("too few of one sort", count)
	}
}

// numberTexts are texts of numbers, and whether ReadInt takes them.
var numberTexts = map[string]bool{
	"0": true, "1": true, "-1": true, "7": true, "10": true, "-10": true, "300": true, "301": true, "30000": true, "-30001": true, "999999999": true, "-999999999": true,
	"+1": false, "+0": false, "-0": false, "--1": false, "+-1": false, "-+1": false, "1-": false, "00": false, "01": false, "-01": false, "007": false, "-": false, "+": false, "x": false, "1x": false, "x1": false,
	"1000000000": false, "-1000000000": false, "2147483648": false, "4294967296": false, "9223372036854775807": false, "-9223372036854775808": false, "9223372036854775808": false, "-9223372036854775809": false, "18446744073709551615": false, "18446744073709551616": false, "18446744073709551617": false,
	"1.0": false, "1e3": false, "0x1": false, "1_0": false, "1,": false, "\xd9\xa3": false, "\xef\xbc\x91": false, "1\x00": false, "\t1": false, "1\n": false, "": false, " 1": false, "1 ": false,
}

// TestDeskOfNumbers has each text of a number in each place of crash, tile and near.
func TestDeskOfNumbers(t *testing.T) {
	for _, s := range []impl.Site{siteStarted(t, 3), manySite(t, 9), talked(t)} {
		for text, ok := range numberTexts {
			if _, taken := impl.ReadInt(text); taken != ok {
				t.Fatalf("%q: %v", text, taken)
			}
			for _, line := range []string{"crash " + text, "tile " + text + " 0 0", "tile 0 " + text + " 0", "tile 0 0 " + text, "near " + text + " 0 5", "near 0 " + text + " 5", "near 0 0 " + text} {
				if !ok {
					deskStays(t, s, line, "what")
				} else if _, said := deskOnce(t, s, line); said == "what" {
					t.Errorf("%q is not taken", line)
				}
			}
		}
	}
}

func TestDeskCrashTells(t *testing.T) {
	s := deskTell(t, siteStarted(t, 3), "0 PUT 1 POINT 1 1", "ok", "sync", "done")
	first := len(s.Log)
	s = deskTell(t, s, "0 PUT 2 POINT 2 2", "ok")
	second := len(s.Log)
	s = deskTell(t, s, "0 PUT 3 POINT 3 3", "ok", "1 BEGIN", "ok", "1 PUT 4 POINT 4 4", "ok")
	third := len(s.Log)
	one, two, three := "1 POINT 1 1;", "1 POINT 1 1;2 POINT 2 2;", "1 POINT 1 1;2 POINT 2 2;3 POINT 3 3;"
	for _, c := range []struct {
		keep int
		left string
	}{
		{-999999999, one}, {-1, one}, {0, one}, {1, one}, {second - first - 1, one}, {second - first, two}, {second - first + 1, two}, {third - first - 1, two}, {third - first, three}, {third - first + 1, three}, {third, three}, {999999999, three},
	} {
		got := deskTell(t, s, "crash "+strconv.Itoa(c.keep), "done", "dump", c.left, "1 COMMIT", "none", "0 GET 4", "missing", "now", strconv.Itoa(strings.Count(c.left, ";"))+" "+strconv.Itoa(strings.Count(c.left, ";")))
		if !strings.HasPrefix(s.Log, got.Log) || got.Safe != len(got.Log) {
			t.Error("left", c.keep, len(got.Log), got.Safe)
		}
		deskTell(t, got, "crash 0", "done", "dump", c.left)
	}
	// What was not made safe ahead of it is lost.
	deskTell(t, siteStarted(t, 3), "0 PUT 1 POINT 1 1", "ok", "crash 0", "done", "dump", "-", "0 PUT 1 POINT 1 1", "ok", "crash 99", "done", "dump", "1 POINT 1 1;", "0 CUT 1", "ok", "crash 3", "done", "dump", "1 POINT 1 1;")
}

func TestDeskDumpTells(t *testing.T) {
	s := deskTell(t, siteStarted(t, 3), "dump", "-", "0 PUT 999999999 POLY 0 0 6 0 0 6", "ok", "dump", "999999999 POLY 0 0 6 0 0 6;", "0 PUT 1 POINT -1 -1", "ok", "dump", "1 POINT -1 -1;999999999 POLY 0 0 6 0 0 6;", "0 CUT 999999999", "ok", "dump", "1 POINT -1 -1;", "0 CUT 1", "ok", "dump", "-")
	if s.Db.Store.Rows.Now != 4 {
		t.Error("moments", s.Db.Store.Rows.Now)
	}
	many := putMany(rowsMost)
	full := siteBy(t, 1, many[:100], many[100:200], many[200:])
	_, said := deskOnce(t, full, "dump")
	if strings.Count(said, ";") != rowsMost || strings.ReplaceAll(said, ";", "\n") != linesOf(many...) {
		t.Errorf("many: %.80q", said)
	}
}

func TestDeskTileTells(t *testing.T) {
	s := deskTell(t, siteStarted(t, 3), "0 PUT 1 LINE -1 5 5 5", "ok", "0 PUT 2 POINT 5 5", "ok", "tile 0 0 0", "2", "tile 1 0 1", "1", "tile 1 1 1", "2", "tile 1 1 0", "0", "tile 4 8 8", "2", "tile 4 7 8", "1", "tile 4 15 15", "0", "tile 5 16 16", "0", "tile 8 128 128", "0")
	for _, one := range append(topTiles(), noTiles()...) {
		line := "tile " + strconv.Itoa(one.Level) + " " + strconv.Itoa(one.Col) + " " + strconv.Itoa(one.Row)
		want := strconv.Itoa(impl.SiteTile(s, one))
		if max(one.Level, one.Col, one.Row) > readMost || min(one.Level, one.Col, one.Row) < -readMost {
			want = "what"
		} else if !impl.TileOk(one) && want != "0" {
			t.Fatal("no tile", one)
		}
		deskStays(t, s, line, want)
	}
	// It is what is counted, and no less where a transaction has cut it.
	deskTell(t, s, "1 BEGIN", "ok", "1 CUT 2", "ok", "1 COUNT 0 0 0", "1", "tile 0 0 0", "2", "1 COMMIT", "ok", "tile 0 0 0", "1", "crash 99", "done", "tile 0 0 0", "1")
}

func TestDeskNearTells(t *testing.T) {
	s := manySite(t, 9)
	for line, want := range map[string]string{
		"near 0 0 0": "-", "near 0 0 1": "10", "near 0 0 2": "10 9", "near 0 0 9": "10 9 8 7 6 5 4 3 2", "near 0 0 10": "10 9 8 7 6 5 4 3 2", "near 0 0 300": "10 9 8 7 6 5 4 3 2",
		"near 0 0 301": "-", "near 0 0 -1": "-", "near 0 0 999999999": "-", "near 0 0 -999999999": "-",
		"near 30000 -30000 1": "2", "near 30001 0 1": "-", "near -30001 0 1": "-", "near 0 30001 1": "-", "near 0 -30001 1": "-", "near 999999999 999999999 300": "-",
		"near 3 1 2": "9 10", "near 6 0 2": "8 9", // of equally far ones the least first
	} {
		deskStays(t, s, line, want)
	}
	many := putMany(rowsMost)
	full := siteBy(t, 1, many[:100], many[100:200], many[200:])
	for most, want := range map[string]int{"299": 299, "300": rowsMost, "301": 1} {
		if _, said := deskOnce(t, full, "near 0 0 "+most); strings.Count(said, " ")+1 != want {
			t.Errorf("most %s: %.80q", most, said)
		}
	}
}

func TestDeskPairsTell(t *testing.T) {
	s := deskTell(t, siteStarted(t, 3), "pairs", "-", "0 PUT 20 RECT 0 0 9 9", "ok", "pairs", "-", "0 PUT 3 POINT 9 9", "ok", "pairs", "3-20", "0 PUT 100 POINT 10 10", "ok", "pairs", "3-20", "0 PUT 7 LINE 9 9 10 10", "ok", "pairs", "3-7 3-20 7-20 7-100", "0 CUT 3", "ok", "pairs", "7-20 7-100", "0 CUT 7", "ok", "pairs", "-")
	if len(s.Db.Store.Rows.List) != 4 {
		t.Error("rows", s.Db.Store.Rows)
	}
}

func TestDeskNowTells(t *testing.T) {
	s := deskTell(t, siteStarted(t, 3), "now", "0 0", "clean", "done", "now", "0 0", "0 PUT 1 POINT 1 1", "ok", "now", "1 1", "0 PUT 1 POINT 2 2", "ok", "now", "2 2", "0 GET 1", "POINT 2 2", "now", "2 2", "0 CUT 1", "ok", "now", "3 2", "0 CUT 1", "missing", "now", "3 2", "clean", "done", "now", "3 0", "0 PUT 5 POINT 1 1", "ok", "now", "4 1")
	deskTell(t, s, "1 BEGIN", "ok", "1 PUT 6 POINT 1 1", "ok", "now", "4 1", "1 COMMIT", "ok", "now", "5 2", "crash 0", "done", "now", "0 0")
	// Rows that are over are counted, until they are cleaned away or a crash leaves them out.
	deskTell(t, busySite(), "now", "9 7", "clean", "done", "now", "9 7", "crash 999999999", "done", "now", "9 3")
}

func TestDeskIndexTells(t *testing.T) {
	s := deskTell(t, siteStarted(t, 3), "0 PUT 5 POINT 1 1", "ok", "0 PUT 30 LINE 0 0 9 9", "ok", "0 PUT 4 RECT 2 2 5 5", "ok", "0 PUT 200 POLY 20 20 29 20 20 29", "ok")
	for behind, want := range map[string]string{
		"RECT 0 0 9 9": "4 5 30", "RECT 1 1 1 1": "5 30", "RECT -30000 -30000 30000 30000": "4 5 30 200", "RECT -30000 -30000 -30000 -30000": "-", "RECT 10 10 19 19": "-",
		// A shape is found where its box meets, also where it does not.
		"RECT 0 9 0 9": "30", "RECT 28 28 29 29": "200", "RECT 5 5 20 20": "4 30 200",
		"POINT 1 1": "none", "LINE 0 0 9 9": "none", "PATH 0 0 9 9": "none", "POLY 0 0 9 0 0 9": "none", "RING 0 0 9 0 0 9": "none", "POLY 0 0 9 0 9 9 0 9": "none",
		"RECT 9 9 0 0": "none", "RECT 9 0 0 9": "none", "RECT 0 9 9 0": "none", "RECT 1 0 0 0": "none", // corners told otherwise
		"RECT 0 0  9 9": "none", " RECT 0 0 9 9": "none", "RECT 0 0 9 9 ": "none", "RECT  0 0 9 9": "none", "": "none", " ": "none",
		"RECT": "none", "RECT ": "none", "RECT 0 0 9": "none", "RECT 0 0": "none", "RECT 0 0 9 9 9": "none", "RECT 0 0 9 9 9 9": "none", "RECT +0 0 9 9": "none", "RECT 0 0 +9 9": "none", "RECT -0 0 9 9": "none", "RECT 00 0 9 9": "none", "RECT 0 0 09 9": "none",
		"RECT 0 0 30001 9": "none", "RECT -30001 0 9 9": "none", "RECT 0 0 18446744073709551625 9": "none", "RECT 0 0 999999999 9": "none", "rect 0 0 9 9": "none", "Rect 0 0 9 9": "none", "RECTS 0 0 9 9": "none", "RECT 0 0 9 9\n": "none", "RECT,0,0,9,9": "none", "x": "none", "0": "none", "0 0 9 9": "none", "0 ALL": "none", "index": "none", "index RECT 0 0 9 9": "none", "RECT 0 0 9 9;": "none",
	} {
		deskStays(t, s, "index "+behind, want)
	}
	for _, text := range wrongTexts() {
		deskStays(t, s, "index "+text, "none")
	}
	for _, one := range rightShapes() {
		if _, said := deskOnce(t, s, "index "+impl.ShapeText(one)); (said == "none") != (one.Kind != impl.KindRect) {
			t.Errorf("index %.80q: %q", impl.ShapeText(one), said)
		}
	}
	// what was, and what is not committed, is not found
	s = deskTell(t, s, "0 PUT 5 POINT -9 -9", "ok", "0 CUT 4", "ok", "1 BEGIN", "ok", "1 PUT 6 POINT 1 1", "ok")
	deskStays(t, s, "index RECT 1 1 5 5", "30")
}

// TestDeskOfTheSitesLines has lines that SiteDo answers.
func TestDeskOfTheSitesLines(t *testing.T) {
	for _, s := range deskSites(t) {
		for session := -1; session <= len(s.Db.Sessions); session++ {
			for _, a := range allKinds() {
				deskOnce(t, s, strconv.Itoa(session)+" "+impl.AskText(a))
			}
		}
		for _, line := range []string{"", " ", "x", "0", "0 ", "00 ALL", "+0 ALL", "-0 ALL", "0 all", "0  ALL", " 0 ALL", "0 ALL ", "0 dump", "0 now", "0 sync", "dump 0 ALL", "BEGIN", "1000000000 ALL", "0 PUT 0 POINT 1 1", "0 IN POINT 1 1", strings.Repeat("0 ", 50000), strings.Repeat("sync ", 9999)} {
			deskStays(t, s, line, "what")
		}
		deskStays(t, s, "20 ALL", "bad")
		deskStays(t, s, "-1 PUT 1 POINT 1 1", "bad")
	}
	// the log is full
	s := siteWithRoom(t, 3)
	deskStays(t, s, "0 PUT 7 POINT 9 -9", "full")
	deskStays(t, s, "dump", "-")
	deskTell(t, s, "sync", "done", "crash 0", "done", "0 PUT 7 POINT 9 -9", "full", "0 ALL", "-")
}

// TestDeskOfSitesThatAreNot has wrong sites: the desk's own words ask no more of them than the functions do that they name.
func TestDeskOfSitesThatAreNot(t *testing.T) {
	lines := []string{"0 ALL", "", "x", "0 PUT 3 POINT 1 1", "crash", "crash +1", "tile 0 0", "near 0 0 -0", "index", " dump", "SYNC", "now "}
	own := []string{"sync", "clean", "crash 0", "crash 40", "dump", "tile 0 0 0", "tile 4 8 8", "near 3 3 9", "pairs", "now", "index RECT 0 0 9 9", "index x"}
	for i, s := range wrongSites(t) {
		if i%3 > 0 && i > 120 {
			continue
		}
		deskStays(t, s, lines[i%len(lines)], "bad")
		for k := range 4 {
			deskOnce(t, s, own[(i+3*k)%len(own)])
		}
	}
	// A site of no rows that are right tells nothing of them; its moment and how many there are it does.
	wrong := impl.Site{Db: database(store(rows(-7, row(1, 1, 0, dot(1, 1)), row(1, 1, 0, dot(1, 1))), txn(0)), 5), Log: "x", Safe: -3, Pyramid: counts(0, -4)}
	for line, want := range map[string]string{"dump": "-", "pairs": "-", "near 1 1 5": "-", "index RECT 0 0 5 5": "-", "index x": "none", "now": "-7 2", "tile 0 0 0": "-4", "tile 1 0 0": "0", "0 ALL": "bad", "9 ALL": "bad", "x": "bad", "clean": "done"} {
		deskStays(t, wrong, line, want)
	}
	deskTell(t, wrong, "sync", "done", "now", "-7 2", "0 ALL", "bad", "crash 9", "done", "now", "0 0", "0 ALL", "-")
}

func TestDeskTells(t *testing.T) {
	deskSays(t, "", "")
	deskSays(t, "\n", "what\n")
	deskSays(t, "\n\n", "what\nwhat\n")
	deskSays(t, "now\n", "0 0\n")
	deskSays(t, "now\n\nnow\n", "0 0\nwhat\n0 0\n")
	deskSays(t, "now\r\nnow \n now\nNOW\n", "what\nwhat\nwhat\nwhat\n")
	deskSays(t, "0 BEGIN\n1 BEGIN\n2 BEGIN\n3 BEGIN\n-1 BEGIN\n", "ok\nok\nok\nbad\nbad\n")
	deskSays(t, "\x00\n\xff\n", "what\nwhat\n")
	// lines of each kind among each other
	deskSays(t, strings.Join([]string{
		"now", "0 PUT 2 RECT 0 0 4 4", "1 BEGIN", "1 PUT 1 POINT 3 3", "dump", "1 ALL", "sync", "1 COMMIT", "dump", "pairs", "near 9 9 1", "near 0 0 -1", "tile 1 1 1", "tile 1 1", "index RECT 4 4 9 9", "index POINT 4 4", "index ", "index",
		"0 CUT 2", "now", "clean", "now", "crash 5", "now", "dump", "1 COMMIT", "crash x", "crash", "x", "9 ALL", "2 GET 2", "2 GET 1", "",
	}, "\n"), "0 0\nok\nok\nok\n2 RECT 0 0 4 4;\n1 2\ndone\nok\n1 POINT 3 3;2 RECT 0 0 4 4;\n1-2\n2\n-\n2\nwhat\n2\nnone\nnone\nwhat\nok\n3 2\ndone\n3 1\ndone\n1 1\n2 RECT 0 0 4 4;\nnone\nwhat\nwhat\nwhat\nbad\nRECT 0 0 4 4\nmissing\n")
}

// TestDeskOfNoScripts has texts without a newline at their end, and texts at the limits.
func TestDeskOfNoScripts(t *testing.T) {
	for _, text := range []string{"x", " ", "now", "sync", "now\nnow", "\nnow", "\n ", "now\n\x00", "now\r", "0 ALL\n0 ALL", strings.Repeat("now\n", deskLinesMost) + "x"} {
		deskSays(t, text, "long\n")
	}
	// lines
	for n, want := range map[int]string{149: strings.Repeat("0 0\n", 149), 150: strings.Repeat("0 0\n", 150), 151: "long\n", 152: "long\n", 5000: "long\n"} {
		deskSays(t, strings.Repeat("now\n", n), want)
	}
	deskSays(t, strings.Repeat("\n", 150), strings.Repeat("what\n", 150))
	deskSays(t, strings.Repeat("\n", 151), "long\n")
	// bytes
	for n, want := range map[int]string{scriptMost - 1: "what\n", scriptMost: "what\n", scriptMost + 1: "long\n", scriptMost + 2: "long\n", 10 * scriptMost: "long\n"} {
		deskSays(t, strings.Repeat("x", n-1)+"\n", want)
		deskSays(t, strings.Repeat("x", n), "long\n")
	}
	for n, want := range map[int]string{scriptMost: strings.Repeat("what\n", 149) + "0 0\n", scriptMost + 1: "long\n"} {
		text := strings.Repeat(" \n", 148) + "now\n"
		deskSays(t, strings.Repeat(" ", n-len(text)-1)+"\n"+text, want)
	}
	// a line of many bytes that is one
	wide := "0 PUT 1 " + impl.ShapeText(zigzag(60)) + "\n"
	deskSays(t, wide+"now\n", "ok\n1 1\n")
	full := strings.Repeat(wide, scriptMost/len(wide))
	full += strings.Repeat("x", scriptMost-len(full)-1) + "\n"
	deskSays(t, full, strings.Repeat("ok\n", strings.Count(full, "\n")-1)+"what\n")
	deskSays(t, "x"+full, "long\n")
}

// deskLine is a line of chance; most of them are right ones.
func (s *steps) deskLine() string {
	number := func(least, most int) string { return strconv.Itoa(s.between(least, most)) }
	switch s.below(24) {
	case 0:
		return "sync"
	case 1:
		return "clean"
	case 2:
		return "crash " + number(-2, 60)
	case 3, 4:
		return "dump"
	case 5:
		level := s.below(levelTop + 2)
		return "tile " + strconv.Itoa(level) + " " + number(0, 1<<level) + " " + number(0, 1<<level)
	case 6:
		return "near " + number(-9, 9) + " " + number(-9, 9) + " " + number(-1, 6)
	case 7:
		return "pairs"
	case 8:
		return "now"
	case 9, 10:
		b := s.box(9)
		return "index " + impl.ShapeText(rect(b.X0, b.Y0, b.X1, b.Y1))
	case 11:
		var all []string
		for _, line := range deskWords {
			all = append(all, line)
		}
		slices.Sort(all)
		line := s.changed(all[s.below(len(all))], " -+0123456789RECT\t")
		return strings.ReplaceAll(line, "\n", "")
	}
	return number(0, 2) + " " + impl.AskText(s.smallAsk())
}

// scriptOfChance is a script of so many lines.
func (s *steps) scriptOfChance(n int) string {
	text := ""
	for range n {
		text += s.deskLine() + "\n"
	}
	return text
}

// TestDeskBeginsAlike is promise 14: what is told of a script begins with what is told of each of its beginnings that is a script.
func TestDeskBeginsAlike(t *testing.T) {
	count := map[string]int{}
	for seed := range 40 {
		by := &steps{uint64(1400 + seed)}
		text := by.scriptOfChance([]int{20, 60, 120, deskLinesMost}[seed%4])
		told := impl.Desk(text)
		if want := scriptByWords(text); told != want || strings.Count(told, "\n") != strings.Count(text, "\n") {
			t.Fatal("seed", seed, told, "and not", want)
		}
		for answer := range strings.Lines(told) {
			count[strings.TrimSuffix(answer, "\n")]++
		}
		step := 1 + strings.Count(text, "\n")/25
		for i := 0; i <= len(text); i++ {
			if i > 0 && text[i-1] != '\n' {
				if i%17 == 0 && impl.Desk(text[:i]) != "long\n" {
					t.Fatal("no script is answered", seed, i)
				}
				continue
			}
			n := strings.Count(text[:i], "\n")
			if n%step > 0 {
				continue
			}
			if begun := impl.Desk(text[:i]); !strings.HasPrefix(told, begun) || strings.Count(begun, "\n") != n {
				t.Fatal("another beginning", seed, i, begun)
			}
		}
	}
	for _, said := range []string{"done", "ok", "what", "none", "missing", "open", "-", "0", "1", "2"} {
		if count[said] < 5 {
			t.Error("too few of one sort", said, count[said])
		}
	}
}

// TestDeskIsLineByLine holds scripts against their lines, one by one, on a site that is carried on.
func TestDeskIsLineByLine(t *testing.T) {
	for seed := range 20 {
		by := &steps{uint64(1450 + seed)}
		text := by.scriptOfChance(80)
		s, told := siteStarted(t, 3), ""
		for line := range strings.Lines(text) {
			next, said := deskOnce(t, s, strings.TrimSuffix(line, "\n"))
			if !impl.SiteOk(next) || len(next.Db.Sessions) != 3 {
				t.Fatal("not right", seed, line)
			}
			s, told = next, told+said+"\n"
		}
		if got := impl.Desk(text); got != told {
			t.Fatal("seed", seed, got, "and not", told)
		}
	}
}

// deskAnswers are all sites that lines of the desk make of s, and what is said.
func deskAnswers(s impl.Site) ([]impl.Site, []string) {
	var sites []impl.Site
	var answers []string
	for _, line := range []string{"sync", "clean", "crash -1", "crash 0", "crash 20", "crash 999999999", "dump", "tile 0 0 0", "near 0 0 9", "pairs", "now", "index RECT -9 -9 99 99", "index x", "crash", "x", "", "9 ALL", "0 ALL", "0 BEGIN", "1 COMMIT", "0 PUT 3 LINE 0 0 5 5 9 9", "0 GET 4"} {
		line = strings.Clone(line)
		next, said := impl.DeskLine(s, line)
		if liesIn(said, line) || liesIn(next.Log, line) {
			said = "shared"
		}
		sites, answers = append(sites, next), append(answers, said)
	}
	return sites, answers
}

// TestDesksShareNothing is promise 15 of the desk: it writes into no argument, and no answer shares memory with one.
func TestDesksShareNothing(t *testing.T) {
	one := line(0, 0, 5, 5)
	shared := siteBy(t, 2, changes(put(1, one), put(2, one), put(3, one)))
	shared.Db.Store.Txns = []impl.Txn{txn(1, put(7, one), put(8, one)), txn(1, put(7, one))}
	all := append(rightSites(t), siteWithRoom(t, 3), lots(t, 120))
	for i, s := range wrongSites(t) {
		if i%6 == 0 {
			all = append(all, s)
		}
	}
	for i, s := range append(all, shared) {
		arg, m, numbers, places := roomySite(s), newMemory(), map[*int]int{}, map[*impl.Count]int{}
		takeSite(arg, m, numbers, places)
		sites, answers := deskAnswers(arg)
		for k, answer := range sites {
			if !takeSite(answer, m, numbers, places) || liesIn(answer.Log, arg.Log) || liesIn(answers[k], arg.Log) || answers[k] == "shared" {
				t.Fatal("an answer shares memory", i, k)
			}
		}
		if !dbKept(arg.Db, s.Db) || !countsKept(arg.Pyramid, s.Pyramid) || arg.Log != s.Log || arg.Safe != s.Safe {
			t.Fatal("a site is written into", i)
		}
	}
	for _, text := range []string{"", "\n", "x", "x\n", "long\n", "-\n", "dump\npairs\n0 PUT 1 POINT 1 1\ndump\n"} {
		text = strings.Clone(text)
		if liesIn(impl.Desk(text), text) {
			t.Errorf("%q: what is told lies in the script", text)
		}
	}
}

// TestNothingIsKeptOfADesk asks again when the first answers are written into, and asks many at once: each desk is alone.
func TestNothingIsKeptOfADesk(t *testing.T) {
	s := busySite()
	sites, answers := deskAnswers(s)
	for k, one := range sites {
		want := roomySite(one)
		clear(one.Db.Sessions)
		clear(one.Pyramid)
		for _, each := range one.Db.Store.Rows.List {
			clear(each.Shape.Points)
		}
		clear(one.Db.Store.Rows.List)
		clear(one.Db.Store.Txns)
		again, said := deskAnswers(s)
		if !sameSite(again[k], want) || said[k] != answers[k] || !sameSite(s, busySite()) {
			t.Fatal("an answer is kept", k)
		}
	}
	texts, told := make([]string, 16), make([]string, 16)
	for i := range texts {
		by := &steps{uint64(1480 + i)}
		texts[i] = by.scriptOfChance(40)
	}
	var all sync.WaitGroup
	for i := range texts {
		all.Go(func() { told[i] = impl.Desk(texts[i]) })
	}
	all.Wait()
	for i := range texts {
		if told[i] != impl.Desk(texts[i]) || told[i] != scriptByWords(texts[i]) {
			t.Error("another answer among others", i)
		}
	}
	// What one script leaves is not there for the next.
	deskSays(t, "0 PUT 1 POINT 1 1\nsync\n0 BEGIN\n", "ok\ndone\nok\n")
	deskSays(t, "dump\n0 COMMIT\n", "-\nnone\n")
}

// TestDeskOfFarMoments has sites whose rows have moments and counts at the bounds of 64 bits.
func TestDeskOfFarMoments(t *testing.T) {
	for _, now := range []int{math.MaxInt, math.MinInt, -1, nowMost + 1} {
		s := impl.Site{Db: database(store(rows(now, row(7, 1, 0, dot(1, 1)))), -1), Safe: now, Pyramid: counts(0, now)}
		number := strconv.Itoa(now)
		deskTell(t, s, "now", number+" 1", "tile 0 0 0", number, "0 ALL", "bad")
		want := "7"
		if now < 0 {
			want = "-"
		}
		deskTell(t, s, "near 0 0 1", want, "index RECT 0 0 1 1", want)
	}
}
