package tests

import (
	"encoding/binary"
	"hash/adler32"
	"math"
	"slices"
	"strconv"
	"strings"
	"testing"
	"unsafe"

	"loop.example/g00229/impl"
)

const (
	foldMost = 1000000000
	numMost  = 4000000000
	halfMost = 65535
	readMost = 999999999
)

// farInts stand outside of all that chapter 1 takes; cut to 32 bits many of them would look right.
var farInts = []int{
	math.MinInt64, math.MinInt64 + 1, math.MaxInt64, math.MaxInt64 - 1,
	math.MinInt32 - 1, -1 << 40, 1 << 40, 1<<32 + 1, -1<<32 + 1, 1 << 62, -1 << 62,
}

// spreadInts tells numbers of least .. most: some hundred near each end, and steps of an odd width between them.
func spreadInts(least, most int) []int {
	var list []int
	for k := range 300 {
		list = append(list, least+k, most-k)
	}
	for n := least; n <= most; n += (most-least)/20011 + 1 {
		list = append(list, n)
	}
	return list
}

func TestCoordOk(t *testing.T) {
	for _, x := range []int{-impl.MaxCoord, -impl.MaxCoord + 1, -1, 0, 1, impl.MaxCoord - 1, impl.MaxCoord} {
		if !impl.CoordOk(x) {
			t.Error("a coordinate is refused", x)
		}
	}
	for _, x := range append([]int{-impl.MaxCoord - 1, impl.MaxCoord + 1}, farInts...) {
		if impl.CoordOk(x) {
			t.Error("no coordinate is taken", x)
		}
	}
	if impl.MaxCoord != 30000 {
		t.Error("the bound", impl.MaxCoord)
	}
}

func TestFoldTells(t *testing.T) {
	for _, c := range []struct{ x, n int }{
		{0, 0}, {-1, 1}, {1, 2}, {-2, 3}, {2, 4}, {150, 300}, {-150, 299},
		{foldMost, 2 * foldMost}, {-foldMost, 2*foldMost - 1}, {foldMost - 1, 2*foldMost - 2}, {-foldMost + 1, 2*foldMost - 3},
	} {
		if n := impl.Fold(c.x); n != c.n {
			t.Error("fold", c.x, n)
		}
		if x := impl.Unfold(c.n); x != c.x {
			t.Error("unfold", c.n, x)
		}
	}
}

func TestFoldComesBack(t *testing.T) {
	for _, x := range spreadInts(-foldMost, foldMost) {
		if n := impl.Fold(x); n < 0 || n > 2*foldMost || impl.Unfold(n) != x {
			t.Fatal("number", x, n, impl.Unfold(n))
		}
	}
	for _, n := range spreadInts(0, 2*foldMost) {
		if x := impl.Unfold(n); impl.Fold(x) != n {
			t.Fatal("folded", n, x)
		}
	}
}

func TestFoldRefuses(t *testing.T) {
	for _, x := range append([]int{foldMost + 1, -foldMost - 1}, farInts...) {
		if n := impl.Fold(x); n != -1 {
			t.Error("fold", x, n)
		}
	}
	for _, n := range append([]int{-1, -2, -3, 2*foldMost + 1, 2*foldMost + 2}, farInts...) {
		if x := impl.Unfold(n); x != 0 {
			t.Error("unfold", n, x)
		}
	}
}

// numEdges are where one more group of seven bits begins, and the ends.
var numEdges = []int{
	0, 1, 127, 128, 129, 255, 256, 300, 16383, 16384, 2097151, 2097152, 268435455, 268435456,
	1<<31 - 1, 1 << 31, 1<<31 + 1, numMost - 1, numMost,
}

func groupsOf(n uint64) string { return string(binary.AppendUvarint(nil, n)) }

func TestPutNumTells(t *testing.T) {
	for _, c := range []struct {
		n int
		s string
	}{
		{0, "\x00"}, {127, "\x7f"}, {128, "\x80\x01"}, {300, "\xac\x02"}, {16384, "\x80\x80\x01"},
		{268435455, "\xff\xff\xff\x7f"}, {268435456, "\x80\x80\x80\x80\x01"}, {numMost, "\x80\xd0\xac\xf3\x0e"},
	} {
		if s := impl.PutNum(c.n); s != c.s {
			t.Errorf("put %d: %x", c.n, s)
		}
	}
	for _, n := range append([]int{-1, -128, numMost + 1, 1<<32 - 1, 1 << 32}, farInts...) {
		if s := impl.PutNum(n); s != "" {
			t.Errorf("no number, put %d: %x", n, s)
		}
	}
}

func TestNumComesBack(t *testing.T) {
	for _, n := range append(spreadInts(0, numMost), numEdges...) {
		s := impl.PutNum(n)
		if s != groupsOf(uint64(n)) {
			t.Fatalf("put %d: %x", n, s)
		}
		for _, ahead := range []string{"", "\x00", "\x80", "\xff\xff\xff\xff\xff\xff"} {
			for _, behind := range []string{"", "\x00", "\x7f", "\xff"} {
				got, at := impl.GetNum(ahead+s+behind, len(ahead))
				if got != n || at != len(ahead)+len(s) {
					t.Fatalf("get %d between %x and %x: %d %d", n, ahead, behind, got, at)
				}
			}
		}
	}
}

func refusesNum(t *testing.T, s string, i int) {
	t.Helper()
	if n, at := impl.GetNum(s, i); n != 0 || at != -1 {
		t.Errorf("get of %x from %d: %d %d", s, i, n, at)
	}
}

func TestGetNumCutOff(t *testing.T) {
	for _, n := range numEdges {
		s := impl.PutNum(n)
		for k := range len(s) {
			refusesNum(t, s[:k], 0)
			refusesNum(t, "\x05"+s[:k], 1)
		}
	}
}

func TestGetNumPlaces(t *testing.T) {
	for _, s := range []string{"", "\x00", "\x05\x06", "\xac\x02"} {
		for _, i := range append([]int{-1, -2, len(s), len(s) + 1}, farInts...) {
			refusesNum(t, s, i)
		}
	}
	if n, at := impl.GetNum("\xac\x02", 1); n != 2 || at != 2 {
		t.Error("the last place", n, at)
	}
}

func TestGetNumNeedless(t *testing.T) {
	for _, n := range numEdges {
		s := []byte(impl.PutNum(n))
		s[len(s)-1] |= 128
		for range 8 {
			refusesNum(t, string(s)+"\x00", 0)
			s = append(s, 128)
		}
	}
}

func TestGetNumTooGreat(t *testing.T) {
	for _, n := range []uint64{numMost + 1, 1<<32 - 1, 1 << 32, 1<<32 + 300, 1<<33 + 5, 1<<35 - 1, 1 << 35, 1 << 42, 1<<63 - 1, 1 << 63, 1<<64 - 1} {
		refusesNum(t, groupsOf(n), 0)
		refusesNum(t, "\x01"+groupsOf(n)+"\x01", 1)
	}
	refusesNum(t, strings.Repeat("\xff", 100), 0)
	refusesNum(t, strings.Repeat("\x80", 100)+"\x01", 0)
}

// Whatever stands there, a number is told just where its own bytes do.
func TestGetNumAnyBytes(t *testing.T) {
	for n := range 1 << 18 {
		s := string([]byte{byte(n), byte(n >> 8), byte(n>>16) << 6})
		got, at := impl.GetNum(s, 0)
		want, width := binary.Uvarint([]byte(s))
		if width <= 0 || groupsOf(want) != s[:width] {
			want, width = 0, -1
		}
		if got != int(want) || at != width {
			t.Fatalf("get of %x: %d %d", s, got, at)
		}
	}
}

// wovenOf goes bit by bit, as the document says it.
func wovenOf(x, y int) int {
	n := 0
	for k := range 16 {
		n += (x >> k % 2) << (2 * k)
		n += (y >> k % 2) << (2*k + 1)
	}
	return n
}

func checkWoven(t *testing.T, x, y int) {
	t.Helper()
	n := impl.Weave(x, y)
	if n != wovenOf(x, y) {
		t.Fatal("weave", x, y, n)
	}
	if a, b := impl.Part(n); a != x || b != y {
		t.Fatal("part", n, a, b)
	}
}

func TestWeaveTells(t *testing.T) {
	for _, c := range []struct{ x, y, n int }{
		{0, 0, 0}, {1, 0, 1}, {0, 1, 2}, {3, 0, 5}, {0, 3, 10}, {5, 1, 19},
		{halfMost, 0, 0x55555555}, {0, halfMost, 0xaaaaaaaa}, {halfMost, halfMost, 0xffffffff}, {0, 32768, 1 << 31}, {32768, 0, 1 << 30},
	} {
		if n := impl.Weave(c.x, c.y); n != c.n {
			t.Error("weave", c.x, c.y, n)
		}
		if x, y := impl.Part(c.n); x != c.x || y != c.y {
			t.Error("part", c.n, x, y)
		}
	}
}

func TestWeaveComesBack(t *testing.T) {
	for x := range halfMost + 1 {
		for _, y := range []int{0, 1, x, halfMost - x, halfMost} {
			checkWoven(t, x, y)
			checkWoven(t, y, x)
		}
	}
	for _, n := range spreadInts(0, 1<<32-1) {
		x, y := impl.Part(n)
		if impl.Weave(x, y) != n {
			t.Fatal("part", n, x, y)
		}
	}
}

func TestWeaveRefuses(t *testing.T) {
	for _, x := range append([]int{-1, halfMost + 1}, farInts...) {
		for _, y := range []int{0, 1, halfMost, x} {
			if impl.Weave(x, y) != -1 || impl.Weave(y, x) != -1 {
				t.Error("weave", x, y, impl.Weave(x, y), impl.Weave(y, x))
			}
		}
	}
	for _, n := range append([]int{-1, 1 << 32}, farInts...) {
		if x, y := impl.Part(n); x != -1 || y != -1 {
			t.Error("part", n, x, y)
		}
	}
}

func TestCheckSum(t *testing.T) {
	for _, c := range []struct {
		s   string
		sum uint32
	}{{"", 1}, {"\x00", 0x00010001}, {"a", 0x00620062}, {"abc", 0x024d0127}, {"Wikipedia", 300286872}} {
		if sum := impl.CheckSum(c.s); sum != c.sum {
			t.Errorf("sum of %q: %d", c.s, sum)
		}
	}
	// From some 257 bytes of 255 on the first number passes 65521, and the second does sooner; 100000 is what a log may have.
	for _, piece := range []string{"\xff", "\x00", "\xf0\x01", "words and numbers", "\x80\xfe\n"} {
		for _, many := range []int{1, 2, 22, 23, 256, 257, 258, 5552, 5553, 100000} {
			s := strings.Repeat(piece, many)
			if sum := impl.CheckSum(s); sum != adler32.Checksum([]byte(s)) {
				t.Errorf("sum of %d times %q: %d", many, piece, sum)
			}
		}
	}
}

func TestDecText(t *testing.T) {
	for _, c := range []struct {
		n int
		s string
	}{
		{0, "0"}, {7, "7"}, {-7, "-7"}, {10, "10"}, {-120, "-120"}, {1000000000, "1000000000"},
		{math.MaxInt64, "9223372036854775807"}, {math.MinInt64, "-9223372036854775808"},
	} {
		if s := impl.DecText(c.n); s != c.s {
			t.Error("text", c.n, s)
		}
	}
}

func TestIntComesBack(t *testing.T) {
	list := append(spreadInts(-readMost, readMost), 0, 1, -1, 9, -9, 10, -10, 99, 100)
	for _, x := range append(list, spreadInts(-2000, 2000)...) {
		s := impl.DecText(x)
		if s != strconv.FormatInt(int64(x), 10) {
			t.Fatal("text", x, s)
		}
		if n, ok := impl.ReadInt(s); n != x || !ok {
			t.Fatal("read", s, n, ok)
		}
	}
}

func TestReadIntRefuses(t *testing.T) {
	list := []string{
		"", "-", "+", "--1", "-+1", "+1", "+0", "-0", "00", "01", "-01", "-00", "000000000001",
		" ", " 1", "1 ", "1 2", "- 1", "1\n", "1\t", "\x001", "1\x00", "a", "1a", "a1", "0x1", "0b1", "0o7", "1_0", "1e3", "1.0", "1.", ".1", "1-", "1,000",
		"\u0661", "\uff11", "\xff", "NaN", "Inf",
		"1000000000", "-1000000000", "1000000001", "9999999999", "4294967297", "-4294967297",
		"9223372036854775807", "-9223372036854775808", "9223372036854775808", "18446744073709551617", "-18446744073709551617",
		strings.Repeat("9", 1000), "-" + strings.Repeat("0", 1000), strings.Repeat("0", 1000) + "1",
	}
	for _, n := range farInts {
		list = append(list, strconv.Itoa(n))
	}
	for _, s := range list {
		if n, ok := impl.ReadInt(s); n != 0 || ok {
			t.Errorf("read %q: %d %v", s, n, ok)
		}
	}
}

// Of all texts of up to four of these bytes, those are right that are the text of a number.
func TestReadIntAnyText(t *testing.T) {
	texts := []string{""}
	for from := 0; from < len(texts) && len(texts[from]) < 4; from++ {
		for _, b := range []string{"0", "1", "9", "-", "+", " ", "_", "/", ":"} {
			texts = append(texts, texts[from]+b)
		}
	}
	right := map[string]int{}
	for n := -999; n <= 9999; n++ {
		right[strconv.Itoa(n)] = n
	}
	for _, s := range texts {
		want, there := right[s]
		if n, ok := impl.ReadInt(s); n != want || ok != there {
			t.Errorf("read %q: %d %v", s, n, ok)
		}
	}
}

func TestWords(t *testing.T) {
	for _, c := range []struct {
		s    string
		list []string
	}{
		{"", []string{""}}, {" ", []string{"", ""}}, {"  ", []string{"", "", ""}}, {"a", []string{"a"}},
		{"a b", []string{"a", "b"}}, {"a  b", []string{"a", "", "b"}}, {" a ", []string{"", "a", ""}},
		{"POINT 3 -4", []string{"POINT", "3", "-4"}},
		{"a\tb\nc\rd\u00a0e\u2003f\x00g", []string{"a\tb\nc\rd\u00a0e\u2003f\x00g"}}, {"\xff \x80", []string{"\xff", "\x80"}},
	} {
		if list := impl.Words(c.s); !slices.Equal(list, c.list) {
			t.Errorf("words of %q: %q", c.s, list)
		}
	}
}

func TestWordsComeBack(t *testing.T) {
	for n := range 1 << 12 {
		s := []byte{byte(n), ' ', byte(n >> 2), byte(n >> 4), ' ', ' ', byte(n >> 6)}
		list := impl.Words(string(s))
		if strings.Join(list, " ") != string(s) || len(list) != strings.Count(string(s), " ")+1 {
			t.Fatalf("words of %q: %q", s, list)
		}
		for _, word := range list {
			if strings.Contains(word, " ") {
				t.Fatalf("a blank in a word of %q: %q", s, list)
			}
		}
	}
}

func TestWordsAreNewMemory(t *testing.T) {
	s := strings.Repeat("some words ", 3)
	first := uintptr(unsafe.Pointer(unsafe.StringData(s)))
	for _, word := range impl.Words(s) {
		at := uintptr(unsafe.Pointer(unsafe.StringData(word)))
		if word != "" && first <= at && at < first+uintptr(len(s)) {
			t.Errorf("the word %q lies in the text", word)
		}
	}
	list := impl.Words(s)
	list[0] = "other"
	if impl.Words(s)[0] != "some" {
		t.Error("two answers share a list")
	}
}
