package tests

import (
	"cmp"
	"math"
	"regexp"
	"slices"
	"strconv"
	"strings"
	"testing"

	"loop.example/g00229/impl"
)

const nearMost = 300

// lineOf is a line of a dump by the document's words, whatever the Id and the shape are.
func lineOf(id int, s impl.Shape) string {
	word := []string{"POINT", "LINE", "RECT", "POLY"}[s.Kind]
	return strconv.Itoa(id) + " " + textOf(word, s) + "\n"
}

func linesOf(list ...impl.Change) string {
	out := ""
	for _, c := range list {
		out += lineOf(c.Id, c.Shape)
	}
	return out
}

// putUp are n changes that put shapes, ascending by Id.
func putUp(n int) []impl.Change {
	var list []impl.Change
	for i := range n {
		list = append(list, put(3*i+2, dot(i, -i)))
	}
	return list
}

// thereByHand are the rows of right rows that are there at a moment, by Id.
func thereByHand(r impl.Rows, at int) []impl.Row {
	var list []impl.Row
	for _, one := range r.List {
		if isThere(one, at) {
			list = append(list, one)
		}
	}
	slices.SortFunc(list, func(a, b impl.Row) int { return cmp.Compare(a.Id, b.Id) })
	return list
}

// momentsOf are some at which something of rows begins or ends, and some at which nothing does.
func momentsOf(r impl.Rows) []int {
	list := []int{math.MinInt, -1, 0, 1, r.Now, math.MaxInt}
	for i, one := range r.List {
		if i%50 < 4 {
			list = append(list, one.From, one.To)
		}
	}
	slices.Sort(list)
	return slices.Compact(list)
}

// inOtherOrders are the same rows in some orders of the list.
func inOtherOrders(r impl.Rows) []impl.Rows {
	back := copyRows(r)
	slices.Reverse(back.List)
	half := copyRows(r)
	n := len(half.List) / 2
	half.List = slices.Concat(half.List[n:], half.List[:n])
	return []impl.Rows{r, back, half}
}

func checkDump(t *testing.T, r impl.Rows, at int, want string) {
	t.Helper()
	for _, one := range inOtherOrders(r) {
		if got := impl.Dump(one, at); got != want {
			t.Errorf("dump at %d of %d: %q and not %q", at, r.Now, got, want)
		}
	}
}

func TestDumpTells(t *testing.T) {
	for _, at := range []int{math.MinInt, -1, 0, 1, 7, 8, math.MaxInt} {
		checkDump(t, impl.Rows{}, at, "")
		checkDump(t, rows(7), at, "")
	}
	for _, c := range []struct {
		s    impl.Shape
		want string
	}{
		{dot(9, -9), "POINT 9 -9"}, {dot(0, 0), "POINT 0 0"}, {dot(-edge, edge), "POINT -30000 30000"},
		{line(3, 3, 9, 9), "LINE 3 3 9 9"}, {line(0, 0, 4, 0, 0, 0), "LINE 0 0 4 0 0 0"},
		{rect(0, 0, 4, 4), "RECT 0 0 4 4"}, {rect(-5, 5, -5, 5), "RECT -5 5 -5 5"},
		{poly(0, 0, 4, 0, 0, 4), "POLY 0 0 4 0 0 4"}, {poly(4, 0, 0, 4, 0, 0), "POLY 4 0 0 4 0 0"},
	} {
		checkDump(t, rows(1, row(7, 1, 0, c.s)), 1, "7 "+c.want+"\n")
		checkDump(t, rows(4, row(idMost, 2, 0, c.s), row(1, 1, 0, c.s)), 3, "1 "+c.want+"\n999999999 "+c.want+"\n")
	}
	// as numbers ascend, not as their texts do
	r := rows(1, row(100, 1, 0, dot(1, 1)), row(9, 1, 0, dot(2, 2)), row(10, 1, 0, dot(3, 3)), row(1, 1, 0, dot(4, 4)), row(99, 1, 0, dot(5, 5)))
	checkDump(t, r, 1, "1 POINT 4 4\n9 POINT 2 2\n10 POINT 3 3\n99 POINT 5 5\n100 POINT 1 1\n")
}

func TestDumpAtEachMoment(t *testing.T) {
	r := history()
	for at, want := range []string{
		"",
		"9 RECT 0 0 9 9\n",
		"3 POINT 1 1\n9 RECT 0 0 9 9\n",
		"3 POINT 1 1\n9 RECT 0 0 9 9\n",
		"3 POINT 1 1\n4 LINE 0 0 5 5\n",
		"3 POINT 2 2\n4 LINE 0 0 5 5\n",
		"3 POINT 2 2\n4 LINE 0 0 5 5\n",
		"3 POINT 3 3\n4 LINE 0 0 5 5\n",
		"3 POINT 3 3\n4 LINE 0 0 5 5\n6 POINT 6 6\n",
		"3 POINT 3 3\n4 LINE 0 0 5 5\n9 POLY 0 0 4 0 0 4\n",
		"3 POINT 3 3\n4 LINE 0 0 5 5\n9 POLY 0 0 4 0 0 4\n",
	} {
		checkDump(t, r, at, want)
	}
	for _, at := range []int{-1, -9, math.MinInt} {
		checkDump(t, r, at, "")
	}
	for _, at := range []int{11, 1000, math.MaxInt} {
		checkDump(t, r, at, impl.Dump(r, 9))
	}
	for _, r := range rightRows() {
		for _, at := range momentsOf(r) {
			want := ""
			for _, one := range thereByHand(r, at) {
				want += lineOf(one.Id, one.Shape)
			}
			checkDump(t, r, at, want)
		}
	}
	if all := impl.Dump(manyRows(rowsMost), 8); strings.Count(all, "\n") != rowsMost {
		t.Error("as many lines as there may be rows", strings.Count(all, "\n"))
	}
}

func TestDumpsOfWrongRows(t *testing.T) {
	for _, r := range wrongRows() {
		for _, at := range []int{-1, 0, 1, 2, 3, 4, 5, 9, math.MaxInt} {
			checkDump(t, r, at, "")
			checkNearest(t, r, at, impl.Point{X: 1, Y: 1}, nearMost)
			checkPairs(t, r, at)
			checkBounds(t, r, at, impl.Box{}, false)
		}
	}
}

func checkLoad(t *testing.T, text string, want ...impl.Change) {
	t.Helper()
	if got, n := impl.Load(text); n != 0 || !sameChanges(got, want) {
		t.Errorf("load %.80q: %v %d and not %v", text, got, n, want)
	}
}

func refusesLoad(t *testing.T, text string, at int) {
	t.Helper()
	if got, n := impl.Load(text); n != at || len(got) != 0 {
		t.Errorf("load %.80q: %d changes and %d, not %d", text, len(got), n, at)
	}
}

func TestLoadTells(t *testing.T) {
	checkLoad(t, "")
	for _, c := range []struct {
		text string
		want []impl.Change
	}{
		{"7 POINT 9 -9\n", changes(put(7, dot(9, -9)))},
		{"1 POINT 0 0\n", changes(put(1, dot(0, 0)))},
		{"999999999 POINT -30000 30000\n", changes(put(idMost, dot(-edge, edge)))},
		{"7 LINE 3 3 9 9\n", changes(put(7, line(3, 3, 9, 9)))},
		{"7 RECT 0 0 4 4\n", changes(put(7, rect(0, 0, 4, 4)))},
		{"7 POLY 0 0 4 0 0 4\n", changes(put(7, poly(0, 0, 4, 0, 0, 4)))},
		{"1 POINT 1 1\n2 POINT 1 1\n", changes(put(1, dot(1, 1)), put(2, dot(1, 1)))},
		{"9 POINT 1 1\n10 LINE 0 0 1 1\n100 RECT 0 0 1 1\n", changes(put(9, dot(1, 1)), put(10, line(0, 0, 1, 1)), put(100, rect(0, 0, 1, 1)))},
		{"1 POLY 0 0 4 0 0 4\n999999998 POINT 2 2\n999999999 POINT 3 3\n", changes(put(1, poly(0, 0, 4, 0, 0, 4)), put(idMost-1, dot(2, 2)), put(idMost, dot(3, 3)))},
	} {
		checkLoad(t, c.text, c.want...)
	}
	for i, s := range rightShapes() {
		checkLoad(t, lineOf(i+1, s), put(i+1, s))
		checkLoad(t, lineOf(i+1, s)+lineOf(i+2, s), put(i+1, s), put(i+2, s))
	}
}

func TestLoadRefuses(t *testing.T) {
	const fine = "2 POINT 9 9\n5 RECT 0 0 4 4\n"
	for _, line := range []string{
		"\n", " \n", "  \n", "\n\n", "\r\n", "\x00\n", "x\n", // empty, or nearly so
		"7\n", "7 \n", "POINT 1 1\n", "7POINT 1 1\n", "7POINT\n", // without a blank
		"7  POINT 1 1\n", "7 POINT  1 1\n", " 7 POINT 1 1\n", "7 POINT 1 1 \n", "7 POINT 1  1\n", "7\tPOINT 1 1\n", "7\u00a0POINT 1 1\n", // two blanks, other blanks
		"+7 POINT 1 1\n", "-7 POINT 1 1\n", "07 POINT 1 1\n", "007 POINT 1 1\n", "7 POINT +1 1\n", "7 POINT 01 1\n", "7 POINT -0 1\n", // signs and noughts
		"7x POINT 1 1\n", "x7 POINT 1 1\n", "7.0 POINT 1 1\n", "7e1 POINT 1 1\n", "0x7 POINT 1 1\n", "7_0 POINT 1 1\n", "\x00 POINT 1 1\n", "7\x00 POINT 1 1\n", "\xff POINT 1 1\n", // other bytes
		"7 POINT 1 1x\n", "7 POINT 1 1\x00\n", "7 POINT 1 1 1\n", "7 POINT 1 1\r\n", "7 POINT 1 1;\n", "7 POINT 1 1 POINT 1 1\n", "7 POINT 1 1 8 POINT 1 1\n", // behind the shape
		"0 POINT 1 1\n", "-1 POINT 1 1\n", "-0 POINT 1 1\n", "1000000000 POINT 1 1\n", "1000000001 POINT 1 1\n", "4294967303 POINT 1 1\n", "18446744073709551623 POINT 1 1\n", "99999999999999999999999 POINT 1 1\n", // no Id
		"7 7 POINT 1 1\n", "7 point 1 1\n", "PUT 7 POINT 1 1\n", "7 CUT\n", "7 -\n", "7 GONE\n", "7 CIRCLE 1 1\n", "7 POINT 30001 1\n", "POINT 7 1 1\n", // no shape
	} {
		refusesLoad(t, line, 1)
		refusesLoad(t, line+fine, 1)
		refusesLoad(t, "1 POINT 9 9\n"+line, 2)
		refusesLoad(t, fine+line, 3)
		refusesLoad(t, fine+line+"8 POINT 1 1\n", 3)
		// the first that is wrong is told, whatever is behind it
		refusesLoad(t, fine+line+line, 3)
		refusesLoad(t, line+"x", 1)
		refusesLoad(t, fine+line+fine+line+"x", 3)
	}
	for _, text := range wrongTexts() {
		if strings.Contains(text, "\n") {
			continue
		}
		refusesLoad(t, "7 "+text+"\n", 1)
		refusesLoad(t, fine+"7 "+text+"\n9 POINT 1 1\n", 3)
	}
	for _, s := range wrongShapes() {
		if s.Kind >= impl.KindPoint && s.Kind <= impl.KindPoly {
			refusesLoad(t, fine+lineOf(7, s), 3)
		}
	}
	for _, id := range noIds() {
		refusesLoad(t, lineOf(id, dot(1, 1)), 1)
		refusesLoad(t, "1 POINT 1 1\n"+lineOf(id, dot(1, 1)), 2)
	}
}

func TestLoadWithoutTheLastNewline(t *testing.T) {
	for _, last := range []string{"x", " ", "\x00", "1", "7", "7 ", "7 POINT", "7 POINT 1 1", "7 POLY 0 0 4 0 0 4", "1 POINT 1 1", "POINT 1 1"} {
		refusesLoad(t, last, 1)
		refusesLoad(t, "1 POINT 1 1\n"+last, 2)
		refusesLoad(t, "2 POINT 9 9\n5 RECT 0 0 4 4\n"+last, 3)
		refusesLoad(t, "2 POINT 9 9\n\n"+last, 2)
		refusesLoad(t, linesOf(putUp(99)...)+last, 100)
		refusesLoad(t, linesOf(putUp(100)...)+last, 101)
	}
	for _, s := range rightShapes() {
		refusesLoad(t, strings.TrimSuffix(lineOf(7, s), "\n"), 1)
	}
	// a newline more is a line that is empty
	refusesLoad(t, "1 POINT 1 1\n\n", 2)
	refusesLoad(t, "\n1 POINT 1 1\n", 1)
	refusesLoad(t, "1 POINT 1 1\n\n2 POINT 1 1\n", 2)
	refusesLoad(t, "1 POINT\n 1 1\n", 1)
	refusesLoad(t, "1\nPOINT 1 1\n", 1)
}

func TestLoadWantsIdsThatAscend(t *testing.T) {
	for _, c := range []struct {
		ids []int
		at  int
	}{
		{[]int{1, 1}, 2}, {[]int{2, 1}, 2}, {[]int{idMost, idMost}, 2}, {[]int{idMost, 1}, 2}, {[]int{10, 9}, 2}, {[]int{100, 99}, 2},
		{[]int{1, 2, 2}, 3}, {[]int{1, 3, 2}, 3}, {[]int{1, 2, 1}, 3}, {[]int{5, 6, 5, 7}, 3}, {[]int{5, 4, 3, 2}, 2}, {[]int{5, 6, 7, 7, 6}, 4}, {[]int{1, 5, 3, 4}, 3},
	} {
		text := ""
		for i, id := range c.ids {
			text += lineOf(id, dot(i, i))
		}
		refusesLoad(t, text, c.at)
		refusesLoad(t, text+"x", c.at)
		refusesLoad(t, text+"9999 POINT 1 1\n", c.at)
	}
}

func TestLoadUpToAHundred(t *testing.T) {
	for _, n := range []int{2, 98, 99, 100} {
		checkLoad(t, linesOf(putUp(n)...), putUp(n)...)
	}
	var wide []impl.Change
	for i := range changesMost {
		wide = append(wide, put(idMost-changesMost+1+i, comb(60)))
	}
	checkLoad(t, linesOf(wide...), wide...)
	for _, n := range []int{101, 102, 200, 300, 5000} {
		refusesLoad(t, linesOf(putUp(n)...), 101)
	}
	many := strings.SplitAfter(linesOf(putUp(103)...), "\n")[:103]
	for _, wrong := range []string{"\n", "0 POINT 1 1\n", "1 POINT 1 1\n", "9999 POINT 1\n", "9999\n", "x\n"} {
		for i := 1; i < len(many); i++ {
			text := slices.Clone(many)
			text[i] = wrong
			// What is wrong behind the hundredth comes too late to be told.
			refusesLoad(t, strings.Join(text, ""), min(i+1, 101))
			refusesLoad(t, strings.Join(text[:i+1], ""), min(i+1, 101))
		}
	}
	refusesLoad(t, strings.Repeat("\n", 1000), 1)
	refusesLoad(t, strings.Repeat("1 POINT 1 1\n", 1000), 2)
}

var linePattern = regexp.MustCompile(`\A([1-9][0-9]{0,8}) ([^\n]*)\n\z`)

// loadByHand is another way to read a text, line by line.
func loadByHand(text string) ([]impl.Change, int) {
	var list []impl.Change
	for i, line := range strings.SplitAfter(text, "\n") {
		if line == "" {
			// Nothing is behind the last newline.
			return list, 0
		}
		parts := linePattern.FindStringSubmatch(line)
		if parts == nil || i >= changesMost {
			return nil, i + 1
		}
		s, ok := impl.ReadShape(parts[2])
		c := put(numberOf(parts[1]), s)
		if !ok || i > 0 && c.Id <= list[i-1].Id {
			return nil, i + 1
		}
		list = append(list, c)
	}
	return list, 0
}

// checkLoaded holds Load against the other way, and what is brought back against what the text says. It tells whether there was something to bring back.
func checkLoaded(t *testing.T, text string) bool {
	t.Helper()
	got, n := impl.Load(text)
	want, at := loadByHand(text)
	if n != at || !sameChanges(got, want) {
		t.Fatalf("load %q: %v %d and not %v %d", text, got, n, want, at)
	}
	r, ok := impl.Apply(impl.Rows{}, got)
	if !ok || n == 0 && impl.Dump(r, 1) != text || n != 0 && impl.Dump(r, 1) != "" {
		t.Fatalf("brought back %q: %q", text, impl.Dump(r, 1))
	}
	return n == 0
}

// TestLoadOfChangedTexts changes each byte of some dumps to each other one, leaves it out and cuts behind it.
func TestLoadOfChangedTexts(t *testing.T) {
	taken, refused := 0, 0
	for _, text := range []string{
		"", "7 POINT 9 -9\n", "9 POINT 1 1\n10 LINE 0 0 11 1\n100 RECT 0 0 20 3\n", "1 POLY 0 0 40 0 0 4\n2 POINT 30000 -2\n999999999 POINT 3 3\n",
	} {
		if !checkLoaded(t, text) {
			t.Error("refused", text)
		}
		for i := range len(text) {
			texts := []string{text[:i], text[:i] + text[i+1:], text[:i] + text[i:i+1] + text[i:]}
			for b := range 256 {
				texts = append(texts, text[:i]+string([]byte{byte(b)})+text[i+1:])
			}
			for _, one := range texts {
				if checkLoaded(t, one) {
					taken++
				} else {
					refused++
				}
			}
		}
	}
	if taken < 200 || refused < 10000 {
		t.Error("too few of one sort", taken, refused)
	}
}

func TestLoadOfChance(t *testing.T) {
	s := &steps{1201}
	taken := 0
	for range 6000 {
		var list []impl.Change
		id := 0
		for range s.below(5) {
			id += s.between(1, 9)
			list = append(list, put(id, s.shape(70)))
		}
		text := s.changed(linesOf(list...), "0123456789-+  POINTLERCY\n\n\n")
		if checkLoaded(t, text) {
			taken++
		}
	}
	if taken < 300 {
		t.Error("too few are taken", taken)
	}
}

// TestCarriedAwayAndBroughtBack is promise 12: what is there at each moment, up to a hundred, comes back the same.
func TestCarriedAwayAndBroughtBack(t *testing.T) {
	check := func(r impl.Rows, at int) {
		t.Helper()
		there := whatIsThere(r, at)
		list, n := impl.Load(impl.Dump(r, at))
		if len(there) > changesMost {
			if n != changesMost+1 || len(list) != 0 {
				t.Error("more than a hundred", at, n)
			}
			return
		}
		if n != 0 || !sameChanges(list, there) {
			t.Error("not the same", at, n, list, there)
		}
		for _, base := range []impl.Rows{{}, rows(5)} {
			back, ok := impl.Apply(base, list)
			if !ok || !sameChanges(whatIsThere(back, back.Now), there) || impl.Dump(back, back.Now) != impl.Dump(r, at) {
				t.Error("not brought back", at, ok)
			}
		}
	}
	for _, r := range append(rightRows(), history(), manyRows(99), manyRows(100), manyRows(101)) {
		for _, at := range momentsOf(r) {
			check(r, at)
		}
	}
	for seed := range 10 {
		s := &steps{uint64(1210 + seed)}
		r := impl.Rows{}
		for range 30 {
			r, _ = impl.Apply(r, s.changes(9))
		}
		for at := range r.Now + 2 {
			check(r, at)
		}
	}
}

func checkNearest(t *testing.T, r impl.Rows, at int, p impl.Point, most int, want ...int) {
	t.Helper()
	for _, one := range inOtherOrders(r) {
		if got := impl.Nearest(one, at, p, most); !slices.Equal(got, want) {
			t.Error("nearest", at, p, most, got, "and not", want)
		}
	}
}

// TestNearestOfABox asks from within a box, from its border, and from beyond each of its sides and corners, how far it is: dots as far, nearer and farther tell.
func TestNearestOfABox(t *testing.T) {
	for _, c := range []struct {
		p          impl.Point
		farX, farY int
	}{
		{at(5, 3), 0, 0}, {at(1, 1), 0, 0}, {at(9, 5), 0, 0}, // inside
		{at(0, 0), 0, 0}, {at(10, 0), 0, 0}, {at(10, 6), 0, 0}, {at(0, 6), 0, 0}, {at(5, 0), 0, 0}, {at(10, 3), 0, 0}, {at(5, 6), 0, 0}, {at(0, 3), 0, 0}, // on the border
		{at(-1, 3), 1, 0}, {at(11, 3), 1, 0}, {at(5, -1), 0, 1}, {at(5, 7), 0, 1}, {at(-20, 6), 20, 0}, {at(40, 0), 30, 0}, {at(0, -7), 0, 7}, {at(10, 60), 0, 54}, // beyond a side
		{at(-1, -1), 1, 1}, {at(11, -1), 1, 1}, {at(11, 7), 1, 1}, {at(-1, 7), 1, 1}, {at(-3, -4), 3, 4}, {at(22, -5), 12, 5}, {at(14, 9), 4, 3}, {at(-8, 21), 8, 15}, // beyond a corner
	} {
		for _, s := range []impl.Shape{rect(0, 0, 10, 6), line(0, 0, 10, 6), line(0, 6, 10, 0), poly(0, 0, 10, 0, 10, 6), poly(0, 0, 10, 6, 0, 6), line(0, 3, 5, 6, 10, 0)} {
			same := at(c.p.X+c.farX, c.p.Y+c.farY)
			more, less := at(same.X+1, same.Y), at(same.X-1, same.Y)
			if c.farX == 0 {
				more, less = at(same.X, same.Y+1), at(same.X, same.Y-1)
			}
			of := func(id int, other impl.Point) impl.Rows {
				return rows(1, row(5, 1, 0, s), row(id, 1, 0, dot(other.X, other.Y)))
			}
			checkNearest(t, of(4, same), 1, c.p, 9, 4, 5)
			checkNearest(t, of(6, same), 1, c.p, 9, 5, 6)
			checkNearest(t, of(4, more), 1, c.p, 9, 5, 4)
			if c.farX+c.farY > 0 {
				checkNearest(t, of(6, less), 1, c.p, 9, 6, 5)
			}
		}
	}
}

func TestNearestTells(t *testing.T) {
	for _, most := range []int{0, 1, nearMost} {
		checkNearest(t, impl.Rows{}, 0, at(0, 0), most)
		checkNearest(t, rows(7), 7, at(0, 0), most)
	}
	// equally far ones, on all sides: the least Id first
	around := rows(1, row(8, 1, 0, dot(3, 4)), row(2, 1, 0, dot(-5, 0)), row(5, 1, 0, dot(0, 5)), row(9, 1, 0, dot(4, -3)), row(1, 1, 0, dot(-4, -3)), row(7, 1, 0, rect(-9, 5, 9, 9)), row(100, 1, 0, dot(0, 4)), row(3, 1, 0, dot(5, 1)))
	checkNearest(t, around, 1, at(0, 0), nearMost, 100, 1, 2, 5, 7, 8, 9, 3)
	for most, want := range [][]int{{}, {100}, {100, 1}, {100, 1, 2}, {100, 1, 2, 5}, {100, 1, 2, 5, 7}, {100, 1, 2, 5, 7, 8}, {100, 1, 2, 5, 7, 8, 9}, {100, 1, 2, 5, 7, 8, 9, 3}, {100, 1, 2, 5, 7, 8, 9, 3}} {
		checkNearest(t, around, 1, at(0, 0), most, want...)
	}
	// of no most that may be asked for, and of no point
	for _, most := range append([]int{-1, -2, -nearMost, nearMost + 1, nearMost + 2, 1000}, farInts...) {
		checkNearest(t, around, 1, at(0, 0), most)
	}
	for _, p := range noPoints() {
		checkNearest(t, around, 1, p, nearMost)
		checkNearest(t, around, 1, p, 1)
	}
	// far away: the squares are of 60000
	far := rows(1, row(1, 1, 0, dot(edge, edge)), row(2, 1, 0, dot(edge, edge-1)), row(3, 1, 0, dot(-edge, edge)), row(4, 1, 0, dot(-edge+1, edge)), row(5, 1, 0, rect(-edge, -edge, -edge, edge)), row(6, 1, 0, dot(0, 0)))
	checkNearest(t, far, 1, at(-edge, -edge), nearMost, 5, 6, 3, 4, 2, 1)
	checkNearest(t, far, 1, at(edge, edge), nearMost, 1, 2, 6, 4, 3, 5)
	// by how far it is, not by how far x and y are together, or the farther of both
	bent := rows(1, row(1, 1, 0, dot(7, 0)), row(2, 1, 0, dot(4, 5)), row(3, 1, 0, dot(5, 5)), row(4, 1, 0, dot(0, 8)), row(5, 1, 0, dot(6, 4)))
	checkNearest(t, bent, 1, at(0, 0), nearMost, 2, 1, 3, 5, 4)
}

func TestNearestAtEachMoment(t *testing.T) {
	r := history()
	for at, want := range [][]int{{}, {9}, {9, 3}, {9, 3}, {4, 3}, {4, 3}, {4, 3}, {4, 3}, {6, 4, 3}, {4, 9, 3}, {4, 9, 3}} {
		checkNearest(t, r, at, impl.Point{X: 6, Y: 6}, nearMost, want...)
		checkNearest(t, r, at, impl.Point{X: 6, Y: 6}, 1, want[:min(1, len(want))]...)
		checkNearest(t, r, at, impl.Point{X: 6, Y: 6}, 0)
	}
	for _, at := range []int{-1, math.MinInt} {
		checkNearest(t, r, at, impl.Point{}, nearMost)
	}
	checkNearest(t, r, math.MaxInt, impl.Point{X: 6, Y: 6}, nearMost, 4, 9, 3)
}

// farByHand is the square of how far the box of a shape is from p.
func farByHand(s impl.Shape, p impl.Point) int {
	b, _ := impl.ShapeBox(s)
	x, y := 0, 0
	switch {
	case p.X < b.X0:
		x = b.X0 - p.X
	case p.X > b.X1:
		x = p.X - b.X1
	}
	switch {
	case p.Y < b.Y0:
		y = b.Y0 - p.Y
	case p.Y > b.Y1:
		y = p.Y - b.Y1
	}
	return x*x + y*y
}

// nearestByHand sorts all that is there.
func nearestByHand(r impl.Rows, at int, p impl.Point, most int) []int {
	list := thereByHand(r, at)
	slices.SortStableFunc(list, func(a, b impl.Row) int { return cmp.Compare(farByHand(a.Shape, p), farByHand(b.Shape, p)) })
	var ids []int
	for i := range min(most, len(list)) {
		ids = append(ids, list[i].Id)
	}
	return ids
}

// TestFarByHand holds it against each point of small boxes.
func TestFarByHand(t *testing.T) {
	s := &steps{1202}
	for range 300 {
		one, p := s.shape(6), s.point(9)
		b, _ := impl.ShapeBox(one)
		least := math.MaxInt
		for _, q := range grid(6) {
			if holds(b, q) {
				least = min(least, (p.X-q.X)*(p.X-q.X)+(p.Y-q.Y)*(p.Y-q.Y))
			}
		}
		if farByHand(one, p) != least {
			t.Fatal("how far", one, p, least)
		}
	}
}

func TestNearestOfAllRows(t *testing.T) {
	for _, r := range append(rightRows(), history()) {
		for _, p := range []impl.Point{at(0, 0), at(3, -2), at(edge, -edge), at(-100, 700)} {
			for _, moment := range momentsOf(r) {
				n := len(thereByHand(r, moment))
				for _, most := range []int{0, 1, n - 1, n, n + 1, nearMost} {
					if most >= 0 && most <= nearMost {
						checkNearest(t, r, moment, p, most, nearestByHand(r, moment, p, most)...)
					}
				}
				checkNearest(t, r, moment, p, nearMost+1)
				checkNearest(t, r, moment, p, -1)
			}
		}
	}
}

// rowsOfChance are up to n of Ids of chance, some of them ended.
func (s *steps) rowsOfChance(n int, shape func() impl.Shape) impl.Rows {
	r := rows(5)
	for id := range n {
		one := row(7*((id*37)%101)+1, s.between(1, 5), 0, shape())
		if one.From < 5 && s.below(3) == 0 {
			one.To = s.between(one.From+1, 5)
		}
		r.List = append(r.List, one)
	}
	return r
}

func TestNearestOfChance(t *testing.T) {
	s := &steps{1203}
	for range 150 {
		// In a small square many are equally far.
		small := s.rowsOfChance(s.between(1, 40), func() impl.Shape { return s.shape(9) })
		wide := s.rowsOfChance(s.between(1, 40), s.spread)
		for moment := range 7 {
			for _, most := range []int{s.below(9), s.below(45), nearMost} {
				p, q := s.point(12), s.point(edge)
				checkNearest(t, small, moment, p, most, nearestByHand(small, moment, p, most)...)
				checkNearest(t, wide, moment, q, most, nearestByHand(wide, moment, q, most)...)
			}
		}
	}
}

// TestNearestAreToldFirst is promise 12: as many as are asked for are the first of all.
func TestNearestAreToldFirst(t *testing.T) {
	r := manyRows(rowsMost)
	for _, p := range []impl.Point{at(0, 0), at(500, -900), at(edge, edge)} {
		all := impl.Nearest(r, 8, p, nearMost)
		if len(all) != rowsMost {
			t.Fatal("all", len(all))
		}
		for most := range nearMost {
			if got := impl.Nearest(r, 8, p, most); !slices.Equal(got, all[:most]) {
				t.Fatal("not the first", p, most)
			}
		}
		for i, id := range all {
			one, _ := impl.RowAt(r, id, 8)
			if i == 0 {
				continue
			}
			before, _ := impl.RowAt(r, all[i-1], 8)
			if a, b := farByHand(before, p), farByHand(one, p); a > b || a == b && all[i-1] >= id {
				t.Fatal("out of order", p, i, a, b)
			}
		}
	}
}

func checkPairs(t *testing.T, r impl.Rows, at int, want ...[2]int) {
	t.Helper()
	for _, one := range inOtherOrders(r) {
		if got := impl.Pairs(one, at); !slices.Equal(got, want) {
			t.Error("pairs", at, got, "and not", want)
		}
	}
}

// TestPairsOfTwo has shapes of each two kinds that meet, only touch, stand apart, or lie one within the other.
func TestPairsOfTwo(t *testing.T) {
	dent := poly(0, 0, 60, 0, 60, 60, 30, 20, 0, 60)
	for _, c := range []struct {
		a, b impl.Shape
		want bool
	}{
		{dot(1, 1), dot(1, 1), true}, {dot(1, 1), dot(1, 2), false},
		{dot(2, 2), line(0, 0, 4, 4), true}, {dot(4, 4), line(0, 0, 4, 4), true}, {dot(2, 3), line(0, 0, 4, 4), false}, {dot(5, 5), line(0, 0, 4, 4), false},
		{dot(2, 2), rect(0, 0, 4, 4), true}, {dot(4, 4), rect(0, 0, 4, 4), true}, {dot(0, 2), rect(0, 0, 4, 4), true}, {dot(5, 4), rect(0, 0, 4, 4), false},
		{dot(9, 9), dent, true}, {dot(30, 20), dent, true}, {dot(30, 0), dent, true}, {dot(30, 21), dent, false}, {dot(61, 0), dent, false},
		{line(0, 0, 5, 4), line(0, 3, 5, 0), true}, {line(0, 0, 4, 4), line(4, 4, 9, 0), true}, {line(0, 0, 4, 4), line(2, 2, 9, 9), true}, {line(0, 0, 4, 4), line(1, 0, 5, 4), false}, {line(0, 0, 4, 4), line(3, 2, 9, 2), false}, {line(0, 0, 4, 4), line(2, 2, 9, 0), true},
		{line(-1, 2, 9, 3), rect(0, 0, 4, 4), true}, {line(1, 1, 3, 3), rect(0, 0, 4, 4), true}, {line(4, 4, 9, 9), rect(0, 0, 4, 4), true}, {line(3, 5, 5, 3), rect(0, 0, 4, 4), true}, {line(3, 6, 6, 3), rect(0, 0, 4, 4), false}, {line(5, 0, 5, 4), rect(0, 0, 4, 4), false},
		{line(10, 60, 50, 60), dent, false}, {line(20, 55, 30, 25, 40, 55), dent, false}, {line(20, 55, 30, 20, 40, 55), dent, true}, {line(5, 5, 50, 5), dent, true}, {line(-9, 9, 99, 9), dent, true}, {line(60, 60, 70, 60), dent, true}, {line(61, 0, 61, 60), dent, false},
		{rect(0, 0, 4, 4), rect(2, 2, 9, 9), true}, {rect(0, 0, 4, 4), rect(4, 0, 9, 4), true}, {rect(0, 0, 4, 4), rect(4, 4, 9, 9), true}, {rect(0, 0, 9, 9), rect(3, 3, 4, 4), true}, {rect(0, 0, 4, 4), rect(5, 0, 9, 4), false}, {rect(0, 0, 4, 4), rect(0, 5, 4, 9), false}, {rect(0, 3, 9, 5), rect(3, 0, 5, 9), true},
		{rect(25, 40, 35, 60), dent, false}, {rect(25, 15, 35, 60), dent, true}, {rect(29, 20, 31, 60), dent, true}, {rect(5, 5, 9, 9), dent, true}, {rect(-9, -9, 99, 99), dent, true}, {rect(60, 60, 99, 99), dent, true}, {rect(61, 0, 99, 99), dent, false},
		{poly(25, 60, 30, 25, 35, 60), dent, false}, {poly(25, 60, 30, 20, 35, 60), dent, true}, {poly(5, 5, 9, 5, 9, 9), dent, true}, {poly(-99, -99, 999, -99, -99, 999), dent, true}, {poly(0, 0, -9, 0, -9, -9), dent, true}, {poly(61, 0, 99, 0, 99, 99), dent, false}, {dent, dent, true},
	} {
		var want [][2]int
		if c.want {
			want = [][2]int{{3, 8}}
		}
		checkPairs(t, rows(1, row(3, 1, 0, c.a), row(8, 1, 0, c.b)), 1, want...)
		checkPairs(t, rows(1, row(3, 1, 0, c.b), row(8, 1, 0, c.a)), 1, want...)
		checkPairs(t, rows(1, row(3, 1, 0, c.a), row(8, 1, 0, c.b)), 0)
	}
}

func TestPairsTell(t *testing.T) {
	for _, at := range []int{-1, 0, 1, 7, math.MaxInt} {
		checkPairs(t, impl.Rows{}, at)
		checkPairs(t, rows(7), at)
		checkPairs(t, rows(7, row(3, 1, 0, rect(0, 0, 9, 9))), at)
	}
	// by the first, then the second, as numbers ascend
	r := rows(1, row(100, 1, 0, dot(1, 1)), row(9, 1, 0, rect(0, 0, 9, 9)), row(10, 1, 0, line(5, 5, 20, 5)), row(idMost, 1, 0, dot(20, 5)), row(1, 1, 0, dot(-1, 0)), row(2, 1, 0, poly(1, 1, 5, 1, 5, 5)))
	checkPairs(t, r, 1, [2]int{2, 9}, [2]int{2, 10}, [2]int{2, 100}, [2]int{9, 10}, [2]int{9, 100}, [2]int{10, idMost})
	// all with all
	all := rows(1)
	var want [][2]int
	for i := range 40 {
		all.List = append(all.List, row(40-i, 1, 0, rect(-i, -i, i, i)))
		for k := i + 1; k < 40; k++ {
			want = append(want, [2]int{i + 1, k + 1})
		}
	}
	checkPairs(t, all, 1, want...)
	if list := impl.Pairs(manyRows(rowsMost), 8); len(list) != rowsMost*(rowsMost-1)/2 {
		t.Error("as many as there may be", len(list))
	}
	// at the bounds of the coordinates
	wide := rows(1, row(1, 1, 0, rect(-edge, -edge, edge, edge)), row(2, 1, 0, dot(edge, edge)), row(3, 1, 0, line(-edge, -edge, edge, edge)), row(4, 1, 0, line(-edge, edge, edge, -edge+1)), row(5, 1, 0, dot(-edge, edge)))
	checkPairs(t, wide, 1, [2]int{1, 2}, [2]int{1, 3}, [2]int{1, 4}, [2]int{1, 5}, [2]int{2, 3}, [2]int{3, 4}, [2]int{4, 5})
}

func TestPairsAtEachMoment(t *testing.T) {
	r := history()
	for at, want := range [][][2]int{nil, nil, {{3, 9}}, {{3, 9}}, {{3, 4}}, {{3, 4}}, {{3, 4}}, {{3, 4}}, {{3, 4}}, {{3, 4}, {4, 9}}, {{3, 4}, {4, 9}}} {
		checkPairs(t, r, at, want...)
	}
	checkPairs(t, r, -1)
	checkPairs(t, r, math.MinInt)
	checkPairs(t, r, math.MaxInt, [2]int{3, 4}, [2]int{4, 9})
	// two of one Id that follow each other are no pair
	checkPairs(t, rows(3, row(7, 1, 2, dot(1, 1)), row(7, 2, 0, dot(1, 1))), 1)
	checkPairs(t, rows(3, row(7, 1, 2, dot(1, 1)), row(7, 2, 0, dot(1, 1))), 2)
}

// pairsByHand asks each two of all that is there.
func pairsByHand(r impl.Rows, at int, meet func(a, b impl.Shape) bool) [][2]int {
	var list [][2]int
	there := thereByHand(r, at)
	for i, a := range there {
		for _, b := range there[i+1:] {
			if meet(a.Shape, b.Shape) {
				list = append(list, [2]int{a.Id, b.Id})
			}
		}
	}
	return list
}

func TestPairsOfAllRows(t *testing.T) {
	for _, r := range rightRows() {
		for _, at := range momentsOf(r) {
			checkPairs(t, r, at, pairsByHand(r, at, impl.ShapesMeet)...)
		}
	}
}

func TestPairsOfChance(t *testing.T) {
	s := &steps{1204}
	for range 40 {
		small := s.rowsOfChance(s.between(1, 14), func() impl.Shape { return s.shape(20) })
		wide := s.rowsOfChance(s.between(1, 14), s.spread)
		for moment := range 7 {
			checkPairs(t, small, moment, pairsByHand(small, moment, meetAtCorners)...)
			checkPairs(t, wide, moment, pairsByHand(wide, moment, impl.ShapesMeet)...)
		}
	}
}

func checkBounds(t *testing.T, r impl.Rows, at int, want impl.Box, ok bool) {
	t.Helper()
	for _, one := range inOtherOrders(r) {
		if got, there := impl.Bounds(one, at); got != want || there != ok {
			t.Error("bounds", at, got, there, "and not", want, ok)
		}
	}
}

func TestBoundsTell(t *testing.T) {
	for _, at := range []int{-1, 0, 1, 7, math.MaxInt} {
		checkBounds(t, impl.Rows{}, at, impl.Box{}, false)
		checkBounds(t, rows(7), at, impl.Box{}, false)
	}
	for _, s := range rightShapes() {
		around, _ := impl.ShapeBox(s)
		checkBounds(t, rows(1, row(3, 1, 0, s)), 1, around, true)
	}
	for _, c := range []struct {
		list []impl.Shape
		want impl.Box
	}{
		{[]impl.Shape{dot(0, 0)}, box(0, 0, 0, 0)}, // the zero value, and true
		{[]impl.Shape{dot(5, -7)}, box(5, -7, 5, -7)},
		{[]impl.Shape{dot(5, -7), dot(-2, 9)}, box(-2, -7, 5, 9)},
		{[]impl.Shape{line(3, 9, 1, 4, 7, 5)}, box(1, 4, 7, 9)},
		{[]impl.Shape{rect(0, 0, 9, 9), rect(3, 3, 4, 4)}, box(0, 0, 9, 9)},
		{[]impl.Shape{rect(3, 3, 4, 4), dot(4, 9), dot(-8, 3), poly(0, 0, 12, 0, 0, 4), line(1, -6, 2, 2)}, box(-8, -6, 12, 9)},
		{[]impl.Shape{dot(-5, -5), dot(-3, -9)}, box(-5, -9, -3, -5)},
		{[]impl.Shape{dot(5, 5), dot(3, 9)}, box(3, 5, 5, 9)},
		{[]impl.Shape{dot(edge, edge), dot(-edge, -edge)}, box(-edge, -edge, edge, edge)},
		{[]impl.Shape{dot(edge, -edge), dot(-edge, edge)}, box(-edge, -edge, edge, edge)},
		{[]impl.Shape{dot(edge, edge)}, box(edge, edge, edge, edge)},
		{[]impl.Shape{rect(-edge, -edge, edge, edge), dot(1, 1)}, box(-edge, -edge, edge, edge)},
	} {
		r := rows(2)
		for i, s := range c.list {
			r.List = append(r.List, row(i+1, 2, 0, s))
		}
		checkBounds(t, r, 2, c.want, true)
		checkBounds(t, r, 3, c.want, true)
		checkBounds(t, r, 1, impl.Box{}, false)
	}
}

func TestBoundsAtEachMoment(t *testing.T) {
	r := history()
	for at, want := range []impl.Box{{}, box(0, 0, 9, 9), box(0, 0, 9, 9), box(0, 0, 9, 9), box(0, 0, 5, 5), box(0, 0, 5, 5), box(0, 0, 5, 5), box(0, 0, 5, 5), box(0, 0, 6, 6), box(0, 0, 5, 5), box(0, 0, 5, 5)} {
		checkBounds(t, r, at, want, at > 0)
	}
	checkBounds(t, r, -1, impl.Box{}, false)
	checkBounds(t, r, math.MinInt, impl.Box{}, false)
	checkBounds(t, r, math.MaxInt, box(0, 0, 5, 5), true)
	over := rows(4, row(3, 1, 4, dot(1, 1)))
	checkBounds(t, over, 3, box(1, 1, 1, 1), true)
	checkBounds(t, over, 4, impl.Box{}, false)
	s := &steps{1205}
	lists := rightRows()
	for range 60 {
		lists = append(lists, s.rowsOfChance(s.between(1, 9), s.spread))
	}
	for _, r := range lists {
		for _, at := range append(momentsOf(r), 2, 3, 4) {
			var boxes []impl.Box
			for _, one := range thereByHand(r, at) {
				around, _ := impl.ShapeBox(one.Shape)
				boxes = append(boxes, around)
			}
			if len(boxes) == 0 {
				checkBounds(t, r, at, impl.Box{}, false)
				continue
			}
			checkBounds(t, r, at, hull(boxes), true)
		}
	}
}

func TestDumpsWriteIntoNothing(t *testing.T) {
	for i, r := range append(append(rightRows(), wrongRows()...), history()) {
		arg := roomyRows(r)
		ids, pairs := map[*int]int{}, map[*[2]int]int{}
		for _, moment := range []int{-1, 0, 1, 4, 9} {
			impl.Dump(arg, moment)
			impl.Bounds(arg, moment)
			for _, most := range []int{-1, 0, 1, 5, nearMost, nearMost, nearMost + 1} {
				if !takePlaces(impl.Nearest(arg, moment, at(1, 2), most), ids) {
					t.Fatal("Ids share memory", i)
				}
			}
			impl.Nearest(arg, moment, at(edge+1, 0), 5)
			if !takePlaces(impl.Pairs(arg, moment), pairs) || !takePlaces(impl.Pairs(arg, moment), pairs) {
				t.Fatal("pairs share memory", i)
			}
		}
		if !sameRows(arg, r) || !rowsRoomLeft(arg) {
			t.Fatal("rows are written into", i)
		}
	}
}

func TestLoadSharesNothing(t *testing.T) {
	for _, text := range []string{"", "x", linesOf(putUp(2)...), linesOf(putUp(100)...), linesOf(putUp(101)...), linesOf(put(1, comb(60)), put(2, comb(60)), put(3, zigzag(60)))} {
		m := newMemory()
		a, _ := impl.Load(text)
		b, _ := impl.Load(text)
		if !m.takeChanges(a) || !m.takeChanges(b) {
			t.Fatalf("changes share memory: %.60q", text)
		}
	}
}
