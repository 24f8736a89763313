package tests

import (
	"cmp"
	"encoding/binary"
	"hash/adler32"
	"math"
	"slices"
	"strings"
	"testing"

	"loop.example/g00229/impl"
)

const (
	logMost     = 100000
	changesMost = 100
)

func sameChanges(a, b []impl.Change) bool { return slices.EqualFunc(a, b, sameChange) }

// bytesOf are changes by the document's words, right or not.
func bytesOf(list ...impl.Change) string {
	out := groupsOf(uint64(len(list)))
	for _, c := range list {
		out += groupsOf(uint64(c.Id))
		if c.Gone {
			out += "\x01"
		} else {
			out += "\x00" + impl.PutShape(c.Shape)
		}
	}
	return out
}

// recordOf is a record by the document's words, whatever bytes it is of.
func recordOf(body string) string {
	sum := binary.BigEndian.AppendUint32(nil, adler32.Checksum([]byte(body)))
	return string(sum) + groupsOf(uint64(len(body))) + body
}

// logOf is the records of right lists behind each other.
func logOf(lists ...[]impl.Change) string {
	out := ""
	for _, list := range lists {
		out += recordOf(bytesOf(list...))
	}
	return out
}

// goneMany are changes of n Ids, all of them Gone.
func goneMany(n int) []impl.Change {
	var list []impl.Change
	for i := range n {
		list = append(list, gone(7*(n-i)))
	}
	return list
}

// rightChanges are lists with the edges that the chapter names.
func rightChanges() [][]impl.Change {
	list := [][]impl.Change{
		nil, {}, // no change
		{gone(1)}, {gone(127)}, {gone(128)}, {gone(16383)}, {gone(16384)}, {gone(idMost)}, // one
		{put(1, dot(0, 0))}, {put(idMost, dot(-edge, edge))}, {put(300, comb(60))}, {put(300, zigzag(60))},
		{put(5, dot(1, -1)), gone(300)}, {gone(300), put(5, dot(1, -1))}, // in any order
		{put(9, line(0, 0, 1, 1)), put(3, dot(2, 2)), gone(7), put(idMost, rect(0, 0, 1, 1)), gone(1)},
		{put(2, dot(1, 1)), put(1, dot(1, 1)), put(3, dot(1, 1))}, // of one shape
		putMany(2), putMany(99), putMany(changesMost), goneMany(99), goneMany(changesMost), // as many as there may be
		append(putMany(50), goneMany(50)...),
	}
	var each []impl.Change
	for i, s := range rightShapes() {
		list = append(list, changes(put(i+1, s)))
		if i < changesMost {
			each = append(each, put(500-i, s))
		}
	}
	return append(list, each)
}

// wrongChanges are lists that have no bytes, each for one reason.
func wrongChanges() [][]impl.Change {
	list := [][]impl.Change{
		putMany(101), putMany(102), putMany(1000), goneMany(101), append(putMany(51), goneMany(50)...), // too many
		{gone(3), gone(3)}, {put(3, dot(1, 1)), put(3, dot(1, 1))}, {put(3, dot(1, 1)), gone(3)}, {gone(3), put(3, dot(1, 1))}, // two Ids alike
		{put(3, dot(1, 1)), gone(4), put(2, dot(1, 1)), gone(3)},
		{goneWith(3, dot(1, 1))}, {goneWith(3, impl.Shape{Kind: impl.KindLine})}, {goneWith(3, dot(edge+1, 0))}, {put(2, dot(1, 1)), goneWith(3, line(0, 0, 1, 1))}, // gone, with a shape
		{{}}, {{Id: 3}}, {put(2, dot(1, 1)), {Id: 3}}, {{Id: 3}, put(2, dot(1, 1))}, // without a shape
	}
	for _, id := range noIds() {
		list = append(list, changes(gone(id)), changes(put(id, dot(1, 1))), changes(put(3, dot(1, 1)), gone(id)), changes(put(id, dot(1, 1)), gone(3)))
	}
	for _, s := range wrongShapes() {
		list = append(list, changes(put(3, s)), changes(put(4, dot(1, 1)), put(3, s), gone(9)))
	}
	last := putMany(changesMost)
	last[99] = gone(last[0].Id)
	return append(list, last)
}

func TestPutChangesTells(t *testing.T) {
	for _, c := range []struct {
		list []impl.Change
		want string
	}{
		{nil, "\x00"},
		{changes(gone(1)), "\x01\x01\x01"},
		{changes(gone(300)), "\x01\xac\x02\x01"},
		{changes(gone(idMost)), "\x01\xff\x93\xeb\xdc\x03\x01"},
		{changes(put(5, dot(1, -1))), "\x01\x05\x00\x00\x01\x02\x01"},
		{changes(put(5, rect(0, 0, 3, 2))), "\x01\x05\x00\x02\x02\x00\x00\x06\x04"},
		{changes(gone(300), put(5, dot(1, -1))), "\x02\xac\x02\x01\x05\x00\x00\x01\x02\x01"},
		{changes(put(9, dot(0, 0)), gone(2), put(3, line(0, 0, -1, 64))), "\x03\x09\x00\x00\x01\x00\x00\x02\x01\x03\x00\x01\x02\x00\x00\x01\x80\x01"},
	} {
		if got := impl.PutChanges(c.list); got != c.want {
			t.Error("bytes", c.list, []byte(got))
		}
	}
	for i, list := range rightChanges() {
		if got := impl.PutChanges(list); got != bytesOf(list...) {
			t.Error("bytes of a right list", i, []byte(got))
		}
	}
	for i, list := range wrongChanges() {
		if got := impl.PutChanges(list); got != "" {
			t.Error("bytes of a wrong list", i, []byte(got))
		}
	}
}

func refusesChanges(t *testing.T, s string) {
	t.Helper()
	if list, ok := impl.GetChanges(s); ok || len(list) != 0 {
		t.Error("changes of a wrong text", []byte(s), list, ok)
	}
}

func TestGetChangesBack(t *testing.T) {
	for i, list := range rightChanges() {
		if got, ok := impl.GetChanges(bytesOf(list...)); !ok || !sameChanges(got, list) {
			t.Error("not back", i, got, ok)
		}
	}
	// Lists that are wrong, written down as if they were right; a shape that is gone leaves no bytes.
	for _, list := range wrongChanges() {
		if !slices.ContainsFunc(list, func(c impl.Change) bool { return c.Gone && !isNone(c.Shape) }) {
			refusesChanges(t, bytesOf(list...))
		}
	}
}

func TestGetChangesRefuses(t *testing.T) {
	one := impl.PutShape(dot(1, -1))
	for _, s := range []string{
		"", "\x80", "\xff\xff\xff\xff\xff", "\x80\x00", "x", strings.Repeat("\x00", 2), strings.Repeat("\x01", 9), // no list
		"\x01", "\x01\x05", "\x01\x05\x00", "\x01\x05\x00\x00", "\x02\x05\x01", "\x01\x05\x01\x06\x01", "\x00\x05\x01", // a count that is more or less
		"\x01\x05\x02", "\x01\x05\x02" + one, "\x01\x05\xff" + one, "\x01\x05\x80\x00" + one, "\x01\x05\x81\x00", "\x01\x05\x81", "\x01\x05\x03", // no flag
		"\x81\x00\x05\x01", "\x01\x85\x00\x01", "\x01\x05\x00\x00\x81\x00\x02\x01", "\x01\x05\x00\x00\x01\x82\x00\x01", "\x01\x05\x00\x80\x00\x01\x02\x01", // in more bytes
		"\x01\x00\x01", "\x01\x80\x94\xeb\xdc\x03\x01", "\x01\x80\xd0\xac\xf3\x0e\x01", // no Id
		"\x02\x05\x01\x05\x01", "\x02\x05\x00" + one + "\x05\x01", "\x02\x05\x00" + one + "\x05\x00" + one, // two alike
		"\x65" + strings.Repeat("\x01\x01", 101), "\x80\xd0\xac\xf3\x0e", "\x80\xd0\xac\xf3\x0e\x05\x01", // too many
		"\x01\x05\x00\x04\x01\x00\x00", "\x01\x05\x00\x00\x02\x00\x00\x00\x00", "\x01\x05\x00\x02\x02\x06\x04\x05\x03", "\x01\x05\x00\x00\x01\xe2\xd4\x03\x00", // no shape
	} {
		refusesChanges(t, s)
	}
	for _, list := range rightChanges() {
		s := bytesOf(list...)
		for _, more := range []string{"\x00", "\x01", "x", "\xff", s} {
			refusesChanges(t, s+more)
		}
		refusesChanges(t, s[:len(s)-1])
		refusesChanges(t, "\x00"+s)
		refusesChanges(t, groupsOf(uint64(len(list)+1))+s[1:])
		if len(list) > 0 {
			refusesChanges(t, groupsOf(uint64(len(list)-1))+s[1:])
		}
	}
}

// checkChanges holds GetChanges against PutChanges: a text is right only where it is what the answer is written as.
func checkChanges(t *testing.T, s string) bool {
	t.Helper()
	list, ok := impl.GetChanges(s)
	if ok && impl.PutChanges(list) != s || !ok && len(list) != 0 {
		t.Fatal("not of its own text", []byte(s), list, ok)
	}
	return ok
}

// TestChangesChanged changes each byte of some texts to each other one, and cuts them off.
func TestChangesChanged(t *testing.T) {
	count := map[bool]int{}
	for _, list := range [][]impl.Change{
		nil, changes(gone(3)), changes(put(5, dot(1, -1)), gone(300)),
		changes(put(9, line(0, 0, 1, 1)), put(3, poly(0, 0, 9, 0, 0, 9)), gone(7), put(idMost, rect(0, 0, 100, 1)), gone(1)),
	} {
		s := bytesOf(list...)
		for i := range len(s) {
			refusesChanges(t, s[:i])
			checkChanges(t, s[:i]+"\x80"+s[i:])
			checkChanges(t, s[:i]+s[i+1:])
			for b := range 256 {
				changed := []byte(s)
				changed[i] = byte(b)
				ok := checkChanges(t, string(changed))
				count[ok]++
				if b == int(s[i]) && !ok {
					t.Fatal("the text itself is refused", []byte(s))
				}
			}
		}
	}
	if count[true] < 1000 || count[false] < 1000 {
		t.Error("too few of one sort", count)
	}
}

func TestChangesOfChance(t *testing.T) {
	s := &steps{101}
	count := map[bool]int{}
	for range 4000 {
		list := s.changes(9)
		text := impl.PutChanges(list)
		if got, ok := impl.GetChanges(text); !ok || !sameChanges(got, list) {
			t.Fatal("not back", list, got, ok)
		}
		for range 5 {
			count[checkChanges(t, s.changed(text, "\x00\x01\x02\x03\x04\x05\x7f\x80\x81\xff"))]++
		}
	}
	if count[true] < 200 || count[false] < 1000 {
		t.Error("too few of one sort", count)
	}
}

func TestRecordTells(t *testing.T) {
	for _, c := range []struct {
		list []impl.Change
		want string
	}{
		{nil, "\x00\x01\x00\x01\x01\x00"},
		{changes(gone(1)), "\x00\x09\x00\x04\x03\x01\x01\x01"},
		{changes(gone(300)), "\x02\x11\x00\xb1\x04\x01\xac\x02\x01"},
	} {
		if got := impl.Record(c.list); got != c.want {
			t.Error("record", c.list, []byte(got))
		}
	}
	for i, list := range rightChanges() {
		if got := impl.Record(list); got != recordOf(bytesOf(list...)) {
			t.Error("record of a right list", i, []byte(got))
		}
	}
	for i, list := range wrongChanges() {
		if got := impl.Record(list); got != "" {
			t.Error("record of a wrong list", i, []byte(got))
		}
	}
	// a length of one byte, of two and of three
	far := line()
	for i := range 60 {
		far.Points = append(far.Points, at(edge*(i%2*2-1), edge-i))
	}
	for _, c := range []struct{ n, size, ahead int }{{1, 4, 5}, {42, 127, 5}, {43, 130, 6}, {changesMost, 301, 6}} {
		list := goneMany(c.n)
		for i := range list {
			list[i].Id += 10000
		}
		body := impl.PutChanges(list)
		if got := impl.Record(list); len(body) != c.size || got[c.ahead:] != body || got != recordOf(body) {
			t.Error("length", c.n, len(body), len(got))
		}
	}
	long := changes()
	for i := range changesMost {
		long = append(long, put(idMost-i, far))
	}
	body := impl.PutChanges(long)
	if got := impl.Record(long); len(body) < 16384 || got != recordOf(body) || got[7:] != body {
		t.Error("the longest", len(got))
	}
	checkRecords(t, recordOf(body)+recordOf(body), [][]impl.Change{long, long}, 2*len(recordOf(body)))
}

// checkRecords asks for the records of a log, and behind which byte they end.
func checkRecords(t *testing.T, log string, want [][]impl.Change, end int) {
	t.Helper()
	got, at := impl.Records(log)
	if at != end || !slices.EqualFunc(got, want, sameChanges) {
		t.Fatal("records", len(got), at, "and not", len(want), end)
	}
}

// someLists are changes of a few records.
func someLists() [][]impl.Change {
	return [][]impl.Change{
		changes(put(5, dot(1, -1)), gone(300)),
		nil,
		changes(put(5, line(0, 0, 100, 100)), put(2, rect(0, 0, 9, 9)), put(idMost, poly(0, 0, 9, 0, 0, 9))),
		changes(gone(5)),
		changes(put(7, zigzag(60))),
		changes(gone(2), put(5, dot(3, 3))),
	}
}

func TestRecordsTell(t *testing.T) {
	if impl.MaxLog != logMost {
		t.Error("constant")
	}
	checkRecords(t, "", nil, 0)
	for _, list := range rightChanges() {
		one := logOf(list)
		checkRecords(t, one, [][]impl.Change{list}, len(one))
		checkRecords(t, one+one, [][]impl.Change{list, list}, 2*len(one))
		for _, more := range []string{"x", "\x00", "\xff\xff\xff\xff", one[1:], one[:len(one)-1]} {
			checkRecords(t, one+more, [][]impl.Change{list}, len(one))
			want, end := recordsByHand(more + one)
			checkRecords(t, more+one, want, end)
		}
	}
	all := rightChanges()
	checkRecords(t, logOf(all...), all, len(logOf(all...)))
}

// TestRecordsCutOff cuts a log off at every byte: the whole records ahead are left.
func TestRecordsCutOff(t *testing.T) {
	lists := someLists()
	log := logOf(lists...)
	for cut := range len(log) + 1 {
		n := 0
		for len(logOf(lists[:n+1]...)) <= cut {
			n++
			if n == len(lists) {
				break
			}
		}
		end := len(logOf(lists[:n]...))
		checkRecords(t, log[:cut], lists[:n], end)
		// with something else behind it
		checkRecords(t, log[:end]+strings.Repeat("\x00", cut-end), lists[:n], end)
	}
}

// recordsByHand are the records of a log, by the words of the document.
func recordsByHand(log string) ([][]impl.Change, int) {
	var lists [][]impl.Change
	end := 0
	for end+4 < len(log) {
		size, groups := binary.Uvarint([]byte(log[end+4:]))
		from := end + 4 + groups
		if groups < 1 || size > uint64(len(log)-from) {
			break
		}
		to := from + int(size)
		list, ok := impl.GetChanges(log[from:to])
		if !ok || impl.Record(list) != log[end:to] {
			break
		}
		lists, end = append(lists, list), to
	}
	return lists, end
}

// TestRecordsChanged changes each byte of a log to each other one: what is ahead of it is left.
func TestRecordsChanged(t *testing.T) {
	lists := [][]impl.Change{someLists()[0], nil, someLists()[3], someLists()[5]}
	log := logOf(lists...)
	for i := range len(log) {
		n := 0
		for len(logOf(lists[:n+1]...)) <= i {
			n++
		}
		end := len(logOf(lists[:n]...))
		for b := range 256 {
			changed := []byte(log)
			changed[i] = byte(b)
			want, last := recordsByHand(string(changed))
			checkRecords(t, string(changed), want, last)
			// One byte that is changed always changes the sum, but where it is one of the length other bytes are summed.
			if b != int(log[i]) && i != end+4 && (len(want) != n || last != end) {
				t.Fatal("a changed record is taken", i, b)
			}
		}
	}
}

func TestRecordsOfWrongLengths(t *testing.T) {
	first := logOf(changes(gone(9)))
	body := bytesOf(gone(3))
	sum := recordOf(body)[:4]
	for _, wrong := range []string{
		sum, sum[:3], sum + "\x03", sum + "\x80", sum + "\x04" + body, sum + "\x02" + body, sum + "\x00" + body, // too far, or not far enough
		sum + "\x83\x00" + body, sum + "\x83\x80\x00" + body, sum + "\x83\x80\x80\x80\x00" + body, // in more bytes
		sum + groupsOf(numMost) + body, sum + groupsOf(numMost+1) + body, sum + groupsOf(math.MaxUint32) + body, sum + "\xff\xff\xff\xff\x7f" + body, // huge
		sum + groupsOf(1<<32+3) + body, sum + groupsOf(math.MaxInt64) + body, sum + groupsOf(math.MaxUint64) + body, sum + groupsOf(1<<63+3) + body,
		recordOf(""), recordOf(body + "\x00"), recordOf("\x00" + body), recordOf("\x01\x83\x00\x01"), recordOf(bytesOf(gone(3), gone(3))), recordOf(bytesOf(goneMany(101)...)), // of what no changes are
		string([]byte{sum[3], sum[2], sum[1], sum[0]}) + "\x03" + body, // the lowest byte first
		"\x00\x00\x00\x00\x03" + body, "\x00\x00\x00\x01\x00",
	} {
		checkRecords(t, wrong, nil, 0)
		checkRecords(t, wrong+first, nil, 0)
		checkRecords(t, first+wrong, [][]impl.Change{{gone(9)}}, len(first))
		checkRecords(t, first+wrong+first, [][]impl.Change{{gone(9)}}, len(first))
	}
}

// fullLog has just as many bytes as a log may have, or a few more, all of them records: those of 8 bytes ahead of those of 6.
func fullLog(t *testing.T, more int) (string, int) {
	t.Helper()
	for wide := range 3 {
		if rest := logMost + more - 8*wide; rest%6 == 0 {
			return strings.Repeat(logOf(changes(gone(1))), wide) + strings.Repeat(logOf(nil), rest/6), wide + rest/6
		}
	}
	t.Fatal("no such log", more)
	return "", 0
}

func TestRecordsUpToTheMost(t *testing.T) {
	for _, more := range []int{-2, 0} {
		log, n := fullLog(t, more)
		if got, end := impl.Records(log); len(log) != logMost+more || len(got) != n || end != len(log) {
			t.Error("as many bytes as there may be", len(log), len(got), end)
		}
		if r, applied := impl.Replay(log); applied != n || !sameRows(r, rows(n)) {
			t.Error("played again", applied, r.Now)
		}
	}
	log, n := fullLog(t, -2)
	for _, more := range []string{"x", "xx"} {
		if got, end := impl.Records(log + more); len(got) != n || end != len(log) {
			t.Error("with what is none behind them", len(got), end)
		}
	}
	long, _ := fullLog(t, 2)
	for _, over := range []string{log + "xxx", long, strings.Repeat("x", logMost+1), strings.Repeat(logOf(nil), logMost)} {
		checkRecords(t, over, nil, 0)
		if r, applied := impl.Replay(over); applied != 0 || !sameRows(r, impl.Rows{}) {
			t.Error("played again", len(over), applied, r)
		}
	}
}

func checkAppend(t *testing.T, log string, list []impl.Change, want string, ok bool) {
	t.Helper()
	if got, done := impl.Append(log, list); done != ok || got != want {
		t.Error("appended", len(log), len(got), done)
	}
}

func TestAppendTells(t *testing.T) {
	log := ""
	for i, list := range someLists() {
		next, ok := impl.Append(log, list)
		if !ok || next != log+recordOf(bytesOf(list...)) {
			t.Fatal("appended", i, ok)
		}
		log = next
		checkRecords(t, log, someLists()[:i+1], len(log))
	}
	// A log need not be right, and is looked at by nobody.
	for _, log := range []string{"", "x", "\x00\x00\x00", log, log + "x", log[:len(log)-1], strings.Repeat("\xff", 1000)} {
		for _, list := range rightChanges() {
			checkAppend(t, log, list, log+recordOf(bytesOf(list...)), true)
		}
		for _, list := range wrongChanges() {
			checkAppend(t, log, list, log, false)
		}
	}
}

func TestAppendUpToTheMost(t *testing.T) {
	for _, list := range [][]impl.Change{nil, changes(gone(3)), someLists()[2], changes(put(7, zigzag(60))), putMany(changesMost)} {
		record := recordOf(bytesOf(list...))
		room := logMost - len(record)
		for _, less := range []int{0, 1, 2} {
			log := strings.Repeat("x", room-less)
			checkAppend(t, log, list, log+record, true)
		}
		for _, more := range []int{1, 2, len(record), len(record) + 1, logMost} {
			log := strings.Repeat("x", room+more)
			checkAppend(t, log, list, log, false)
		}
	}
	full, n := fullLog(t, -8)
	log, ok := impl.Append(full, changes(gone(7)))
	if got, end := impl.Records(log); !ok || len(got) != n+1 || end != logMost {
		t.Error("filled", ok, len(got), end)
	}
	checkAppend(t, log, nil, log, false)
	checkAppend(t, log, changes(gone(0)), log, false)
}

// checkReplay asks for the rows that a log makes, and how many of its records were applied.
func checkReplay(t *testing.T, log string, want impl.Rows, n int) {
	t.Helper()
	if got, applied := impl.Replay(log); applied != n || !sameRows(got, want) {
		t.Error("played again", got, applied, "and not", want, n)
	}
}

func TestReplayTells(t *testing.T) {
	checkReplay(t, "", impl.Rows{}, 0)
	checkReplay(t, "xxxxxxxxx", impl.Rows{}, 0)
	lists := someLists()
	wide := poly(0, 0, 9, 0, 0, 9)
	for n, want := range []impl.Rows{
		{},
		rows(1, row(5, 1, 0, dot(1, -1))),
		rows(2, row(5, 1, 0, dot(1, -1))),
		rows(3, row(5, 3, 0, line(0, 0, 100, 100)), row(2, 3, 0, rect(0, 0, 9, 9)), row(idMost, 3, 0, wide)),
		rows(4, row(2, 3, 0, rect(0, 0, 9, 9)), row(idMost, 3, 0, wide)),
		rows(5, row(2, 3, 0, rect(0, 0, 9, 9)), row(idMost, 3, 0, wide), row(7, 5, 0, zigzag(60))),
		rows(6, row(idMost, 3, 0, wide), row(7, 5, 0, zigzag(60)), row(5, 6, 0, dot(3, 3))),
	} {
		log := logOf(lists[:n]...)
		checkReplay(t, log, want, n)
		checkReplay(t, log+"x", want, n)
		checkReplay(t, log+recordOf("")+logOf(lists...), want, n)
	}
}

// replayByHand does as the document says, step by step.
func replayByHand(log string) (impl.Rows, int) {
	lists, _ := impl.Records(log)
	r := impl.Rows{}
	for i, list := range lists {
		next, ok := impl.Apply(r, list)
		if !ok {
			return r, i
		}
		r = impl.Vacuum(next, next.Now)
	}
	return r, len(lists)
}

// TestReplayStops has more rows than there may be in the middle of a log.
func TestReplayStops(t *testing.T) {
	many := putMany(rowsMost)
	three := [][]impl.Change{many[:100], many[100:200], many[200:]}
	other, old := put(5, dot(1, 1)), many[150].Id
	for i, c := range []struct {
		behind [][]impl.Change
		n      int
	}{
		{nil, 3},
		{[][]impl.Change{nil, nil}, 5},
		{[][]impl.Change{{other}}, 3},                                                 // one too many
		{[][]impl.Change{{other}, nil, {gone(old)}}, 3},                               // what is behind it is left out
		{[][]impl.Change{{put(old, dot(1, 1))}, {gone(old)}}, 3},                      // the row that is changed is there still
		{[][]impl.Change{{gone(old), other}, {gone(old)}}, 3},                         // so is one that is gone at the same moment
		{[][]impl.Change{{gone(old)}, {other}}, 5},                                    // room was made ahead
		{[][]impl.Change{{gone(old)}, {other}, nil, {put(6, dot(1, 1))}, nil}, 6},     // and taken
		{[][]impl.Change{{gone(old), gone(8), gone(77)}, {put(old, dot(9, 9))}}, 5},   // changed later
		{[][]impl.Change{{gone(old)}, {put(8, dot(1, 1))}, {put(8, dot(2, 2))}}, 6},   // what ended is cleaned behind each
		{[][]impl.Change{{gone(5)}, {gone(6)}, {gone(77777)}, {other}, {gone(1)}}, 6}, // gone of what never was
	} {
		log := logOf(append(slices.Clone(three), c.behind...)...)
		want, n := replayByHand(log)
		checkReplay(t, log, want, n)
		if got, applied := impl.Replay(log); applied != c.n || got.Now != c.n || !impl.RowsOk(got) {
			t.Error("stopped", i, applied, got.Now)
		}
	}
	full, _ := impl.Replay(logOf(three...))
	if len(full.List) != rowsMost || full.Now != 3 {
		t.Error("as many as there may be", len(full.List))
	}
}

func TestReplayOfChance(t *testing.T) {
	for seed := range 40 {
		s := &steps{uint64(1000 + seed)}
		log := ""
		for range 30 {
			log += logOf(s.changes(6))
			want, n := replayByHand(log)
			checkReplay(t, log, want, n)
			cut := log[:s.below(len(log))]
			want, n = replayByHand(cut)
			checkReplay(t, cut, want, n)
		}
		if r, n := impl.Replay(log); n != 30 || r.Now != 30 || slices.ContainsFunc(r.List, func(one impl.Row) bool { return one.To != 0 }) {
			t.Error("an end is kept", seed, n, r)
		}
	}
}

// betweenByHand is what was changed, by the words of the document.
func betweenByHand(r impl.Rows, at int) []impl.Change {
	var list []impl.Change
	for _, one := range r.List {
		begins := func(other impl.Row) bool { return other.Id == one.Id && other.From == at }
		switch {
		case one.From == at:
			list = append(list, put(one.Id, one.Shape))
		case one.To == at && at > 0 && !slices.ContainsFunc(r.List, begins):
			list = append(list, gone(one.Id))
		}
	}
	slices.SortFunc(list, func(a, b impl.Change) int { return cmp.Compare(a.Id, b.Id) })
	return list
}

func checkBetween(t *testing.T, r impl.Rows, at int, want ...impl.Change) {
	t.Helper()
	if got := impl.Between(r, at); !sameChanges(got, want) {
		t.Error("between", r.Now, at, got, "and not", want)
	}
}

func TestBetweenTells(t *testing.T) {
	r := history()
	for at, want := range [][]impl.Change{
		nil,
		{put(9, rect(0, 0, 9, 9))},
		{put(3, dot(1, 1))},
		nil,
		{put(4, line(0, 0, 5, 5)), gone(9)},
		{put(3, dot(2, 2))},
		nil,
		{put(3, dot(3, 3))},
		{put(6, dot(6, 6))},
		{gone(6), put(9, poly(0, 0, 4, 0, 0, 4))},
		nil, nil,
	} {
		checkBetween(t, r, at, want...)
		back := copyRows(r)
		slices.Reverse(back.List)
		checkBetween(t, back, at, want...)
	}
	for _, at := range []int{-1, -4, -9, math.MinInt, 0, 10, 11, 1000, nowMost, math.MaxInt} {
		checkBetween(t, r, at)
		checkBetween(t, impl.Rows{}, at)
		checkBetween(t, rows(7), at)
	}
	// Of one Id, the one that begins is told, wherever it stands.
	same := []impl.Row{row(3, 1, 4, dot(1, 1)), row(3, 4, 0, dot(1, 1)), row(2, 1, 4, dot(1, 1)), row(4, 4, 0, dot(1, 1)), row(1, 1, 4, dot(1, 1)), row(1, 4, 5, dot(8, 8))}
	for range same {
		same = append(same[1:], same[0])
		checkBetween(t, rows(5, same...), 4, put(1, dot(8, 8)), gone(2), put(3, dot(1, 1)), put(4, dot(1, 1)))
		checkBetween(t, rows(5, same...), 5, gone(1))
		checkBetween(t, rows(5, same...), 1, put(1, dot(1, 1)), put(2, dot(1, 1)), put(3, dot(1, 1)))
	}
}

// TestBetweenOfMany changes many Ids at one moment, told in several orders.
func TestBetweenOfMany(t *testing.T) {
	r := rows(2)
	for i := range rowsMost / 2 {
		id := i*37%150 + 1
		r.List = append(r.List, row(id, 1, 2, dot(id, 1)), row(id, 2, 0, dot(id, 2)))
	}
	for range 9 {
		slices.Reverse(r.List[7:])
		slices.Reverse(r.List[:160])
		got := impl.Between(r, 2)
		if len(got) != rowsMost/2 || !sameChanges(got, whatIsThere(r, 2)) {
			t.Fatal("between", got)
		}
		checkBetween(t, r, 1, whatIsThere(r, 1)...)
	}
}

func TestBetweenOfAllRows(t *testing.T) {
	for _, r := range rightRows() {
		moments := []int{-1, 0, r.Now, math.MaxInt}
		for _, one := range r.List {
			moments = append(moments, one.From, one.To)
		}
		slices.Sort(moments)
		for _, at := range slices.Compact(moments) {
			want := betweenByHand(r, at)
			checkBetween(t, r, at, want...)
			if at > 0 && at <= r.Now && slices.ContainsFunc(want, func(c impl.Change) bool { return c.Id < 1 }) {
				t.Error("no Id", at)
			}
		}
	}
	for _, r := range wrongRows() {
		for _, at := range []int{-1, 0, 1, 2, 3, 4, 5, 9, math.MaxInt} {
			checkBetween(t, r, at)
		}
	}
}

// whatIsThere are the Ids and shapes at a moment, ascending.
func whatIsThere(r impl.Rows, at int) []impl.Change {
	var list []impl.Change
	for _, id := range impl.IdsAt(r, at) {
		s, _ := impl.RowAt(r, id, at)
		list = append(list, put(id, s))
	}
	return list
}

// TestPlayedAgain is promise 10: what was changed at each moment is written down, cut off anywhere, and played again.
func TestPlayedAgain(t *testing.T) {
	for seed := range 20 {
		s := &steps{uint64(1100 + seed)}
		r, log, ends := impl.Rows{}, "", []int{0}
		for at := 1; at <= 25; at++ {
			next, ok := impl.Apply(r, s.changes(7))
			if !ok {
				t.Fatal("changed", seed, at)
			}
			r = next
			log, ok = impl.Append(log, impl.Between(r, at))
			if !ok {
				t.Fatal("written", seed, at)
			}
			ends = append(ends, len(log))
		}
		for at, end := range ends {
			got, n := impl.Replay(log[:end])
			if n != at || got.Now != at || !sameChanges(whatIsThere(got, at), whatIsThere(r, at)) {
				t.Fatal("not what is there", seed, at, n)
			}
		}
		for cut := range len(log) {
			at := 0
			for ends[at+1] <= cut {
				at++
			}
			if got, n := impl.Replay(log[:cut]); n != at || !sameChanges(whatIsThere(got, at), whatIsThere(r, at)) {
				t.Fatal("not what is left", seed, cut, n)
			}
		}
		// Between undoes Apply: played at each moment they make the same moments.
		again := impl.Rows{}
		for at := 1; at <= r.Now; at++ {
			again, _ = impl.Apply(again, impl.Between(r, at))
			if !sameChanges(impl.Between(again, at), impl.Between(r, at)) {
				t.Fatal("not the same change", seed, at)
			}
		}
	}
}

// takeChanges notes where a list of changes and its shapes stand, and tells whether none of it was taken.
func (m memory) takeChanges(list []impl.Change) bool {
	free := takePlaces(list, m.changes)
	for _, c := range list {
		free = takePlaces(c.Shape.Points, m.points) && free
	}
	return free
}

func TestLogWritesIntoNothing(t *testing.T) {
	for i, list := range append(rightChanges(), wrongChanges()...) {
		arg := roomyChanges(list)
		impl.PutChanges(arg)
		impl.Record(arg)
		impl.Append("x", arg)
		impl.Append(strings.Repeat("x", logMost), arg)
		if !changesKept(arg, list) {
			t.Fatal("changes are written into", i)
		}
	}
}

func TestLogSharesNothing(t *testing.T) {
	for _, list := range rightChanges() {
		m := newMemory()
		text := bytesOf(list...)
		a, _ := impl.GetChanges(text)
		b, _ := impl.GetChanges(text)
		if !m.takeChanges(a) || !m.takeChanges(b) {
			t.Fatal("changes share memory", list)
		}
		c, _ := impl.Records(strings.Repeat(recordOf(text), 3))
		lists := map[*[]impl.Change]int{}
		if len(c) != 3 || !takePlaces(c, lists) {
			t.Fatal("records", len(c))
		}
		for _, one := range c {
			if !m.takeChanges(one) {
				t.Fatal("records share memory", list)
			}
		}
		first, _ := impl.Replay(recordOf(text))
		second, _ := impl.Replay(recordOf(text))
		if !rowPlaces(first, m.rows, m.points) || !rowPlaces(second, m.rows, m.points) {
			t.Fatal("rows share memory", list)
		}
	}
	log := strings.Repeat("x", 2000)
	for _, list := range [][]impl.Change{changes(gone(0)), changes(gone(1)), nil} {
		if got, _ := impl.Append(log, list); liesIn(got, log) {
			t.Error("a log shares memory", list)
		}
	}
}

func TestBetweenSharesNothing(t *testing.T) {
	shared := line(0, 0, 5, 5)
	list := append(append(rightRows(), wrongRows()...), history(), rows(4, row(1, 1, 0, shared), row(2, 1, 0, shared), row(3, 1, 4, shared)))
	for i, r := range list {
		arg := roomyRows(r)
		m := newMemory()
		rowPlaces(arg, m.rows, m.points)
		for _, at := range []int{0, 1, 4, 5, 9, 9} {
			if !m.takeChanges(impl.Between(arg, at)) || !m.takeChanges(impl.Between(arg, at)) {
				t.Fatal("changes share memory", i, at)
			}
		}
		if !sameRows(arg, r) || !rowsRoomLeft(arg) {
			t.Fatal("rows are written into", i)
		}
	}
	twice := rows(4, row(1, 1, 0, shared), row(2, 1, 0, shared), row(3, 1, 4, shared))
	m := newMemory()
	takePlaces(shared.Points, m.points)
	if !m.takeChanges(impl.Between(twice, 1)) || !sameRows(twice, rows(4, row(1, 1, 0, shared), row(2, 1, 0, shared), row(3, 1, 4, shared))) {
		t.Error("shapes of one memory")
	}
}
