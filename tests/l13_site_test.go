package tests

import (
	"maps"
	"math"
	"slices"
	"strconv"
	"strings"
	"testing"

	"loop.example/g00229/impl"
)

func sameSite(a, b impl.Site) bool {
	return sameDb(a.Db, b.Db) && a.Log == b.Log && a.Safe == b.Safe && slices.Equal(a.Pyramid, b.Pyramid)
}

// siteStarted is a site of SiteStart.
func siteStarted(t *testing.T, sessions int) impl.Site {
	t.Helper()
	s, ok := impl.SiteStart(sessions)
	if !ok {
		t.Fatal("not started", sessions)
	}
	return s
}

// siteOn is the right site with a database and a log, of which nothing is safe, and the counts of what is there.
func siteOn(d impl.Db, log string) impl.Site {
	return impl.Site{Db: d, Log: log, Pyramid: ofByHand(d.Store.Rows, d.Store.Rows.Now)}
}

// siteBy has a record of each list, and all rows that ever were.
func siteBy(t *testing.T, sessions int, lists ...[]impl.Change) impl.Site {
	t.Helper()
	r := impl.Rows{}
	for i, list := range lists {
		next, ok := impl.Apply(r, list)
		if !ok {
			t.Fatal("cannot be applied", i)
		}
		r = next
	}
	return siteOn(database(store(r), idle(sessions)...), logOf(lists...))
}

// logOfRows has a record of each moment of rows.
func logOfRows(r impl.Rows) string {
	out := ""
	for at := 1; at <= r.Now; at++ {
		out += logOf(betweenByHand(r, at))
	}
	return out
}

// busySite has the sessions and transactions of busyDb, and what was there in history; some of its log is safe.
func busySite() impl.Site {
	s := siteOn(busyDb(), logOfRows(history()))
	s.Safe = 40
	return s
}

// siteWithRoom has four sessions and no rows Now, and a log that has room for just so many bytes more.
func siteWithRoom(t *testing.T, room int) impl.Site {
	t.Helper()
	wide := zigzag(60)
	for i := range wide.Points {
		wide.Points[i].X = edge * (i%2*2 - 1)
	}
	var lists [][]impl.Change
	for range 3 {
		many, none := putMany(changesMost), putMany(changesMost)
		for i := range many {
			many[i].Shape, none[i] = wide, gone(many[i].Id)
		}
		lists = append(lists, many, none)
	}
	if (logMost-room-len(logOf(lists...)))%2 == 1 {
		lists = append(lists, changes(gone(300)))
	}
	for (logMost-room-len(logOf(lists...)))%6 != 0 {
		lists = append(lists, changes(gone(1)))
	}
	log := logOf(lists...)
	log += strings.Repeat(logOf(nil), (logMost-room-len(log))/6)
	r, _ := impl.Replay(log)
	if len(log) != logMost-room || len(r.List) != 0 {
		t.Fatal("no such log", room, len(log), len(r.List))
	}
	return siteOn(database(store(r), idle(4)...), log)
}

// siteOkByWords tells whether a site is right, by the words of the document.
func siteOkByWords(s impl.Site) bool {
	lists, end := impl.Records(s.Log)
	made, n := impl.Replay(s.Log)
	r := s.Db.Store.Rows
	return impl.DbOk(s.Db) && s.Safe >= 0 && s.Safe <= len(s.Log) && end == len(s.Log) && n == len(lists) && made.Now == r.Now &&
		sameChanges(whatIsThere(made, r.Now), whatIsThere(r, r.Now)) && slices.Equal(s.Pyramid, impl.PyramidOf(r, r.Now))
}

// doByWords does a line on a right site, by the words of the document.
func doByWords(s impl.Site, line string) (impl.Site, string) {
	d, said := impl.Script(s.Db, []string{line})
	next, r := s, d.Store.Rows
	next.Db = d
	if r.Now > s.Db.Store.Rows.Now {
		log, ok := impl.Append(s.Log, impl.Between(r, r.Now))
		if !ok {
			return s, "full"
		}
		next.Log, next.Pyramid = log, impl.PyramidStep(s.Pyramid, r)
	}
	return next, said[0]
}

// crashByWords is what a crash leaves, by the words of the document.
func crashByWords(s impl.Site, keep int) impl.Site {
	left := ""
	for i := range len(s.Log) {
		if i < s.Safe || i-max(s.Safe, 0) < keep {
			left = s.Log[:i+1]
		}
	}
	_, end := impl.Records(left)
	r, _ := replayByHand(left[:end])
	out := siteOn(database(store(r), idle(len(s.Db.Sessions))...), left[:end])
	out.Safe = end
	return out
}

// tell has lines and their answers, one behind the other: each leaves a right site, and just the one that the words of the document make.
func tell(t *testing.T, s impl.Site, list ...string) impl.Site {
	t.Helper()
	for i := 0; i < len(list); i += 2 {
		next, said := impl.SiteDo(s, list[i])
		if said != list[i+1] {
			t.Fatalf("%.60s: said %q, not %q", list[i], said, list[i+1])
		}
		want, _ := doByWords(s, list[i])
		if !sameSite(next, want) || !impl.SiteOk(next) || next.Safe != s.Safe || !strings.HasPrefix(next.Log, s.Log) {
			t.Fatalf("%.60s: made %v, not %v", list[i], next, want)
		}
		s = next
	}
	return s
}

// stays asks for an answer that leaves the site as it is.
func stays(t *testing.T, s impl.Site, line, want string) {
	t.Helper()
	if next, said := impl.SiteDo(s, line); said != want || !sameSite(next, s) {
		t.Errorf("%.60q: said %q, not %q, or the site is another one", line, said, want)
	}
}

// talked is a site after lines of each kind, with two open transactions and one more record than is safe.
func talked(t *testing.T) impl.Site {
	s := tell(t, siteStarted(t, 3), "0 PUT 1 RECT 0 0 4 4", "ok", "1 PUT 2 LINE -9 3 9 3", "ok", "2 BEGIN", "ok", "0 PUT 1 POINT 5 5", "ok", "2 GET 1", "RECT 0 0 4 4", "1 CUT 2", "ok")
	s = impl.SiteSync(s)
	return tell(t, s, "0 BEGIN", "ok", "0 PUT 3 POLY 0 0 9 0 0 9", "ok", "1 PUT 4 POINT -7 -7", "ok", "2 CUT 2", "ok", "x", "what", "7 ALL", "bad", "1 COMMIT", "none",
		"0 ALL", "1 3", "1 ALL", "1 4", "2 ALL", "1", "1 MEETS POINT 5 5", "1", "0 IN RECT 0 0 9 9", "1 3", "1 COUNT 1 0 0", "1")
}

// rightSites are sites with the edges that the chapter names.
func rightSites(t *testing.T) []impl.Site {
	busy := busySite()
	list := []impl.Site{{}, siteStarted(t, 0), siteStarted(t, 1), siteStarted(t, 3), siteStarted(t, sessionsMost), {Pyramid: []impl.Count{}}, talked(t), busy}
	for _, safe := range []int{0, 1, len(busy.Log) - 1, len(busy.Log)} {
		one := busy
		one.Safe = safe
		list = append(list, one)
	}
	// what ended is cleaned away, or is of other moments than the log tells; rows that are there began at other ones, and stand in another order
	over := history()
	list = append(list, siteOn(database(store(impl.Vacuum(over, 9)), -1), busy.Log))
	over.List = append(over.List, row(50, 1, 9, dot(1, 1)), row(50, 9, 0, dot(2, 2)))
	list = append(list, siteOn(database(store(over), -1), busy.Log[:len(logOfRows(rows(8, history().List...)))]+logOf(append(betweenByHand(history(), 9), put(50, dot(2, 2))))))
	list = append(list, siteOn(database(store(rows(9, row(9, 1, 0, poly(0, 0, 4, 0, 0, 4)), row(4, 9, 0, line(0, 0, 5, 5)), row(3, 2, 0, dot(3, 3)))), -1), busy.Log))
	for n := range len(someLists()) + 1 {
		list = append(list, siteBy(t, 2, someLists()[:n]...))
	}
	// a log that is not as SiteDo would write it: changes in any order, gone of what was never there, nothing at all
	list = append(list, siteBy(t, 2, changes(put(9, dot(1, 1)), put(2, dot(2, 2)), gone(5)), nil, nil, changes(gone(9), gone(77)), changes(gone(9))))
	many := putMany(rowsMost)
	list = append(list, siteBy(t, 2, many[:100], many[100:200], many[200:]))
	// as many bytes as there may be
	log, n := fullLog(t, 0)
	return append(list, siteOn(database(store(rows(n)), -1), log))
}

func TestSiteStartTells(t *testing.T) {
	for n := range sessionsMost + 1 {
		s, ok := impl.SiteStart(n)
		if !ok || !sameSite(s, impl.Site{Db: started(t, n)}) || !impl.SiteOk(s) || len(s.Db.Sessions) != n {
			t.Error("started", n, s, ok)
		}
	}
	for _, n := range append([]int{-1, -2, -sessionsMost, sessionsMost + 1, sessionsMost + 2, txnsMost, 1000}, farInts...) {
		if s, ok := impl.SiteStart(n); ok || !sameSite(s, impl.Site{}) {
			t.Error("started", n, s, ok)
		}
	}
}

func TestSitesThatAreRight(t *testing.T) {
	for i, s := range rightSites(t) {
		if !impl.SiteOk(s) || !siteOkByWords(s) {
			t.Error("a right site is refused", i, s.Db.Store.Rows.Now, len(s.Log))
		}
	}
}

// spoiltDbs are those of the busy site with one thing in it that is not right; what is there Now is the same.
func spoiltDbs() []impl.Db {
	d := busyDb()
	withRow := func(one impl.Row) impl.Db {
		return database(store(rows(9, append(history().List, one)...), d.Store.Txns...), d.Sessions...)
	}
	return []impl.Db{
		withSession(d, 1, 0), withSession(d, 1, 2), withSession(d, 1, 7), withSession(d, 0, -2), database(d.Store, idle(sessionsMost+1)...), // sessions
		database(withTxn(d.Store, 1, txn(10)), d.Sessions...), database(withTxn(d.Store, 1, txn(-1)), d.Sessions...), // transactions
		database(withTxn(d.Store, 1, txn(9, gone(3), gone(3))), d.Sessions...), database(withTxn(d.Store, 1, txn(9, put(0, dot(1, 1)))), d.Sessions...),
		database(store(history(), manyTxns(txnsMost+1)...), -1),
		withRow(row(0, 1, 2, dot(1, 1))), withRow(row(50, 0, 2, dot(1, 1))), withRow(row(50, 2, 2, dot(1, 1))), withRow(row(50, 1, 10, dot(1, 1))), withRow(row(50, 1, 2, dot(edge+1, 0))), withRow(row(3, 1, 3, dot(1, 1))), // rows that are over
	}
}

// spoiltLogs are such that a site with the busy one's rows is not right.
func spoiltLogs() []string {
	log := busySite().Log
	last := len(log) - len(logOf(betweenByHand(history(), 9)))
	list := []string{
		"", "x", log + "x", log + "\x00", "x" + log, log + strings.Repeat("\x00", 9), log[:len(log)-1], log[:1], log[1:], // a byte more, or less
		log[:last], log + log[last:], log + logOf(nil), logOf(nil) + log, log + log, logOf(nil, nil, nil, nil, nil, nil, nil, nil, nil), // fewer moments, or more, or none of its rows
		log[:last] + logOf(nil), log[:last] + logOf(betweenByHand(history(), 9)[:1]), log[:last] + logOf(append(betweenByHand(history(), 9), put(50, dot(1, 1)))), // other changes at the last one
		log[:last] + recordOf(""), log[:last] + recordOf(bytesOf(gone(6), gone(6))), log[:last] + recordOf(bytesOf(put(6, rect(9, 9, 0, 0)))), // records of no changes
		strings.Repeat("\x00", len(log)), strings.Repeat("x", logMost), strings.Repeat("x", logMost+1), log + strings.Repeat(logOf(nil), logMost/6),
	}
	for i := range len(log) {
		for _, by := range []byte{1, 2, 64, 127, 128, 255} {
			changed := []byte(log)
			changed[i] += by
			list = append(list, string(changed))
		}
		list = append(list, log[:i]+log[i+1:], log[:i]+"\x00"+log[i:])
	}
	return list
}

// spoiltRows are such that a site with the busy one's log is not right, though they are, and their counts are told.
func spoiltRows() []impl.Rows {
	with := func(i int, one impl.Row) impl.Rows {
		r := history()
		r.List[i] = one
		return r
	}
	more := history()
	more.List = append(more.List, row(50, 9, 0, dot(1, 1)))
	less := history()
	less.List = less.List[:6]
	early, late := history(), history()
	early.Now, late.Now = 8, 10
	early.List = append(early.List[:3:3], row(6, 8, 0, dot(6, 6)), early.List[4], early.List[5])
	return []impl.Rows{
		{}, rows(9), more, less, early, late, // of none, of more and of fewer
		with(2, row(4, 4, 9, line(0, 0, 5, 5))), with(3, row(6, 8, 0, dot(6, 6))), // over already, and not yet
		with(4, row(3, 7, 0, dot(3, 4))), with(4, row(33, 7, 0, dot(3, 3))), with(6, row(10, 9, 0, poly(0, 0, 4, 0, 0, 4))), with(2, row(4, 4, 0, rect(0, 0, 5, 5))), with(2, row(4, 4, 0, line(5, 5, 0, 0))), with(2, row(4, 4, 0, line(0, 0, 5, 5, 4, 4))), // another one
		with(6, row(9, 9, 0, poly(4, 0, 0, 4, 0, 0))), with(6, row(9, 9, 0, line(0, 0, 4, 0, 0, 4))), // the same points from another one on, and of another kind
	}
}

// spoiltCounts are not those of the busy site.
func spoiltCounts() [][]impl.Count {
	right := busySite().Pyramid
	list := [][]impl.Count{nil, right[1:], right[:len(right)-1], append(slices.Clone(right), count(16*255+4, 1)), append(slices.Clone(right), right[len(right)-1]), slices.Concat(right, right), ofByHand(history(), 3), append(counts(-1, 0), right...)}
	back := slices.Clone(right)
	slices.Reverse(back)
	for i := range right {
		for _, by := range []int{1, -1, -right[i].N, 1 << 40} {
			one := slices.Clone(right)
			one[i].N += by
			list = append(list, one)
		}
		one := slices.Clone(right)
		one[i].Key += 16
		list = append(list, one)
	}
	return append(list, back)
}

// wrongSites are not right; but for the last ones each for one reason.
func wrongSites(t *testing.T) []impl.Site {
	var list []impl.Site
	spoil := func(change func(s *impl.Site)) {
		s := busySite()
		change(&s)
		list = append(list, s)
	}
	size := len(busySite().Log)
	for _, safe := range append([]int{-1, -2, -size, size + 1, size + 2, logMost}, farInts...) {
		spoil(func(s *impl.Site) { s.Safe = safe })
	}
	for _, d := range spoiltDbs() {
		spoil(func(s *impl.Site) { s.Db = d })
	}
	for _, log := range spoiltLogs() {
		spoil(func(s *impl.Site) { s.Log, s.Safe = log, min(s.Safe, len(log)) })
	}
	for _, r := range spoiltRows() {
		list = append(list, siteOn(database(store(r), -1, -1), busySite().Log))
	}
	for _, p := range spoiltCounts() {
		spoil(func(s *impl.Site) { s.Pyramid = p })
	}
	// one byte more than there may be, all of it records
	long, n := fullLog(t, 2)
	list = append(list, siteOn(database(store(rows(n)), -1), long), siteOn(database(store(impl.Rows{}), -1), long))
	// a record that cannot be applied, and what is behind it
	many := putMany(rowsMost)
	three := [][]impl.Change{many[:100], many[100:200], many[200:]}
	for _, last := range [][][]impl.Change{{{put(5, dot(1, 1))}}, {{put(many[0].Id, dot(1, 1))}}, {{gone(many[0].Id), put(5, dot(1, 1))}}, {{put(5, dot(1, 1))}, {gone(5)}}} {
		r, _ := impl.Replay(logOf(three...))
		for now := 3; now <= 5; now++ {
			r.Now = now
			list = append(list, siteOn(database(store(copyRows(r)), -1), logOf(append(slices.Clone(three), last...)...)))
		}
	}
	for _, d := range wrongDbs() {
		list = append(list, impl.Site{Db: d}, impl.Site{Db: d, Log: strings.Repeat(logOf(nil), max(0, min(9, d.Store.Rows.Now)))})
	}
	return list
}

func TestSitesThatAreNot(t *testing.T) {
	lines := []string{"0 ALL", "0 PUT 3 POINT 1 1", "1 BEGIN", "0 COMMIT", "", "x", "99 ALL", "-1 ALL", "0 PUT 3"}
	for i, s := range wrongSites(t) {
		if impl.SiteOk(s) || siteOkByWords(s) {
			t.Fatal("a wrong site is taken", i)
		}
		stays(t, s, lines[i%len(lines)], "bad")
		if i%7 == 0 {
			for _, line := range lines {
				stays(t, s, line, "bad")
			}
		}
		if t.Failed() {
			t.Fatal("wrong site", i)
		}
	}
}

// TestEachByteOfALog changes each byte of a log to each other one: the site is right with none of them.
func TestEachByteOfALog(t *testing.T) {
	s := tell(t, siteStarted(t, 1), "0 PUT 300 POINT 1 -1", "ok", "0 CUT 300", "ok", "0 PUT 2 RECT 0 0 3 2", "ok")
	for i := range len(s.Log) {
		for b := range 256 {
			changed := []byte(s.Log)
			changed[i] = byte(b)
			one := s
			one.Log = string(changed)
			if impl.SiteOk(one) != (one.Log == s.Log) {
				t.Fatal("byte", i, b)
			}
		}
	}
}

// TestSiteDoWritesDown has lines with what they say, and with the changes of the record that each puts behind the log.
func TestSiteDoWritesDown(t *testing.T) {
	s, log, now := siteStarted(t, 3), "", 0
	for _, c := range []struct {
		line, said string
		record     []impl.Change
		there      string
	}{
		{"0 PUT 1 POINT 5 5", "ok", changes(put(1, dot(5, 5))), "1 POINT 5 5\n"},
		{"1 PUT 2 RECT 0 0 9 9", "ok", changes(put(2, rect(0, 0, 9, 9))), "1 POINT 5 5\n2 RECT 0 0 9 9\n"},
		{"0 PUT 1 POINT 6 6", "ok", changes(put(1, dot(6, 6))), "1 POINT 6 6\n2 RECT 0 0 9 9\n"},
		{"0 PUT 1 POINT 6 6", "ok", changes(put(1, dot(6, 6))), "1 POINT 6 6\n2 RECT 0 0 9 9\n"}, // the same once more
		{"0 CUT 2", "ok", changes(gone(2)), "1 POINT 6 6\n"},
		{"0 CUT 2", "missing", nil, "1 POINT 6 6\n"}, {"0 GET 1", "POINT 6 6", nil, "1 POINT 6 6\n"}, {"2 ALL", "1", nil, "1 POINT 6 6\n"}, {"2 MEETS POINT 6 6", "1", nil, "1 POINT 6 6\n"}, {"2 IN RECT 0 0 1 1", "-", nil, "1 POINT 6 6\n"}, {"2 COUNT 0 0 0", "1", nil, "1 POINT 6 6\n"},
		{"1 COMMIT", "none", nil, "1 POINT 6 6\n"}, {"1 ROLLBACK", "none", nil, "1 POINT 6 6\n"},
		{"3 ALL", "bad", nil, "1 POINT 6 6\n"}, {"-1 PUT 9 POINT 1 1", "bad", nil, "1 POINT 6 6\n"}, {"0 PUT 9", "what", nil, "1 POINT 6 6\n"}, {"", "what", nil, "1 POINT 6 6\n"},
		// within a transaction nothing is written down
		{"0 BEGIN", "ok", nil, "1 POINT 6 6\n"}, {"0 BEGIN", "open", nil, "1 POINT 6 6\n"}, {"0 PUT 9 POINT 9 9", "ok", nil, "1 POINT 6 6\n"}, {"0 PUT 4 POINT 4 4", "ok", nil, "1 POINT 6 6\n"}, {"0 CUT 1", "ok", nil, "1 POINT 6 6\n"}, {"0 ALL", "4 9", nil, "1 POINT 6 6\n"}, {"0 CUT 7", "missing", nil, "1 POINT 6 6\n"},
		{"0 COMMIT", "ok", changes(gone(1), put(4, dot(4, 4)), put(9, dot(9, 9))), "4 POINT 4 4\n9 POINT 9 9\n"},                                                         // all in one record, ascending
		{"0 BEGIN", "ok", nil, "4 POINT 4 4\n9 POINT 9 9\n"}, {"0 ALL", "4 9", nil, "4 POINT 4 4\n9 POINT 9 9\n"}, {"0 COMMIT", "ok", nil, "4 POINT 4 4\n9 POINT 9 9\n"}, // without changes
		{"0 BEGIN", "ok", nil, "4 POINT 4 4\n9 POINT 9 9\n"}, {"0 CUT 4", "ok", nil, "4 POINT 4 4\n9 POINT 9 9\n"}, {"0 ROLLBACK", "ok", nil, "4 POINT 4 4\n9 POINT 9 9\n"},
		// two that change the same, and one that changes something else
		{"0 BEGIN", "ok", nil, "4 POINT 4 4\n9 POINT 9 9\n"}, {"1 BEGIN", "ok", nil, "4 POINT 4 4\n9 POINT 9 9\n"}, {"2 BEGIN", "ok", nil, "4 POINT 4 4\n9 POINT 9 9\n"},
		{"0 PUT 4 POINT 0 0", "ok", nil, "4 POINT 4 4\n9 POINT 9 9\n"}, {"1 CUT 4", "ok", nil, "4 POINT 4 4\n9 POINT 9 9\n"}, {"1 PUT 5 POINT 5 5", "ok", nil, "4 POINT 4 4\n9 POINT 9 9\n"}, {"2 PUT 6 POINT 6 6", "ok", nil, "4 POINT 4 4\n9 POINT 9 9\n"},
		{"1 COMMIT", "ok", changes(gone(4), put(5, dot(5, 5))), "5 POINT 5 5\n9 POINT 9 9\n"},
		{"0 ALL", "4 9", nil, "5 POINT 5 5\n9 POINT 9 9\n"}, {"0 COMMIT", "clash", nil, "5 POINT 5 5\n9 POINT 9 9\n"}, {"0 COMMIT", "none", nil, "5 POINT 5 5\n9 POINT 9 9\n"},
		{"2 COMMIT", "ok", changes(put(6, dot(6, 6))), "5 POINT 5 5\n6 POINT 6 6\n9 POINT 9 9\n"},
		// what is put and cut again was never there: a moment goes by, and its record has nothing
		{"1 BEGIN", "ok", nil, "5 POINT 5 5\n6 POINT 6 6\n9 POINT 9 9\n"}, {"1 PUT 8 POINT 8 8", "ok", nil, "5 POINT 5 5\n6 POINT 6 6\n9 POINT 9 9\n"}, {"1 CUT 8", "ok", nil, "5 POINT 5 5\n6 POINT 6 6\n9 POINT 9 9\n"},
		{"1 COMMIT", "ok", changes(), "5 POINT 5 5\n6 POINT 6 6\n9 POINT 9 9\n"},
	} {
		s = tell(t, s, c.line, c.said)
		if c.record != nil || c.line == "1 COMMIT" && c.said == "ok" {
			log, now = log+logOf(c.record), now+1
		}
		r := s.Db.Store.Rows
		if s.Log != log || r.Now != now || s.Safe != 0 || impl.Dump(r, now) != c.there || !slices.Equal(s.Pyramid, ofByHand(r, now)) {
			t.Fatal(c.line, now, r, len(s.Log), len(log))
		}
	}
	if now != 9 || !strings.HasSuffix(log, "\x00\x01\x00\x01\x01\x00") {
		t.Error("at the end", now)
	}
	// It is all found again.
	if got := impl.SiteCrash(s, math.MaxInt); got.Log != log || impl.Dump(got.Db.Store.Rows, 9) != "5 POINT 5 5\n6 POINT 6 6\n9 POINT 9 9\n" || got.Db.Store.Rows.Now != 9 {
		t.Error("found again", got)
	}
}

// TestSiteDoOfEachKind has each kind of statement, by sessions with a transaction and without, on sites at the edges.
func TestSiteDoOfEachKind(t *testing.T) {
	sorts := map[string]int{}
	for i, s := range rightSites(t) {
		if s.Db.Store.Rows.Now > 1000 && i%2 == 0 {
			continue
		}
		for session := range min(3, len(s.Db.Sessions)) {
			for _, a := range allKinds() {
				line := strconv.Itoa(session) + " " + impl.AskText(a)
				got, said := impl.SiteDo(s, line)
				want, answer := doByWords(s, line)
				if said != answer || !sameSite(got, want) || !impl.SiteOk(got) {
					t.Fatalf("site %d: %s: said %q, not %q", i, line, said, answer)
				}
				sorts[sortOf(said)]++
			}
		}
	}
	for _, sort := range []string{"open", "none", "ok", "clash", "full", "missing", "-", "0", "shape", "ids 1", "ids 2"} {
		if sorts[sort] == 0 {
			t.Error("none of one sort", sort, sorts)
		}
	}
}

func TestSiteDoOfLinesThatAreNone(t *testing.T) {
	for _, s := range []impl.Site{siteStarted(t, 1), talked(t), busySite()} {
		for _, line := range []string{
			"", " ", "  ", "x", "0", "0 ", " 0 ALL", "0  ALL", "0 ALL ", "00 ALL", "+0 ALL", "-0 ALL", "0 all", "ALL", "0ALL", "0\tALL", "0 ALL\n", "0 ALL\n1 ALL", "\x00", "\n", "1000000000 ALL", "18446744073709551616 ALL",
			"0 WHAT", "0 PUT", "0 PUT 5", "0 PUT 0 POINT 1 1", "0 PUT 5 POINT 30001 0", "0 PUT 5 RECT 1 0 0 0", "0 GET 05", "0 CUT -1", "0 IN POINT 1 1", "0 COUNT 9 0 0", "0 BEGIN 0", "99 all",
			"sync", "clean", "crash 3", "dump", "now", "tile 0 0 0", strings.Repeat("0 ", 100000), strings.Repeat(" ", 100000),
		} {
			stays(t, s, line, "what")
		}
		for _, number := range []string{"-1", "-2", strconv.Itoa(len(s.Db.Sessions)), "20", "21", "999999999", "-999999999"} {
			for _, a := range allKinds() {
				stays(t, s, number+" "+impl.AskText(a), "bad")
			}
		}
	}
	stays(t, impl.Site{}, "0 ALL", "bad")
	stays(t, impl.Site{}, "0 all", "what")
}

// TestSiteDoOfAFullLog has logs with just as much room as a record takes, and with one byte less.
func TestSiteDoOfAFullLog(t *testing.T) {
	record := len(logOf(changes(put(7, dot(9, -9)))))
	for _, room := range []int{record, record + 1} {
		s := tell(t, siteWithRoom(t, room), "0 PUT 7 POINT 9 -9", "ok", "0 ALL", "7", "1 CUT 7", "full", "0 GET 7", "POINT 9 -9", "0 PUT 8 POINT 1 1", "full", "0 ALL", "7")
		if len(s.Log) != logMost-room+record || impl.SiteTile(s, tile(0, 0, 0)) != 1 {
			t.Error("with room", room, len(s.Log))
		}
		if c := impl.SiteCrash(s, math.MaxInt); c.Log != s.Log || impl.Dump(c.Db.Store.Rows, c.Db.Store.Rows.Now) != "7 POINT 9 -9\n" {
			t.Error("found again", room)
		}
	}
	for _, room := range []int{0, 1, 5, record - 1} {
		s := siteWithRoom(t, room)
		// Nothing comes of it, not even a transaction that ended.
		stays(t, s, "0 PUT 7 POINT 9 -9", "full")
		s = tell(t, s, "0 CUT 7", "missing", "0 ALL", "-", "0 BEGIN", "ok", "0 PUT 7 POINT 9 -9", "ok", "1 BEGIN", "ok")
		// The transaction goes on, with what it changed, and is full as often as it commits.
		for range 2 {
			stays(t, s, "0 COMMIT", "full")
			s = tell(t, s, "0 COMMIT", "full", "0 GET 7", "POINT 9 -9", "0 BEGIN", "open", "2 ALL", "-")
		}
		s = tell(t, s, "1 COMMIT", "ok", "0 ROLLBACK", "ok", "0 ALL", "-", "0 COMMIT", "none")
		if len(s.Log) != logMost-room {
			t.Error("without room", room)
		}
	}
	// A record with nothing in it takes six bytes.
	for room, want := range []string{5: "full", 6: "ok", 7: "ok"} {
		if want != "" {
			tell(t, siteWithRoom(t, room), "0 BEGIN", "ok", "0 PUT 7 POINT 9 -9", "ok", "0 CUT 7", "ok", "0 COMMIT", want)
		}
	}
}

// lots is a site of which session 0 has n changes in a transaction, of which the first were made by lines.
func lots(t *testing.T, n int) impl.Site {
	t.Helper()
	s := tell(t, siteStarted(t, 2), "1 PUT 5 POINT 5 5", "ok", "0 BEGIN", "ok", "0 CUT 5", "ok", "0 PUT 1 POINT 1 1", "ok")
	d := database(s.Db.Store, s.Db.Sessions...)
	list := slices.Clone(d.Store.Txns[d.Sessions[0]].Changes)
	for i := range n - 2 {
		list = append(list, put(10+i, dot(i, i)))
	}
	d.Store = withTxn(d.Store, d.Sessions[0], txn(1, list...))
	s.Db = d
	return s
}

// TestSiteDoOfManyChanges commits a hundred changes, and one more, of which there is no record.
func TestSiteDoOfManyChanges(t *testing.T) {
	for _, n := range []int{99, changesMost} {
		s := tell(t, lots(t, n), "0 COMMIT", "ok", "1 GET 5", "missing")
		if lists, _ := impl.Records(s.Log); len(lists) != 2 || len(lists[1]) != n || impl.SiteTile(s, tile(0, 0, 0)) != n-1 {
			t.Error("many", n, len(lists))
		}
	}
	for _, n := range []int{changesMost + 1, 150, 250} {
		s := lots(t, n)
		stays(t, s, "0 COMMIT", "full")
		s = tell(t, s, "0 COMMIT", "full", "0 GET 5", "missing", "1 GET 5", "POINT 5 5", "0 PUT 10 POINT 3 3", "ok", "0 COMMIT", "full", "0 ROLLBACK", "ok", "0 ALL", "5", "0 CUT 5", "ok")
		if s.Db.Store.Rows.Now != 2 {
			t.Error("too many", n, s.Db.Store.Rows.Now)
		}
	}
	// What is put and cut again leaves no row: there is a record of what is left.
	s := lots(t, changesMost+1)
	s = tell(t, s, "0 CUT 10", "ok", "0 CUT 11", "ok", "0 COMMIT", "ok")
	if lists, _ := impl.Records(s.Log); len(lists) != 2 || len(lists[1]) != changesMost-1 {
		t.Error("of what is left", len(lists))
	}
}

// TestSiteDoOfFullRows has rows that take no more, which ends a transaction: the log stays as it was.
func TestSiteDoOfFullRows(t *testing.T) {
	many := putMany(rowsMost)
	s := siteBy(t, 2, many[:100], many[100:200], many[200:])
	next := tell(t, s, "0 PUT 2 POINT 1 1", "full", "0 PUT 1 POINT 1 1", "full", "0 BEGIN", "ok", "0 PUT 2 POINT 1 1", "ok", "0 COMMIT", "full", "0 COMMIT", "none", "0 GET 2", "missing", "0 COUNT 0 0 0", "300")
	if next.Log != s.Log || next.Db.Store.Rows.Now != 3 || !slices.Equal(next.Pyramid, s.Pyramid) {
		t.Error("full rows", next.Db.Store.Rows.Now)
	}
	// One that is cut makes room only where it is cleaned away.
	next = tell(t, next, "1 CUT 8", "ok", "0 PUT 2 POINT 1 1", "full")
	next = tell(t, impl.SiteClean(next), "0 PUT 2 POINT 1 1", "ok", "0 PUT 9 POINT 1 1", "full", "0 PUT 2 POINT 2 2", "full")
	// So it does behind a crash.
	next = tell(t, next, "1 CUT 15", "ok", "0 PUT 9 POINT 1 1", "full")
	tell(t, impl.SiteCrash(next, math.MaxInt), "0 PUT 9 POINT 1 1", "ok", "0 COUNT 0 0 0", "300", "1 GET 2", "POINT 1 1")
}

func TestSiteSyncTells(t *testing.T) {
	check := func(s impl.Site) {
		t.Helper()
		want := s
		want.Safe = len(s.Log)
		got := impl.SiteSync(s)
		if !sameSite(got, want) || impl.SiteOk(s) && !impl.SiteOk(got) || !sameSite(impl.SiteSync(got), want) {
			t.Error("all safe", s.Safe, got.Safe)
		}
	}
	for _, s := range append(rightSites(t), wrongSites(t)...) {
		check(s)
	}
	for safe := range len(busySite().Log) + 1 {
		s := busySite()
		s.Safe = safe
		check(s)
	}
	s := tell(t, siteStarted(t, 1), "0 PUT 1 POINT 1 1", "ok")
	first := len(s.Log)
	if s.Safe != 0 || impl.SiteSync(s).Safe != first {
		t.Error("nothing was safe", s.Safe)
	}
	s = tell(t, impl.SiteSync(s), "0 PUT 2 POINT 1 1", "ok")
	if s.Safe != first || impl.SiteSync(s).Safe != len(s.Log) || len(s.Log) <= first {
		t.Error("a part was safe", s.Safe)
	}
}

// keeps are the numbers of bytes that a crash may keep of a log of so many.
func keeps(size int) []int {
	list := append([]int{-2, -1, -size, size + 1, size + 2, 10 * size}, farInts...)
	for n := range size + 1 {
		list = append(list, n)
	}
	return list
}

// TestSiteCrashAtEachByte crashes sites of which nothing, some and all is safe, at each byte.
func TestSiteCrashAtEachByte(t *testing.T) {
	lists := someLists()
	all := siteBy(t, 3, lists...)
	all.Db.Store.Txns = []impl.Txn{txn(2, put(5, dot(1, 1))), ended(3), txn(6, gone(5))}
	all.Db.Sessions = []int{2, -1, 0}
	ends := []int{0}
	for n := range lists {
		ends = append(ends, len(logOf(lists[:n+1]...)))
	}
	for _, safe := range []int{0, 1, ends[1] - 1, ends[1], ends[1] + 1, ends[3], ends[5] + 1, len(all.Log) - 1, len(all.Log)} {
		s := all
		s.Safe = safe
		if !impl.SiteOk(s) {
			t.Fatal("not right", safe)
		}
		for _, keep := range keeps(len(s.Log)) {
			got := impl.SiteCrash(s, keep)
			bytes := safe + min(max(keep, 0), len(s.Log)-safe)
			n := len(lists)
			for ends[n] > bytes {
				n--
			}
			r, _ := replayByHand(logOf(lists[:n]...))
			want := siteOn(database(store(r), -1, -1, -1), logOf(lists[:n]...))
			want.Safe = ends[n]
			if !sameSite(got, want) || !impl.SiteOk(got) || got.Db.Store.Rows.Now != n {
				t.Fatal("crash", safe, keep, got, "and not", want)
			}
			// Twice in a row nothing more is lost, whatever is kept.
			for _, again := range []int{-1, 0, 3, math.MaxInt} {
				if !sameSite(impl.SiteCrash(got, again), got) {
					t.Fatal("twice", safe, keep, again)
				}
			}
		}
	}
}

func TestSiteCrashTells(t *testing.T) {
	s := tell(t, siteStarted(t, 3), "0 PUT 1 POINT 5 5", "ok")
	first := len(s.Log)
	s = tell(t, impl.SiteSync(s), "1 BEGIN", "ok", "1 PUT 2 POINT -5 -5", "ok", "1 PUT 1 RECT 0 0 1 1", "ok", "2 BEGIN", "ok", "2 PUT 9 POINT 9 9", "ok", "1 COMMIT", "ok")
	second := len(s.Log)
	s = tell(t, s, "0 CUT 1", "ok", "0 BEGIN", "ok", "0 PUT 7 POINT 7 7", "ok", "2 ALL", "1 9")
	third := len(s.Log)
	for _, c := range []struct {
		keep, now int
		there     string
	}{
		{math.MinInt, 1, "1 POINT 5 5\n"}, {-1, 1, "1 POINT 5 5\n"}, {0, 1, "1 POINT 5 5\n"}, {1, 1, "1 POINT 5 5\n"}, {second - first - 1, 1, "1 POINT 5 5\n"},
		{second - first, 2, "1 RECT 0 0 1 1\n2 POINT -5 -5\n"}, {second - first + 1, 2, "1 RECT 0 0 1 1\n2 POINT -5 -5\n"}, {third - first - 1, 2, "1 RECT 0 0 1 1\n2 POINT -5 -5\n"},
		{third - first, 3, "2 POINT -5 -5\n"}, {third - first + 1, 3, "2 POINT -5 -5\n"}, {third, 3, "2 POINT -5 -5\n"}, {math.MaxInt, 3, "2 POINT -5 -5\n"}, {math.MaxInt - first, 3, "2 POINT -5 -5\n"},
	} {
		got := impl.SiteCrash(s, c.keep)
		r := got.Db.Store.Rows
		size := []int{0, first, second, third}[c.now]
		if r.Now != c.now || impl.Dump(r, c.now) != c.there || got.Log != s.Log[:size] || got.Safe != size || !impl.SiteOk(got) {
			t.Error("left", c.keep, r, len(got.Log))
		}
		if len(r.List) != strings.Count(c.there, "\n") || len(got.Db.Store.Txns) != 0 || !slices.Equal(got.Db.Sessions, idle(3)) {
			t.Error("what is over, or open", c.keep, got.Db)
		}
		// Of what was open nothing is there; the sessions begin anew, and lines that come after it are written down behind what is left.
		next := tell(t, got, "0 COMMIT", "none", "1 COMMIT", "none", "2 ROLLBACK", "none", "0 GET 7", "missing", "2 GET 9", "missing", "0 PUT 7 POINT 8 8", "ok", "2 BEGIN", "ok", "2 CUT 7", "ok")
		if next.Log != got.Log+logOf(changes(put(7, dot(8, 8)))) || next.Db.Store.Rows.Now != c.now+1 {
			t.Error("behind a crash", c.keep)
		}
		if again := impl.SiteCrash(next, 0); !sameSite(again, got) {
			t.Error("crashed again", c.keep, again)
		}
		if again := impl.SiteCrash(impl.SiteSync(next), 0); again.Log != next.Log || impl.SiteTile(again, tile(0, 0, 0)) != strings.Count(c.there, "\n")+1 || !impl.SiteOk(again) {
			t.Error("synced and crashed again", c.keep, again)
		}
	}
	// A part of a record is not put together with what comes later.
	part := impl.SiteCrash(s, second-first-3)
	next := tell(t, part, "1 PUT 2 POINT 3 3", "ok")
	if next.Log != s.Log[:first]+logOf(changes(put(2, dot(3, 3)))) {
		t.Error("a part is left")
	}
	for _, n := range []int{0, 1, sessionsMost} {
		if got := impl.SiteCrash(siteStarted(t, n), 9); !sameSite(got, siteStarted(t, n)) {
			t.Error("of nothing", n, got)
		}
	}
}

// TestSiteCrashOfEachSite holds crashes of right and wrong sites against the words of the document: a crash asks for nothing but the bytes that are left.
func TestSiteCrashOfEachSite(t *testing.T) {
	for i, s := range append(rightSites(t), wrongSites(t)...) {
		size := len(s.Log)
		list := []int{math.MinInt, -1, 0, 1, 13, size - s.Safe, size - s.Safe - 1, size, size + 1, math.MaxInt}
		if size > 10000 {
			list = []int{-1, size / 2, math.MaxInt}
		}
		for _, keep := range list {
			got, want := impl.SiteCrash(s, keep), crashByWords(s, keep)
			if !sameSite(got, want) || siteOkByWords(s) && !impl.SiteOk(got) {
				t.Fatal("crash", i, keep, got, "and not", want)
			}
		}
	}
	// what is not right in the middle is where it ends
	log := busySite().Log
	for at := range len(log) {
		broken := []byte(log)
		broken[at]++
		s := busySite()
		s.Log, s.Safe = string(broken), len(log)
		_, end := recordsByHand(s.Log)
		if got := impl.SiteCrash(s, 0); got.Log != log[:end] || end > at || !impl.SiteOk(got) {
			t.Fatal("broken", at, end, len(got.Log))
		}
	}
}

func TestSiteCleanTells(t *testing.T) {
	s := tell(t, siteStarted(t, 3), "0 PUT 1 POINT 1 1", "ok", "0 PUT 2 POINT 2 2", "ok", "0 PUT 1 POINT 3 3", "ok", "0 CUT 2", "ok", "0 PUT 4 POINT 4 4", "ok")
	want := rows(5, row(1, 3, 0, dot(3, 3)), row(4, 5, 0, dot(4, 4)))
	got := impl.SiteClean(s)
	if !sameRows(got.Db.Store.Rows, want) || got.Log != s.Log || got.Safe != s.Safe || !slices.Equal(got.Pyramid, s.Pyramid) || !impl.SiteOk(got) || len(s.Db.Store.Rows.List) != 4 {
		t.Error("cleaned", got.Db.Store.Rows)
	}
	tell(t, got, "1 ALL", "1 4", "1 PUT 2 POINT 9 9", "ok", "1 CUT 1", "ok")
	// Transactions that are open still see what ended behind their beginning.
	s = tell(t, siteStarted(t, 3), "0 PUT 1 POINT 1 1", "ok", "0 PUT 1 POINT 2 2", "ok", "1 BEGIN", "ok", "0 PUT 1 POINT 3 3", "ok", "0 PUT 5 POINT 5 5", "ok", "2 BEGIN", "ok", "0 CUT 1", "ok", "0 CUT 5", "ok", "1 GET 1", "POINT 2 2", "2 GET 1", "POINT 3 3")
	for _, c := range []struct {
		end   string
		left  int
		lines []string
	}{
		{"0 ALL", 3, []string{"1 ALL", "1", "1 GET 1", "POINT 2 2", "2 GET 1", "POINT 3 3", "2 GET 5", "POINT 5 5", "0 ALL", "-", "1 PUT 1 POINT 9 9", "ok", "1 COMMIT", "clash"}},
		{"1 ROLLBACK", 2, []string{"1 ALL", "-", "2 GET 1", "POINT 3 3", "2 CUT 5", "ok", "2 COMMIT", "clash"}},
		{"2 COMMIT", 3, []string{"1 GET 1", "POINT 2 2", "2 ALL", "-", "1 CUT 1", "ok", "1 COMMIT", "clash"}},
	} {
		one, _ := impl.SiteDo(s, c.end)
		got := impl.SiteClean(one)
		if len(got.Db.Store.Rows.List) != c.left || got.Db.Store.Rows.Now != 6 || !impl.SiteOk(got) || got.Log != one.Log || !slices.Equal(got.Db.Sessions, one.Db.Sessions) {
			t.Error("cleaned", c.end, got.Db.Store.Rows)
		}
		tell(t, got, c.lines...)
	}
	both := impl.SiteClean(tell(t, s, "1 ROLLBACK", "ok", "2 COMMIT", "ok"))
	if len(both.Db.Store.Rows.List) != 0 || !impl.SiteOk(both) {
		t.Error("without any", both.Db.Store.Rows)
	}
	// What was cleaned is found again.
	if a, b := impl.SiteCrash(both, math.MaxInt), impl.SiteCrash(s, math.MaxInt); !sameSite(a, b) {
		t.Error("crashed", a, b)
	}
}

func TestSiteCleanOfEachSite(t *testing.T) {
	for i, s := range append(rightSites(t), wrongSites(t)...) {
		want := s
		want.Db.Store = impl.Clean(s.Db.Store)
		got := impl.SiteClean(s)
		if !sameSite(got, want) || siteOkByWords(s) && !impl.SiteOk(got) {
			t.Fatal("cleaned", i)
		}
	}
}

func TestSiteTileTells(t *testing.T) {
	check := func(s impl.Site, want [][]impl.Tile) {
		t.Helper()
		var all []impl.Tile
		for _, list := range want {
			all = append(all, list...)
		}
		for _, one := range topTiles() {
			n := 0
			for _, other := range all {
				if other == one {
					n++
				}
			}
			if got := impl.SiteTile(s, one); got != n {
				t.Fatal("tile", one, got, n)
			}
		}
		for level := levelTop + 1; level <= levelMost; level++ {
			for _, one := range tiles(level, 0, 0, 1<<(level-1), 1<<(level-1), 1<<level-1, 1<<level-1) {
				if got := impl.SiteTile(s, one); got != 0 {
					t.Fatal("deep", one, got)
				}
			}
		}
		for _, one := range noTiles() {
			if got := impl.SiteTile(s, one); got != 0 {
				t.Fatal("no tile", one, got)
			}
		}
	}
	near, wide, far := tilesUpTo(dot(5, 5)), tilesUpTo(line(-1, 5, 5, 5)), tilesUpTo(rect(-edge, -edge, edge, edge))
	s := siteStarted(t, 2)
	check(s, nil)
	for _, c := range []struct {
		line, said string
		want       [][]impl.Tile
	}{
		{"0 PUT 1 POINT 5 5", "ok", [][]impl.Tile{near}}, {"0 PUT 2 LINE -1 5 5 5", "ok", [][]impl.Tile{near, wide}}, {"1 PUT 3 RECT -30000 -30000 30000 30000", "ok", [][]impl.Tile{near, wide, far}},
		{"1 PUT 1 LINE -1 5 5 5", "ok", [][]impl.Tile{wide, wide, far}}, {"1 CUT 2", "ok", [][]impl.Tile{wide, far}},
		{"0 BEGIN", "ok", [][]impl.Tile{wide, far}}, {"0 CUT 3", "ok", [][]impl.Tile{wide, far}}, {"0 PUT 4 POINT 5 5", "ok", [][]impl.Tile{wide, far}}, {"0 COMMIT", "ok", [][]impl.Tile{wide, near}},
		{"0 CUT 1", "ok", [][]impl.Tile{near}}, {"0 CUT 4", "ok", nil},
	} {
		s = tell(t, s, c.line, c.said)
		check(s, c.want)
		check(impl.SiteClean(s), c.want)
		check(impl.SiteCrash(s, math.MaxInt), c.want)
	}
	check(impl.SiteCrash(s, 0), nil)
	// What is told is what is asked for by COUNT, and of a site that is not right what stands in its counts.
	s = talked(t)
	for _, one := range topTiles() {
		if _, said := impl.SiteDo(s, "1 "+impl.AskText(askCount(one))); said != strconv.Itoa(impl.SiteTile(s, one)) {
			t.Fatal("counted otherwise", one, said)
		}
	}
	for _, p := range append(wrongPyramids()[:20], counts(49, 7, 0, 0, 17, -4, 49, 8)) {
		for _, one := range topTiles()[:21] {
			if got := impl.SiteTile(impl.Site{Safe: -1, Log: "x", Pyramid: p}, one); got != impl.PyramidGet(p, one) {
				t.Fatal("wrong counts", p, one, got)
			}
		}
	}
}

// plainSite is a plain way to tell what a site does: it keeps what was there at each moment, and how many bytes the log had then.
type plainSite struct {
	plainDb
	was  []map[int]impl.Shape
	ends []int
	safe int
}

func plainSiteOf(sessions int) plainSite {
	_, p := plainOf(0)
	return plainSite{plainDb{p, idle(sessions)}, []map[int]impl.Shape{{}}, []int{0}, 0}
}

// note keeps a moment that a line made.
func (p *plainSite) note(s impl.Site) {
	if p.now == len(p.was) {
		p.was, p.ends = append(p.was, maps.Clone(p.there)), append(p.ends, len(s.Log))
	}
}

// crash leaves the last moment whose record is whole in what is kept.
func (p *plainSite) crash(keep int) {
	n := len(p.ends) - 1
	for p.ends[n] > p.safe && p.ends[n]-p.safe > keep {
		n--
	}
	sessions := len(p.sessions)
	_, p.plainStore = plainOf(0)
	p.sessions, p.now, p.there = idle(sessions), n, maps.Clone(p.was[n])
	p.was, p.ends, p.safe = p.was[:n+1], p.ends[:n+1], p.ends[n]
}

func (p *plainSite) check(t *testing.T, s impl.Site) {
	t.Helper()
	checkPlain(t, s.Db, p.plainDb)
	if !impl.SiteOk(s) || len(s.Log) != p.ends[len(p.ends)-1] || s.Safe != p.safe || impl.SiteTile(s, tile(0, 0, 0)) != len(p.there) {
		t.Fatal("site", len(s.Log), p.ends, s.Safe, p.safe)
	}
	if made, n := impl.Replay(s.Log); n != p.now || len(made.List) != len(p.there) {
		t.Fatal("log", n, p.now)
	}
}

// keepSome is how many bytes a crash keeps, often just as many as some records have.
func (s *steps) keepSome(p *plainSite) int {
	switch s.below(4) {
	case 0:
		return s.between(-3, 30)
	case 1:
		return []int{math.MinInt, math.MaxInt, 0}[s.below(3)]
	}
	return p.ends[s.below(len(p.ends))] - p.safe + s.between(-1, 1)
}

// TestSitesStayRight is promise 13: whatever three sessions say in any order, with all that is done to a site among it, it stays right; behind a crash all is left that was safe, and nothing is there that was not committed.
func TestSitesStayRight(t *testing.T) {
	sorts, lost, kept := map[string]int{}, 0, 0
	for seed := range 30 {
		by := &steps{uint64(1300 + seed)}
		s, p := siteStarted(t, 3), plainSiteOf(3)
		for range 150 {
			before := s
			switch by.below(30) {
			case 0, 1, 2:
				s = impl.SiteSync(s)
				p.safe = len(s.Log)
			case 3, 4:
				s = impl.SiteClean(s)
				p.clean()
			case 5:
				keep, now := by.keepSome(&p), p.now
				s = impl.SiteCrash(s, keep)
				p.crash(keep)
				lost, kept = lost+now-p.now, kept+p.now
				if !strings.HasPrefix(before.Log, s.Log) || len(s.Log) < before.Safe {
					t.Fatal("what was safe is lost", seed)
				}
			default:
				session, a := by.between(0, 2), by.smallAsk()
				if by.below(60) == 0 {
					session = []int{-1, 3}[by.below(2)]
				}
				line, want := strconv.Itoa(session)+" "+impl.AskText(a), "what"
				if impl.AskText(a) != "" {
					want = p.say(session, a)
				}
				next, said := impl.SiteDo(s, line)
				if said != want || !strings.HasPrefix(next.Log, s.Log) || next.Safe != s.Safe {
					t.Fatalf("seed %d: %s: said %q, not %q", seed, line, said, want)
				}
				if said == "what" {
					sorts[said]++
				} else {
					sorts[sortOf(said)]++
				}
				s = next
				p.note(s)
			}
			p.check(t, s)
		}
		checkEachCrash(t, s, p)
	}
	for _, sort := range []string{"bad", "what", "open", "none", "ok", "clash", "missing", "-", "0", "shape", "ids 1", "ids 2"} {
		if sorts[sort] < 5 {
			t.Error("too few of one sort", sort, sorts)
		}
	}
	if lost < 50 || kept < 50 {
		t.Error("too few crashes", lost, kept)
	}
}

// checkEachCrash asks at the end for what each crash would leave: the moments whose records are whole, all of those that were safe among them.
func checkEachCrash(t *testing.T, s impl.Site, p plainSite) {
	t.Helper()
	for keep := -1; keep <= len(s.Log)-s.Safe+1; keep += 1 + keep/40 {
		got := impl.SiteCrash(s, keep)
		n := got.Db.Store.Rows.Now
		if n >= len(p.was) || p.ends[n] != len(got.Log) || p.ends[n] < p.safe || p.ends[n] > p.safe+max(keep, 0) || n+1 < len(p.ends) && p.ends[n+1]-p.safe <= keep {
			t.Fatal("left", keep, n, p.ends, p.safe)
		}
		there := whatIsThere(got.Db.Store.Rows, n)
		if len(there) != len(p.was[n]) || slices.ContainsFunc(there, func(c impl.Change) bool { return !sameShape(c.Shape, p.was[n][c.Id]) }) {
			t.Fatal("made up", keep, n, there)
		}
	}
}

// TestSitesNearTheMost has sessions that say things by chance where the log has room for a few records more.
func TestSitesNearTheMost(t *testing.T) {
	sorts := map[string]int{}
	for seed := range 4 {
		by := &steps{uint64(1350 + seed)}
		s := siteWithRoom(t, 60+31*seed)
		for range 40 {
			line := strconv.Itoa(by.below(4)) + " " + impl.AskText(by.smallAsk())
			next, said := impl.SiteDo(s, line)
			want, answer := doByWords(s, line)
			if said != answer || !sameSite(next, want) || !impl.SiteOk(next) || len(next.Log) > logMost {
				t.Fatalf("seed %d: %s: said %q, not %q", seed, line, said, answer)
			}
			sorts[said]++
			s = next
		}
	}
	if sorts["full"] < 5 || sorts["ok"] < 20 {
		t.Error("too few of one sort", sorts)
	}
}

// roomySite is s in memory of its own, with marks in the spare room behind each list.
func roomySite(s impl.Site) impl.Site {
	return impl.Site{Db: roomyDb(s.Db), Log: strings.Clone(s.Log), Safe: s.Safe, Pyramid: roomyCounts(s.Pyramid)}
}

// takeSite notes where all of a site stands, and tells whether none of it was taken.
func takeSite(s impl.Site, m memory, numbers map[*int]int, counts map[*impl.Count]int) bool {
	free := takeDb(s.Db, m, numbers)
	return takePlaces(s.Pyramid, counts) && free
}

// siteAnswers are all sites that the functions make of s.
func siteAnswers(s impl.Site) []impl.Site {
	list := []impl.Site{impl.SiteSync(s), impl.SiteClean(s)}
	for _, keep := range []int{-1, 0, 20, math.MaxInt} {
		list = append(list, impl.SiteCrash(s, keep))
	}
	for _, line := range []string{"", "x", "9 ALL", "0 ALL", "1 ALL", "0 BEGIN", "0 COMMIT", "1 COMMIT", "0 ROLLBACK", "0 PUT 3 LINE 0 0 5 5 9 9", "1 PUT 4 POINT 1 1", "1 CUT 3", "0 GET 4"} {
		one, _ := impl.SiteDo(s, line)
		list = append(list, one)
	}
	return list
}

func TestSitesShareNothing(t *testing.T) {
	one := line(0, 0, 5, 5)
	shared := siteBy(t, 2, changes(put(1, one), put(2, one), put(3, one)))
	shared.Db.Store.Txns = []impl.Txn{txn(1, put(7, one), put(8, one)), txn(1, put(7, one))}
	all := append(rightSites(t), siteWithRoom(t, 3), lots(t, 120))
	for i, s := range wrongSites(t) {
		if i%5 == 0 {
			all = append(all, s)
		}
	}
	for i, s := range append(all, shared) {
		arg, m, numbers, places := roomySite(s), newMemory(), map[*int]int{}, map[*impl.Count]int{}
		takeSite(arg, m, numbers, places)
		for k, answer := range siteAnswers(arg) {
			if !takeSite(answer, m, numbers, places) || liesIn(answer.Log, arg.Log) {
				t.Fatal("an answer shares memory", i, k)
			}
		}
		impl.SiteOk(arg)
		impl.SiteTile(arg, tile(0, 0, 0))
		if !dbKept(arg.Db, s.Db) || !countsKept(arg.Pyramid, s.Pyramid) || arg.Log != s.Log || arg.Safe != s.Safe {
			t.Fatal("a site is written into", i)
		}
	}
	// shapes that are one list of points are not so in an answer
	m, numbers, places := newMemory(), map[*int]int{}, map[*impl.Count]int{}
	for k, answer := range siteAnswers(shared) {
		if !takeSite(answer, m, numbers, places) {
			t.Fatal("two lists of an answer share memory", k)
		}
	}
}

// TestNothingIsKeptOfASite asks twice, and writes into the first answers.
func TestNothingIsKeptOfASite(t *testing.T) {
	first := siteStarted(t, 3)
	first.Db.Sessions[1] = 77
	if again := siteStarted(t, 3); !slices.Equal(again.Db.Sessions, idle(3)) {
		t.Error("sessions are kept", again)
	}
	s := busySite()
	for k, one := range siteAnswers(s) {
		want := roomySite(siteAnswers(s)[k])
		clear(one.Db.Sessions)
		clear(one.Pyramid)
		for _, each := range one.Db.Store.Rows.List {
			clear(each.Shape.Points)
		}
		clear(one.Db.Store.Rows.List)
		clear(one.Db.Store.Txns)
		if !sameSite(siteAnswers(s)[k], want) || !sameSite(s, busySite()) {
			t.Fatal("an answer is kept", k)
		}
	}
}
