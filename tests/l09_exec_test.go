package tests

import (
	"slices"
	"strconv"
	"strings"
	"testing"

	"loop.example/g00229/impl"
)

const (
	sessionsMost = 20
	linesMost    = 300
)

func database(s impl.Store, sessions ...int) impl.Db {
	return impl.Db{Store: s, Sessions: sessions}
}

func sameDb(a, b impl.Db) bool {
	return sameStore(a.Store, b.Store) && slices.Equal(a.Sessions, b.Sessions)
}

// idle are the numbers of n sessions without transactions.
func idle(n int) []int { return slices.Repeat([]int{-1}, n) }

// withSession is d with another number for a session.
func withSession(d impl.Db, session, n int) impl.Db {
	d.Sessions = slices.Clone(d.Sessions)
	d.Sessions[session] = n
	return d
}

// started is a database of DbStart.
func started(t *testing.T, sessions int) impl.Db {
	t.Helper()
	d, ok := impl.DbStart(sessions)
	if !ok {
		t.Fatal("not started", sessions)
	}
	return d
}

// inOrder are the numbers 0 .. n - 1.
func inOrder(n int) []int {
	var list []int
	for i := range n {
		list = append(list, i)
	}
	return list
}

// busyDb has four sessions of busyStore, of which 1 and 3 are without transactions; the transactions 1, 3 and 6 are of none.
func busyDb() impl.Db { return database(busyStore(), 0, -1, 4, -1) }

// rightDbs are databases with the edges that the chapter names.
func rightDbs() []impl.Db {
	list := []impl.Db{
		{}, {Sessions: []int{}}, database(impl.Store{}, -1), database(impl.Store{}, idle(19)...), database(impl.Store{}, idle(sessionsMost)...), // no transactions
		busyDb(), database(busyStore()), database(busyStore(), idle(sessionsMost)...), database(busyStore(), 0, 1, 3, 4, 6), database(busyStore(), 6, -1, 4, -1, 3, 1, -1, 0), database(busyStore(), -1, 6), // of an Open one each
		database(store(rows(5), manyTxns(sessionsMost)...), inOrder(sessionsMost)...), // as many as there may be
		database(store(rows(5), manyTxns(txnsMost)...), inOrder(sessionsMost)...), database(store(rows(5), manyTxns(txnsMost)...), idle(sessionsMost)...),
		database(store(rows(5), manyTxns(txnsMost)...), 39, -1, 38), database(store(rows(5), manyTxns(txnsMost, 0, 7)...), 39, 1, 6, 8),
	}
	for _, s := range rightStores() {
		open := []int{-1}
		for n, one := range s.Txns {
			if one.Open && len(open) < sessionsMost {
				open = append(open, n)
			}
		}
		list = append(list, database(s, -1, -1), database(s, open...))
	}
	return list
}

// wrongDbs are not right, each for one reason; each has two sessions or more.
func wrongDbs() []impl.Db {
	list := []impl.Db{
		database(impl.Store{}, idle(sessionsMost+1)...), database(busyStore(), idle(sessionsMost+1)...), database(impl.Store{}, idle(sessionsMost+2)...), database(impl.Store{}, idle(1000)...), // too many
		database(store(rows(5), manyTxns(txnsMost)...), inOrder(sessionsMost+1)...),
		database(busyStore(), -2, -1), database(busyStore(), 0, -2), database(impl.Store{}, -2, -1), // -1 alone is none
		database(busyStore(), 2, -1), database(busyStore(), 0, 5), database(busyStore(), -1, 0, 1, 3, 4, 2), // of one that is not Open
		database(busyStore(), 7, -1), database(busyStore(), 0, 8), database(busyStore(), -1, txnsMost), database(impl.Store{}, 0, -1), database(impl.Store{}, -1, 0), // beyond the transactions
		database(store(rows(5), manyTxns(txnsMost)...), 0, txnsMost), database(store(rows(5), manyTxns(txnsMost, 39)...), 0, 39),
		database(busyStore(), 0, 0), database(busyStore(), 0, -1, 4, 0), database(busyStore(), 6, 0, 4, 6, 1), database(busyStore(), 3, 3, 3), // two with the same
	}
	for _, n := range farInts {
		list = append(list, database(busyStore(), n, -1), database(busyStore(), 0, 1, n))
	}
	for _, s := range wrongStores() {
		list = append(list, database(s, -1, -1))
	}
	return append(list, database(store(few(), txn(-1)), 0, -1), database(store(few(), txn(2, gone(3), gone(3)), txn(5)), 1, 0), database(store(rows(-1), txn(0)), 0, -1))
}

// allKinds are right statements, at least one of each kind.
func allKinds() []impl.Ask {
	return []impl.Ask{
		ask(impl.AskBegin), ask(impl.AskCommit), ask(impl.AskBack), askPut(3, line(0, 0, 5, 5, 9, 9)), askPut(77, dot(1, 1)), askId(impl.AskCut, 3), askId(impl.AskCut, 77),
		askId(impl.AskGet, 3), askId(impl.AskGet, 77), askShape(impl.AskMeets, poly(0, 0, 9, 0, 0, 9)), askShape(impl.AskIn, rect(0, 0, 8, 8)), askCount(tile(1, 1, 1)), ask(impl.AskAll),
	}
}

// inTxn are those of allKinds that are done within a transaction.
func inTxn() []impl.Ask { return allKinds()[3:] }

// checkExec asks for an answer, and for what becomes of a database.
func checkExec(t *testing.T, d impl.Db, session int, a impl.Ask, want impl.Db, said string) {
	t.Helper()
	got, answer := impl.Exec(d, session, a)
	if answer != said {
		t.Errorf("%d %s: said %q, not %q", session, impl.AskText(a), answer, said)
	}
	if !sameDb(got, want) {
		t.Errorf("%d %s: made %v, not %v", session, impl.AskText(a), got, want)
	}
}

func TestDbStartTells(t *testing.T) {
	for n := range sessionsMost + 1 {
		d, ok := impl.DbStart(n)
		if !ok || !sameDb(d, database(impl.Store{}, idle(n)...)) || !impl.DbOk(d) {
			t.Error("started", n, d, ok)
		}
	}
	for _, n := range append([]int{-1, -2, -20, sessionsMost + 1, sessionsMost + 2, txnsMost, 1000}, farInts...) {
		if d, ok := impl.DbStart(n); ok || !sameDb(d, impl.Db{}) {
			t.Error("started", n, d, ok)
		}
	}
}

func TestDbsThatAreRight(t *testing.T) {
	for i, d := range rightDbs() {
		if !impl.DbOk(d) {
			t.Error("a right database is refused", i, d.Sessions)
		}
	}
}

func TestDbsThatAreNot(t *testing.T) {
	p := dot(3, 3)
	for i, d := range wrongDbs() {
		if impl.DbOk(d) {
			t.Error("a wrong database is taken", i, d.Sessions)
		}
		for _, a := range append(allKinds(), ask(-1)) {
			checkExec(t, d, i%2, a, d, "bad")
		}
		if list := impl.Search(d, 0, p); len(list) != 0 {
			t.Error("found", i, list)
		}
		got, said := impl.Script(d, []string{"0 ALL", "1 BEGIN", "x", "0 PUT 3 POINT 1 1", "99 ALL", ""})
		if !sameDb(got, d) || !slices.Equal(said, []string{"bad", "bad", "what", "bad", "bad", "what"}) {
			t.Error("script", i, said)
		}
		if t.Failed() {
			t.Fatal("wrong database", i)
		}
	}
}

func TestExecOfNoSession(t *testing.T) {
	for _, d := range []impl.Db{{}, started(t, 1), started(t, sessionsMost), busyDb(), database(store(rows(5), manyTxns(txnsMost)...), 0, -1)} {
		for _, session := range append([]int{-1, -2, len(d.Sessions), len(d.Sessions) + 1, sessionsMost, sessionsMost + 1}, farInts...) {
			if session >= 0 && session < len(d.Sessions) {
				continue
			}
			for _, a := range allKinds() {
				checkExec(t, d, session, a, d, "bad")
			}
			if list := impl.Search(d, session, rect(-edge, -edge, edge, edge)); len(list) != 0 {
				t.Error("found", session, list)
			}
		}
	}
}

func TestExecOfNoStatement(t *testing.T) {
	all := database(store(rows(5), manyTxns(txnsMost)...), 0, -1)
	for _, a := range wrongAsks() {
		for session := range 2 {
			checkExec(t, busyDb(), session, a, busyDb(), "bad")
			// that is told ahead of full
			checkExec(t, all, session, a, all, "bad")
		}
	}
}

// TestExecTakesWhatAnAskDoesNotHave asks that what a statement does not have changes nothing.
func TestExecTakesWhatAnAskDoesNotHave(t *testing.T) {
	d := busyDb()
	for _, a := range allKinds() {
		for session := range 2 {
			want, said := impl.Exec(d, session, a)
			for i, b := range besides(a) {
				if i%7 == 0 {
					checkExec(t, d, session, b, want, said)
				}
			}
		}
	}
}

// TestExecInATxn has a statement of each kind by a session that has a transaction: 0 sees 3 and 7, 2 sees 4 and 9.
func TestExecInATxn(t *testing.T) {
	d := busyDb()
	own, other := d.Store.Txns[0].Changes, d.Store.Txns[4].Changes
	over := func(session, n int) impl.Db {
		s := withTxn(d.Store, n, ended(d.Store.Txns[n].Start))
		return withSession(database(s, d.Sessions...), session, -1)
	}
	with := func(n int, list ...impl.Change) impl.Db {
		return database(withTxn(d.Store, n, txn(d.Store.Txns[n].Start, list...)), d.Sessions...)
	}
	for _, c := range []struct {
		session int
		a       impl.Ask
		want    impl.Db
		said    string
	}{
		{0, ask(impl.AskBegin), d, "open"}, {2, ask(impl.AskBegin), d, "open"},
		{0, ask(impl.AskCommit), over(0, 0), "clash"}, {2, ask(impl.AskCommit), over(2, 4), "clash"},
		{0, ask(impl.AskBack), over(0, 0), "ok"}, {2, ask(impl.AskBack), over(2, 4), "ok"},
		{0, askPut(5, dot(5, 5)), with(0, own[0], own[1], put(5, dot(5, 5)), own[2]), "ok"},
		{0, askPut(4, rect(0, 0, 4, 4)), with(0, own[0], put(4, rect(0, 0, 4, 4)), own[2]), "ok"},
		{2, askPut(idMost, dot(1, 1)), with(4, other[0], other[1], other[2], other[3], put(idMost, dot(1, 1))), "ok"},
		{0, askId(impl.AskCut, 3), with(0, gone(3), own[1], own[2]), "ok"}, {0, askId(impl.AskCut, 7), with(0, own[0], own[1], gone(7)), "ok"},
		{2, askId(impl.AskCut, 4), with(4, other[0], gone(4), other[1], other[2], other[3]), "ok"},
		{0, askId(impl.AskCut, 4), d, "missing"}, {0, askId(impl.AskCut, 9), d, "missing"}, {0, askId(impl.AskCut, 1), d, "missing"}, {2, askId(impl.AskCut, 3), d, "missing"},
		{0, askId(impl.AskGet, 3), d, "POINT 33 33"}, {0, askId(impl.AskGet, 7), d, "POINT 7 7"}, {2, askId(impl.AskGet, 4), d, "LINE 0 0 5 5"}, {2, askId(impl.AskGet, 9), d, "POINT 9 9"},
		{0, askId(impl.AskGet, 4), d, "missing"}, {0, askId(impl.AskGet, 9), d, "missing"}, {2, askId(impl.AskGet, 5), d, "missing"}, {2, askId(impl.AskGet, 7), d, "missing"},
		{0, ask(impl.AskAll), d, "3 7"}, {2, ask(impl.AskAll), d, "4 9"},
		{0, askShape(impl.AskMeets, rect(7, 7, 40, 40)), d, "3 7"}, {0, askShape(impl.AskMeets, rect(7, 7, 8, 8)), d, "7"}, {0, askShape(impl.AskMeets, dot(3, 3)), d, "-"}, {2, askShape(impl.AskMeets, dot(3, 3)), d, "4"},
		{0, askShape(impl.AskIn, rect(7, 7, 33, 33)), d, "3 7"}, {0, askShape(impl.AskIn, rect(8, 7, 33, 33)), d, "3"}, {2, askShape(impl.AskIn, rect(1, 0, 8, 9)), d, "-"},
		{0, askCount(tile(0, 0, 0)), d, "2"}, {2, askCount(tile(8, 128, 128)), d, "2"}, {0, askCount(tile(1, 0, 0)), d, "0"},
	} {
		checkExec(t, d, c.session, c.a, c.want, c.said)
		if !impl.DbOk(c.want) {
			t.Error("not right", c)
		}
	}
}

// TestExecWithoutATxn has a statement of each kind by a session that has none, in a transaction of its own that takes place 2.
func TestExecWithoutATxn(t *testing.T) {
	d := busyDb()
	all := history().List
	begun := database(withTxn(d.Store, 2, txn(9)), d.Sessions...)
	read := database(withTxn(d.Store, 2, ended(9)), d.Sessions...)
	changed := func(list ...impl.Row) impl.Db {
		return database(withTxn(store(rows(10, list...), d.Store.Txns...), 2, ended(9)), d.Sessions...)
	}
	for _, c := range []struct {
		session int
		a       impl.Ask
		want    impl.Db
		said    string
	}{
		{1, ask(impl.AskBegin), withSession(begun, 1, 2), "ok"}, {3, ask(impl.AskBegin), withSession(begun, 3, 2), "ok"},
		{1, ask(impl.AskCommit), d, "none"}, {3, ask(impl.AskCommit), d, "none"}, {1, ask(impl.AskBack), d, "none"}, {3, ask(impl.AskBack), d, "none"},
		{1, askPut(5, dot(5, 5)), changed(append(history().List, row(5, 10, 0, dot(5, 5)))...), "ok"},
		{3, askPut(4, dot(4, 4)), changed(all[0], all[1], row(4, 4, 10, line(0, 0, 5, 5)), all[3], all[4], all[5], all[6], row(4, 10, 0, dot(4, 4))), "ok"},
		{1, askId(impl.AskCut, 3), changed(all[0], all[1], all[2], all[3], row(3, 7, 10, dot(3, 3)), all[5], all[6]), "ok"},
		{1, askId(impl.AskCut, 6), read, "missing"}, {3, askId(impl.AskCut, 7), read, "missing"}, {3, askId(impl.AskCut, idMost), read, "missing"}, // gone already, and put by others that go on
		{1, askId(impl.AskGet, 3), read, "POINT 3 3"}, {3, askId(impl.AskGet, 4), read, "LINE 0 0 5 5"}, {1, askId(impl.AskGet, 9), read, "POLY 0 0 4 0 0 4"},
		{1, askId(impl.AskGet, 6), read, "missing"}, {3, askId(impl.AskGet, 7), read, "missing"}, {1, askId(impl.AskGet, idMost), read, "missing"},
		{1, ask(impl.AskAll), read, "3 4 9"}, {3, ask(impl.AskAll), read, "3 4 9"},
		{1, askShape(impl.AskMeets, dot(3, 3)), read, "3 4"}, {1, askShape(impl.AskMeets, dot(2, 2)), read, "4 9"}, {3, askShape(impl.AskMeets, dot(0, 4)), read, "9"}, {1, askShape(impl.AskMeets, dot(0, 5)), read, "-"},
		{1, askShape(impl.AskIn, rect(0, 0, 5, 5)), read, "3 4 9"}, {1, askShape(impl.AskIn, rect(0, 0, 4, 4)), read, "3 9"}, {3, askShape(impl.AskIn, rect(1, 1, 5, 5)), read, "3"}, {3, askShape(impl.AskIn, rect(4, 4, 5, 5)), read, "-"},
		{1, askCount(tile(0, 0, 0)), read, "3"}, {3, askCount(tile(1, 1, 1)), read, "3"}, {1, askCount(tile(1, 1, 0)), read, "0"},
	} {
		checkExec(t, d, c.session, c.a, c.want, c.said)
		if !impl.DbOk(c.want) {
			t.Error("not right", c)
		}
	}
}

// TestExecIsFull has forty transactions that go on: whoever has one goes on, and nobody begins.
func TestExecIsFull(t *testing.T) {
	s := store(history(), manyTxns(txnsMost)...)
	for _, d := range []impl.Db{database(s, 0, -1), database(s, 39, -1), database(s, append([]int{7}, idle(19)...)...)} {
		for _, a := range append(inTxn(), ask(impl.AskBegin)) {
			checkExec(t, d, 1, a, d, "full")
		}
		checkExec(t, d, 1, ask(impl.AskCommit), d, "none")
		checkExec(t, d, 1, ask(impl.AskBack), d, "none")
		checkExec(t, d, 0, ask(impl.AskBegin), d, "open")
		for _, a := range append(inTxn(), ask(impl.AskCommit), ask(impl.AskBack)) {
			if _, said := impl.Exec(d, 0, a); said == "full" || said == "bad" {
				t.Error("with a transaction", a, said)
			}
		}
		if list := impl.Search(d, 1, rect(-edge, -edge, edge, edge)); len(list) != 0 {
			t.Error("found", list)
		}
	}
	// One that ends makes a place for one.
	d := talk(t, database(s, 5, -1, -1), "1 BEGIN", "full", "1 ALL", "full", "0 ROLLBACK", "ok", "1 ALL", "3 4 9", "1 BEGIN", "ok", "2 BEGIN", "full", "0 ALL", "full", "1 COMMIT", "ok", "0 BEGIN", "ok")
	if !slices.Equal(d.Sessions, []int{5, -1, -1}) {
		t.Error("sessions", d.Sessions)
	}
	// With thirty-nine there is one place more.
	talk(t, database(store(history(), manyTxns(39)...), -1, -1), "0 BEGIN", "ok", "1 GET 3", "full", "0 PUT 1 POINT 1 1", "ok", "0 COMMIT", "ok", "1 GET 1", "POINT 1 1")
}

// TestCommitsThatAreFull has rows that take no more, with a transaction and without.
func TestCommitsThatAreFull(t *testing.T) {
	full := manyRows(rowsMost) // 2093 is there, 2100 was
	late := rows(nowMost+1, row(2093, 1, 0, dot(1, 1)))
	for i, c := range []struct {
		r    impl.Rows
		a    impl.Ask
		said string
	}{
		{full, askPut(1, dot(1, 1)), "full"}, {full, askPut(2093, dot(1, 1)), "full"}, {full, askPut(2100, dot(1, 1)), "full"}, {full, askId(impl.AskCut, 2093), "ok"}, {full, askId(impl.AskCut, 2100), "missing"},
		{late, askPut(1, dot(1, 1)), "full"}, {late, askPut(2093, dot(1, 1)), "full"}, {late, askId(impl.AskCut, 2093), "full"}, {late, askId(impl.AskCut, 1), "missing"},
	} {
		now := c.r.Now
		alone, within := database(store(c.r, txn(1)), -1), database(store(c.r, txn(1), txn(now)), 1)
		want := database(store(c.r, txn(1), ended(now)), -1)
		if c.said == "ok" {
			want.Store.Rows, _ = impl.Apply(c.r, changes(gone(c.a.Id)))
		}
		checkExec(t, alone, 0, c.a, want, c.said)
		d, said := impl.Exec(within, 0, c.a)
		if c.said == "missing" {
			checkExec(t, d, 0, ask(impl.AskCommit), want, "ok")
		} else {
			checkExec(t, d, 0, ask(impl.AskCommit), want, c.said)
		}
		if (said == "ok") != (c.said != "missing") {
			t.Error("within", i, said)
		}
		for _, read := range inTxn()[4:] {
			if got, said := impl.Exec(alone, 0, read); said == "full" || !sameRows(got.Store.Rows, c.r) {
				t.Error("read", i, said)
			}
		}
	}
	// What is Gone with a shape a store may have, but rows do not take it.
	with := database(store(history(), txn(9, goneWith(4, dot(5, 5)))), -1, 0)
	checkExec(t, with, 1, ask(impl.AskCommit), database(store(history(), ended(9)), -1, -1), "full")
	checkExec(t, with, 1, ask(impl.AskBack), database(store(history(), ended(9)), -1, -1), "ok")
	checkExec(t, with, 1, ask(impl.AskAll), with, "3 9")
}

// talk has lines and their answers, one behind the other: each line is asked by Exec, and leaves a right database.
func talk(t *testing.T, d impl.Db, list ...string) impl.Db {
	t.Helper()
	for i := 0; i < len(list); i += 2 {
		number, text, _ := strings.Cut(list[i], " ")
		session, _ := strconv.Atoi(number)
		a, ok := impl.ReadAsk(text)
		if !ok {
			t.Fatal("no statement", list[i])
		}
		next, said := impl.Exec(d, session, a)
		if said != list[i+1] || !impl.DbOk(next) {
			t.Fatalf("%s: said %q, not %q", list[i], said, list[i+1])
		}
		if impl.Reads(a) && !sameRows(next.Store.Rows, d.Store.Rows) {
			t.Fatalf("%s: changed rows", list[i])
		}
		d = next
	}
	return d
}

func TestWithoutATxnItIsThereAtOnce(t *testing.T) {
	d := talk(t, started(t, 3),
		"0 ALL", "-", "0 PUT 5 POINT 1 1", "ok", "0 ALL", "5", "1 ALL", "5", "2 GET 5", "POINT 1 1",
		"1 PUT 5 POINT 2 2", "ok", "0 GET 5", "POINT 2 2", "2 PUT 3 RECT 0 0 1 1", "ok", "1 ALL", "3 5",
		"1 CUT 5", "ok", "0 ALL", "3", "2 GET 5", "missing", "0 CUT 5", "missing", "1 CUT 4", "missing", "2 ALL", "3",
		"0 COMMIT", "none", "1 ROLLBACK", "none", "2 CUT 3", "ok", "2 ALL", "-")
	want := rows(5, row(5, 1, 2, dot(1, 1)), row(5, 2, 4, dot(2, 2)), row(3, 3, 5, rect(0, 0, 1, 1)))
	// All of them took the first place, one behind the other; the last began at moment 5.
	if !sameDb(d, database(store(want, ended(5)), -1, -1, -1)) {
		t.Error("at the end", d)
	}
	// What it read, or was missing, leaves a transaction that ended behind, and no moment goes by.
	for _, line := range []string{"GET 1", "CUT 1", "ALL", "MEETS POINT 0 0", "IN RECT 0 0 1 1", "COUNT 0 0 0"} {
		a, _ := impl.ReadAsk(line)
		got, _ := impl.Exec(started(t, 2), 1, a)
		if !sameDb(got, database(store(impl.Rows{}, ended(0)), -1, -1)) {
			t.Error("read", line, got)
		}
	}
}

func TestTwoSessionsSeeNothingOfEachOther(t *testing.T) {
	d := talk(t, started(t, 3), "2 PUT 1 POINT 1 1", "ok", "2 PUT 2 POINT 2 2", "ok", "2 PUT 3 POINT 3 3", "ok",
		"0 BEGIN", "ok", "1 BEGIN", "ok", "0 BEGIN", "open",
		"0 PUT 4 POINT 4 4", "ok", "0 CUT 1", "ok", "0 PUT 2 LINE 0 0 2 2", "ok",
		"0 ALL", "2 3 4", "1 ALL", "1 2 3", "2 ALL", "1 2 3",
		"1 PUT 5 POINT 5 5", "ok", "1 CUT 3", "ok", "0 ALL", "2 3 4", "1 ALL", "1 2 5", "2 ALL", "1 2 3",
		"0 GET 2", "LINE 0 0 2 2", "1 GET 2", "POINT 2 2", "2 GET 2", "POINT 2 2", "0 GET 1", "missing", "1 GET 1", "POINT 1 1", "1 GET 4", "missing", "0 GET 5", "missing",
		"0 MEETS POINT 1 1", "2", "1 MEETS POINT 1 1", "1", "0 IN RECT 3 3 5 5", "3 4", "1 IN RECT 3 3 5 5", "5", "2 IN RECT 3 3 5 5", "3",
		"0 COUNT 0 0 0", "3", "1 COUNT 8 128 128", "3", "0 CUT 5", "missing", "1 CUT 4", "missing",
		"0 COMMIT", "ok", "0 COMMIT", "none", "0 ALL", "2 3 4", "1 ALL", "1 2 5", "2 ALL", "2 3 4", "1 GET 1", "POINT 1 1",
		"1 COMMIT", "ok", "1 ALL", "2 4 5", "0 ALL", "2 4 5", "2 ALL", "2 4 5", "2 GET 2", "LINE 0 0 2 2")
	if !slices.Equal(d.Sessions, idle(3)) || d.Store.Rows.Now != 5 || slices.ContainsFunc(d.Store.Txns, func(one impl.Txn) bool { return one.Open }) {
		t.Error("at the end", d)
	}
	// What is rolled back nobody sees.
	talk(t, d, "0 BEGIN", "ok", "0 CUT 2", "ok", "0 PUT 9 POINT 9 9", "ok", "0 ALL", "4 5 9", "0 ROLLBACK", "ok", "0 ALL", "2 4 5", "0 ROLLBACK", "none", "0 BEGIN", "ok", "0 ALL", "2 4 5")
}

func TestFirstSessionToCommitDoes(t *testing.T) {
	base := talk(t, started(t, 3), "0 PUT 1 POINT 1 1", "ok", "0 PUT 2 POINT 2 2", "ok")
	for _, first := range []string{"PUT 1 POINT 7 7", "CUT 1", "PUT 8 POINT 7 7"} {
		for _, second := range []string{"PUT 1 POINT 9 9", "CUT 1", "PUT 8 POINT 9 9"} {
			for _, order := range [][2]string{{"0 ", "1 "}, {"1 ", "0 "}} {
				a, b := order[0], order[1]
				want := "ok"
				if strings.Contains(first, " 1") == strings.Contains(second, " 1") {
					want = "clash"
				}
				d := talk(t, base, "0 BEGIN", "ok", "1 BEGIN", "ok", b+second, "ok", a+first, "ok", a+"COMMIT", "ok", b+"COMMIT", want, a+"COMMIT", "none", b+"COMMIT", "none", b+"ROLLBACK", "none")
				after := talk(t, base, "0 "+first, "ok")
				if want == "clash" && (d.Store.Rows.Now != 3 || !sameRows(d.Store.Rows, after.Store.Rows)) {
					t.Error("rows behind a clash", first, second, d.Store.Rows)
				}
				// One without a transaction is first wherever the other one began ahead of it.
				talk(t, base, b+"BEGIN", "ok", b+second, "ok", "2 "+first, "ok", b+"COMMIT", want)
			}
		}
	}
	// One that begins behind a commit does not clash with it; one that is rolled back does with none.
	talk(t, base, "0 BEGIN", "ok", "0 PUT 1 POINT 5 5", "ok", "0 COMMIT", "ok", "1 BEGIN", "ok", "1 PUT 1 POINT 6 6", "ok", "1 COMMIT", "ok", "2 GET 1", "POINT 6 6")
	talk(t, base, "0 BEGIN", "ok", "1 BEGIN", "ok", "0 CUT 1", "ok", "1 CUT 1", "ok", "0 ROLLBACK", "ok", "1 COMMIT", "ok", "0 ALL", "2")
	// Behind a clash all is done anew.
	talk(t, base, "0 BEGIN", "ok", "0 PUT 1 POINT 5 5", "ok", "0 PUT 3 POINT 3 3", "ok", "1 CUT 1", "ok", "0 COMMIT", "clash", "0 ALL", "2", "0 BEGIN", "ok", "0 PUT 1 POINT 5 5", "ok", "0 COMMIT", "ok", "1 GET 1", "POINT 5 5")
}

func TestGetTellsEachShape(t *testing.T) {
	for _, s := range rightShapes() {
		text := impl.ShapeText(s)
		talk(t, started(t, 2), "0 PUT 5 "+text, "ok", "1 GET 5", text, "1 GET 4", "missing", "1 BEGIN", "ok", "1 GET 5", text, "1 PUT 4 "+text, "ok", "1 GET 4", text, "1 GET 6", "missing", "0 GET 4", "missing", "1 CUT 5", "ok", "1 GET 5", "missing", "0 GET 5", text)
	}
}

// shapesAround is a database in which a session without a transaction sees ten shapes around the origin.
func shapesAround(t *testing.T) impl.Db {
	return talk(t, started(t, 2),
		"0 PUT 10 RECT 0 0 4 4", "ok", "0 PUT 9 POINT 2 2", "ok", "0 PUT 8 LINE -5 2 9 2", "ok", "0 PUT 7 POLY 0 0 6 0 6 6 3 2 0 6", "ok", "0 PUT 6 POINT -1 -1", "ok",
		"0 PUT 5 LINE -2 -2 -1 -1", "ok", "0 PUT 4 RECT -4 -4 -4 -4", "ok", "0 PUT 300 POINT 30000 30000", "ok", "0 PUT 200 POINT -30000 30000", "ok", "0 PUT 100 RECT 100 100 355 255", "ok")
}

func TestWhatMeetsIsFound(t *testing.T) {
	d := shapesAround(t)
	for _, c := range [][2]string{
		{"ALL", "4 5 6 7 8 9 10 100 200 300"},
		{"MEETS POINT 2 2", "7 8 9 10"}, {"MEETS POINT 4 4", "10"}, {"MEETS POINT 4 3", "7 10"}, {"MEETS POINT 5 4", "7"}, {"MEETS POINT 3 3", "10"}, {"MEETS POINT 1 5", "-"}, {"MEETS POINT 0 6", "7"}, // a dent, and its tips
		{"MEETS POINT -4 -4", "4"}, {"MEETS POINT -1 -1", "5 6"}, {"MEETS POINT -3 -3", "-"}, {"MEETS POINT 30000 30000", "300"}, {"MEETS POINT 9 2", "8"}, {"MEETS POINT 10 2", "-"},
		{"MEETS LINE -4 -3 -3 -4", "-"}, {"MEETS LINE -3 -1 -1 -3", "5"}, {"MEETS LINE -1 -2 -2 -1", "5"}, {"MEETS LINE -5 -4 -3 -4", "4"}, // at a point without whole coordinates
		{"MEETS LINE 1 6 5 6", "-"}, {"MEETS LINE 1 4 5 4", "7 10"}, {"MEETS RECT 5 1 8 3", "7 8"}, {"MEETS RECT 7 0 8 1", "-"}, {"MEETS RECT -30000 -30000 30000 30000", "4 5 6 7 8 9 10 100 200 300"},
		{"MEETS POLY 1 1 3 1 2 3", "7 8 9 10"}, {"MEETS POLY -10 -10 -5 -10 -10 -5", "-"}, {"MEETS RECT 356 100 400 400", "-"}, {"MEETS RECT 355 255 400 400", "100"},
		{"IN RECT 0 0 4 4", "9 10"}, {"IN RECT 0 0 3 4", "9"}, {"IN RECT 0 0 4 3", "9"}, {"IN RECT 1 0 4 4", "9"}, {"IN RECT 0 1 4 4", "9"}, {"IN RECT -1 -1 5 5", "6 9 10"}, // touching its side from within, and partly within
		{"IN RECT 0 0 6 6", "7 9 10"}, {"IN RECT 0 0 5 6", "9 10"}, {"IN RECT -5 2 9 2", "8 9"}, {"IN RECT -4 2 9 2", "9"}, {"IN RECT -5 2 8 2", "9"}, {"IN RECT 2 2 2 2", "9"}, {"IN RECT 3 3 3 3", "-"},
		{"IN RECT -4 -4 -4 -4", "4"}, {"IN RECT -4 -4 -1 -1", "4 5 6"}, {"IN RECT -2 -2 -1 -1", "5 6"}, {"IN RECT -1 -1 -1 -1", "6"}, {"IN RECT 100 100 355 255", "100"}, {"IN RECT 101 100 355 255", "-"},
		{"IN RECT -30000 -30000 30000 30000", "4 5 6 7 8 9 10 100 200 300"}, {"IN RECT -30000 30000 30000 30000", "200 300"}, {"IN RECT -30000 -30000 29999 30000", "4 5 6 7 8 9 10 100 200"},
		{"COUNT 0 0 0", "10"}, {"COUNT 1 1 1", "6"}, {"COUNT 1 0 0", "3"}, {"COUNT 1 1 0", "0"}, {"COUNT 1 0 1", "2"}, // 8 is in two tiles
		{"COUNT 8 128 128", "5"}, {"COUNT 8 129 128", "1"}, {"COUNT 8 130 128", "0"}, {"COUNT 8 127 128", "1"}, {"COUNT 8 127 127", "3"}, {"COUNT 8 128 127", "0"}, {"COUNT 8 245 245", "1"}, {"COUNT 8 10 245", "1"}, {"COUNT 8 255 255", "0"},
	} {
		talk(t, d, "0 "+c[0], c[1], "1 "+c[0], c[1], "0 BEGIN", "ok", "0 "+c[0], c[1])
	}
	none := database(impl.Store{}, -1)
	talk(t, none, "0 ALL", "-", "0 MEETS RECT -30000 -30000 30000 30000", "-", "0 IN RECT -30000 -30000 30000 30000", "-", "0 COUNT 0 0 0", "0", "0 GET 1", "missing", "0 CUT 1", "missing")
	// A tile that a shape meets in one point, and one that it comes close to: between the tiles of 255 and 256 nothing is of either.
	talk(t, none, "0 PUT 1 RECT 255 0 300 9", "ok", "0 COUNT 8 128 128", "1", "0 PUT 1 RECT 255 255 300 300", "ok", "0 COUNT 8 128 128", "1", "0 COUNT 8 129 128", "1", "0 PUT 1 RECT 256 0 300 9", "ok", "0 COUNT 8 128 128", "0", "0 PUT 1 LINE 254 256 256 254", "ok", "0 COUNT 8 128 128", "1", "0 PUT 1 LINE 255 256 256 255", "ok", "0 COUNT 8 128 128", "0", "0 COUNT 8 129 129", "0", "0 COUNT 8 128 129", "1", "0 COUNT 8 129 128", "1")
}

// idsOf reads what AskMeets told.
func idsOf(t *testing.T, said string) []int {
	t.Helper()
	if said == "-" || said == "bad" || said == "full" {
		return nil
	}
	var list []int
	for _, word := range strings.Split(said, " ") {
		n, err := strconv.Atoi(word)
		if err != nil {
			t.Fatalf("no Id: %q", said)
		}
		list = append(list, n)
	}
	return list
}

// checkSearch holds what is found against AskMeets.
func checkSearch(t *testing.T, d impl.Db, session int, s impl.Shape) {
	t.Helper()
	_, said := impl.Exec(d, session, askShape(impl.AskMeets, s))
	if got := impl.Search(d, session, s); !slices.Equal(got, idsOf(t, said)) {
		t.Errorf("found by %d for %v: %v, not %q", session, s, got, said)
	}
}

func TestSearchTells(t *testing.T) {
	d := shapesAround(t)
	for _, c := range []struct {
		s    impl.Shape
		want []int
	}{
		{dot(2, 2), []int{7, 8, 9, 10}}, {dot(5, 4), []int{7}}, {dot(1, 5), nil}, {rect(-edge, -edge, edge, edge), []int{4, 5, 6, 7, 8, 9, 10, 100, 200, 300}}, {line(-3, -1, -1, -3), []int{5}},
	} {
		if got := impl.Search(d, 1, c.s); !slices.Equal(got, c.want) {
			t.Error("found", c.s, got)
		}
	}
	for _, s := range wrongShapes() {
		for session := range 2 {
			if got := impl.Search(d, session, s); len(got) != 0 {
				t.Error("found for no shape", s, got)
			}
		}
	}
	for _, one := range []impl.Db{d, busyDb(), talk(t, d, "0 BEGIN", "ok", "0 CUT 9", "ok", "0 PUT 11 POINT 2 2", "ok", "1 CUT 10", "ok"), database(store(history(), manyTxns(txnsMost)...), 3, -1)} {
		for _, s := range append(rightShapes(), dot(2, 2), rect(0, 0, 9, 9), line(0, 9, 9, 0)) {
			for session := -1; session <= len(one.Sessions); session++ {
				checkSearch(t, one, session, s)
			}
		}
	}
}

// saysWhat asks for a line that is none between two others, and that nothing comes of it.
func saysWhat(t *testing.T, d impl.Db, line string) {
	t.Helper()
	got, said := impl.Script(d, []string{"0 PUT 77 POINT 7 7", line, "0 GET 77"})
	want, _ := impl.Script(d, []string{"0 PUT 77 POINT 7 7", "0 GET 77"})
	if !slices.Equal(said, []string{"ok", "what", "POINT 7 7"}) || !sameDb(got, want) {
		t.Errorf("line %.60q: said %q", line, said)
	}
}

func TestScriptOfLinesThatAreNone(t *testing.T) {
	d := busyDb()
	for _, line := range []string{
		"", " ", "  ", "0", "1", "-1", "0 ", "1 ", " 0", "0  ", "x", "what", "\x00", "\n", "ALL", "BEGIN", " ALL", "  ALL", "0ALL", "0BEGIN", // no number, or a number alone
		"0  ALL", " 0 ALL", "0 ALL ", "0   ALL", "0 ALL  ", "0\tALL", "0\nALL", "0 ALL\n", "0\u00a0ALL", "\t0 ALL", "0 \tALL", // no blank, or two
		"00 ALL", "01 ALL", "+0 ALL", "+1 ALL", "-0 ALL", "-01 ALL", "- ALL", "+ ALL", "--1 ALL", "0.0 ALL", "0x0 ALL", "1e0 ALL", "0_0 ALL", "A ALL", "ALL ALL", "\u0660 ALL", "1000000000 ALL", "-1000000000 ALL", "4294967296 ALL", "18446744073709551616 ALL", // no number of ReadInt
		"0 0 ALL", "0 1 ALL", "0 all", "0 All", "0 WHAT", "0 ALL ALL", "0 PUT", "0 PUT 5", "0 PUT 0 POINT 1 1", "0 PUT 5 POINT 1", "0 PUT 5 POINT 30001 0", "0 PUT 5 RECT 1 0 0 0", "0 GET", "0 GET 0", "0 GET 05", "0 GET 1000000000", "0 CUT -1", "0 MEETS", "0 MEETS RECT", "0 IN POINT 1 1", "0 IN", "0 COUNT 0 0", "0 COUNT 9 0 0", "0 COUNT 0 1 0", "0 BEGIN 0", "0 BACK", // no statement
		"9 NONE", "-1 ", "99 all", "0,ALL", "0;ALL", "0 ALL;", "0 ALL 1 ALL", "0 ALL\n1 ALL", "0 ALL\x00",
		strings.Repeat(" ", 100000), strings.Repeat("0", 100000) + " ALL", "0 " + strings.Repeat("ALL ", 100000), strings.Repeat("0 ", 100000), "0 MEETS LINE" + strings.Repeat(" 0 0 1 1", 50000),
	} {
		saysWhat(t, database(d.Store, -1, 0), line)
	}
	for _, a := range wrongTexts() {
		saysWhat(t, database(impl.Store{}, -1), "0 PUT 5 "+a)
	}
}

func TestScriptOfNoSession(t *testing.T) {
	for _, number := range []string{"-1", "-2", "4", "5", "20", "21", "999999999", "-999999999"} {
		for _, a := range allKinds() {
			got, said := impl.Script(busyDb(), []string{number + " " + impl.AskText(a)})
			if !slices.Equal(said, []string{"bad"}) || !sameDb(got, busyDb()) {
				t.Error("no session", number, said)
			}
		}
	}
	talkScript(t, impl.Db{}, "0 ALL", "bad", "-1 ALL", "bad", "0 NONE", "what")
	talkScript(t, started(t, sessionsMost), "19 ALL", "-", "20 ALL", "bad", "-1 ALL", "bad", "19 BEGIN", "ok", "18 BEGIN", "ok", "0 COMMIT", "none", "10 ALL", "-")
}

// talkScript has lines and their answers, all in one script.
func talkScript(t *testing.T, d impl.Db, list ...string) impl.Db {
	t.Helper()
	var lines, want []string
	for i := 0; i < len(list); i += 2 {
		lines, want = append(lines, list[i]), append(want, list[i+1])
	}
	got, said := impl.Script(d, lines)
	if !slices.Equal(said, want) {
		t.Fatalf("script %q: said %q, not %q", lines, said, want)
	}
	return got
}

func TestScriptTells(t *testing.T) {
	d := talkScript(t, started(t, 2),
		"0 PUT 1 RECT 0 0 4 4", "ok", "", "what", "1 BEGIN", "ok", "1 PUT 2 POINT 9 9", "ok", "2 ALL", "bad", "0 ALL", "1", "1 ALL", "1 2", "0 GET 2", "missing", "0 GET 02", "what",
		"0 CUT 1", "ok", "1 GET 1", "RECT 0 0 4 4", "1 CUT 1", "ok", "1 BEGIN", "open", "1 COMMIT", "clash", "1 COMMIT", "none", "0 ALL", "-", "-1 COMMIT", "bad")
	// Session 1 had place 0, the others place 1 for as long as it went on.
	if want := database(store(rows(2, row(1, 1, 2, rect(0, 0, 4, 4))), ended(2), ended(1)), -1, -1); !sameDb(d, want) {
		t.Error("at the end", d)
	}
}

func TestScriptUpToTheMost(t *testing.T) {
	for i, d := range []impl.Db{{}, started(t, 3), busyDb(), database(busyStore(), 0, 0)} {
		for _, none := range [][]string{nil, {}} {
			if got, said := impl.Script(d, none); len(said) != 0 || !sameDb(got, d) {
				t.Error("of nothing", i, said)
			}
		}
		for _, n := range []int{linesMost + 1, linesMost + 2, 1000} {
			for _, line := range []string{"0 PUT 1 POINT 1 1", "1 BEGIN", "", "x"} {
				if got, said := impl.Script(d, slices.Repeat([]string{line}, n)); len(said) != 0 || !sameDb(got, d) {
					t.Error("too many", i, n, len(said))
				}
			}
		}
	}
	for _, n := range []int{1, 2, 299, linesMost} {
		lines, want := slices.Repeat([]string{"0 PUT 1 POINT 1 1"}, n), slices.Repeat([]string{"ok"}, n)
		lines[n-1], want[n-1] = "0 CUT 2", "missing"
		got, said := impl.Script(started(t, 1), lines)
		if !slices.Equal(said, want) || got.Store.Rows.Now != n-1 || len(got.Store.Rows.List) != n-1 || !impl.DbOk(got) {
			t.Error("many", n, len(said), got.Store.Rows.Now)
		}
		if got, said := impl.Script(started(t, 1), make([]string, n)); !slices.Equal(said, slices.Repeat([]string{"what"}, n)) || !sameDb(got, started(t, 1)) {
			t.Error("many that are none", n, len(said))
		}
	}
	// The rows are full behind as many lines as a script may have, and stay so.
	full, said := impl.Script(started(t, 1), slices.Repeat([]string{"0 PUT 1 POINT 1 1"}, linesMost))
	if slices.Contains(said, "full") || len(full.Store.Rows.List) != rowsMost {
		t.Error("not full yet", len(full.Store.Rows.List))
	}
	talkScript(t, full, "0 PUT 1 POINT 1 1", "full", "0 PUT 2 POINT 1 1", "full", "0 ALL", "1", "0 BEGIN", "ok", "0 PUT 2 POINT 1 1", "ok", "0 ALL", "1 2", "0 COMMIT", "full", "0 ALL", "1", "0 CUT 1", "ok", "0 ALL", "-", "0 PUT 2 POINT 1 1", "full")
}

// codeSaid are the words of what transactions tell, by code.
var codeSaid = []string{"ok", "none", "bad", "missing", "clash", "full"}

func spaced(ids []int) string {
	if len(ids) == 0 {
		return "-"
	}
	var words []string
	for _, id := range ids {
		words = append(words, strconv.Itoa(id))
	}
	return strings.Join(words, " ")
}

// fitsAsk tells whether a shape is one that a statement looks for.
func fitsAsk(a impl.Ask, s impl.Shape) bool {
	switch a.Kind {
	case impl.AskMeets:
		return impl.ShapesMeet(s, a.Shape)
	case impl.AskIn:
		low, high := a.Shape.Points[0], a.Shape.Points[1]
		return impl.ShapeIn(s, box(low.X, low.Y, high.X, high.Y))
	case impl.AskCount:
		return slices.Contains(impl.TilesOf(s, a.Tile.Level), a.Tile)
	}
	return true
}

// plainDb is a plain way to tell what a database does, on a plain store.
type plainDb struct {
	*plainStore
	sessions []int
}

func (p plainDb) say(session int, a impl.Ask) string {
	if session < 0 || session >= len(p.sessions) || impl.AskText(a) == "" {
		return "bad"
	}
	n, code := p.sessions[session], 0
	switch {
	case a.Kind == impl.AskBegin && n >= 0:
		return "open"
	case a.Kind == impl.AskBegin:
		if n = p.begin(); n < 0 {
			return "full"
		}
		p.sessions[session] = n
		return "ok"
	case a.Kind == impl.AskCommit || a.Kind == impl.AskBack:
		if n < 0 {
			return "none"
		}
		p.sessions[session] = -1
		if a.Kind == impl.AskCommit {
			code = p.commit(n)
		} else {
			code = p.rollback(n)
		}
		return codeSaid[code]
	case n >= 0:
		return p.sayWithin(n, a)
	}
	if n = p.begin(); n < 0 {
		return "full"
	}
	said := p.sayWithin(n, a)
	if code = p.commit(n); said == "ok" {
		said = codeSaid[code]
	}
	return said
}

func (p plainDb) sayWithin(n int, a impl.Ask) string {
	sees := p.txns[n].sees
	switch a.Kind {
	case impl.AskPut:
		return codeSaid[p.put(n, a.Id, a.Shape)]
	case impl.AskCut:
		return codeSaid[p.cut(n, a.Id)]
	case impl.AskGet:
		if one, ok := sees[a.Id]; ok {
			return impl.ShapeText(one)
		}
		return "missing"
	}
	var list []int
	for id, one := range sees {
		if fitsAsk(a, one) {
			list = append(list, id)
		}
	}
	if a.Kind == impl.AskCount {
		return strconv.Itoa(len(list))
	}
	slices.Sort(list)
	return spaced(list)
}

// smallAsk is a statement by chance, of a few Ids and of shapes and tiles around the origin; now and then it is none.
func (s *steps) smallAsk() impl.Ask {
	kinds := []int{impl.AskBegin, impl.AskBegin, impl.AskCommit, impl.AskCommit, impl.AskCommit, impl.AskBack, impl.AskPut, impl.AskPut, impl.AskPut, impl.AskPut, impl.AskPut, impl.AskCut, impl.AskCut, impl.AskCut, impl.AskGet, impl.AskMeets, impl.AskIn, impl.AskCount, impl.AskAll}
	one, _ := impl.Move(s.shape(9), -5, -5)
	level := s.between(1, levelMost)
	half := 1 << (level - 1)
	a := impl.Ask{Kind: kinds[s.below(len(kinds))], Id: s.between(1, 6), Shape: one, Tile: tile(level, half-s.below(2), half-s.below(2))}
	if a.Kind == impl.AskIn {
		around, _ := impl.ShapeBox(one)
		a.Shape = rect(around.X0, around.Y0, around.X1, around.Y1)
	}
	if s.below(40) == 0 {
		a.Id, a.Shape, a.Tile, a.Kind = 0, rect(9, 9, 0, 0), tile(9, 0, 0), a.Kind+10*s.below(2)
	}
	return a
}

// sortOf is the answer where it is a word, else what sort of answer it is.
func sortOf(said string) string {
	if strings.Contains("bad open none ok clash full missing - 0", said) {
		return said
	}
	if strings.ContainsAny(said, "OELR") {
		return "shape"
	}
	return "ids " + strconv.Itoa(min(2, strings.Count(said, " ")+1))
}

// checkPlain holds a database against a plain one: its sessions, and its store with all that each transaction sees.
func checkPlain(t *testing.T, d impl.Db, p plainDb) {
	t.Helper()
	if !impl.DbOk(d) || !slices.Equal(d.Sessions, p.sessions) {
		t.Fatal("sessions", d.Sessions, p.sessions)
	}
	p.check(t, d.Store)
}

// TestDbsStayRight is promise 9: whatever several sessions say in any order, the database stays right, and answers as a plain one does; what is found are just those that meet, of all that a session sees.
func TestDbsStayRight(t *testing.T) {
	count := map[string]int{}
	for seed := range 24 {
		by := &steps{uint64(900 + seed)}
		n := []int{1, 2, 3, 5, 8, sessionsMost}[seed%6]
		s, plain := plainOf([]int{0, 0, 292, 0}[seed%4])
		d, p := database(s, idle(n)...), plainDb{plain, idle(n)}
		first := d
		var lines, answers []string
		for range 100 {
			session, a := by.between(-1, n), by.smallAsk()
			for (session < 0 || session == n) && by.below(9) > 0 {
				session = by.between(-1, n)
			}
			if a.Kind == impl.AskMeets {
				checkSearch(t, d, session, a.Shape)
			}
			next, said := impl.Exec(d, session, a)
			if want := p.say(session, a); said != want {
				t.Fatalf("seed %d: %d %s: said %q, not %q", seed, session, impl.AskText(a), said, want)
			}
			checkPlain(t, next, p)
			count[sortOf(said)]++
			d = next
			if text := impl.AskText(a); text != "" {
				lines, answers = append(lines, strconv.Itoa(session)+" "+text), append(answers, said)
			}
		}
		// All of it in one script comes to the same.
		if got, said := impl.Script(first, lines); !sameDb(got, d) || !slices.Equal(said, answers) {
			t.Fatal("script", seed, said)
		}
	}
	for _, sort := range []string{"bad", "open", "none", "ok", "clash", "full", "missing", "-", "0", "shape", "ids 1", "ids 2"} {
		if count[sort] < 5 {
			t.Error("too few of one sort", sort, count)
		}
	}
}

// TestRightDbsStayRight asks for each kind of statement, by each session, of databases at the edges.
func TestRightDbsStayRight(t *testing.T) {
	for i, d := range rightDbs() {
		for session := range min(3, len(d.Sessions)) {
			for _, a := range allKinds() {
				got, said := impl.Exec(d, session, a)
				if !impl.DbOk(got) || said == "bad" || said == "" {
					t.Fatal("not right any more", i, session, a, said)
				}
				want, answer := execByWords(d, session, a)
				if said != answer || !sameDb(got, want) {
					t.Fatalf("database %d: %d %s: said %q, not %q", i, session, impl.AskText(a), said, answer)
				}
			}
		}
	}
}

// execByWords is another way to do a right statement of a right database: by the functions of chapter 7, one behind the other.
func execByWords(d impl.Db, session int, a impl.Ask) (impl.Db, string) {
	n, sessions := d.Sessions[session], d.Sessions
	switch {
	case a.Kind == impl.AskBegin && n >= 0:
		return d, "open"
	case (a.Kind == impl.AskCommit || a.Kind == impl.AskBack) && n < 0:
		return d, "none"
	case a.Kind == impl.AskCommit:
		s, code := impl.Commit(d.Store, n)
		return withSession(database(s, sessions...), session, -1), codeSaid[code]
	case a.Kind == impl.AskBack:
		s, code := impl.Rollback(d.Store, n)
		return withSession(database(s, sessions...), session, -1), codeSaid[code]
	case n >= 0:
		s, said := stepByWords(d.Store, n, a)
		return database(s, sessions...), said
	}
	s, n := impl.Begin(d.Store)
	if n < 0 {
		return d, "full"
	}
	if a.Kind == impl.AskBegin {
		return withSession(database(s, sessions...), session, n), "ok"
	}
	s, said := stepByWords(s, n, a)
	s, code := impl.Commit(s, n)
	if said == "ok" {
		said = codeSaid[code]
	}
	return database(s, sessions...), said
}

func stepByWords(s impl.Store, n int, a impl.Ask) (impl.Store, string) {
	switch a.Kind {
	case impl.AskPut:
		s, code := impl.TxnPut(s, n, a.Id, a.Shape)
		return s, codeSaid[code]
	case impl.AskCut:
		s, code := impl.TxnCut(s, n, a.Id)
		return s, codeSaid[code]
	case impl.AskGet:
		if one, ok := impl.TxnGet(s, n, a.Id); ok {
			return s, impl.ShapeText(one)
		}
		return s, "missing"
	}
	var list []int
	for _, id := range impl.TxnIds(s, n) {
		if one, ok := impl.TxnGet(s, n, id); ok && fitsAsk(a, one) {
			list = append(list, id)
		}
	}
	if a.Kind == impl.AskCount {
		return s, strconv.Itoa(len(list))
	}
	return s, spaced(list)
}

// roomyDb is d in memory of its own, with marks in the spare room behind each list.
func roomyDb(d impl.Db) impl.Db {
	return impl.Db{Store: roomyStore(d.Store), Sessions: append(slices.Clone(d.Sessions), 42, 42)[:len(d.Sessions)]}
}

// dbKept tells whether a database is as it was, its spare room included.
func dbKept(d, was impl.Db) bool {
	n := len(d.Sessions)
	return sameDb(d, was) && storeKept(d.Store, was.Store) && slices.Equal(d.Sessions[n:n+2], []int{42, 42})
}

// takeDb notes where all of a database stands, and tells whether none of it was taken.
func takeDb(d impl.Db, m memory, numbers map[*int]int) bool {
	free := m.take(d.Store)
	return takePlaces(d.Sessions, numbers) && free
}

// dbAnswers are all databases that the functions make of d.
func dbAnswers(d impl.Db, asks []impl.Ask, lines []string) []impl.Db {
	var list []impl.Db
	for _, session := range []int{-1, 0, 1, len(d.Sessions)} {
		for _, a := range asks {
			got, _ := impl.Exec(d, session, a)
			list = append(list, got)
		}
	}
	for _, some := range [][]string{nil, lines, slices.Repeat(lines, linesMost)} {
		got, _ := impl.Script(d, some)
		list = append(list, got)
	}
	return list
}

func TestDbsShareNothing(t *testing.T) {
	lines := []string{"0 BEGIN", "1 PUT 3 LINE 0 0 5 5 9 9", "0 PUT 3 LINE 0 0 5 5", "0 PUT 4 LINE 0 0 5 5", "x", "1 ALL", "0 COMMIT", "1 CUT 3", "0 GET 4"}
	all := append(rightDbs(), wrongDbs()...)
	for i, d := range all {
		if len(d.Store.Rows.List) > 30 && i%5 > 0 {
			continue
		}
		arg, taken, numbers := roomyDb(d), newMemory(), map[*int]int{}
		takeDb(arg, taken, numbers)
		var asks []impl.Ask
		for _, a := range append(allKinds(), askPut(0, dot(1, 1))) {
			a.Shape.Points = withRoom(a.Shape.Points)
			takePlaces(a.Shape.Points, taken.points)
			asks = append(asks, a)
		}
		told := append(slices.Clone(lines), "mark", "mark")[:len(lines)]
		for k, answer := range dbAnswers(arg, asks, told) {
			if !takeDb(answer, taken, numbers) {
				t.Fatal("an answer shares memory", i, k)
			}
		}
		impl.DbOk(arg)
		for k, a := range append(allKinds(), askPut(0, dot(1, 1))) {
			impl.Search(arg, 0, asks[k].Shape)
			if !sameAsk(asks[k], a) || !roomLeft(asks[k].Shape.Points) {
				t.Fatal("a statement is written into", i, k)
			}
		}
		if !dbKept(arg, d) {
			t.Fatal("a database is written into", i)
		}
		if !slices.Equal(told, lines) || !slices.Equal(told[len(told):len(told)+2], []string{"mark", "mark"}) {
			t.Fatal("lines are written into", i)
		}
	}
}

// TestDbsOfOneMemory hands in a database all of whose shapes are one list of points, and all of whose changes are one list.
func TestDbsOfOneMemory(t *testing.T) {
	one := line(0, 0, 5, 5)
	list := changes(put(3, one), put(7, one))
	r := rows(4, row(1, 1, 0, one), row(3, 1, 0, one), row(9, 1, 4, one))
	asks := append(allKinds(), askPut(3, one), askPut(8, one), askShape(impl.AskMeets, one))
	for i, d := range []impl.Db{database(store(r, txn(4, list...), txn(3, list...), txn(4, list...)), 2, -1), database(store(r, txn(4, list...), txn(3, list...)), 1, 1)} {
		taken, numbers := newMemory(), map[*int]int{}
		takeDb(d, taken, numbers)
		for k, answer := range dbAnswers(d, asks, []string{"1 PUT 5 LINE 0 0 5 5", "0 COMMIT"}) {
			if !takeDb(answer, taken, numbers) {
				t.Error("two lists of an answer share memory", i, k)
			}
		}
	}
}

// TestNothingIsKeptOfADb asks twice, and writes into the first answers.
func TestNothingIsKeptOfADb(t *testing.T) {
	d := busyDb()
	lines := []string{"1 ALL", "0 GET 3", "x", "1 PUT 5 POINT 1 1"}
	_, first := impl.Script(d, lines)
	for i, said := range first {
		if liesIn(said, lines[i]) {
			t.Error("an answer lies in its line", said)
		}
	}
	want := slices.Clone(first)
	clear(first)
	clear(impl.Search(d, 0, rect(-edge, -edge, edge, edge)))
	started, _ := impl.DbStart(3)
	started.Sessions[1] = 77
	if again, _ := impl.DbStart(3); !slices.Equal(again.Sessions, idle(3)) {
		t.Error("sessions are kept", again)
	}
	if list := impl.Search(d, 0, rect(-edge, -edge, edge, edge)); !slices.Equal(list, []int{3, 7}) {
		t.Error("what was found is kept", list)
	}
	if got, again := impl.Script(d, lines); !slices.Equal(again, want) || got.Store.Rows.Now != 10 {
		t.Error("answers are kept", again)
	}
}
