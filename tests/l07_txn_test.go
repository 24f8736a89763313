package tests

import (
	"math"
	"slices"
	"testing"

	"loop.example/g00229/impl"
)

const txnsMost = 40

func txn(start int, list ...impl.Change) impl.Txn {
	return impl.Txn{Start: start, Open: true, Changes: list}
}

// ended is a transaction that does not go on.
func ended(start int) impl.Txn { return impl.Txn{Start: start} }

func store(r impl.Rows, list ...impl.Txn) impl.Store { return impl.Store{Rows: r, Txns: list} }

func sameTxn(a, b impl.Txn) bool {
	return a.Start == b.Start && a.Open == b.Open && slices.EqualFunc(a.Changes, b.Changes, sameChange)
}

func sameStore(a, b impl.Store) bool {
	return sameRows(a.Rows, b.Rows) && slices.EqualFunc(a.Txns, b.Txns, sameTxn)
}

// withTxn is s with another transaction in a place, and the rest in the memory of s.
func withTxn(s impl.Store, n int, t impl.Txn) impl.Store {
	s.Txns = slices.Clone(s.Txns)
	s.Txns[n] = t
	return s
}

// manyTxns are n transactions that begin at moment 0, of which each that is told does not go on.
func manyTxns(n int, over ...int) []impl.Txn {
	var list []impl.Txn
	for range n {
		list = append(list, txn(0))
	}
	for _, i := range over {
		list[i] = ended(0)
	}
	return list
}

// goneWith is a change that is Gone and has a shape, which a store may have and rows do not take.
func goneWith(id int, s impl.Shape) impl.Change { return impl.Change{Id: id, Gone: true, Shape: s} }

// noTxns are numbers that no transaction of a store has.
func noTxns(s impl.Store) []int {
	return append([]int{-1, -2, len(s.Txns), len(s.Txns) + 1, txnsMost, txnsMost + 1}, farInts...)
}

// busyStore has what was there in history, seen by transactions that began at several moments; those of places 2 and 5 do not go on.
func busyStore() impl.Store {
	return store(history(),
		txn(4, put(3, dot(33, 33)), gone(4), put(7, dot(7, 7))),
		txn(9),
		ended(3),
		txn(0, put(1, dot(1, 1)), put(idMost, rect(0, 0, 1, 1))),
		txn(6, gone(3), goneWith(5, dot(5, 5)), gone(8), put(9, dot(9, 9))),
		ended(9),
		txn(8, put(4, dot(4, 4)), gone(6)),
	)
}

// rightStores are stores with the edges that the chapter names.
func rightStores() []impl.Store {
	list := []impl.Store{
		{}, store(rows(0), txn(0)), store(rows(0), ended(0)), {Txns: []impl.Txn{}}, store(rows(9)), // small ones
		store(rows(5), txn(0)), store(rows(5), txn(5)), store(rows(5), ended(0)), store(rows(5), ended(5)), store(rows(5), txn(1), txn(4), txn(1)), // the bounds of Start
		store(rows(math.MaxInt), txn(math.MaxInt), txn(0), ended(math.MaxInt)), store(rows(nowMost+1), txn(nowMost+1)),
		store(rows(5), manyTxns(39)...), store(rows(5), manyTxns(txnsMost)...), store(rows(5), manyTxns(txnsMost, 0, 7, 39)...), // as many as there may be
		store(rows(5), txn(2, put(3, dot(1, 1)), put(4, dot(1, 1)), put(9, dot(1, 1)))), store(rows(5), txn(2, gone(3), put(4, dot(1, 1)), gone(5))), // ascending
		store(rows(5), txn(2, put(1, dot(1, 1)))), store(rows(5), txn(2, put(idMost, dot(1, 1)))), store(rows(5), txn(2, gone(1), gone(2), gone(idMost))), // the bounds of an Id
		store(rows(5), txn(2, goneWith(3, dot(1, 1)))), store(rows(5), txn(2, gone(2), goneWith(3, dot(1, 1)), goneWith(4, rect(9, 9, 0, 0)), put(5, dot(1, 1)))), // Gone with a shape, even with one that is none
		store(rows(5), txn(2, goneWith(3, impl.Shape{Kind: 77}))), store(rows(5), txn(2, goneWith(3, impl.Shape{Points: []impl.Point{}}))),
		store(rows(5), impl.Txn{Start: 2, Changes: []impl.Change{}}),
		store(rows(5), txn(2, put(3, dot(1, 1))), txn(2, put(3, dot(1, 1))), txn(2, gone(3))), // one Id in several
		store(rows(5), txn(2, putMany(1000)...)),                                              // more changes than rows may take
		busyStore(), store(manyRows(rowsMost), txn(9, putMany(9)...)),
	}
	for _, s := range rightShapes() {
		list = append(list, store(rows(5), txn(2, put(3, s))))
	}
	for _, r := range rightRows() {
		list = append(list, store(r, txn(0), txn(r.Now), ended(r.Now)))
	}
	return list
}

// few are rows up to moment 5, one of which would be cleaned away where the oldest transaction begins at 2.
func few() impl.Rows { return rows(5, row(8, 1, 2, dot(8, 8)), row(4, 2, 0, dot(4, 4))) }

// wrongStores are not right, each for one reason; the first transaction of each goes on.
func wrongStores() []impl.Store {
	list := []impl.Store{
		store(few(), txn(-1)), store(few(), txn(6)), store(rows(0), txn(1)), store(rows(0), txn(-1)), store(few(), txn(math.MinInt)), store(few(), txn(math.MaxInt)), // Start
		store(few(), txn(0), ended(-1)), store(few(), txn(0), ended(6)), store(few(), txn(0), txn(5), txn(6), txn(5)),
		store(few(), manyTxns(txnsMost+1)...), store(few(), manyTxns(txnsMost+1, 1, 2, 40)...), store(few(), manyTxns(1000)...), // too many
		store(few(), txn(2, put(3, dot(1, 1)), put(3, dot(1, 1)))), store(few(), txn(2, put(3, dot(1, 1)), gone(3))), store(few(), txn(2, gone(3), gone(3))), // two of one Id
		store(few(), txn(2, put(1, dot(1, 1)), put(3, dot(1, 1)), gone(3), put(4, dot(1, 1)))),
		store(few(), txn(2, put(4, dot(1, 1)), put(3, dot(1, 1)))), store(few(), txn(2, gone(9), gone(8), gone(7))), store(few(), txn(2, gone(1), gone(5), put(4, dot(1, 1)))), // descending
		store(few(), txn(2, put(3, dot(1, 1)), put(5, dot(1, 1)), put(3, dot(1, 1)))),
		store(few(), txn(2, put(3, impl.Shape{}))), store(few(), txn(2, gone(1), put(3, impl.Shape{}), gone(5))), // no shape
		store(few(), txn(0), impl.Txn{Start: 2, Changes: changes(put(3, dot(1, 1)))}), store(few(), txn(0), impl.Txn{Start: 2, Changes: changes(gone(3))}), // changes where it does not go on
		store(few(), txn(0), impl.Txn{Changes: changes(put(3, dot(1, 1)), put(4, dot(1, 1)))}, txn(0)),
	}
	for _, id := range noIds() {
		list = append(list, store(few(), txn(2, put(id, dot(1, 1)))), store(few(), txn(2, gone(id))), store(few(), txn(0), txn(2, goneWith(id, dot(1, 1)))))
		if id < 1 {
			list = append(list, store(few(), txn(2, gone(id), gone(3))))
		} else {
			list = append(list, store(few(), txn(2, gone(3), gone(id))))
		}
	}
	for _, s := range wrongShapes() {
		list = append(list, store(few(), txn(2, put(3, s))))
	}
	for _, r := range wrongRows() {
		list = append(list, store(r, txn(0), txn(0)))
	}
	return list
}

func TestStoresThatAreRight(t *testing.T) {
	if impl.MaxTxns != txnsMost {
		t.Error("constant")
	}
	codes := []int{impl.TxnDone, impl.TxnNone, impl.TxnBad, impl.TxnMissing, impl.TxnClash, impl.TxnFull}
	if !slices.Equal(codes, []int{0, 1, 2, 3, 4, 5}) {
		t.Error("codes", codes)
	}
	for i, s := range rightStores() {
		if !impl.StoreOk(s) {
			t.Error("a right store is refused", i)
		}
	}
}

func TestStoresThatAreNot(t *testing.T) {
	for i, s := range wrongStores() {
		if impl.StoreOk(s) {
			t.Error("a wrong store is taken", i)
		}
		if out, n := impl.Begin(s); n != -1 || !sameStore(out, s) {
			t.Error("begun", i, n)
		}
		if out := impl.Clean(s); !sameStore(out, s) {
			t.Error("cleaned", i)
		}
		for _, n := range []int{0, 1, -1, len(s.Txns)} {
			checkNone(t, s, n)
		}
	}
}

// checkNone asks for the fixed answers where there is no such transaction that goes on.
func checkNone(t *testing.T, s impl.Store, n int) {
	t.Helper()
	for _, id := range []int{3, 4, 1, 0, -1, idMost + 1} {
		if got, ok := impl.TxnGet(s, n, id); ok || !isNone(got) {
			t.Error("a shape", n, id, got)
		}
		if out, said := impl.TxnCut(s, n, id); said != impl.TxnNone || !sameStore(out, s) {
			t.Error("cut", n, id, said)
		}
		// that there is none is told ahead of what else is wrong
		for _, one := range []impl.Shape{dot(1, 1), {}, rect(9, 9, 0, 0)} {
			if out, said := impl.TxnPut(s, n, id, one); said != impl.TxnNone || !sameStore(out, s) {
				t.Error("put", n, id, said)
			}
		}
	}
	if list := impl.TxnIds(s, n); len(list) != 0 {
		t.Error("ids", n, list)
	}
	if out, said := impl.Commit(s, n); said != impl.TxnNone || !sameStore(out, s) {
		t.Error("committed", n, said)
	}
	if out, said := impl.Rollback(s, n); said != impl.TxnNone || !sameStore(out, s) {
		t.Error("rolled back", n, said)
	}
}

func TestTxnsThatAreNone(t *testing.T) {
	for _, s := range []impl.Store{{}, busyStore(), store(rows(5), manyTxns(txnsMost)...), store(rows(5), manyTxns(39)...)} {
		for _, n := range noTxns(s) {
			if n < 0 || n >= len(s.Txns) {
				checkNone(t, s, n)
			}
		}
	}
	checkNone(t, busyStore(), 2)
	checkNone(t, busyStore(), 5)
	checkNone(t, store(rows(5), manyTxns(txnsMost, 0, 39)...), 0)
	checkNone(t, store(rows(5), manyTxns(txnsMost, 0, 39)...), 39)
}

func TestBeginTells(t *testing.T) {
	busy := busyStore()
	for i, c := range []struct {
		s    impl.Store
		n    int
		want []impl.Txn
	}{
		{impl.Store{}, 0, []impl.Txn{txn(0)}},
		{store(rows(7)), 0, []impl.Txn{txn(7)}},
		{store(rows(7), ended(3)), 0, []impl.Txn{txn(7)}},
		{store(rows(7), txn(3)), 1, []impl.Txn{txn(3), txn(7)}}, // behind the others
		{store(rows(7), txn(3), txn(0, gone(4))), 2, []impl.Txn{txn(3), txn(0, gone(4)), txn(7)}},
		{store(rows(7), txn(3, gone(4)), ended(2), txn(1, gone(5))), 1, []impl.Txn{txn(3, gone(4)), txn(7), txn(1, gone(5))}}, // with others on both sides
		{store(rows(7), ended(1), ended(2), ended(3)), 0, []impl.Txn{txn(7), ended(2), ended(3)}},                             // the first of several
		{store(rows(7), txn(1), ended(2), ended(3), txn(4)), 1, []impl.Txn{txn(1), txn(7), ended(3), txn(4)}},
		{store(rows(7), txn(1), txn(2), ended(3)), 2, []impl.Txn{txn(1), txn(2), txn(7)}},
		{store(rows(0), manyTxns(39)...), 39, manyTxns(txnsMost)},
		{store(rows(0), manyTxns(txnsMost, 0)...), 0, manyTxns(txnsMost)},
		{store(rows(0), manyTxns(txnsMost, 20)...), 20, manyTxns(txnsMost)},
		{store(rows(0), manyTxns(txnsMost, 39)...), 39, manyTxns(txnsMost)},
		{store(rows(0), manyTxns(txnsMost, 17, 5, 39)...), 5, manyTxns(txnsMost, 17, 39)},
		{store(rows(math.MaxInt)), 0, []impl.Txn{txn(math.MaxInt)}},
		{busy, 2, withTxn(busy, 2, txn(9)).Txns},
	} {
		got, n := impl.Begin(c.s)
		if n != c.n || !sameStore(got, store(c.s.Rows, c.want...)) || !impl.StoreOk(got) {
			t.Error("begun", i, n, got.Txns)
		}
	}
	for _, now := range []int{0, 5} {
		all := store(rows(now), manyTxns(txnsMost)...)
		if got, n := impl.Begin(all); n != -1 || !sameStore(got, all) {
			t.Error("no place is left", now, n)
		}
	}
}

func TestBeginUpToTheMost(t *testing.T) {
	s := store(history())
	for i := range txnsMost {
		next, n := impl.Begin(s)
		if n != i || len(next.Txns) != i+1 || !impl.StoreOk(next) {
			t.Fatal("begun", i, n)
		}
		s = next
	}
	if got, n := impl.Begin(s); n != -1 || !sameStore(got, s) {
		t.Error("one too many", n)
	}
	s, _ = impl.Rollback(s, 31)
	s, _ = impl.Commit(s, 12)
	for _, want := range []int{12, 31, -1} {
		next, n := impl.Begin(s)
		if n != want {
			t.Error("in a free place", n, want)
		}
		s = next
	}
}

func TestTxnsSee(t *testing.T) {
	for i, c := range []struct {
		n    int
		want map[int]impl.Shape
	}{
		{0, map[int]impl.Shape{3: dot(33, 33), 7: dot(7, 7)}},
		{1, map[int]impl.Shape{3: dot(3, 3), 4: line(0, 0, 5, 5), 9: poly(0, 0, 4, 0, 0, 4)}},
		{3, map[int]impl.Shape{1: dot(1, 1), idMost: rect(0, 0, 1, 1)}},
		{4, map[int]impl.Shape{4: line(0, 0, 5, 5), 9: dot(9, 9)}},
		{6, map[int]impl.Shape{3: dot(3, 3), 4: dot(4, 4)}},
	} {
		s := busyStore()
		for range s.Rows.List {
			// whatever the order of the rows
			s.Rows.List = append(s.Rows.List[1:], s.Rows.List[0])
			checkSees(t, s, c.n, c.want)
		}
		for _, id := range noIds() {
			if got, ok := impl.TxnGet(s, c.n, id); ok || !isNone(got) {
				t.Error("no Id", i, id, got)
			}
		}
	}
}

// checkSees asks what a transaction sees under some Ids, and which it sees in all.
func checkSees(t *testing.T, s impl.Store, n int, want map[int]impl.Shape) {
	t.Helper()
	var list []int
	for id := range want {
		list = append(list, id)
	}
	slices.Sort(list)
	for _, id := range []int{1, 2, 3, 4, 5, 6, 7, 8, 9, 10, 711, 1000, idMost} {
		one, is := want[id]
		if got, ok := impl.TxnGet(s, n, id); ok != is || !sameShape(got, one) {
			t.Error("seen", n, id, got, ok)
		}
	}
	if got := impl.TxnIds(s, n); !slices.Equal(got, list) {
		t.Error("ids", n, got, list)
	}
}

func TestTxnsSeeWhatWasThereAtStart(t *testing.T) {
	for start := range 10 {
		s := store(history(), txn(1), txn(start), txn(9))
		want := map[int]impl.Shape{}
		for _, one := range s.Rows.List {
			if isThere(one, start) {
				want[one.Id] = one.Shape
			}
		}
		checkSees(t, s, 1, want)
	}
	for _, one := range rightShapes() {
		checkSees(t, store(rows(3, row(5, 2, 3, one)), txn(2)), 0, map[int]impl.Shape{5: one})
		checkSees(t, store(rows(3), txn(2, put(5, one))), 0, map[int]impl.Shape{5: one})
		checkSees(t, store(rows(3, row(5, 2, 3, dot(8, 8))), txn(2, put(5, one))), 0, map[int]impl.Shape{5: one})
	}
	all := store(manyRows(rowsMost), txn(8, putMany(1000)...))
	if list := impl.TxnIds(all, 0); len(list) != rowsMost+1000 || !slices.IsSorted(list) || len(slices.Compact(list)) != rowsMost+1000 {
		t.Error("all ids", len(list))
	}
}

// step asks that a function told a code, and hands on the store.
func step(t *testing.T, want int) func(impl.Store, int) impl.Store {
	return func(s impl.Store, said int) impl.Store {
		t.Helper()
		if said != want || !impl.StoreOk(s) {
			t.Fatal("said", said, want)
		}
		return s
	}
}

// begin is s with one more transaction, which has the number that is told.
func begin(t *testing.T, s impl.Store, want int) impl.Store {
	t.Helper()
	out, n := impl.Begin(s)
	if n != want {
		t.Fatal("begun", n, want)
	}
	return out
}

func TestTxnPutTells(t *testing.T) {
	busy := busyStore()
	own := busy.Txns[4].Changes
	for i, c := range []struct {
		id   int
		want []impl.Change
	}{
		{1, changes(put(1, dot(0, 1)), own[0], own[1], own[2], own[3])}, // anew: ahead of the others
		{4, changes(own[0], put(4, dot(0, 1)), own[1], own[2], own[3])}, // between
		{7, changes(own[0], own[1], put(7, dot(0, 1)), own[2], own[3])},
		{10, changes(own[0], own[1], own[2], own[3], put(10, dot(0, 1)))}, // behind
		{idMost, changes(own[0], own[1], own[2], own[3], put(idMost, dot(0, 1)))},
		{3, changes(put(3, dot(0, 1)), own[1], own[2], own[3])}, // over what it cut
		{5, changes(own[0], put(5, dot(0, 1)), own[2], own[3])},
		{8, changes(own[0], own[1], put(8, dot(0, 1)), own[3])},
		{9, changes(own[0], own[1], own[2], put(9, dot(0, 1)))}, // over its own
	} {
		got, said := impl.TxnPut(busy, 4, c.id, dot(0, 1))
		if said != impl.TxnDone || !sameStore(got, withTxn(busy, 4, txn(6, c.want...))) || !impl.StoreOk(got) {
			t.Error("put", i, said, got.Txns[4])
		}
	}
	for _, one := range rightShapes() {
		for _, id := range []int{1, 3, idMost} {
			got, said := impl.TxnPut(busy, 1, id, one)
			if said != impl.TxnDone || !sameStore(got, withTxn(busy, 1, txn(9, put(id, one)))) {
				t.Error("put", id, one, said)
			}
			if back, ok := impl.TxnGet(got, 1, id); !ok || !sameShape(back, one) {
				t.Error("not seen", id, one, back)
			}
		}
	}
	// What is put is one of its changes even where it is what was there.
	if got, said := impl.TxnPut(busy, 1, 3, dot(3, 3)); said != impl.TxnDone || len(got.Txns[1].Changes) != 1 {
		t.Error("put what is there", said, got.Txns[1])
	}
}

func TestTxnPutRefuses(t *testing.T) {
	busy := busyStore()
	for _, n := range []int{0, 1, 4} {
		for _, id := range noIds() {
			for _, one := range []impl.Shape{dot(1, 1), {}} {
				if got, said := impl.TxnPut(busy, n, id, one); said != impl.TxnBad || !sameStore(got, busy) {
					t.Error("no Id", n, id, said)
				}
			}
		}
		for _, one := range wrongShapes() {
			for _, id := range []int{1, 3, 0} {
				if got, said := impl.TxnPut(busy, n, id, one); said != impl.TxnBad || !sameStore(got, busy) {
					t.Error("no shape", n, one, said)
				}
			}
		}
	}
}

func TestTxnCutTells(t *testing.T) {
	busy := busyStore()
	for i, c := range []struct {
		n, id int
		want  []impl.Change
	}{
		{1, 3, changes(gone(3))}, {1, 4, changes(gone(4))}, {1, 9, changes(gone(9))}, // there, without changes of its own
		{0, 3, changes(gone(3), gone(4), put(7, dot(7, 7)))},   // there and changed
		{0, 7, changes(put(3, dot(33, 33)), gone(4), gone(7))}, // put by itself alone
		{3, 1, changes(gone(1), put(idMost, rect(0, 0, 1, 1)))},
		{3, idMost, changes(put(1, dot(1, 1)), gone(idMost))},
		{4, 4, changes(gone(3), gone(4), goneWith(5, dot(5, 5)), gone(8), put(9, dot(9, 9)))}, // in its place among the others
		{4, 9, changes(gone(3), goneWith(5, dot(5, 5)), gone(8), gone(9))},
		{6, 3, changes(gone(3), put(4, dot(4, 4)), gone(6))},
		{6, 4, changes(gone(4), gone(6))},
	} {
		got, said := impl.TxnCut(busy, c.n, c.id)
		if said != impl.TxnDone || !sameStore(got, withTxn(busy, c.n, txn(busy.Txns[c.n].Start, c.want...))) || !impl.StoreOk(got) {
			t.Error("cut", i, said, got.Txns[c.n])
		}
		if again, said := impl.TxnCut(got, c.n, c.id); said != impl.TxnMissing || !sameStore(again, got) {
			t.Error("cut already", i, said)
		}
	}
	for i, c := range []struct{ n, id int }{
		{0, 4}, {4, 3}, {4, 5}, {4, 8}, {6, 6}, // cut already
		{0, 9}, {0, 6}, {1, 6}, {3, 3}, {3, 4}, // there, but not at Start
		{0, 1}, {1, 1}, {1, 7}, {1, idMost}, {4, 10}, // never there, or put by another one
	} {
		if got, said := impl.TxnCut(busy, c.n, c.id); said != impl.TxnMissing || !sameStore(got, busy) {
			t.Error("missing", i, said)
		}
	}
	for _, id := range noIds() {
		if got, said := impl.TxnCut(busy, 0, id); said != impl.TxnMissing || !sameStore(got, busy) {
			t.Error("no Id", id, said)
		}
	}
}

func TestPutAndCutAgain(t *testing.T) {
	s := store(history(), txn(4))
	see := func(want map[int]impl.Shape) {
		t.Helper()
		checkSees(t, s, 0, want)
	}
	there, stays := dot(1, 1), line(0, 0, 5, 5)
	see(map[int]impl.Shape{3: there, 4: stays})
	s = step(t, impl.TxnDone)(impl.TxnPut(s, 0, 7, dot(7, 7)))
	see(map[int]impl.Shape{3: there, 4: stays, 7: dot(7, 7)})
	s = step(t, impl.TxnDone)(impl.TxnCut(s, 0, 7)) // put and cut
	see(map[int]impl.Shape{3: there, 4: stays})
	s = step(t, impl.TxnMissing)(impl.TxnCut(s, 0, 7))
	s = step(t, impl.TxnDone)(impl.TxnPut(s, 0, 7, dot(8, 8))) // and put again
	see(map[int]impl.Shape{3: there, 4: stays, 7: dot(8, 8)})
	s = step(t, impl.TxnDone)(impl.TxnCut(s, 0, 3))
	see(map[int]impl.Shape{4: stays, 7: dot(8, 8)})
	s = step(t, impl.TxnDone)(impl.TxnPut(s, 0, 3, dot(2, 1))) // cut and put again
	see(map[int]impl.Shape{3: dot(2, 1), 4: stays, 7: dot(8, 8)})
	s = step(t, impl.TxnDone)(impl.TxnPut(s, 0, 3, dot(2, 2))) // changed again
	s = step(t, impl.TxnDone)(impl.TxnCut(s, 0, 7))
	see(map[int]impl.Shape{3: dot(2, 2), 4: stays})
	if !sameTxn(s.Txns[0], txn(4, put(3, dot(2, 2)), gone(7))) {
		t.Error("changes", s.Txns[0])
	}
}

// checkCommit asks for a code, for rows, and that the transaction ended with nothing but itself changed.
func checkCommit(t *testing.T, s impl.Store, n int, want int, r impl.Rows) {
	t.Helper()
	got, said := impl.Commit(s, n)
	if said != want {
		t.Error("said", said, want)
	}
	if !sameStore(got, withTxn(store(r, s.Txns...), n, ended(s.Txns[n].Start))) || !impl.StoreOk(got) {
		t.Error("committed", n, got)
	}
}

func TestCommitTells(t *testing.T) {
	all := history().List
	// Without changes nothing is done, and no moment goes by, whatever happened behind Start.
	for start := range 10 {
		checkCommit(t, store(history(), txn(0, put(3, dot(1, 1))), txn(start), txn(9)), 1, impl.TxnDone, history())
	}
	checkCommit(t, store(impl.Rows{}, txn(0)), 0, impl.TxnDone, impl.Rows{})
	checkCommit(t, store(impl.Rows{}, txn(0, put(3, dot(1, 1)))), 0, impl.TxnDone, rows(1, row(3, 1, 0, dot(1, 1))))
	checkCommit(t, store(history(), txn(9, put(1, dot(1, 1)))), 0, impl.TxnDone, rows(10, append(history().List, row(1, 10, 0, dot(1, 1)))...))
	changed := rows(10, all[0], all[1], row(4, 4, 10, line(0, 0, 5, 5)), all[3], row(3, 7, 10, dot(3, 3)), all[5], all[6], row(3, 10, 0, dot(8, 8)), row(8, 10, 0, rect(0, 0, 8, 8)))
	checkCommit(t, store(history(), ended(1), txn(9, put(3, dot(8, 8)), gone(4), put(8, rect(0, 0, 8, 8))), txn(2, gone(4))), 1, impl.TxnDone, changed)
	// A change that was begun behind the last that touched its Id, but ahead of Now.
	checkCommit(t, store(history(), txn(4, gone(4))), 0, impl.TxnDone, rows(10, all[0], all[1], row(4, 4, 10, line(0, 0, 5, 5)), all[3], all[4], all[5], all[6]))
	checkCommit(t, store(history(), txn(0, put(7, dot(7, 7)))), 0, impl.TxnDone, rows(10, append(history().List, row(7, 10, 0, dot(7, 7)))...))
	// What is cut that was put is a change too: the moment goes on.
	checkCommit(t, store(history(), txn(9, gone(7))), 0, impl.TxnDone, rows(10, history().List...))
	s := step(t, impl.TxnDone)(impl.TxnPut(store(history(), txn(9)), 0, 7, dot(1, 1)))
	checkCommit(t, step(t, impl.TxnDone)(impl.TxnCut(s, 0, 7)), 0, impl.TxnDone, rows(10, history().List...))
}

func TestCommitClashes(t *testing.T) {
	for i, c := range []struct {
		start int
		list  []impl.Change
		want  int
	}{
		{8, changes(put(3, dot(1, 1))), impl.TxnDone}, {7, changes(put(3, dot(1, 1))), impl.TxnDone}, {6, changes(put(3, dot(1, 1))), impl.TxnClash}, {6, changes(gone(3)), impl.TxnClash}, // changed at 7
		{4, changes(gone(4)), impl.TxnDone}, {3, changes(gone(4)), impl.TxnClash}, {3, changes(put(4, dot(1, 1))), impl.TxnClash}, {0, changes(put(4, dot(1, 1))), impl.TxnClash}, // put at 4
		{9, changes(put(6, dot(1, 1))), impl.TxnDone}, {8, changes(put(6, dot(1, 1))), impl.TxnClash}, {8, changes(gone(6)), impl.TxnClash}, {7, changes(gone(6)), impl.TxnClash}, // cut at 9
		{8, changes(put(9, dot(1, 1))), impl.TxnClash}, {3, changes(gone(9)), impl.TxnClash}, {9, changes(gone(9)), impl.TxnDone}, // cut at 4 and put again at 9
		{3, changes(gone(1), put(2, dot(1, 1)), put(4, dot(1, 1)), put(5, dot(1, 1))), impl.TxnClash}, // one of several
		{3, changes(gone(1), put(4, dot(1, 1))), impl.TxnClash}, {3, changes(put(4, dot(1, 1)), gone(5)), impl.TxnClash},
		{0, changes(gone(1), put(2, dot(1, 1)), gone(5), put(7, dot(1, 1)), gone(8)), impl.TxnDone}, // none of which ever was there
	} {
		s := store(history(), txn(9, put(3, dot(7, 7))), txn(c.start, c.list...), ended(0))
		r := history()
		if c.want == impl.TxnDone {
			r, _ = impl.Apply(r, c.list)
		}
		checkCommit(t, s, 1, c.want, r)
		if t.Failed() {
			t.Fatal("clash", i)
		}
	}
}

// TestFirstToCommitDoes has two change one Id, in all ways, and commits one ahead of the other.
func TestFirstToCommitDoes(t *testing.T) {
	ways := map[string]func(s impl.Store, n, id int) impl.Store{
		"put": func(s impl.Store, n, id int) impl.Store {
			return step(t, impl.TxnDone)(impl.TxnPut(s, n, id, dot(n, n)))
		},
		"cut": func(s impl.Store, n, id int) impl.Store {
			return step(t, impl.TxnDone)(impl.TxnCut(s, n, id))
		},
		"put and cut": func(s impl.Store, n, id int) impl.Store {
			s = step(t, impl.TxnDone)(impl.TxnPut(s, n, id, dot(n, n)))
			return step(t, impl.TxnDone)(impl.TxnCut(s, n, id))
		},
	}
	for _, id := range []int{4, 7} { // one that is there, one that is not
		for first, a := range ways {
			for second, b := range ways {
				if id == 7 && (first == "cut" || second == "cut") {
					continue
				}
				for _, n := range []int{0, 1} {
					s := begin(t, begin(t, store(history()), 0), 1)
					s = b(a(s, n, id), 1-n, id)
					s = step(t, impl.TxnDone)(impl.Commit(s, n))
					got, said := impl.Commit(s, 1-n)
					// Of one that was not there, cut that was put, no row tells.
					want := impl.TxnClash
					if id == 7 && first == "put and cut" {
						want = impl.TxnDone
					}
					if said != want || got.Txns[0].Open || got.Txns[1].Open || len(got.Txns[0].Changes)+len(got.Txns[1].Changes) != 0 {
						t.Error("second", id, first, second, n, said)
					}
					if want == impl.TxnClash && !sameRows(got.Rows, s.Rows) || want == impl.TxnDone && got.Rows.Now != s.Rows.Now+1 {
						t.Error("rows of the second", id, first, second, n, got.Rows)
					}
				}
			}
		}
	}
}

// TestWhoBeginsBehind asks that one that begins behind a commit sees it and does not clash with it.
func TestWhoBeginsBehind(t *testing.T) {
	s := begin(t, begin(t, impl.Store{}, 0), 1)
	s = step(t, impl.TxnDone)(impl.TxnPut(s, 0, 5, dot(1, 1)))
	s = step(t, impl.TxnDone)(impl.TxnPut(s, 1, 5, dot(2, 2)))
	s = step(t, impl.TxnDone)(impl.Commit(s, 0))
	s = begin(t, s, 0) // in the place of the one that ended
	checkSees(t, s, 0, map[int]impl.Shape{5: dot(1, 1)})
	checkSees(t, s, 1, map[int]impl.Shape{5: dot(2, 2)})
	s = begin(t, s, 2)
	s = step(t, impl.TxnDone)(impl.TxnCut(s, 0, 5))
	s = step(t, impl.TxnDone)(impl.Commit(s, 0))
	checkSees(t, s, 2, map[int]impl.Shape{5: dot(1, 1)})
	s = begin(t, s, 0)
	checkSees(t, s, 0, nil)
	s = step(t, impl.TxnMissing)(impl.TxnCut(s, 0, 5))
	s = step(t, impl.TxnDone)(impl.TxnCut(s, 2, 5))
	s = step(t, impl.TxnClash)(impl.Commit(s, 2))
	s = step(t, impl.TxnClash)(impl.Commit(s, 1))
	s = step(t, impl.TxnDone)(impl.TxnPut(s, 0, 5, dot(3, 3)))
	s = step(t, impl.TxnDone)(impl.Commit(s, 0))
	want := store(rows(3, row(5, 1, 2, dot(1, 1)), row(5, 3, 0, dot(3, 3))), ended(2), ended(0), ended(1))
	if !sameStore(s, want) {
		t.Error("at the end", s)
	}
}

func TestCommitIsFull(t *testing.T) {
	for _, there := range []int{0, 1, 150, 299, rowsMost} {
		r, room := manyRows(there), rowsMost-there
		fits, _ := impl.Apply(r, putMany(room))
		if room == 0 {
			fits = r
		}
		checkCommit(t, store(r, txn(9, putMany(room)...)), 0, impl.TxnDone, fits)
		checkCommit(t, store(r, txn(1), txn(9, putMany(room+1)...)), 1, impl.TxnFull, r)
		checkCommit(t, store(r, txn(9, putMany(room+1000)...), txn(1)), 0, impl.TxnFull, r)
	}
	full := manyRows(rowsMost)
	open := full.List[1].Id
	checkCommit(t, store(full, txn(9, put(open, dot(1, 1)))), 0, impl.TxnFull, full)
	less, _ := impl.Apply(full, changes(gone(open)))
	checkCommit(t, store(full, txn(9, gone(open))), 0, impl.TxnDone, less)
	for _, now := range []int{nowMost + 1, nowMost + 2, math.MaxInt} {
		late := rows(now, row(3, 1, 0, dot(1, 1)))
		for _, list := range [][]impl.Change{{put(4, dot(1, 1))}, {gone(3)}, {gone(77)}} {
			checkCommit(t, store(late, txn(now, list...)), 0, impl.TxnFull, late)
		}
		checkCommit(t, store(late, txn(now)), 0, impl.TxnDone, late)
	}
	for _, now := range []int{nowMost - 1, nowMost} {
		checkCommit(t, store(rows(now), txn(now, put(3, dot(1, 1)))), 0, impl.TxnDone, rows(now+1, row(3, now+1, 0, dot(1, 1))))
	}
	// What is Gone with a shape a store may have, but rows do not take it.
	for _, one := range []impl.Shape{dot(5, 5), {Kind: 1}, rect(9, 9, 0, 0)} {
		checkCommit(t, store(history(), txn(9, put(1, dot(1, 1)), goneWith(5, one))), 0, impl.TxnFull, history())
		checkCommit(t, store(history(), txn(9, goneWith(4, one))), 0, impl.TxnFull, history())
	}
	checkCommit(t, store(history(), txn(9, goneWith(5, impl.Shape{Points: []impl.Point{}}))), 0, impl.TxnDone, rows(10, history().List...))
}

// TestClashIsToldAheadOfFull has changes for which both would be told.
func TestClashIsToldAheadOfFull(t *testing.T) {
	full := manyRows(rowsMost) // 2093 is there from moment 2 on
	if full.List[1].Id != 2093 {
		t.Fatal("rows", full.List[1])
	}
	for start, want := range []int{impl.TxnClash, impl.TxnClash, impl.TxnFull} {
		checkCommit(t, store(full, txn(start, append(putMany(3), put(2093, dot(1, 1)))...)), 0, want, full)
	}
	late := rows(nowMost+1, row(3, 7, 0, dot(1, 1)))
	checkCommit(t, store(late, txn(6, gone(3))), 0, impl.TxnClash, late)
	checkCommit(t, store(late, txn(7, gone(3))), 0, impl.TxnFull, late)
	checkCommit(t, store(history(), txn(3, goneWith(1, dot(1, 1)), gone(4))), 0, impl.TxnClash, history())
}

func TestRollbackTells(t *testing.T) {
	for i, s := range append(rightStores(), busyStore()) {
		for n, one := range s.Txns {
			if !one.Open {
				checkNone(t, s, n)
				continue
			}
			got, said := impl.Rollback(s, n)
			if said != impl.TxnDone || !sameStore(got, withTxn(s, n, ended(one.Start))) || !impl.StoreOk(got) {
				t.Error("rolled back", i, n, said)
			}
			if again, said := impl.Rollback(got, n); said != impl.TxnNone || !sameStore(again, got) {
				t.Error("rolled back twice", i, n, said)
			}
		}
	}
}

func TestOldestTells(t *testing.T) {
	for i, c := range []struct {
		s    impl.Store
		want int
	}{
		{impl.Store{}, 0}, {store(rows(7)), 7}, {store(rows(7), ended(3), ended(0)), 7}, {store(rows(math.MaxInt)), math.MaxInt}, // none goes on
		{store(rows(7), txn(7)), 7}, {store(rows(7), txn(0)), 0}, {store(rows(7), txn(3)), 3},
		{store(rows(7), txn(3), txn(5)), 3}, {store(rows(7), txn(5), txn(3)), 3}, {store(rows(7), txn(5), txn(3), txn(4)), 3}, {store(rows(7), txn(3), txn(3)), 3},
		{store(rows(7), ended(1), txn(5), ended(2), txn(6), ended(0)), 5}, // those that ended do not count
		{busyStore(), 0}, {withTxn(busyStore(), 3, ended(0)), 4},
		// It is told of a store that is not right too.
		{store(rows(-4)), -4}, {store(rows(math.MinInt), ended(3)), math.MinInt}, {store(rows(5), txn(9)), 9}, {store(rows(5), txn(-9), txn(3), ended(-20)), -9},
		{store(rows(5), txn(math.MinInt), txn(3)), math.MinInt}, {store(rows(5), txn(math.MaxInt)), math.MaxInt}, {store(manyRows(301), txn(4), txn(3)), 3}, {store(manyRows(301)), 9},
		{store(rows(5), txn(2, gone(4), gone(4)), txn(3)), 2}, {store(rows(5), impl.Txn{Start: 1, Changes: changes(gone(4))}, txn(3)), 3}, {store(rows(5), append(manyTxns(50, 3), txn(-1))...), -1},
	} {
		if got := impl.Oldest(c.s); got != c.want {
			t.Error("oldest", i, got, c.want)
		}
	}
}

func TestCleanTells(t *testing.T) {
	all := history().List
	for i, c := range []struct {
		txns []impl.Txn
		want []impl.Row
	}{
		{nil, []impl.Row{all[2], all[4], all[6]}},
		{[]impl.Txn{ended(0), ended(5)}, []impl.Row{all[2], all[4], all[6]}},
		{[]impl.Txn{txn(9, put(3, dot(1, 1)))}, []impl.Row{all[2], all[4], all[6]}},
		{[]impl.Txn{txn(9), txn(8), ended(1)}, []impl.Row{all[2], all[3], all[4], all[6]}},
		{[]impl.Txn{txn(7, gone(3)), txn(9)}, []impl.Row{all[2], all[3], all[4], all[6]}},
		{[]impl.Txn{txn(9), ended(2), txn(6, gone(3))}, []impl.Row{all[2], all[3], all[4], all[5], all[6]}},
		{[]impl.Txn{txn(5)}, []impl.Row{all[2], all[3], all[4], all[5], all[6]}},
		{[]impl.Txn{txn(4), txn(9)}, all[1:]},
		{[]impl.Txn{txn(3), txn(4)}, all}, {[]impl.Txn{txn(0)}, all}, {[]impl.Txn{txn(9), txn(1)}, all},
	} {
		got := impl.Clean(store(history(), c.txns...))
		if !sameStore(got, store(rows(9, c.want...), c.txns...)) || !impl.StoreOk(got) {
			t.Error("cleaned", i, got)
		}
		if again := impl.Clean(got); !sameStore(again, got) {
			t.Error("cleaned twice", i, again)
		}
	}
	for i, s := range rightStores() {
		got := impl.Clean(s)
		if !sameStore(got, store(impl.Vacuum(s.Rows, impl.Oldest(s)), s.Txns...)) {
			t.Error("cleaned, of a right store", i)
		}
	}
}

// plainTxn is a transaction that keeps all that it sees, and what it changed.
type plainTxn struct {
	start   int
	open    bool
	sees    map[int]impl.Shape
	changed map[int]impl.Change
}

// plainStore is a plain way to tell what a store does: nothing of it is asked at an earlier moment.
type plainStore struct {
	now   int
	there map[int]impl.Shape
	// last is the moment at which a row of an Id last began or ended, ends are the moments at which rows ended that are not cleaned away.
	last map[int]int
	ends []int
	txns []plainTxn
}

// plainOf is a store of n rows that are there from moment 1 on, without transactions.
func plainOf(n int) (impl.Store, *plainStore) {
	if n == 0 {
		return impl.Store{}, &plainStore{there: map[int]impl.Shape{}, last: map[int]int{}}
	}
	r, p := rows(1), &plainStore{now: 1, there: map[int]impl.Shape{}, last: map[int]int{}}
	for i := range n {
		r.List = append(r.List, row(1000-i, 1, 0, dot(i, i)))
		p.there[1000-i], p.last[1000-i] = dot(i, i), 1
	}
	return store(r), p
}

func (p *plainStore) goes(n int) bool { return n >= 0 && n < len(p.txns) && p.txns[n].open }

func (p *plainStore) begin() int {
	one := plainTxn{start: p.now, open: true, sees: map[int]impl.Shape{}, changed: map[int]impl.Change{}}
	for id, s := range p.there {
		one.sees[id] = s
	}
	for n := range p.txns {
		if !p.txns[n].open {
			p.txns[n] = one
			return n
		}
	}
	if len(p.txns) == txnsMost {
		return -1
	}
	p.txns = append(p.txns, one)
	return len(p.txns) - 1
}

func (p *plainStore) put(n, id int, s impl.Shape) int {
	if !p.goes(n) {
		return impl.TxnNone
	}
	if id < 1 || id > idMost || !impl.ShapeOk(s) {
		return impl.TxnBad
	}
	p.txns[n].sees[id], p.txns[n].changed[id] = s, put(id, s)
	return impl.TxnDone
}

func (p *plainStore) cut(n, id int) int {
	if !p.goes(n) {
		return impl.TxnNone
	}
	if _, ok := p.txns[n].sees[id]; !ok {
		return impl.TxnMissing
	}
	delete(p.txns[n].sees, id)
	p.txns[n].changed[id] = gone(id)
	return impl.TxnDone
}

func (p *plainStore) rollback(n int) int {
	if !p.goes(n) {
		return impl.TxnNone
	}
	p.txns[n] = plainTxn{start: p.txns[n].start}
	return impl.TxnDone
}

func (p *plainStore) commit(n int) int {
	if !p.goes(n) {
		return impl.TxnNone
	}
	own := p.txns[n]
	p.rollback(n)
	count := len(p.there) + len(p.ends)
	for id, c := range own.changed {
		if p.last[id] > own.start {
			return impl.TxnClash
		}
		if !c.Gone {
			count++
		}
	}
	if count > rowsMost {
		return impl.TxnFull
	}
	if len(own.changed) > 0 {
		p.now++
	}
	for id, c := range own.changed {
		if _, ok := p.there[id]; ok {
			delete(p.there, id)
			p.ends, p.last[id] = append(p.ends, p.now), p.now
		}
		if !c.Gone {
			p.there[id], p.last[id] = c.Shape, p.now
		}
	}
	return impl.TxnDone
}

func (p *plainStore) oldest() int {
	least := p.now
	for _, one := range p.txns {
		if one.open {
			least = min(least, one.start)
		}
	}
	return least
}

func (p *plainStore) clean() {
	least := p.oldest()
	p.ends = slices.DeleteFunc(p.ends, func(end int) bool { return end <= least })
}

// check holds a store against p: its rows by how many they are, its transactions by all that they see.
func (p *plainStore) check(t *testing.T, s impl.Store) {
	t.Helper()
	if !impl.StoreOk(s) || s.Rows.Now != p.now || len(s.Rows.List) != len(p.there)+len(p.ends) || impl.Oldest(s) != p.oldest() || len(s.Txns) != len(p.txns) {
		t.Fatal("store", s.Rows.Now, p.now, len(s.Rows.List), len(p.there), len(p.ends), len(s.Txns), len(p.txns))
	}
	for n, one := range p.txns {
		got := s.Txns[n]
		if got.Start != one.start || got.Open != one.open || len(got.Changes) != len(one.changed) {
			t.Fatal("transaction", n, got, one)
		}
		for _, c := range got.Changes {
			if !sameChange(c, one.changed[c.Id]) {
				t.Fatal("change", n, c)
			}
		}
		if one.open {
			checkSees(t, s, n, one.sees)
		}
	}
	if late, n := impl.Begin(s); n >= 0 {
		checkSees(t, late, n, p.there)
	}
}

// doOne does a thing by chance to both, asks for the same code, and counts it; Begin and Clean have none.
func doOne(t *testing.T, by *steps, s impl.Store, p *plainStore, told []int) impl.Store {
	t.Helper()
	n, id, said, want := by.between(-1, len(p.txns)), by.between(0, 6), 0, 0
	for !p.goes(n) && by.below(9) > 0 {
		n = by.between(-1, len(p.txns))
	}
	switch by.below(18) {
	case 0, 1, 2, 3:
		return begin(t, s, p.begin())
	case 4:
		p.clean()
		return impl.Clean(s)
	case 5, 6, 7, 8, 9:
		one := by.shape(9)
		if by.below(8) == 0 {
			one = rect(9, 9, 0, 0)
		}
		s, said = impl.TxnPut(s, n, id, one)
		want = p.put(n, id, one)
	case 10, 11, 12:
		s, said = impl.TxnCut(s, n, id)
		want = p.cut(n, id)
	case 13:
		s, said = impl.Rollback(s, n)
		want = p.rollback(n)
	default:
		s, said = impl.Commit(s, n)
		want = p.commit(n)
	}
	if said != want {
		t.Fatal("said", said, want)
	}
	told[said]++
	return s
}

// TestTxnsSeeNothingOfOthers is promise 7: whatever is done by chance, each transaction sees what a plain one does that keeps all for itself.
func TestTxnsSeeNothingOfOthers(t *testing.T) {
	told := make([]int, impl.TxnFull+1)
	for seed := range 16 {
		by := &steps{uint64(800 + seed)}
		s, p := plainOf([]int{0, 3, 294, 298}[seed%4])
		for range 110 {
			s = doOne(t, by, s, p, told)
			p.check(t, s)
			if t.Failed() {
				t.Fatal("seed", seed)
			}
		}
	}
	if slices.Min(told) < 5 {
		t.Error("too few of one code", told)
	}
}

// markTxn stands in the spare room behind transactions.
func markTxn() impl.Txn { return txn(42, put(42, markShape())) }

// roomyStore is s in memory of its own, with marks in the spare room behind each list.
func roomyStore(s impl.Store) impl.Store {
	out := impl.Store{Rows: roomyRows(s.Rows)}
	for _, one := range s.Txns {
		one.Changes = roomyChanges(one.Changes)
		out.Txns = append(out.Txns, one)
	}
	out.Txns = append(out.Txns, markTxn(), markTxn())[:len(s.Txns)]
	return out
}

// storeKept tells whether a store is as it was, its spare room included.
func storeKept(s, was impl.Store) bool {
	for i, one := range s.Txns {
		if !changesKept(one.Changes, was.Txns[i].Changes) {
			return false
		}
	}
	for _, one := range s.Txns[len(s.Txns) : len(s.Txns)+2] {
		if !sameTxn(one, markTxn()) {
			return false
		}
	}
	return sameStore(s, was) && rowsRoomLeft(s.Rows)
}

// memory is where the elements of lists stand that were noted.
type memory struct {
	rows    map[*impl.Row]int
	txns    map[*impl.Txn]int
	changes map[*impl.Change]int
	points  map[*impl.Point]int
}

func newMemory() memory {
	return memory{map[*impl.Row]int{}, map[*impl.Txn]int{}, map[*impl.Change]int{}, map[*impl.Point]int{}}
}

// take notes where all of a store stands, and tells whether none of it was taken.
func (m memory) take(s impl.Store) bool {
	free := rowPlaces(s.Rows, m.rows, m.points)
	free = takePlaces(s.Txns, m.txns) && free
	for _, one := range s.Txns {
		free = takePlaces(one.Changes, m.changes) && free
		for _, c := range one.Changes {
			free = takePlaces(c.Shape.Points, m.points) && free
		}
	}
	return free
}

// storeAnswers are all stores and shapes that the functions make of a store, in the places 0, 1 and behind the last.
func storeAnswers(s impl.Store, one impl.Shape) []impl.Store {
	begun, _ := impl.Begin(s)
	list := []impl.Store{begun, impl.Clean(s)}
	for _, n := range []int{0, 1, len(s.Txns)} {
		a, _ := impl.Commit(s, n)
		b, _ := impl.Rollback(s, n)
		list = append(list, a, b)
		for _, id := range []int{0, 1, 3, 4, 7, 9, 77} {
			c, _ := impl.TxnPut(s, n, id, one)
			d, _ := impl.TxnCut(s, n, id)
			e, _ := impl.TxnGet(s, n, id)
			list = append(list, c, d, store(rows(0, row(0, 0, 0, e))))
		}
		impl.TxnIds(s, n)
	}
	impl.StoreOk(s)
	impl.Oldest(s)
	return list
}

func TestStoresShareNothing(t *testing.T) {
	for i, s := range append(append(rightStores(), wrongStores()...), withTxn(busyStore(), 1, busyStore().Txns[4])) {
		arg, one := roomyStore(s), line(0, 0, 5, 5, 9, 9)
		one.Points = withRoom(one.Points)
		taken := newMemory()
		taken.take(arg)
		takePlaces(one.Points, taken.points)
		for k, answer := range storeAnswers(arg, one) {
			if !taken.take(answer) {
				t.Fatal("an answer shares memory", i, k)
			}
		}
		if !storeKept(arg, s) {
			t.Fatal("a store is written into", i)
		}
		if !sameShape(one, line(0, 0, 5, 5, 9, 9)) || !roomLeft(one.Points) {
			t.Fatal("a shape is written into", i)
		}
	}
}

// TestStoresOfOneMemory hands in a store all of whose shapes are one list of points, and all of whose changes are one list.
func TestStoresOfOneMemory(t *testing.T) {
	one := line(0, 0, 5, 5)
	list := changes(put(3, one), put(7, one))
	r := rows(4, row(1, 1, 0, one), row(3, 1, 0, one), row(9, 1, 4, one))
	for i, s := range []impl.Store{store(r, txn(4, list...), txn(3, list...), txn(4, list...)), store(rows(-1, r.List...), txn(4, list...), txn(3, list...))} {
		taken := newMemory()
		taken.take(s)
		for k, answer := range storeAnswers(s, one) {
			if !taken.take(answer) {
				t.Error("two lists of an answer share memory", i, k)
			}
		}
	}
}

// TestTxnIdsAreNew asks twice, and writes into the first answer.
func TestTxnIdsAreNew(t *testing.T) {
	s := busyStore()
	clear(impl.TxnIds(s, 1))
	if list := impl.TxnIds(s, 1); !slices.Equal(list, []int{3, 4, 9}) {
		t.Error("ids are kept", list)
	}
}
