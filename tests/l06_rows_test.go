package tests

import (
	"cmp"
	"math"
	"slices"
	"testing"

	"loop.example/g00229/impl"
)

const (
	rowsMost = 300
	idMost   = 999999999
	nowMost  = 1000000000
)

func row(id, from, to int, s impl.Shape) impl.Row {
	return impl.Row{Id: id, From: from, To: to, Shape: s}
}

func rows(now int, list ...impl.Row) impl.Rows { return impl.Rows{Now: now, List: list} }

func put(id int, s impl.Shape) impl.Change { return impl.Change{Id: id, Shape: s} }

func gone(id int) impl.Change { return impl.Change{Id: id, Gone: true} }

func changes(list ...impl.Change) []impl.Change { return list }

func sameRow(a, b impl.Row) bool {
	return a.Id == b.Id && a.From == b.From && a.To == b.To && sameShape(a.Shape, b.Shape)
}

func sameRows(a, b impl.Rows) bool {
	return a.Now == b.Now && slices.EqualFunc(a.List, b.List, sameRow)
}

func sameChange(a, b impl.Change) bool {
	return a.Id == b.Id && a.Gone == b.Gone && sameShape(a.Shape, b.Shape)
}

// copyRows is r in memory of its own.
func copyRows(r impl.Rows) impl.Rows {
	out := impl.Rows{Now: r.Now}
	for _, one := range r.List {
		one.Shape.Points = slices.Clone(one.Shape.Points)
		out.List = append(out.List, one)
	}
	return out
}

// manyRows are n rows of n Ids, every third one ended.
func manyRows(n int) impl.Rows {
	r := rows(9)
	for i := range n {
		one := row(7*(n-i), i%8+1, 0, rect(-i, -2*i, i, 3*i))
		if i%3 == 0 {
			one.To = 9
		}
		r.List = append(r.List, one)
	}
	return r
}

// oneId are n rows of one Id, each of which ends where the next one begins.
func oneId(n int) impl.Rows {
	r := rows(n)
	for i := range n {
		r.List = append(r.List, row(5, i+1, i+2, dot(i, i)))
	}
	r.List[n-1].To = 0
	return r
}

func noIds() []int { return append([]int{0, -1, -7, -idMost, idMost + 1, idMost + 2}, farInts...) }

// rightRows are lists of rows, with the edges that the chapter names.
func rightRows() []impl.Rows {
	list := []impl.Rows{
		{}, rows(1), rows(7), rows(nowMost), rows(nowMost + 1), rows(math.MaxInt), {List: []impl.Row{}}, // no rows
		rows(5, row(1, 2, 4, dot(1, 1))), rows(5, row(idMost, 2, 4, dot(1, 1))), // the bounds of an Id
		rows(1, row(3, 1, 0, dot(1, 1))), rows(5, row(3, 1, 0, dot(1, 1))), // the first moment
		rows(5, row(3, 5, 0, dot(1, 1))), rows(5, row(3, 1, 5, dot(1, 1))), rows(5, row(3, 4, 5, dot(1, 1))), // the last moment
		rows(2, row(3, 1, 2, dot(1, 1))), rows(5, row(3, 2, 3, dot(1, 1))), // one moment long
		rows(math.MaxInt, row(3, math.MaxInt, 0, dot(1, 1)), row(3, 1, math.MaxInt, dot(1, 1))),
		rows(nowMost+5, row(3, nowMost+1, nowMost+5, dot(1, 1))),
		rows(5, row(3, 1, 3, dot(1, 1)), row(3, 3, 0, dot(2, 2))), // one ends where the other one begins
		rows(5, row(3, 3, 0, dot(1, 1)), row(3, 1, 3, dot(1, 1))),
		rows(5, row(3, 4, 5, dot(1, 1)), row(3, 1, 2, dot(2, 2)), row(3, 2, 4, dot(3, 3))),
		rows(9, row(3, 1, 2, dot(1, 1)), row(3, 4, 5, dot(1, 1)), row(3, 7, 0, dot(1, 1))), // with gaps
		rows(5, row(3, 1, 0, dot(1, 1)), row(4, 1, 0, dot(1, 1)), row(2, 1, 5, dot(1, 1))), // at one moment, of other Ids
		rows(5, row(8, 2, 4, dot(1, 1)), row(9, 3, 0, dot(1, 1)), row(8, 4, 5, dot(1, 1))), // one Id around another
		manyRows(299), manyRows(rowsMost), oneId(1), oneId(2), oneId(rowsMost),
	}
	var each []impl.Row
	for i, s := range rightShapes() {
		each = append(each, row(i+1, 1, 0, s))
	}
	return append(list, rows(1, each...))
}

// wrongRows are not right, each for one reason.
func wrongRows() []impl.Rows {
	list := []impl.Rows{
		rows(-1), rows(-nowMost), rows(math.MinInt), rows(-1, row(3, 1, 0, dot(1, 1))), // Now
		rows(0, row(3, 1, 0, dot(1, 1))), rows(0, row(3, 0, 0, dot(1, 1))), // no moment yet
		rows(5, row(3, 0, 0, dot(1, 1))), rows(5, row(3, 0, 4, dot(1, 1))), rows(5, row(3, -1, 0, dot(1, 1))), rows(5, row(3, math.MinInt, 4, dot(1, 1))), // From below 1
		rows(5, row(3, 6, 0, dot(1, 1))), rows(5, row(3, 5, 6, dot(1, 1))), rows(5, row(3, 6, 7, dot(1, 1))), rows(5, row(3, math.MaxInt, 0, dot(1, 1))), // behind Now
		rows(5, row(3, 1, 6, dot(1, 1))), rows(5, row(3, 1, math.MaxInt, dot(1, 1))),
		rows(5, row(3, 2, 2, dot(1, 1))), rows(5, row(3, 1, 1, dot(1, 1))), rows(5, row(3, 5, 5, dot(1, 1))), // To at From
		rows(5, row(3, 3, 2, dot(1, 1))), rows(5, row(3, 2, 1, dot(1, 1))), rows(5, row(3, 1, -1, dot(1, 1))), rows(5, row(3, 1, math.MinInt, dot(1, 1))), // To ahead of From
		rows(5, row(3, 1, 0, dot(1, 1)), row(3, 2, 0, dot(1, 1))), rows(5, row(3, 2, 0, dot(1, 1)), row(3, 1, 0, dot(1, 1))), rows(5, row(3, 5, 0, dot(1, 1)), row(3, 5, 0, dot(1, 1))), // both without an end
		rows(5, row(3, 1, 4, dot(1, 1)), row(3, 3, 0, dot(2, 2))), rows(5, row(3, 3, 0, dot(2, 2)), row(3, 1, 4, dot(1, 1))), // one moment of both
		rows(5, row(3, 1, 0, dot(1, 1)), row(3, 5, 0, dot(2, 2))), rows(5, row(3, 4, 5, dot(1, 1)), row(3, 1, 5, dot(1, 1))),
		rows(5, row(3, 1, 0, dot(1, 1)), row(3, 2, 3, dot(1, 1))), rows(5, row(3, 2, 3, dot(1, 1)), row(3, 1, 0, dot(1, 1))), // one inside of the other
		rows(5, row(3, 1, 3, dot(1, 1)), row(3, 1, 3, dot(1, 1))), rows(5, row(3, 1, 2, dot(1, 1)), row(3, 1, 0, dot(1, 1))), // begun together
		rows(9, row(3, 1, 2, dot(1, 1)), row(4, 1, 0, dot(1, 1)), row(3, 5, 0, dot(1, 1)), row(2, 1, 0, dot(1, 1)), row(3, 2, 6, dot(1, 1))), // apart from each other in the list
		rows(9, row(3, 1, 9, dot(1, 1)), row(3, 2, 3, dot(1, 1)), row(3, 8, 0, dot(1, 1))),                                                   // over the next but one
		manyRows(301), manyRows(302), manyRows(1000), oneId(301), // too many
	}
	for _, id := range noIds() {
		list = append(list, rows(5, row(id, 1, 0, dot(1, 1))), rows(5, row(3, 1, 0, dot(1, 1)), row(id, 1, 3, dot(1, 1))))
	}
	for _, s := range wrongShapes() {
		list = append(list, rows(5, row(3, 1, 0, s)))
	}
	return append(list, rows(5, row(2, 1, 0, dot(1, 1)), row(3, 1, 4, impl.Shape{}), row(4, 1, 0, dot(1, 1))))
}

func TestRowsThatAreRight(t *testing.T) {
	if impl.MaxRows != rowsMost {
		t.Error("constant")
	}
	for i, r := range rightRows() {
		if !impl.RowsOk(r) {
			t.Error("right rows are refused", i)
		}
		back := copyRows(r)
		slices.Reverse(back.List)
		if !impl.RowsOk(back) {
			t.Error("right rows are refused backwards", i)
		}
	}
}

func TestRowsThatAreNot(t *testing.T) {
	for i, r := range wrongRows() {
		if impl.RowsOk(r) {
			t.Error("wrong rows are taken", i)
		}
		for _, at := range []int{-1, 0, 1, 2, 3, 5, 6, math.MaxInt} {
			checkNothing(t, r, at)
		}
		for _, list := range [][]impl.Change{nil, {gone(3)}, {put(77, dot(1, 1))}, {put(0, dot(1, 1))}} {
			if out, ok := impl.Apply(r, list); ok || !sameRows(out, r) {
				t.Error("changed", i, ok)
			}
		}
		for _, oldest := range []int{0, 2, 5, math.MaxInt} {
			if out := impl.Vacuum(r, oldest); !sameRows(out, r) {
				t.Error("cleaned", i, oldest)
			}
		}
	}
}

// checkNothing asks for the fixed answers at a moment of rows that are not right.
func checkNothing(t *testing.T, r impl.Rows, at int) {
	t.Helper()
	for _, id := range []int{0, 3, 5, 7} {
		if s, ok := impl.RowAt(r, id, at); ok || !isNone(s) {
			t.Error("a shape", r.Now, id, at)
		}
		if impl.Touched(r, id, at) {
			t.Error("touched", r.Now, id, at)
		}
	}
	if list := impl.IdsAt(r, at); len(list) != 0 {
		t.Error("ids", r.Now, at, list)
	}
	if tree := impl.TreeAt(r, at); !sameTree(tree, none()) {
		t.Error("a tree", r.Now, at, tree)
	}
}

// isThere tells by the document's words whether a right row is there at a moment.
func isThere(one impl.Row, at int) bool {
	return one.From <= at && (one.To == 0 || at < one.To)
}

// apartByMoments asks for each moment up to one behind Now whether two rows of one Id are there.
func apartByMoments(r impl.Rows) bool {
	for at := 1; at <= r.Now+1; at++ {
		there := map[int]int{}
		for _, one := range r.List {
			if isThere(one, at) {
				there[one.Id]++
			}
		}
		for _, n := range there {
			if n > 1 {
				return false
			}
		}
	}
	return true
}

func TestRowsOkOfChance(t *testing.T) {
	s := &steps{61}
	count := map[bool]int{}
	for range 20000 {
		r := rows(s.between(3, 9))
		for range s.between(2, 5) {
			one := row(s.between(1, 2), s.between(1, r.Now-1), 0, dot(1, 1))
			if s.below(4) > 0 {
				one.To = s.between(one.From+1, r.Now)
			}
			r.List = append(r.List, one)
		}
		want := apartByMoments(r)
		count[want]++
		if impl.RowsOk(r) != want {
			t.Fatal("right", r, want)
		}
	}
	if count[true] < 1000 || count[false] < 1000 {
		t.Error("too few of one sort", count)
	}
}

// history is a list of rows of four Ids: 3 that changes, 9 that is gone and comes back, 4 that stays, and 6 that was there for one moment.
func history() impl.Rows {
	return rows(9,
		row(9, 1, 4, rect(0, 0, 9, 9)),
		row(3, 2, 5, dot(1, 1)),
		row(4, 4, 0, line(0, 0, 5, 5)),
		row(6, 8, 9, dot(6, 6)),
		row(3, 7, 0, dot(3, 3)),
		row(3, 5, 7, dot(2, 2)),
		row(9, 9, 0, poly(0, 0, 4, 0, 0, 4)),
	)
}

func TestRowAtTells(t *testing.T) {
	for _, c := range []struct {
		id, at int
		want   impl.Shape
	}{
		{3, 2, dot(1, 1)}, {3, 3, dot(1, 1)}, {3, 4, dot(1, 1)}, {3, 5, dot(2, 2)}, {3, 6, dot(2, 2)}, {3, 7, dot(3, 3)}, {3, 8, dot(3, 3)}, {3, 9, dot(3, 3)}, // one ends where the next one begins
		{3, 10, dot(3, 3)}, {3, 1000, dot(3, 3)}, {3, math.MaxInt, dot(3, 3)}, {4, math.MaxInt, line(0, 0, 5, 5)}, // behind Now
		{9, 1, rect(0, 0, 9, 9)}, {9, 3, rect(0, 0, 9, 9)}, {9, 9, poly(0, 0, 4, 0, 0, 4)}, {9, 10, poly(0, 0, 4, 0, 0, 4)},
		{4, 4, line(0, 0, 5, 5)}, {6, 8, dot(6, 6)},
	} {
		if s, ok := impl.RowAt(history(), c.id, c.at); !ok || !sameShape(s, c.want) {
			t.Error("shape", c.id, c.at, s, ok)
		}
	}
	for _, c := range []struct{ id, at int }{
		{3, 1}, {3, 0}, {3, -1}, {3, math.MinInt}, {9, 0}, {9, -5}, {4, 0}, {4, 3}, {6, 7}, {6, 9}, {6, 10}, {6, math.MaxInt},
		{9, 4}, {9, 5}, {9, 8}, {5, 4}, {1, 1}, {idMost, 9}, {7, 9}, {0, 9}, {0, 0}, {-3, 4}, {-9, -9},
	} {
		if s, ok := impl.RowAt(history(), c.id, c.at); ok || !isNone(s) {
			t.Error("no shape", c.id, c.at, s, ok)
		}
	}
	for _, id := range noIds() {
		if s, ok := impl.RowAt(history(), id, 4); ok || !isNone(s) {
			t.Error("no Id", id, s, ok)
		}
	}
}

func TestRowAtOfEachShape(t *testing.T) {
	for _, s := range rightShapes() {
		for _, id := range []int{1, 2, idMost} {
			r := rows(3, row(5, 1, 0, dot(8, 8)), row(id, 2, 3, s))
			if got, ok := impl.RowAt(r, id, 2); !ok || !sameShape(got, s) {
				t.Error("shape", id, s, got, ok)
			}
		}
	}
}

func TestIdsAtTell(t *testing.T) {
	for _, c := range []struct {
		at   int
		want []int
	}{
		{math.MinInt, nil}, {-1, nil}, {0, nil}, {1, []int{9}}, {2, []int{3, 9}}, {3, []int{3, 9}}, {4, []int{3, 4}}, {5, []int{3, 4}}, {6, []int{3, 4}},
		{7, []int{3, 4}}, {8, []int{3, 4, 6}}, {9, []int{3, 4, 9}}, {10, []int{3, 4, 9}}, {math.MaxInt, []int{3, 4, 9}},
	} {
		r := history()
		for range r.List {
			// whatever the order of the rows
			r.List = append(r.List[1:], r.List[0])
			back := copyRows(r)
			slices.Reverse(back.List)
			if a, b := impl.IdsAt(r, c.at), impl.IdsAt(back, c.at); !slices.Equal(a, c.want) || !slices.Equal(b, c.want) {
				t.Error("ids", c.at, a, b)
			}
		}
	}
	if list := impl.IdsAt(rows(5, row(idMost, 1, 0, dot(1, 1)), row(1, 1, 0, dot(1, 1)), row(1000, 1, 0, dot(1, 1))), 5); !slices.Equal(list, []int{1, 1000, idMost}) {
		t.Error("ids", list)
	}
	if list := impl.IdsAt(manyRows(rowsMost), 8); len(list) != rowsMost || !slices.IsSorted(list) {
		t.Error("all ids", list)
	}
}

// treeOfRows is the tree of what is there at a moment by the document's words: its boxes put one by one.
func treeOfRows(t *testing.T, r impl.Rows, at int) impl.Knot {
	t.Helper()
	var there []impl.Row
	for _, one := range r.List {
		if isThere(one, at) {
			there = append(there, one)
		}
	}
	slices.SortFunc(there, func(a, b impl.Row) int { return cmp.Compare(a.Id, b.Id) })
	tree := none()
	for _, one := range there {
		around, ok := impl.ShapeBox(one.Shape)
		if !ok {
			t.Fatal("no box", one)
		}
		tree = putInto(t, tree, impl.Item{Id: one.Id, Box: around})
	}
	return tree
}

func TestTreeAtTells(t *testing.T) {
	for i, r := range append(rightRows(), history()) {
		for _, at := range []int{math.MinInt, -1, 0, 1, 2, 3, 4, 5, 8, 9, 10, 150, math.MaxInt} {
			tree := impl.TreeAt(r, at)
			if !sameTree(tree, treeOfRows(t, r, at)) || !impl.TreeOk(tree) {
				t.Error("tree", i, at, tree)
			}
			if list := impl.TreeFind(tree, box(-edge, -edge, edge, edge)); !slices.Equal(list, impl.IdsAt(r, at)) {
				t.Error("not what is there", i, at, list)
			}
		}
	}
	if tree := impl.TreeAt(history(), 0); !sameTree(tree, none()) {
		t.Error("nothing is there", tree)
	}
	if tree := impl.TreeAt(history(), 8); !sameTree(tree, leaf(spot(3, 3, 3), item(4, 0, 0, 5, 5), spot(6, 6, 6))) {
		t.Error("tree", tree)
	}
}

func TestTouchedTells(t *testing.T) {
	for _, c := range []struct {
		id, since int
		want      bool
	}{
		{4, 3, true}, {4, 4, false}, {4, 5, false}, {4, 9, false}, {4, 0, true}, {4, -1, true}, {4, math.MinInt, true}, {4, math.MaxInt, false}, // without an end
		{6, 7, true}, {6, 8, true}, {6, 9, false}, {6, 10, false}, {6, math.MaxInt, false}, {6, math.MinInt, true}, // with one
		{3, 1, true}, {3, 4, true}, {3, 5, true}, {3, 6, true}, {3, 7, false}, {3, 8, false},
		{9, 3, true}, {9, 8, true}, {9, 9, false},
		{5, 0, false}, {5, -1, false}, {7, math.MinInt, false}, {0, 0, false}, {-3, 0, false}, {1, 0, false}, {idMost, 0, false}, // no row
	} {
		if got := impl.Touched(history(), c.id, c.since); got != c.want {
			t.Error("touched", c.id, c.since, got)
		}
	}
	ended := rows(9, row(3, 2, 5, dot(1, 1)))
	for since, want := range []bool{true, true, true, true, true, false, false, false} {
		if got := impl.Touched(ended, 3, since); got != want {
			t.Error("touched, of one that ended", since, got)
		}
	}
	for _, id := range noIds() {
		if impl.Touched(history(), id, 0) {
			t.Error("touched, no Id", id)
		}
	}
}

func TestApplyTells(t *testing.T) {
	base := rows(6, row(8, 1, 3, dot(8, 8)), row(2, 2, 0, dot(2, 2)), row(5, 4, 0, rect(0, 0, 5, 5)), row(7, 6, 0, dot(7, 7)))
	for i, c := range []struct {
		list []impl.Change
		want []impl.Row
	}{
		{nil, base.List},
		{[]impl.Change{}, base.List},
		// gone: there, gone already, never there
		{changes(gone(2)), []impl.Row{base.List[0], row(2, 2, 7, dot(2, 2)), base.List[2], base.List[3]}},
		{changes(gone(7)), []impl.Row{base.List[0], base.List[1], base.List[2], row(7, 6, 7, dot(7, 7))}},
		{changes(gone(8)), base.List}, {changes(gone(1)), base.List}, {changes(gone(idMost)), base.List}, {changes(gone(8), gone(1), gone(3)), base.List},
		{changes(impl.Change{Id: 8, Gone: true, Shape: impl.Shape{Points: []impl.Point{}}}), base.List},
		// put anew, changed for another shape and for the same one
		{changes(put(1, dot(1, 1))), append(slices.Clone(base.List), row(1, 7, 0, dot(1, 1)))},
		{changes(put(8, dot(9, 9))), append(slices.Clone(base.List), row(8, 7, 0, dot(9, 9)))},
		{changes(put(idMost, line(0, 0, 1, 1))), append(slices.Clone(base.List), row(idMost, 7, 0, line(0, 0, 1, 1)))},
		{changes(put(5, dot(1, 1))), []impl.Row{base.List[0], base.List[1], row(5, 4, 7, rect(0, 0, 5, 5)), base.List[3], row(5, 7, 0, dot(1, 1))}},
		{changes(put(5, rect(0, 0, 5, 5))), []impl.Row{base.List[0], base.List[1], row(5, 4, 7, rect(0, 0, 5, 5)), base.List[3], row(5, 7, 0, rect(0, 0, 5, 5))}},
		// in order
		{changes(put(9, dot(1, 1)), gone(5), put(2, dot(3, 3)), gone(4), put(1, dot(4, 4))), []impl.Row{
			base.List[0], row(2, 2, 7, dot(2, 2)), row(5, 4, 7, rect(0, 0, 5, 5)), base.List[3],
			row(9, 7, 0, dot(1, 1)), row(2, 7, 0, dot(3, 3)), row(1, 7, 0, dot(4, 4)),
		}},
		{changes(put(1, dot(4, 4)), put(2, dot(3, 3)), gone(5), put(9, dot(1, 1))), []impl.Row{
			base.List[0], row(2, 2, 7, dot(2, 2)), row(5, 4, 7, rect(0, 0, 5, 5)), base.List[3],
			row(1, 7, 0, dot(4, 4)), row(2, 7, 0, dot(3, 3)), row(9, 7, 0, dot(1, 1)),
		}},
	} {
		got, ok := impl.Apply(base, c.list)
		if !ok || !sameRows(got, rows(7, c.want...)) || !impl.RowsOk(got) {
			t.Error("changed", i, got, ok)
		}
	}
	first, ok := impl.Apply(impl.Rows{}, nil)
	if !ok || !sameRows(first, rows(1)) {
		t.Error("no changes of no rows", first, ok)
	}
}

// TestApplyAgain changes one Id at each of some moments that follow each other.
func TestApplyAgain(t *testing.T) {
	r := impl.Rows{}
	for i, c := range []struct {
		change impl.Change
		want   []impl.Row
	}{
		{gone(3), nil},
		{put(3, dot(2, 2)), []impl.Row{row(3, 2, 0, dot(2, 2))}},
		{put(3, dot(3, 3)), []impl.Row{row(3, 2, 3, dot(2, 2)), row(3, 3, 0, dot(3, 3))}},
		{gone(3), []impl.Row{row(3, 2, 3, dot(2, 2)), row(3, 3, 4, dot(3, 3))}},
		{gone(3), []impl.Row{row(3, 2, 3, dot(2, 2)), row(3, 3, 4, dot(3, 3))}},
		{put(3, dot(6, 6)), []impl.Row{row(3, 2, 3, dot(2, 2)), row(3, 3, 4, dot(3, 3)), row(3, 6, 0, dot(6, 6))}},
	} {
		next, ok := impl.Apply(r, changes(c.change))
		if !ok || !sameRows(next, rows(i+1, c.want...)) {
			t.Fatal("changed", i, next, ok)
		}
		r = next
	}
}

func checkUnchanged(t *testing.T, r impl.Rows, list []impl.Change) {
	t.Helper()
	if got, ok := impl.Apply(r, list); ok || !sameRows(got, r) {
		t.Error("not refused", r.Now, list, ok)
	}
}

func TestApplyRefuses(t *testing.T) {
	for _, r := range []impl.Rows{{}, history(), manyRows(20)} {
		for _, id := range noIds() {
			checkUnchanged(t, r, changes(gone(id)))
			checkUnchanged(t, r, changes(put(id, dot(1, 1))))
			checkUnchanged(t, r, changes(put(3, dot(1, 1)), gone(id)))
			checkUnchanged(t, r, changes(gone(id), put(3, dot(1, 1))))
		}
		for _, s := range wrongShapes() {
			checkUnchanged(t, r, changes(put(3, s)))
			checkUnchanged(t, r, changes(put(4, dot(1, 1)), put(3, s), gone(9)))
		}
		// gone, with a shape
		for _, s := range append(rightShapes(), impl.Shape{Kind: 1}, impl.Shape{Kind: 3}, impl.Shape{Kind: -1}, dot(edge+1, 0), dot(0, 0)) {
			checkUnchanged(t, r, changes(impl.Change{Id: 3, Gone: true, Shape: s}))
			checkUnchanged(t, r, changes(put(8, dot(1, 1)), impl.Change{Id: 77, Gone: true, Shape: s}))
		}
		// two of one Id
		for _, a := range changes(gone(3), put(3, dot(1, 1))) {
			for _, b := range changes(gone(3), put(3, dot(1, 1)), put(3, dot(2, 2))) {
				checkUnchanged(t, r, changes(a, b))
				checkUnchanged(t, r, changes(a, gone(2), b))
				checkUnchanged(t, r, changes(put(50, dot(1, 1)), a, put(1, dot(1, 1)), gone(9), b, gone(51)))
			}
		}
	}
}

func TestApplyAtTheLastMoments(t *testing.T) {
	for _, now := range []int{nowMost - 1, nowMost} {
		for _, list := range [][]impl.Change{nil, changes(put(3, dot(1, 1))), changes(gone(3))} {
			if got, ok := impl.Apply(rows(now), list); !ok || got.Now != now+1 || !impl.RowsOk(got) {
				t.Error("a last moment is refused", now, got, ok)
			}
		}
		got, ok := impl.Apply(rows(now, row(3, now, 0, dot(1, 1))), changes(put(3, dot(2, 2))))
		if !ok || !sameRows(got, rows(now+1, row(3, now, now+1, dot(1, 1)), row(3, now+1, 0, dot(2, 2)))) {
			t.Error("changed at a last moment", now, got, ok)
		}
	}
	for _, now := range []int{nowMost + 1, nowMost + 2, 2 * nowMost, math.MaxInt - 1, math.MaxInt} {
		checkUnchanged(t, rows(now), nil)
		checkUnchanged(t, rows(now), changes(put(3, dot(1, 1))))
		checkUnchanged(t, rows(now, row(3, now, 0, dot(1, 1))), changes(gone(3)))
	}
}

// putMany are changes that put n Ids that manyRows does not have.
func putMany(n int) []impl.Change {
	var list []impl.Change
	for i := range n {
		list = append(list, put(7*i+1, dot(i, -i)))
	}
	return list
}

func TestApplyUpToTheMost(t *testing.T) {
	for _, there := range []int{0, 1, 150, 299, rowsMost} {
		r, room := manyRows(there), rowsMost-there
		got, ok := impl.Apply(r, putMany(room))
		if !ok || len(got.List) != rowsMost || !impl.RowsOk(got) || !slices.EqualFunc(got.List[:there], r.List, sameRow) {
			t.Error("as many as there may be", there, ok, len(got.List))
		}
		checkUnchanged(t, r, putMany(room+1))
		checkUnchanged(t, r, append(putMany(room+1), gone(7)))
		checkUnchanged(t, r, putMany(room+1000))
	}
	full := manyRows(rowsMost)
	// One that changes a row leaves that row where it is, ended.
	open := full.List[1].Id
	checkUnchanged(t, full, changes(put(open, dot(1, 1))))
	checkUnchanged(t, full, changes(gone(open), put(1, dot(1, 1))))
	got, ok := impl.Apply(full, changes(gone(open)))
	if !ok || len(got.List) != rowsMost || got.List[1].To != 10 {
		t.Error("gone where no room is", ok)
	}
	// Those that are gone already take no room, however many they are.
	var nothing []impl.Change
	for i := range 1000 {
		nothing = append(nothing, gone(7*i+1))
	}
	if got, ok := impl.Apply(full, nothing); !ok || !sameRows(got, impl.Rows{Now: 10, List: full.List}) {
		t.Error("many that never were", ok)
	}
}

func TestVacuumTells(t *testing.T) {
	all := history().List
	for _, c := range []struct {
		oldest int
		want   []impl.Row
	}{
		{math.MinInt, all}, {-4, all}, {-1, all}, {0, all}, {1, all}, {2, all}, {3, all},
		{4, all[1:]},
		{5, []impl.Row{all[2], all[3], all[4], all[5], all[6]}}, {6, []impl.Row{all[2], all[3], all[4], all[5], all[6]}},
		{7, []impl.Row{all[2], all[3], all[4], all[6]}}, {8, []impl.Row{all[2], all[3], all[4], all[6]}},
		{9, []impl.Row{all[2], all[4], all[6]}}, {10, []impl.Row{all[2], all[4], all[6]}}, {math.MaxInt, []impl.Row{all[2], all[4], all[6]}},
	} {
		if got := impl.Vacuum(history(), c.oldest); !sameRows(got, rows(9, c.want...)) || !impl.RowsOk(got) {
			t.Error("cleaned", c.oldest, got)
		}
	}
	for _, now := range []int{0, 5, math.MaxInt} {
		if got := impl.Vacuum(rows(now), now); !sameRows(got, rows(now)) {
			t.Error("no rows", now, got)
		}
	}
	if got := impl.Vacuum(rows(6, row(3, 1, 6, dot(1, 1))), 6); !sameRows(got, rows(6)) {
		t.Error("nothing is left", got)
	}
}

// moments are what is there under each Id, by moment: a plain way to keep what rows tell.
type moments []map[int]impl.Shape

// next is what comes about by changes.
func (m moments) next(list []impl.Change) map[int]impl.Shape {
	there := map[int]impl.Shape{}
	for id, s := range m[len(m)-1] {
		there[id] = s
	}
	for _, c := range list {
		delete(there, c.Id)
		if !c.Gone {
			there[c.Id] = c.Shape
		}
	}
	return there
}

// check asks rows for all Ids at all moments from the oldest that is kept on.
func (m moments) check(t *testing.T, r impl.Rows, oldest, ids int) {
	t.Helper()
	for at := oldest; at < len(m)+2; at++ {
		there := m[min(at, len(m)-1)]
		for id := range ids + 1 {
			want, is := there[id]
			if s, ok := impl.RowAt(r, id, at); ok != is || !sameShape(s, want) {
				t.Fatal("what was there", r.Now, id, at, s, ok)
			}
		}
		var list []int
		for id := range there {
			list = append(list, id)
		}
		slices.Sort(list)
		if got := impl.IdsAt(r, at); !slices.Equal(got, list) {
			t.Fatal("ids", r.Now, at, got, list)
		}
	}
}

// checkTouched holds Touched against the moments at which an Id was changed.
func checkTouched(t *testing.T, r impl.Rows, last map[int]int, ids int) {
	t.Helper()
	for id := range ids + 1 {
		moment, ever := last[id]
		for since := -1; since <= r.Now+1; since++ {
			if got := impl.Touched(r, id, since); got != (ever && moment > since) {
				t.Fatal("touched", r.Now, id, since, got)
			}
		}
	}
}

// changes are some of Ids of 1 .. ids, each once.
func (s *steps) changes(ids int) []impl.Change {
	var list []impl.Change
	for range s.below(4) {
		c := put(s.between(1, ids), s.shape(9))
		if s.below(3) == 0 {
			c = gone(c.Id)
		}
		if !slices.ContainsFunc(list, func(d impl.Change) bool { return d.Id == c.Id }) {
			list = append(list, c)
		}
	}
	return list
}

// TestRowsChangeNothingAhead is promise 6: rows are changed and cleaned over and over, and asked for all that is kept.
func TestRowsChangeNothingAhead(t *testing.T) {
	const ids = 6
	for seed := range 12 {
		s := &steps{uint64(600 + seed)}
		r, told, last := impl.Rows{}, moments{{}}, map[int]int{}
		for step := range 30 {
			list := s.changes(ids)
			for _, c := range list {
				if _, there := told[step][c.Id]; there || !c.Gone {
					last[c.Id] = step + 1
				}
			}
			told = append(told, told.next(list))
			next, ok := impl.Apply(r, list)
			if !ok || next.Now != step+1 || !impl.RowsOk(next) {
				t.Fatal("changed", seed, step, ok)
			}
			r = next
			told.check(t, r, 0, ids)
			checkTouched(t, r, last, ids)
			for _, oldest := range []int{0, s.below(step + 2), step, step + 1, step + 9} {
				told.check(t, impl.Vacuum(r, oldest), min(oldest, r.Now), ids)
			}
		}
	}
}

// TestRowsGoOnWhenCleaned cleans behind each change, and goes on with what is left.
func TestRowsGoOnWhenCleaned(t *testing.T) {
	const ids = 5
	for seed := range 6 {
		s := &steps{uint64(700 + seed)}
		r, told, oldest := impl.Rows{}, moments{{}}, 0
		for step := range 60 {
			list := s.changes(ids)
			told = append(told, told.next(list))
			next, ok := impl.Apply(r, list)
			if !ok {
				t.Fatal("changed", seed, step)
			}
			oldest = s.between(oldest, step+1)
			r = impl.Vacuum(next, oldest)
			for _, one := range r.List {
				if one.To != 0 && one.To <= oldest {
					t.Fatal("not cleaned", seed, step, one)
				}
			}
			told.check(t, r, oldest, ids)
		}
	}
}

// markShape stands in the spare room behind lists.
func markShape() impl.Shape { return dot(4, 2) }

// withRoom is a copy of points with marks in the spare room behind them.
func withRoom(points []impl.Point) []impl.Point {
	return append(slices.Clone(points), at(42, 42), at(42, 42))[:len(points)]
}

func roomLeft(points []impl.Point) bool {
	return slices.Equal(points[len(points):len(points)+2], []impl.Point{at(42, 42), at(42, 42)})
}

func roomyRows(r impl.Rows) impl.Rows {
	out := copyRows(r)
	for i, one := range out.List {
		out.List[i].Shape.Points = withRoom(one.Shape.Points)
	}
	n := len(out.List)
	out.List = append(out.List, row(42, 4, 2, markShape()), row(42, 4, 2, markShape()), row(42, 4, 2, markShape()))[:n]
	return out
}

func roomyChanges(list []impl.Change) []impl.Change {
	var out []impl.Change
	for _, c := range list {
		c.Shape.Points = withRoom(c.Shape.Points)
		out = append(out, c)
	}
	return append(out, put(42, markShape()), put(42, markShape()))[:len(list)]
}

func rowsRoomLeft(r impl.Rows) bool {
	for _, one := range r.List {
		if !roomLeft(one.Shape.Points) {
			return false
		}
	}
	for _, one := range r.List[len(r.List) : len(r.List)+3] {
		if !sameRow(one, row(42, 4, 2, markShape())) {
			return false
		}
	}
	return true
}

// changesKept tells whether a list is as it was, its spare room included.
func changesKept(list []impl.Change, was []impl.Change) bool {
	for _, c := range list {
		if !roomLeft(c.Shape.Points) {
			return false
		}
	}
	for _, c := range list[len(list) : len(list)+2] {
		if !sameChange(c, put(42, markShape())) {
			return false
		}
	}
	return slices.EqualFunc(list, was, sameChange)
}

// takePlaces notes where the elements of a list stand, spare room included, and tells whether none of them was taken.
func takePlaces[T any](list []T, taken map[*T]int) bool {
	free := true
	whole := list[:cap(list)]
	for i := range whole {
		taken[&whole[i]]++
		free = free && taken[&whole[i]] == 1
	}
	return free
}

func rowPlaces(r impl.Rows, lists map[*impl.Row]int, points map[*impl.Point]int) bool {
	free := takePlaces(r.List, lists)
	for _, one := range r.List {
		free = takePlaces(one.Shape.Points, points) && free
	}
	return free
}

func TestRowsShareNothing(t *testing.T) {
	list := append(append(rightRows(), wrongRows()...), history())
	for i, r := range list {
		arg := roomyRows(r)
		right := changes(put(3, line(0, 0, 5, 5, 9, 9)), gone(9), put(77, dot(1, 1)))
		twice := changes(put(5, line(0, 0, 5, 5)), put(5, dot(1, 1)))
		told, refused := roomyChanges(right), roomyChanges(twice)
		rowPlace, pointPlace := map[*impl.Row]int{}, map[*impl.Point]int{}
		rowPlaces(arg, rowPlace, pointPlace)
		for _, c := range slices.Concat(told, refused) {
			takePlaces(c.Shape.Points, pointPlace)
		}
		a, _ := impl.Apply(arg, told)
		b, _ := impl.Apply(arg, refused)
		c, _ := impl.Apply(arg, nil)
		answers := []impl.Rows{a, b, c, impl.Vacuum(arg, 0), impl.Vacuum(arg, 4), impl.Vacuum(arg, 9)}
		for _, at := range []int{1, 4, 9} {
			s, _ := impl.RowAt(arg, 3, at)
			answers = append(answers, rows(0, row(0, 0, 0, s)))
			impl.IdsAt(arg, at)
			impl.TreeAt(arg, at)
			impl.Touched(arg, 3, at)
		}
		impl.RowsOk(arg)
		if !sameRows(arg, r) || !rowsRoomLeft(arg) {
			t.Fatal("rows are written into", i)
		}
		if !changesKept(told, right) || !changesKept(refused, twice) {
			t.Fatal("changes are written into", i)
		}
		for k, answer := range answers {
			if !rowPlaces(answer, rowPlace, pointPlace) {
				t.Fatal("an answer shares memory", i, k)
			}
		}
	}
}

// TestRowsOfOneMemory hands in rows and changes whose shapes are one list of points.
func TestRowsOfOneMemory(t *testing.T) {
	s := line(0, 0, 5, 5)
	r := rows(4, row(1, 1, 0, s), row(2, 1, 0, s), row(3, 1, 4, s))
	a, ok := impl.Apply(r, changes(put(5, s), put(1, s), put(7, s)))
	b, no := impl.Apply(r, changes(put(0, s)))
	if !ok || no || len(a.List) != 6 {
		t.Fatal("changed", a, ok, no)
	}
	rowPlace, pointPlace := map[*impl.Row]int{}, map[*impl.Point]int{}
	takePlaces(s.Points, pointPlace)
	for i, answer := range []impl.Rows{a, b, impl.Vacuum(r, 1), impl.Vacuum(r, 4), impl.Vacuum(rows(-1, r.List...), 4)} {
		if !rowPlaces(answer, rowPlace, pointPlace) {
			t.Error("two lists of an answer share memory", i)
		}
	}
}

// TestTreeAtShareNothing asks twice, and holds where the answers stand against each other.
func TestTreeAtShareNothing(t *testing.T) {
	r := manyRows(60)
	first, second := impl.TreeAt(r, 8), impl.TreeAt(r, 8)
	itemPlaces, kidPlaces := map[*impl.Item]bool{}, map[*impl.Knot]bool{}
	if !places(first, itemPlaces, kidPlaces) || !places(second, itemPlaces, kidPlaces) {
		t.Error("a tree shares memory")
	}
	list := impl.IdsAt(r, 8)
	clear(list)
	if again := impl.IdsAt(r, 8); again[0] != 7 || len(again) != 60 {
		t.Error("ids are kept", again)
	}
}
