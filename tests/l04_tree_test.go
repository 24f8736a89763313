package tests

import (
	"cmp"
	"math"
	"slices"
	"sort"
	"testing"

	"loop.example/g00229/impl"
)

const (
	itemsMost = 400
	downMost  = 20
)

func item(id, x0, y0, x1, y1 int) impl.Item { return impl.Item{Id: id, Box: box(x0, y0, x1, y1)} }

// spot is an item of one point.
func spot(id, x, y int) impl.Item { return item(id, x, y, x, y) }

func none() impl.Knot { return impl.Knot{Leaf: true} }

// hull is the least box around boxes that need not be right.
func hull(list []impl.Box) impl.Box {
	out := list[0]
	for _, b := range list {
		out = box(min(out.X0, b.X0), min(out.Y0, b.Y0), max(out.X1, b.X1), max(out.Y1, b.Y1))
	}
	return out
}

func leaf(items ...impl.Item) impl.Knot {
	var list []impl.Box
	for _, it := range items {
		list = append(list, it.Box)
	}
	return impl.Knot{Box: hull(list), Leaf: true, Items: items}
}

func over(kids ...impl.Knot) impl.Knot {
	var list []impl.Box
	for _, kid := range kids {
		list = append(list, kid.Box)
	}
	return impl.Knot{Box: hull(list), Kids: kids}
}

// pair is a leaf of two items with Ids and places that no other first has.
func pair(first int) impl.Knot {
	return leaf(spot(first, 3*first, first), spot(first+1, 3*first+1, -first))
}

// spots are n items on a slanted way.
func spots(n int) []impl.Item {
	var list []impl.Item
	for i := range n {
		list = append(list, spot(i, 7*i, 5*i))
	}
	return list
}

// groups cuts a list into parts of four, or at its end of two or three.
func groups[T any](list []T) [][]T {
	var out [][]T
	for len(list) > 0 {
		n := min(4, len(list))
		if len(list) == 5 {
			n = 3
		}
		out = append(out, list[:n:n])
		list = list[n:]
	}
	return out
}

// stacked is a right tree with the items as they stand.
func stacked(items []impl.Item) impl.Knot {
	var row []impl.Knot
	for _, part := range groups(items) {
		row = append(row, leaf(part...))
	}
	for len(row) > 1 {
		var above []impl.Knot
		for _, part := range groups(row) {
			above = append(above, over(part...))
		}
		row = above
	}
	return row[0]
}

// slim is a tree of so many knots down, two in each of them.
func slim(depth int, next *int) impl.Knot {
	if depth == 1 {
		*next += 2
		return pair(*next - 2)
	}
	return over(slim(depth-1, next), slim(depth-1, next))
}

func slimTree(depth int) impl.Knot {
	next := 0
	return slim(depth, &next)
}

// chain is n knots, each but the last with one kid; each has an item with the number of how far down it is.
func chain(n int) impl.Knot {
	t := impl.Knot{Leaf: true, Items: []impl.Item{spot(n-1, n-1, 0)}}
	for i := n - 2; i >= 0; i-- {
		t = impl.Knot{Items: []impl.Item{spot(i, i, 0)}, Kids: []impl.Knot{t}}
	}
	return t
}

// endless is a knot that is its own kid, n times.
func endless(n int, items ...impl.Item) impl.Knot {
	kids := make([]impl.Knot, n)
	for i := range kids {
		kids[i] = impl.Knot{Box: box(1, 1, 2, 2), Items: items, Kids: kids}
	}
	return kids[0]
}

func sameTree(a, b impl.Knot) bool {
	return a.Box == b.Box && a.Leaf == b.Leaf && slices.Equal(a.Items, b.Items) && slices.EqualFunc(a.Kids, b.Kids, sameTree)
}

// cutTree is a copy of t with all but the knots that are so far down at most.
func cutTree(t impl.Knot, down int) impl.Knot {
	out := impl.Knot{Box: t.Box, Leaf: t.Leaf, Items: append([]impl.Item{}, t.Items...)}
	for _, kid := range t.Kids {
		if down > 0 {
			out.Kids = append(out.Kids, cutTree(kid, down-1))
		}
	}
	return out
}

func ids(items []impl.Item) []int {
	var list []int
	for _, it := range items {
		list = append(list, it.Id)
	}
	return list
}

// rightTrees are trees of one knot and of some down, with the edges that the chapter names.
func rightTrees() []impl.Knot {
	list := []impl.Knot{
		none(),
		{Leaf: true, Items: []impl.Item{}, Kids: []impl.Knot{}},
		leaf(spot(0, 0, 0)), leaf(spot(-5, -edge, edge)), leaf(item(math.MaxInt, -edge, -edge, edge, edge)), leaf(item(math.MinInt, 3, 4, 3, 9)),
		leaf(spot(1, 2, 3), spot(2, 2, 3)), leaf(spots(3)...), leaf(spots(4)...),
		leaf(spot(4, 0, 0), spot(3, 9, 9), spot(2, -5, 0), spot(1, 0, -8)),
		over(pair(0), pair(2)), over(pair(0), pair(2), pair(4)), over(pair(6), pair(2), pair(4), pair(0)),
		over(leaf(spots(4)...), pair(10)),
		over(over(pair(0), pair(2)), over(pair(4), pair(6), pair(8), pair(10))),
		over(over(pair(0), pair(2)), over(pair(4), pair(6)), over(pair(8), pair(10)), over(pair(12), pair(14))),
	}
	for _, n := range []int{5, 6, 9, 16, 17, 20, 21, 63, 64, 65, 399, 400} {
		list = append(list, stacked(spots(n)))
	}
	for depth := 2; depth <= 8; depth++ {
		list = append(list, slimTree(depth))
	}
	return list
}

// boxedWrong are t with another box, which is not the least one around what is in it.
func boxedWrong(t impl.Knot) []impl.Knot {
	var list []impl.Knot
	for _, by := range []int{-1, 1} {
		for _, b := range []impl.Box{box(by, 0, 0, 0), box(0, by, 0, 0), box(0, 0, by, 0), box(0, 0, 0, by)} {
			other := t
			other.Box = box(t.Box.X0+b.X0, t.Box.Y0+b.Y0, t.Box.X1+b.X1, t.Box.Y1+b.Y1)
			list = append(list, other)
		}
	}
	t.Box = impl.Box{}
	return append(list, t)
}

// wrongTrees are none, each for one reason.
func wrongTrees() []impl.Knot {
	small, deep := over(pair(2), pair(4)), over(over(pair(2), pair(4)), over(pair(6), pair(8)))
	list := []impl.Knot{
		{}, {Box: box(0, 0, 1, 1)}, {Box: box(0, 0, 1, 1), Leaf: true}, {Box: box(0, 0, 0, 1), Leaf: true}, // of none, but no empty leaf
		leaf(spots(5)...), leaf(spots(6)...), leaf(spots(400)...), // more than MaxFan items
		over(leaf(spot(1, 1, 1)), pair(2)), over(pair(2), leaf(spot(1, 1, 1))), over(pair(2), none()), over(none(), none()), // less than MinFan below
		over(over(pair(2), pair(4)), over(pair(6))), over(over(pair(6)), over(pair(2), pair(4))),
		over(pair(2)), over(over(pair(2), pair(4))), // a topmost one with one kid
		over(pair(0), pair(2), pair(4), pair(6), pair(8)), over(pair(10), over(pair(0), pair(2), pair(4), pair(6), pair(8))), // more than MaxFan kids
		over(over(pair(0), pair(2), pair(4), pair(6), pair(8)), over(pair(10), pair(12))),
		over(leaf(spots(5)...), pair(10)), over(pair(10), leaf(spots(5)...)),
		over(pair(0), over(pair(2), pair(4))), over(over(pair(2), pair(4)), pair(0)), over(pair(0), pair(6), over(pair(2), pair(4))), // not equally deep
		over(deep, over(pair(10), pair(12))), over(over(pair(10), pair(12)), deep),
		leaf(spot(1, 0, 0), spot(1, 5, 5)), leaf(spot(1, 0, 0), spot(2, 5, 5), spot(1, 0, 0)), // one Id twice
		over(pair(2), pair(3)), over(pair(2), leaf(spot(9, 1, 1), spot(2, 6, 2))), over(over(pair(0), pair(2)), over(pair(4), pair(0))),
		stacked(spots(401)), stacked(spots(402)), stacked(spots(900)), slimTree(9), slimTree(10), // more than MaxItems
		{Box: small.Box, Items: pair(2).Items, Kids: small.Kids}, {Box: small.Box, Leaf: true, Items: pair(2).Items, Kids: small.Kids}, // items and kids
		{Box: small.Box, Items: small.Kids[0].Items[:1], Kids: []impl.Knot{square(90, 6, -2, 7, 4), square(92, 12, -4, 13, 3)}},
		{Box: small.Box, Leaf: true, Kids: small.Kids}, {Box: pair(2).Box, Items: pair(2).Items}, // the wrong one of both
		{Leaf: true, Kids: []impl.Knot{none(), none()}},
		chain(2), chain(8), chain(9), chain(20), chain(21), chain(22), chain(60),
		endless(1), endless(1, spot(1, 1, 1)),
	}
	for _, kid := range []impl.Knot{pair(4), small} {
		both := kid
		both.Items, both.Kids = pair(4).Items, small.Kids
		turned := kid
		turned.Leaf = !kid.Leaf
		list = append(list, over(kid, both), over(both, kid), over(kid, turned), turned)
	}
	list = append(list, boxedWrong(leaf(spot(3, 4, 5)))...)
	list = append(list, boxedWrong(leaf(item(1, 1, 1, 5, 5), item(2, 2, 2, 3, 3)))...)
	list = append(list, boxedWrong(small)...)
	for _, kid := range boxedWrong(pair(10)) {
		list = append(list, over(small.Kids[0], kid), over(kid, small.Kids[0]))
	}
	for _, kid := range boxedWrong(small) {
		list = append(list, over(over(pair(6), pair(8)), kid))
	}
	for _, b := range noBoxes() {
		bad := impl.Item{Id: 1, Box: b}
		list = append(list, leaf(bad), leaf(spot(2, 0, 0), bad), over(pair(2), leaf(bad, spot(9, 1, 1))), impl.Knot{Leaf: true, Items: []impl.Item{bad}})
	}
	return list
}

func TestTreeConstants(t *testing.T) {
	if impl.MaxFan != 4 || impl.MinFan != 2 || impl.MaxItems != itemsMost {
		t.Error("constants")
	}
}

// wayDown is how many knots there are to the first leaf.
func wayDown(t impl.Knot) int {
	if t.Leaf {
		return 1
	}
	return 1 + wayDown(t.Kids[0])
}

// itemsBelow are the items down to the twentieth knot below, those of a knot ahead of those of its kids.
func itemsBelow(t impl.Knot, down int) []impl.Item {
	list := slices.Clone(t.Items)
	for i := 0; down > 0 && i < len(t.Kids); i++ {
		list = append(list, itemsBelow(t.Kids[i], down-1)...)
	}
	return list
}

func TestTreesThatAreRight(t *testing.T) {
	for i, tree := range rightTrees() {
		if !impl.TreeOk(tree) {
			t.Error("a tree is refused", i, tree)
		}
		if n := impl.TreeDepth(tree); n != wayDown(tree) {
			t.Error("depth", i, n)
		}
		items := impl.TreeItems(tree)
		if !slices.Equal(items, itemsBelow(tree, downMost)) {
			t.Error("items", i, items)
		}
		told := slices.Sorted(slices.Values(ids(items)))
		if found := impl.TreeFind(tree, box(-edge, -edge, edge, edge)); !slices.Equal(found, told) {
			t.Error("all of it", i, found)
		}
		cut, ok := impl.TreeCut(tree, 12345)
		if ok || !sameTree(cut, tree) {
			t.Error("cut of none", i, ok)
		}
	}
}

func TestTreesThatAreNone(t *testing.T) {
	whole := box(-edge, -edge, edge, edge)
	for i, tree := range wrongTrees() {
		if impl.TreeOk(tree) || impl.TreeDepth(tree) != 0 {
			t.Error("no tree is taken", i, cutTree(tree, 3))
		}
		if found, seen := impl.TreeFind(tree, whole), impl.TreeSeen(tree, whole); len(found) != 0 || seen != 0 {
			t.Error("no tree is looked through", i, found, seen)
		}
		checkRefused(t, tree, spot(77, 1, 1), 1)
	}
}

// checkRefused asks for what TreePut and TreeCut answer beside false.
func checkRefused(t *testing.T, tree impl.Knot, it impl.Item, id int) {
	t.Helper()
	want := cutTree(tree, downMost)
	if put, ok := impl.TreePut(tree, it); ok || !sameTree(put, want) {
		t.Error("put", it, ok, len(put.Items), len(put.Kids))
	}
	if cut, ok := impl.TreeCut(tree, id); ok || !sameTree(cut, want) {
		t.Error("cut", id, ok, len(cut.Items), len(cut.Kids))
	}
}

func TestTreeItemsOfDeepOnes(t *testing.T) {
	for n := 1; n <= 60; n++ {
		var want []int
		for i := range min(n, downMost+1) {
			want = append(want, i)
		}
		if got := ids(impl.TreeItems(chain(n))); !slices.Equal(got, want) {
			t.Error("a chain of", n, got)
		}
	}
	// An item that stands in a last knot alone.
	last := leaf(spot(1, 1, 1), spot(2, 2, 2))
	for n := 1; n <= 25; n++ {
		want := 2
		if n > downMost+1 {
			want = 0
		}
		if got := impl.TreeItems(last); len(got) != want {
			t.Error("a last one of", n, got)
		}
		checkRefused(t, last, spot(1, 5, 5), 3)
		last = over(last)
	}
	if got := impl.TreeItems(endless(1, spot(6, 0, 0))); len(got) != downMost+1 || slices.Max(ids(got)) != 6 {
		t.Error("without end", got)
	}
	if got := impl.TreeItems(endless(2, spot(6, 0, 0))); len(got) != 1<<(downMost+1)-1 {
		t.Error("without end, two each", len(got))
	}
	if put, ok := impl.TreePut(endless(1), spot(1, 1, 1)); ok || !sameTree(put, cutTree(endless(1), downMost)) {
		t.Error("put without end", ok)
	}
}

func TestTreeItemsOfWrongOnes(t *testing.T) {
	tree := over(pair(2), leaf(spots(6)...))
	tree.Items = []impl.Item{spot(9, 0, 0), spot(9, 0, 0), item(8, 5, 5, 1, 1)}
	tree.Leaf = true
	if got := ids(impl.TreeItems(tree)); !slices.Equal(got, []int{9, 9, 8, 2, 3, 0, 1, 2, 3, 4, 5}) {
		t.Error("items ahead of kids", got)
	}
	if got := impl.TreeItems(impl.Knot{}); len(got) != 0 {
		t.Error("no items", got)
	}
}

// putInto puts items one by one.
func putInto(t *testing.T, tree impl.Knot, items ...impl.Item) impl.Knot {
	t.Helper()
	for _, it := range items {
		next, ok := impl.TreePut(tree, it)
		if !ok || !impl.TreeOk(next) {
			t.Fatal("put", it, ok, next)
		}
		tree = next
	}
	return tree
}

func TestTreePutTells(t *testing.T) {
	a, b, c, d, e := spot(1, 0, 0), spot(2, 10, 0), spot(3, 20, 0), spot(4, 30, 0), spot(5, 40, 0)
	for i, row := range []struct {
		tree impl.Knot
		it   impl.Item
		want impl.Knot
	}{
		{none(), item(7, -3, 2, 5, 9), leaf(item(7, -3, 2, 5, 9))},
		{none(), spot(7, 0, 0), impl.Knot{Leaf: true, Items: []impl.Item{spot(7, 0, 0)}}},
		{leaf(d), a, leaf(d, a)}, // behind the others, in whatever order
		{leaf(d, b, c), a, leaf(d, b, c, a)},
		{leaf(d, b, c, a), e, over(leaf(a, b, c), leaf(d, e))},
		{leaf(b, c, d, e), a, over(leaf(a, b, c), leaf(d, e))},
		{leaf(e, d, c, b), a, over(leaf(a, b, c), leaf(d, e))},
		// Y0 + Y1 where X0 + X1 are alike, be the boxes as great as they may.
		{leaf(item(1, -5, 8, 5, 8), spot(2, 0, 3), item(3, -1, -9, 1, -5), spot(4, 0, 5)), item(5, -9, 0, 9, 0),
			over(leaf(item(3, -1, -9, 1, -5), item(5, -9, 0, 9, 0), spot(2, 0, 3)), leaf(spot(4, 0, 5), item(1, -5, 8, 5, 8)))},
		// Id where both are alike.
		{leaf(spot(9, 0, 0), item(-4, -1, -1, 1, 1), spot(3, 0, 0), item(7, -2, 0, 2, 0)), spot(5, 0, 0),
			over(leaf(item(-4, -1, -1, 1, 1), spot(3, 0, 0), spot(5, 0, 0)), leaf(item(7, -2, 0, 2, 0), spot(9, 0, 0)))},
		{leaf(spot(math.MaxInt, 0, 0), spot(math.MinInt, 0, 0), spot(0, 0, 0), spot(-1, 0, 0)), spot(1, 0, 0),
			over(leaf(spot(math.MinInt, 0, 0), spot(-1, 0, 0), spot(0, 0, 0)), leaf(spot(1, 0, 0), spot(math.MaxInt, 0, 0)))},
		// X0 + X1 counts, not X0 and not X1.
		{leaf(item(1, 0, 0, 10, 0), item(2, 4, 0, 5, 0), item(3, 1, 0, 7, 0), item(4, 3, 0, 4, 0)), item(5, 2, 0, 20, 0),
			over(leaf(item(4, 3, 0, 4, 0), item(3, 1, 0, 7, 0), item(2, 4, 0, 5, 0)), leaf(item(1, 0, 0, 10, 0), item(5, 2, 0, 20, 0)))},
	} {
		if got := putInto(t, row.tree, row.it); !sameTree(got, row.want) {
			t.Error(i, "got", got, "not", row.want)
		}
	}
}

// square is a leaf with two items at its corners.
func square(id, x0, y0, x1, y1 int) impl.Knot { return leaf(spot(id, x0, y0), spot(id+1, x1, y1)) }

func TestTreePutChoosesAKid(t *testing.T) {
	for i, row := range []struct {
		kids []impl.Knot
		it   impl.Item
		want int
	}{
		{[]impl.Knot{square(1, 0, 0, 9, 9), square(3, 20, 0, 29, 9)}, spot(0, 25, 5), 1},
		{[]impl.Knot{square(1, 0, 0, 9, 9), square(3, 20, 0, 29, 9)}, spot(0, 5, 5), 0},
		{[]impl.Knot{square(1, 0, 0, 9, 9), square(3, 20, 0, 29, 9), square(5, 40, 0, 49, 9), square(7, 60, 0, 69, 9)}, spot(0, 55, 0), 3},
		// The one that grows least, not the nearest: 0 .. 1 grows by 2 times 5, the high one by 1 times 40.
		{[]impl.Knot{square(1, 0, 0, 2, 2), square(3, 8, 0, 10, 40)}, spot(0, 7, 1), 0},
		// One that has it grows by nothing, however great it is.
		{[]impl.Knot{square(1, 10, 10, 11, 11), square(3, -100, -100, 100, 100)}, spot(0, 9, 9), 1},
		// Both have it: the lesser one.
		{[]impl.Knot{square(1, 0, 0, 10, 10), square(3, 4, 4, 6, 6)}, spot(0, 5, 5), 1},
		{[]impl.Knot{square(3, 4, 4, 6, 6), square(1, 0, 0, 10, 10)}, spot(0, 5, 5), 0},
		// Both grow by 10: the lesser one.
		{[]impl.Knot{square(1, 0, 0, 2, 5), square(3, 6, 0, 7, 5)}, spot(0, 4, 3), 1},
		{[]impl.Knot{square(1, 0, 0, 2, 5), square(3, 5, 0, 8, 5)}, item(0, 3, 3, 4, 4), 0},
		{[]impl.Knot{square(3, 0, 0, 4, 5), square(1, 8, 0, 9, 5)}, spot(0, 6, 3), 1},
		// Alike in both: the first.
		{[]impl.Knot{square(1, 0, 0, 2, 2), square(3, 6, 0, 8, 2)}, spot(0, 4, 1), 0},
		{[]impl.Knot{square(3, 6, 0, 8, 2), square(1, 0, 0, 2, 2)}, spot(0, 4, 1), 0},
		{[]impl.Knot{square(9, 50, 50, 60, 60), square(3, 6, 0, 8, 2), square(1, 0, 0, 2, 2)}, spot(0, 4, 1), 1},
		{[]impl.Knot{square(1, 0, 0, 4, 4), square(3, 0, 0, 4, 4), square(5, 0, 0, 4, 4)}, spot(0, 1, 1), 0},
		{[]impl.Knot{square(1, 0, 0, 4, 4), square(3, 0, 0, 2, 8), square(5, 0, 0, 8, 2)}, spot(0, 1, 1), 0},
		// Boxes without an area: along a line none of them grows.
		{[]impl.Knot{square(1, 0, 0, 1, 0), square(3, 100, 0, 101, 0)}, spot(0, 102, 0), 0},
		{[]impl.Knot{square(1, 0, 0, 1, 0), square(3, 100, 0, 101, 0)}, spot(0, 101, 1), 1},
		// The greatest areas there are.
		{[]impl.Knot{square(1, -edge, -edge, edge, edge), square(3, -edge, -edge, -edge+1, -edge+1)}, spot(0, edge, edge), 0},
		{[]impl.Knot{square(1, -edge, -edge, edge, 0), square(3, -edge, 0, edge, edge)}, item(0, -edge, -edge, edge, edge), 0},
	} {
		got := putInto(t, over(row.kids...), row.it)
		want := slices.Clone(row.kids)
		want[row.want] = leaf(append(slices.Clone(want[row.want].Items), row.it)...)
		if !sameTree(got, over(want...)) {
			t.Error(i, "got", got, "not in", row.want)
		}
	}
}

// full is a leaf of four points that stand at the corners around a middle, so far from it.
func full(id, x, y, far int) impl.Knot {
	return leaf(spot(id, x-far, y-far), spot(id+1, x-far, y+far), spot(id+2, x+far, y-far), spot(id+3, x+far, y+far))
}

func TestTreePutSplitsKids(t *testing.T) {
	// The kid that is split is followed by its rest; the kids themselves stand as they stood.
	tree := over(full(10, 90, 0, 1), full(20, 0, 0, 1), full(30, 50, 0, 1))
	got := putInto(t, tree, spot(1, 0, 0))
	want := over(tree.Kids[0], leaf(spot(20, -1, -1), spot(21, -1, 1), spot(1, 0, 0)), leaf(spot(22, 1, -1), spot(23, 1, 1)), tree.Kids[2])
	if !sameTree(got, want) {
		t.Error("got", got, "not", want)
	}
	// With a fourth one the topmost knot is split, too, by the middles of the kids.
	fourth := over(full(10, 90, 0, 1), full(20, 0, 0, 1), full(30, 50, 0, 1), full(40, -50, 0, 1))
	got = putInto(t, fourth, spot(1, 0, 0))
	want = over(over(fourth.Kids[3], want.Kids[1], want.Kids[2]), over(fourth.Kids[2], fourth.Kids[0]))
	if !sameTree(got, want) || impl.TreeDepth(got) != 3 {
		t.Error("got", got, "not", want)
	}
}

func TestTreePutKeepsKidsOfOneMiddle(t *testing.T) {
	a, b, c, d := full(10, 0, 0, 4), full(20, 0, 0, 3), full(30, 0, 0, 2), full(40, 0, 0, 1)
	// It goes into the least one, whose two halves are to the left and to the right of the others' middle.
	low, high := leaf(spot(40, -1, -1), spot(41, -1, 1), spot(1, 0, 0)), leaf(spot(42, 1, -1), spot(43, 1, 1))
	for i, row := range [][]impl.Knot{{a, b, c, d}, {c, b, a, d}, {b, d, a, c}, {d, c, b, a}} {
		var rest []impl.Knot
		for _, kid := range row {
			if kid.Items[0].Id != 40 {
				rest = append(rest, kid)
			}
		}
		want := over(over(low, rest[0], rest[1]), over(rest[2], high))
		if got := putInto(t, over(row...), spot(1, 0, 0)); !sameTree(got, want) {
			t.Error(i, "got", got, "not", want)
		}
	}
	// Of one X0 + X1, by Y0 + Y1.
	up, down := square(50, -1, 20, 1, 22), square(60, -1, -22, 1, -20)
	column := leaf(spot(40, 0, -2), spot(41, 0, -1), spot(42, 0, 1), spot(43, 0, 2))
	got := putInto(t, over(up, a, column, down), spot(1, 0, 0))
	want := over(over(down, leaf(spot(40, 0, -2), spot(41, 0, -1), spot(1, 0, 0)), a), over(leaf(spot(42, 0, 1), spot(43, 0, 2)), up))
	if !sameTree(got, want) {
		t.Error("got", got, "not", want)
	}
}

func TestTreePutSplitsUpToTheTop(t *testing.T) {
	// Four knots of four leaves of four, in a row: one more splits a leaf, the knot above it and the topmost one.
	var knots []impl.Knot
	for i := range 4 {
		var leaves []impl.Knot
		for j := range 4 {
			leaves = append(leaves, full(100*i+10*j, 1000*i+100*j, 0, 1))
		}
		knots = append(knots, over(leaves...))
	}
	got := putInto(t, over(knots...), spot(-1, 1000, 0))
	low, high := leaf(spot(100, 999, -1), spot(101, 999, 1), spot(-1, 1000, 0)), leaf(spot(102, 1001, -1), spot(103, 1001, 1))
	first, second := over(low, high, knots[1].Kids[1]), over(knots[1].Kids[2], knots[1].Kids[3])
	want := over(over(knots[0], first, second), over(knots[2], knots[3]))
	if !sameTree(got, want) || impl.TreeDepth(got) != 4 {
		t.Error("got", got, "not", want)
	}
}

func TestTreePutRefuses(t *testing.T) {
	for i, tree := range rightTrees() {
		for _, it := range impl.TreeItems(tree) {
			checkRefused(t, tree, spot(it.Id, 1, 1), 99999)
		}
		for _, b := range noBoxes() {
			if got, ok := impl.TreePut(tree, impl.Item{Id: 99999, Box: b}); ok || !sameTree(got, tree) {
				t.Error("no box is put", i, b, ok)
			}
		}
		want := len(impl.TreeItems(tree)) < itemsMost
		if got, ok := impl.TreePut(tree, spot(99999, 1, 1)); ok != want || !want && !sameTree(got, tree) {
			t.Error("one more", i, ok, want)
		}
	}
	tree := putInto(t, stacked(spots(itemsMost-1)), spot(-1, 3, 3))
	checkRefused(t, tree, spot(-2, 3, 3), -2)
}

func TestTreeCutTells(t *testing.T) {
	a, b, c, d, e := spot(1, 0, 0), spot(2, 10, 0), spot(3, 20, 0), spot(4, 30, 0), spot(5, 40, 0)
	for i, row := range []struct {
		tree impl.Knot
		id   int
		want impl.Knot
	}{
		{leaf(a), 1, none()},
		{leaf(b), 2, none()},
		{leaf(c, a), 1, leaf(c)},
		{leaf(c, a, d, b), 3, leaf(a, d, b)},
		{over(leaf(d, a), leaf(e, c, b)), 1, leaf(d, e, c, b)},
		{over(leaf(d, a), leaf(e, c, b)), 2, leaf(d, a, e, c)},
		// What was put in elsewhere is put anew, in the order of the items.
		{over(leaf(a, e), leaf(b, d), leaf(c, spot(6, 50, 0))), 6, over(leaf(a, b, c), leaf(d, e))},
		{over(leaf(a, e), leaf(b, d), leaf(c, spot(6, 50, 0))), 1, over(leaf(b, c, d), leaf(e, spot(6, 50, 0)))},
	} {
		if got, ok := impl.TreeCut(row.tree, row.id); !ok || !sameTree(got, row.want) {
			t.Error(i, "got", got, ok, "not", row.want)
		}
	}
	for _, id := range append([]int{0, 3, -1, 98}, farInts...) {
		for _, tree := range []impl.Knot{none(), leaf(a, b), over(leaf(a, e), leaf(b, d))} {
			if got, ok := impl.TreeCut(tree, id); ok || !sameTree(got, tree) {
				t.Error("cut of none", id, got, ok)
			}
		}
	}
}

// boxesApart tells whether one of both is beyond the other.
func boxesApart(a, b impl.Box) bool {
	return a.X1 < b.X0 || b.X1 < a.X0 || a.Y1 < b.Y0 || b.Y1 < a.Y0
}

// seenBelow counts the knots that are looked at for b from t on.
func seenBelow(t impl.Knot, b impl.Box) int {
	n := 1
	for _, kid := range t.Kids {
		if !boxesApart(kid.Box, b) {
			n += seenBelow(kid, b)
		}
	}
	return n
}

func checkLook(t *testing.T, tree impl.Knot, b impl.Box) {
	t.Helper()
	var want []int
	for _, it := range itemsBelow(tree, downMost) {
		if !boxesApart(it.Box, b) {
			want = append(want, it.Id)
		}
	}
	slices.Sort(want)
	if got := impl.TreeFind(tree, b); !slices.Equal(got, want) {
		t.Error("found in", b, got, "not", want)
	}
	if got, want := impl.TreeSeen(tree, b), seenBelow(tree, b); got != want {
		t.Error("seen for", b, got, "not", want)
	}
}

func TestTreeFindTells(t *testing.T) {
	// Two knots of two leaves each; the boxes 0 .. 4, 6 .. 10, 20 .. 24 and 26 .. 30 in x, 0 .. 4 in y.
	tree := over(
		over(leaf(item(8, 0, 0, 1, 1), item(1, 3, 3, 4, 4)), leaf(item(6, 6, 0, 7, 1), item(3, 9, 3, 10, 4))),
		over(leaf(item(4, 20, 0, 21, 1), item(5, 23, 3, 24, 4)), leaf(item(2, 26, 0, 27, 1), item(7, 29, 3, 30, 4))),
	)
	for _, row := range []struct {
		b    impl.Box
		want []int
		seen int
	}{
		{box(0, 0, 30, 4), []int{1, 2, 3, 4, 5, 6, 7, 8}, 7},
		{box(-edge, -edge, edge, edge), []int{1, 2, 3, 4, 5, 6, 7, 8}, 7},
		{box(1, 1, 3, 3), []int{1, 8}, 3},
		{box(2, 2, 2, 2), nil, 3},           // in a leaf's box, but meets no item
		{box(5, 2, 5, 2), nil, 2},           // between two leaves
		{box(15, 2, 15, 2), nil, 1},         // between two knots
		{box(5, 5, 40, 40), nil, 1},         // above all
		{box(11, 0, 19, 4), nil, 1},         // just between
		{box(10, 0, 20, 4), []int{3, 4}, 5}, // just touching
		{box(4, 4, 5, 5), []int{1}, 3},      // touches at a corner
		{box(10, 4, 12, 9), []int{3}, 3},
		{box(30, 4, 30, 4), []int{7}, 3},
		{box(31, 5, 40, 9), nil, 1},
		{box(-3, -3, 0, 0), []int{8}, 3},
		{box(21, 1, 23, 3), []int{4, 5}, 3},
		{box(22, 2, 28, 2), nil, 4},
		{box(4, 2, 6, 2), nil, 4},
		{box(-9, 1, 40, 1), []int{2, 4, 6, 8}, 7},
	} {
		if got := impl.TreeFind(tree, row.b); !slices.Equal(got, row.want) {
			t.Error("found in", row.b, got)
		}
		if got := impl.TreeSeen(tree, row.b); got != row.seen {
			t.Error("seen for", row.b, got, "not", row.seen)
		}
	}
	if found, seen := impl.TreeFind(none(), box(0, 0, 0, 0)), impl.TreeSeen(none(), box(0, 0, 0, 0)); len(found) != 0 || seen != 1 {
		t.Error("in a tree of none", found, seen)
	}
	if found, seen := impl.TreeFind(leaf(spot(1, 5, 5)), box(0, 0, 0, 0)), impl.TreeSeen(leaf(spot(1, 5, 5)), box(0, 0, 0, 0)); len(found) != 0 || seen != 1 {
		t.Error("the topmost one is looked at in any case", found, seen)
	}
}

func TestTreeFindRefuses(t *testing.T) {
	for _, tree := range rightTrees() {
		for _, b := range noBoxes() {
			if found, seen := impl.TreeFind(tree, b), impl.TreeSeen(tree, b); len(found) != 0 || seen != 0 {
				t.Error("no box is looked for", b, found, seen)
			}
		}
	}
}

// areaOf is how much is in a right box.
func areaOf(b impl.Box) int { return (b.X1 - b.X0) * (b.Y1 - b.Y0) }

// putByHand is TreePut by the document's words: the one or two knots that stand in t's place.
func putByHand(t impl.Knot, it impl.Item) []impl.Knot {
	if t.Leaf {
		items := append(slices.Clone(t.Items), it)
		if len(items) <= 4 {
			return []impl.Knot{leaf(items...)}
		}
		sort.Slice(items, func(i, j int) bool {
			a, b := items[i], items[j]
			return slices.Compare(middle(a.Box, a.Id), middle(b.Box, b.Id)) < 0
		})
		return []impl.Knot{leaf(items[:3]...), leaf(items[3:]...)}
	}
	var order [][3]int
	for i, kid := range t.Kids {
		order = append(order, [3]int{areaOf(hull([]impl.Box{kid.Box, it.Box})) - areaOf(kid.Box), areaOf(kid.Box), i})
	}
	into := slices.MinFunc(order, func(a, b [3]int) int { return slices.Compare(a[:], b[:]) })[2]
	kids := slices.Concat(t.Kids[:into], putByHand(t.Kids[into], it), t.Kids[into+1:])
	if len(kids) <= 4 {
		return []impl.Knot{over(kids...)}
	}
	places := make([]int, len(kids))
	for i := range places {
		places[i] = i
	}
	slices.SortFunc(places, func(i, j int) int { return slices.Compare(middle(kids[i].Box, i), middle(kids[j].Box, j)) })
	var sorted []impl.Knot
	for _, i := range places {
		sorted = append(sorted, kids[i])
	}
	return []impl.Knot{over(sorted[:3]...), over(sorted[3:]...)}
}

func middle(b impl.Box, last int) []int { return []int{b.X0 + b.X1, b.Y0 + b.Y1, last} }

func treeByHand(items []impl.Item) impl.Knot {
	t := none()
	for _, it := range items {
		knots := putByHand(t, it)
		if len(knots) == 1 {
			t = knots[0]
		} else {
			t = over(knots...)
		}
	}
	return t
}

// TestTreesOfChance puts and cuts, and holds each tree against the one that is worked out by hand.
func TestTreesOfChance(t *testing.T) {
	for round, reach := range []int{0, 1, 2, 4, 9, 60, edge} {
		s := &steps{state: uint64(round + 1)}
		tree := none()
		for step := range 220 {
			before := impl.TreeItems(tree)
			if len(before) > 0 && s.below(9) == 0 {
				id := before[s.below(len(before))].Id
				rest := slices.DeleteFunc(slices.Clone(before), func(it impl.Item) bool { return it.Id == id })
				cut, ok := impl.TreeCut(tree, id)
				if !ok || !sameTree(cut, treeByHand(rest)) {
					t.Fatal("cut", reach, step, ok)
				}
				tree = cut
			} else {
				it := impl.Item{Id: s.between(-300, 300), Box: s.box(reach)}
				put, ok := impl.TreePut(tree, it)
				if ok == slices.Contains(ids(before), it.Id) {
					t.Fatal("put", reach, step, ok)
				}
				if ok && !sameTree(put, oneKnot(putByHand(tree, it))) {
					t.Fatal("put", reach, step, it)
				}
				tree = put
			}
			if !impl.TreeOk(tree) || impl.TreeDepth(tree) != wayDown(tree) {
				t.Fatal("not right any more", reach, step)
			}
			checkLook(t, tree, s.box(reach))
			p := s.point(reach)
			checkLook(t, tree, box(p.X, p.Y, p.X, p.Y))
		}
	}
}

func oneKnot(list []impl.Knot) impl.Knot {
	if len(list) == 1 {
		return list[0]
	}
	return over(list...)
}

// TestTreesUpToTheMost fills a tree, in order and against it, and empties it again.
func TestTreesUpToTheMost(t *testing.T) {
	for _, way := range []func(i int) impl.Item{
		func(i int) impl.Item { return spot(i, i, 0) },
		func(i int) impl.Item { return spot(-i, -i, i) },
		func(i int) impl.Item { return spot(i*7%401, 0, 0) },
		func(i int) impl.Item { return item(i, -i, -i, i, i) },
	} {
		tree := none()
		var all []impl.Item
		for i := range itemsMost {
			tree = putInto(t, tree, way(i))
			all = append(all, way(i))
		}
		if !sameTree(tree, treeByHand(all)) {
			t.Error("filled")
		}
		checkRefused(t, tree, spot(5000, 0, 0), 5000)
		sorted := slices.SortedFunc(slices.Values(impl.TreeItems(tree)), func(a, b impl.Item) int { return cmp.Compare(a.Id, b.Id) })
		slices.SortFunc(all, func(a, b impl.Item) int { return cmp.Compare(a.Id, b.Id) })
		if !slices.Equal(sorted, all) {
			t.Error("not all are there")
		}
		for left := itemsMost; left > 0; left-- {
			items := impl.TreeItems(tree)
			cut, ok := impl.TreeCut(tree, items[left/2].Id)
			if !ok || len(impl.TreeItems(cut)) != left-1 || !impl.TreeOk(cut) {
				t.Fatal("emptied", left, ok)
			}
			tree = cut
		}
		if !sameTree(tree, none()) {
			t.Error("nothing is left", tree)
		}
	}
}

// roomy is t with spare room behind each list, in which marks stand.
func roomy(t impl.Knot, down int) impl.Knot {
	t.Items = append(slices.Clone(t.Items), markItem(), markItem(), markItem())[:len(t.Items)]
	kids := make([]impl.Knot, 0, len(t.Kids)+2)
	for _, kid := range t.Kids {
		if down > 0 {
			kids = append(kids, roomy(kid, down-1))
		}
	}
	t.Kids = append(kids, markKnot(), markKnot())[:len(kids)]
	return t
}

func markItem() impl.Item { return item(4242, 4, 2, 4, 2) }

func markKnot() impl.Knot { return impl.Knot{Box: box(4, 2, 4, 2), Leaf: true} }

func roomKept(t impl.Knot) bool {
	for _, it := range t.Items[len(t.Items) : len(t.Items)+3] {
		if it != markItem() {
			return false
		}
	}
	for _, kid := range t.Kids[len(t.Kids) : len(t.Kids)+2] {
		if !sameTree(kid, markKnot()) {
			return false
		}
	}
	for _, kid := range t.Kids {
		if !roomKept(kid) {
			return false
		}
	}
	return true
}

// places are where the items and kids of t stand, spare room included; one that stands twice is told by false.
func places(t impl.Knot, items map[*impl.Item]bool, kids map[*impl.Knot]bool) bool {
	apart := true
	for i := range t.Items[:cap(t.Items)] {
		place := &t.Items[:cap(t.Items)][i]
		apart = apart && !items[place]
		items[place] = true
	}
	for i := range t.Kids[:cap(t.Kids)] {
		place := &t.Kids[:cap(t.Kids)][i]
		apart = apart && !kids[place]
		kids[place] = true
	}
	for _, kid := range t.Kids {
		apart = places(kid, items, kids) && apart
	}
	return apart
}

func TestTreesShareNothing(t *testing.T) {
	for i, tree := range append(rightTrees(), wrongTrees()...) {
		arg := roomy(tree, 30)
		kept := cutTree(arg, 30)
		put, _ := impl.TreePut(arg, spot(777, 1, 1))
		refused, _ := impl.TreePut(arg, impl.Item{Id: 777, Box: box(1, 1, 0, 0)})
		none, _ := impl.TreeCut(arg, 777)
		answers := []impl.Knot{put, refused, none}
		items := impl.TreeItems(arg)
		for _, it := range items[:min(3, len(items))] {
			cut, _ := impl.TreeCut(arg, it.Id)
			answers = append(answers, cut)
		}
		impl.TreeOk(arg)
		impl.TreeDepth(arg)
		impl.TreeFind(arg, box(0, 0, 5, 5))
		impl.TreeSeen(arg, box(0, 0, 5, 5))
		if !sameTree(arg, kept) || !roomKept(arg) {
			t.Error("an argument is written into", i)
		}
		itemPlaces, kidPlaces := map[*impl.Item]bool{}, map[*impl.Knot]bool{}
		places(arg, itemPlaces, kidPlaces)
		for _, answer := range append(answers, impl.Knot{Items: items}) {
			if !places(answer, itemPlaces, kidPlaces) {
				t.Error("an answer shares memory", i)
			}
		}
	}
}

// TestTreeWaysEndEarly asks for answers on trees that could not be looked through as a whole.
func TestTreeWaysEndEarly(t *testing.T) {
	for n := 2; n <= 4; n++ {
		wide := endless(n)
		if impl.TreeOk(wide) || impl.TreeDepth(wide) != 0 || impl.TreeSeen(wide, box(0, 0, 9, 9)) != 0 || len(impl.TreeFind(wide, box(0, 0, 9, 9))) != 0 {
			t.Error("without end, each with", n)
		}
		if impl.TreeOk(over(pair(0), wide)) || impl.TreeOk(over(wide, pair(0))) || impl.TreeOk(over(over(pair(0), pair(2)), wide)) {
			t.Error("without end beside a leaf, each with", n)
		}
	}
	// All leaves equally deep, all boxes right, each knot shared by those above it.
	kid := leaf(spots(4)...)
	for depth := 2; depth <= 60; depth++ {
		kid = over(kid, kid, kid, kid)
		if impl.TreeOk(kid) {
			t.Error("one Id stands often", depth)
		}
	}
}
