package tests

import (
	"cmp"
	"math"
	"slices"
	"testing"

	"loop.example/g00229/impl"
)

const levelTop = 4

func count(key, n int) impl.Count { return impl.Count{Key: key, N: n} }

// counts are told by Key and N, one behind the other.
func counts(pairs ...int) []impl.Count {
	var list []impl.Count
	for i := 0; i+1 < len(pairs); i += 2 {
		list = append(list, count(pairs[i], pairs[i+1]))
	}
	return list
}

// keyOf is the key of a tile, put together bit by bit.
func keyOf(one impl.Tile) int { return 16*wovenOf(one.Col, one.Row) + one.Level }

// countsOf are those of tiles, each of which has n, ascending.
func countsOf(n int, lists ...[]impl.Tile) []impl.Count {
	var list []impl.Count
	for _, one := range slices.Concat(lists...) {
		list = append(list, count(keyOf(one), n))
	}
	return ascending(list)
}

func ascending(list []impl.Count) []impl.Count {
	out := slices.Clone(list)
	slices.SortFunc(out, func(a, b impl.Count) int { return cmp.Compare(a.Key, b.Key) })
	return out
}

// topTiles are all tiles of which there may be a count.
func topTiles() []impl.Tile {
	var list []impl.Tile
	for level := range levelTop + 1 {
		list = append(list, allTiles(level)...)
	}
	return list
}

// tilesUpTo are the tiles of a shape of all levels that are counted.
func tilesUpTo(s impl.Shape) []impl.Tile {
	var list []impl.Tile
	for level := range levelTop + 1 {
		list = append(list, impl.TilesOf(s, level)...)
	}
	return list
}

// keysUpTo are the keys of the tiles of a shape, ascending.
func keysUpTo(s impl.Shape) []int {
	var list []int
	for _, one := range tilesUpTo(s) {
		list = append(list, keyOf(one))
	}
	slices.Sort(list)
	return list
}

func TestPyramidsThatAreRight(t *testing.T) {
	if impl.TopLevel != levelTop {
		t.Error("constant")
	}
	var all []int
	for _, one := range topTiles() {
		all = append(all, keyOf(one), one.Col+1)
		if !impl.PyramidOk(counts(keyOf(one), 1)) || !impl.PyramidOk(counts(keyOf(one), math.MaxInt)) {
			t.Error("a tile is refused", one)
		}
	}
	for i, p := range [][]impl.Count{
		nil, {}, // no count
		counts(0, 1), counts(0, math.MaxInt), counts(1, 2), counts(4, 1), counts(16*255+4, 1), // one
		counts(0, 1, 1, 1), counts(0, 7, 4, 1, 16*255+4, math.MaxInt), counts(1, 3, 17, 1, 33, 2, 49, 9), counts(3, 1, 17, 1, 18, 1, 19, 1, 20, 1, 33, 1),
		ascending(counts(all...)), ascending(counts(all...))[7:300],
	} {
		if !impl.PyramidOk(p) {
			t.Error("right counts are refused", i)
		}
	}
	if list := ascending(counts(all...)); len(list) != 341 {
		t.Error("tiles", len(list))
	}
}

// noKeys are the keys of no tile of a level that is counted.
func noKeys() []int {
	list := []int{-1, -2, -15, -16, -17, -32, -256, 5, 6, 7, 8, 9, 10, 15, 21, 16, 32, 48, 16 * 255, 65, 81, 1025, 16*16 + 2, 16*64 + 3, 16*256 + 4, 16*257 + 4, 16*65535 + 8, 16*65536 + 8, 16*65536 + 4}
	for _, far := range []int{1 << 32, 1 << 36, 1<<36 + 4, 1<<36 - 12, 1<<40 + 1, 1 << 62, math.MaxInt} {
		// Too far to be woven of a column and a row, and where only some of its bits were looked at, a tile.
		list = append(list, far, -far, far-far%16+4, -far+far%16-4)
	}
	for level := levelTop + 1; level <= levelMost; level++ {
		last := 1<<level - 1
		for _, one := range tiles(level, 0, 0, last, last, last, 0, 0, last, last/2, last/3) {
			list = append(list, keyOf(one))
		}
	}
	return append(list, farInts...)
}

// wrongPyramids are not right, each for one reason.
func wrongPyramids() [][]impl.Count {
	list := [][]impl.Count{
		counts(0, 1, 0, 1), counts(0, 1, 0, 2), counts(17, 1, 17, 1), counts(0, 1, 17, 1, 17, 2, 33, 1), counts(0, 1, 17, 1, 33, 2, 33, 2), // two Keys alike
		counts(1, 1, 0, 1), counts(17, 1, 1, 1), counts(0, 1, 17, 1, 1, 1), counts(0, 1, 1, 1, 33, 1, 17, 1), counts(49, 1, 33, 1, 17, 1, 1, 1), counts(0, 1, 17, 1, 0, 1), // Keys that descend
	}
	for _, n := range []int{0, -1, -2, math.MinInt, math.MinInt + 1, -1 << 32} {
		list = append(list, counts(0, n), counts(17, n), counts(0, 1, 1, n), counts(0, n, 1, 1), counts(0, 1, 1, n, 17, 1))
	}
	for _, key := range noKeys() {
		list = append(list, counts(key, 1), ascending(counts(0, 1, key, 1)), ascending(counts(0, 1, key, 1, 16*255+4, 1)))
	}
	return list
}

func TestPyramidsThatAreNot(t *testing.T) {
	for _, p := range wrongPyramids() {
		if impl.PyramidOk(p) {
			t.Error("wrong counts are taken", p)
		}
	}
}

// TestPyramidOkOfEachKey holds each key against those of all tiles.
func TestPyramidOkOfEachKey(t *testing.T) {
	known := map[int]bool{}
	for _, one := range topTiles() {
		known[keyOf(one)] = true
	}
	for key := -5000; key <= 20000; key++ {
		if impl.PyramidOk(counts(key, 1)) != known[key] {
			t.Fatal("key", key, known[key])
		}
	}
}

func checkOf(t *testing.T, r impl.Rows, at int, want []impl.Count) {
	t.Helper()
	if got := impl.PyramidOf(r, at); !slices.Equal(got, want) || !impl.PyramidOk(got) {
		t.Error("counted", r.Now, at, got, "and not", want)
	}
}

// pyramidCases are shapes with the tiles that they have of levels 0 .. 4.
func pyramidCases() []struct {
	s    impl.Shape
	want [][]impl.Tile
} {
	whole := [][]impl.Tile{allTiles(0), allTiles(1), allTiles(2), allTiles(3), allTiles(4)}
	midst := [][]impl.Tile{allTiles(0), area(1, 0, 0, 1, 1), area(2, 1, 1, 2, 2), area(3, 3, 3, 4, 4), area(4, 7, 7, 8, 8)}
	one := [][]impl.Tile{tiles(0, 0, 0), tiles(1, 1, 1), tiles(2, 2, 2), tiles(3, 4, 4), tiles(4, 8, 8)}
	return []struct {
		s    impl.Shape
		want [][]impl.Tile
	}{
		// each kind, in one tile of each level
		{dot(5, 5), one}, {line(1, 1, 200, 90, 3, 255), one}, {rect(0, 0, 4095, 4095), one}, {poly(0, 0, 4095, 0, 4095, 4095), one}, {rect(7, 7, 7, 7), one},
		{dot(-1, 0), [][]impl.Tile{tiles(0, 0, 0), tiles(1, 0, 1), tiles(2, 1, 2), tiles(3, 3, 4), tiles(4, 7, 8)}},
		// on the border between tiles
		{rect(-1, -1, 0, 0), midst}, {poly(-1, -1, 0, -1, 0, 0, -1, 0), midst},
		{line(-1, 0, 0, 0), [][]impl.Tile{allTiles(0), tiles(1, 0, 1, 1, 1), tiles(2, 1, 2, 2, 2), tiles(3, 3, 4, 4, 4), tiles(4, 7, 8, 8, 8)}},
		{line(-1, 0, 0, -1), [][]impl.Tile{allTiles(0), tiles(1, 1, 0, 0, 1), tiles(2, 2, 1, 1, 2), tiles(3, 4, 3, 3, 4), tiles(4, 8, 7, 7, 8)}},
		{rect(0, 0, 4096, 4095), [][]impl.Tile{tiles(0, 0, 0), tiles(1, 1, 1), tiles(2, 2, 2), tiles(3, 4, 4), tiles(4, 8, 8, 9, 8)}},
		{rect(0, 0, 8191, 8192), [][]impl.Tile{tiles(0, 0, 0), tiles(1, 1, 1), tiles(2, 2, 2), tiles(3, 4, 4, 4, 5), area(4, 8, 8, 9, 10)}},
		// of many tiles
		{rect(-edge, -edge, edge, edge), whole}, {poly(-edge, -edge, edge, -edge, edge, edge, -edge, edge), whole},
		{line(-edge, -edge, edge, edge), [][]impl.Tile{allTiles(0), tiles(1, 0, 0, 1, 1), tiles(2, 0, 0, 1, 1, 2, 2, 3, 3), tiles(3, 0, 0, 1, 1, 2, 2, 3, 3, 4, 4, 5, 5, 6, 6, 7, 7), tiles(4, 0, 0, 1, 1, 2, 2, 3, 3, 4, 4, 5, 5, 6, 6, 7, 7, 8, 8, 9, 9, 10, 10, 11, 11, 12, 12, 13, 13, 14, 14, 15, 15)}},
		// at the bounds of the coordinates
		{dot(edge, edge), [][]impl.Tile{tiles(0, 0, 0), tiles(1, 1, 1), tiles(2, 3, 3), tiles(3, 7, 7), tiles(4, 15, 15)}},
		{dot(-edge, edge), [][]impl.Tile{tiles(0, 0, 0), tiles(1, 0, 1), tiles(2, 0, 3), tiles(3, 0, 7), tiles(4, 0, 15)}},
		{line(-edge, -edge, edge, -edge), [][]impl.Tile{tiles(0, 0, 0), area(1, 0, 0, 1, 0), area(2, 0, 0, 3, 0), area(3, 0, 0, 7, 0), area(4, 0, 0, 15, 0)}},
		{rect(edge, -edge, edge, edge), [][]impl.Tile{tiles(0, 0, 0), area(1, 1, 0, 1, 1), area(2, 3, 0, 3, 3), area(3, 7, 0, 7, 7), area(4, 15, 0, 15, 15)}},
	}
}

func TestPyramidOfTells(t *testing.T) {
	for _, at := range []int{-1, 0, 1, 7, math.MinInt, math.MaxInt} {
		checkOf(t, impl.Rows{}, at, nil)
		checkOf(t, rows(7), at, nil)
	}
	checkOf(t, rows(1, row(3, 1, 0, dot(5, 5))), 1, counts(0, 1, 49, 1, 194, 1, 16*48+3, 1, 16*192+4, 1))
	for _, c := range pyramidCases() {
		checkOf(t, rows(4, row(3, 2, 0, c.s)), 2, countsOf(1, c.want...))
		checkOf(t, rows(4, row(3, 2, 0, c.s), row(2, 4, 0, c.s), row(1, 1, 4, c.s)), 3, countsOf(2, c.want...))
	}
	// several shapes, with some tiles in common
	r := rows(1, row(1, 1, 0, dot(5, 5)), row(2, 1, 0, line(-1, 5, 5, 5)), row(3, 1, 0, dot(-1, -1)), row(4, 1, 0, rect(6, 6, 7, 7)))
	checkOf(t, r, 1, ascending(counts(0, 4, 1, 1, 33, 1, 49, 3,
		keyOf(tile(2, 1, 1)), 1, keyOf(tile(2, 1, 2)), 1, keyOf(tile(2, 2, 2)), 3,
		keyOf(tile(3, 3, 3)), 1, keyOf(tile(3, 3, 4)), 1, keyOf(tile(3, 4, 4)), 3,
		keyOf(tile(4, 7, 7)), 1, keyOf(tile(4, 7, 8)), 1, keyOf(tile(4, 8, 8)), 3)))
}

// ofByHand asks of each tile and each row whether they meet.
func ofByHand(r impl.Rows, at int) []impl.Count {
	var list []impl.Count
	for _, one := range topTiles() {
		n := 0
		for _, each := range r.List {
			if isThere(each, at) && impl.TileMeets(one, each.Shape) {
				n++
			}
		}
		if n > 0 {
			list = append(list, count(keyOf(one), n))
		}
	}
	return ascending(list)
}

func TestPyramidOfAtEachMoment(t *testing.T) {
	// no shape is there at a moment ahead of the first, and what has no end is there behind Now
	r := history()
	for at, ids := range [][]int{nil, {9}, {3, 9}, {3, 9}, {3, 4}, {3, 4}, {3, 4}, {3, 4}, {3, 4, 6}, {3, 4, 9}, {3, 4, 9}} {
		var want []impl.Count
		if len(ids) > 0 {
			want = countsOf(len(ids), tiles(0, 0, 0), tiles(1, 1, 1), tiles(2, 2, 2), tiles(3, 4, 4), tiles(4, 8, 8))
		}
		checkOf(t, r, at, want)
	}
	for _, at := range []int{-1, -9, math.MinInt} {
		checkOf(t, r, at, nil)
	}
	for _, at := range []int{10, 1000, math.MaxInt} {
		checkOf(t, r, at, impl.PyramidOf(r, 9))
	}
	for _, r := range rightRows() {
		moments := []int{0, 1, r.Now, math.MaxInt}
		for i, one := range r.List {
			if i%60 < 3 {
				moments = append(moments, one.From, one.To)
			}
		}
		slices.Sort(moments)
		for _, at := range slices.Compact(moments) {
			checkOf(t, r, at, ofByHand(r, at))
		}
	}
}

func TestPyramidOfWrongRows(t *testing.T) {
	for _, r := range wrongRows() {
		for _, at := range []int{-1, 0, 1, 2, 3, 4, 5, 9, math.MaxInt} {
			checkOf(t, r, at, nil)
		}
	}
}

// spread is a shape of chance anywhere, often with corners at those of tiles.
func (s *steps) spread() impl.Shape {
	for {
		out := greater(s.shape(7), s.between(1, 8500), s.between(-edge, 500), s.between(-edge, 500))
		if s.below(2) == 0 {
			out = greater(s.shape(7), 4096, -4096*s.below(8)-s.below(2), -4096*s.below(8)-s.below(2))
		}
		for i, p := range out.Points {
			out.Points[i] = at(max(-edge, min(edge, p.X)), max(-edge, min(edge, p.Y)))
		}
		if impl.ShapeOk(out) {
			return out
		}
	}
}

func TestPyramidOfChance(t *testing.T) {
	s := &steps{111}
	for range 60 {
		r := rows(5)
		for i := range s.between(1, 9) {
			one := row(i+1, s.between(1, 5), 0, s.spread())
			if one.From < 5 && s.below(2) == 0 {
				one.To = s.between(one.From+1, 5)
			}
			r.List = append(r.List, one)
		}
		for at := range 7 {
			checkOf(t, r, at, ofByHand(r, at))
		}
	}
}

// TestPyramidOfTheSameTwice asks often, and for rows in another order: no answer hangs on how it is worked out.
func TestPyramidOfTheSameTwice(t *testing.T) {
	s := &steps{112}
	r := rows(1)
	for i := range 40 {
		r.List = append(r.List, row(i+1, 1, 0, s.spread()))
	}
	want := ofByHand(r, 1)
	for i := range 40 {
		checkOf(t, r, 1, want)
		slices.Reverse(r.List[i:])
		slices.Reverse(r.List[:i])
	}
}

func checkAdd(t *testing.T, p []impl.Count, s impl.Shape, by int, want []impl.Count) {
	t.Helper()
	if got := impl.PyramidAdd(p, s, by); !slices.Equal(got, want) {
		t.Error("added", p, s, by, got, "and not", want)
	}
}

func TestPyramidAddTells(t *testing.T) {
	five := countsOf(1, tilesUpTo(dot(5, 5)))
	for _, c := range pyramidCases() {
		once, twice := countsOf(1, c.want...), countsOf(2, c.want...)
		checkAdd(t, nil, c.s, 1, once)
		checkAdd(t, []impl.Count{}, c.s, 1, once)
		checkAdd(t, once, c.s, 1, twice)
		checkAdd(t, twice, c.s, -1, once)
		checkAdd(t, countsOf(1000000, c.want...), c.s, 1, countsOf(1000001, c.want...))
		// what comes to 0 is gone, and so is what would be below it
		checkAdd(t, once, c.s, -1, nil)
		checkAdd(t, nil, c.s, -1, nil)
		checkAdd(t, once[:len(once)/2], c.s, -1, nil)
		// some tiles are there, and some not
		half := append(slices.Clone(once[len(once)/2:]), count(16*255+4, 5))
		half = slices.CompactFunc(ascending(half), func(a, b impl.Count) bool { return a.Key == b.Key })
		checkAdd(t, half, c.s, 1, addByHand(half, c.s, 1))
		checkAdd(t, half, c.s, -1, addByHand(half, c.s, -1))
		checkAdd(t, five, c.s, 1, addByHand(five, c.s, 1))
		checkAdd(t, five, c.s, -1, addByHand(five, c.s, -1))
	}
	// in its place: ahead of, between and behind those that are there, which stay as they are
	corner := dot(-1, -1) // keys 1, 50, 243 ..
	low := keysUpTo(corner)
	others := counts(0, 3, 17, 8, 33, 1, 49, 2, 16*255+4, 9)
	checkAdd(t, others, corner, 1, ascending(append(counts(0, 4, 17, 8, 33, 1, 49, 2, 16*255+4, 9), counts(low[1], 1, low[2], 1, low[3], 1, low[4], 1)...)))
	checkAdd(t, others, corner, -1, counts(0, 2, 17, 8, 33, 1, 49, 2, 16*255+4, 9))
	checkAdd(t, counts(0, 1, 1, 2, 17, 8), corner, -1, counts(1, 1, 17, 8))
	if low[0] != 0 || low[1] != 1 || len(low) != 5 {
		t.Error("keys", low)
	}
}

// addByHand does by the document's words what PyramidAdd does to right counts.
func addByHand(p []impl.Count, s impl.Shape, by int) []impl.Count {
	sums := map[int]int{}
	for _, c := range p {
		sums[c.Key] = c.N
	}
	for _, key := range keysUpTo(s) {
		sums[key] += by
	}
	var list []impl.Count
	for key, n := range sums {
		if n > 0 {
			list = append(list, count(key, n))
		}
	}
	return ascending(list)
}

func TestPyramidAddOfChance(t *testing.T) {
	for seed := range 8 {
		s := &steps{uint64(1120 + seed)}
		var p []impl.Count
		var in []impl.Shape
		for range 120 {
			one, by := s.spread(), 1
			if len(in) > 0 && s.below(2) == 0 {
				// One that was put in, and now and then one that never was.
				by = -1
				if s.below(4) > 0 {
					i := s.below(len(in))
					one, in = in[i], slices.Delete(in, i, i+1)
				}
			} else {
				in = append(in, one)
			}
			want := addByHand(p, one, by)
			checkAdd(t, p, one, by, want)
			if !impl.PyramidOk(want) {
				t.Fatal("right counts do not stay so", seed, want)
			}
			p = want
		}
	}
}

func TestPyramidAddAndTakeBack(t *testing.T) {
	s := &steps{113}
	list := rightShapes()
	for range 100 {
		list = append(list, s.spread())
	}
	base := impl.PyramidAdd(impl.PyramidAdd(nil, rect(-9, -9, 9000, 20000), 1), line(-edge, 7, edge, edge), 1)
	for _, one := range list {
		for _, p := range [][]impl.Count{nil, base} {
			more := impl.PyramidAdd(p, one, 1)
			checkAdd(t, more, one, -1, p)
			checkOf(t, rows(1, row(1, 1, 0, one)), 1, impl.PyramidAdd(nil, one, 1))
		}
	}
}

func TestPyramidAddRefuses(t *testing.T) {
	lists := append(wrongPyramids()[:60], nil, counts(0, 1, 49, 1), countsOf(1, tilesUpTo(dot(5, 5))), countsOf(1, tilesUpTo(rect(-edge, -edge, edge, edge))))
	for _, p := range lists {
		for _, by := range append([]int{0, 2, -2, 3, 10, 255, 257, 1 << 8, 1<<32 - 1, -1<<32 - 1, 65537}, farInts...) {
			checkAdd(t, p, dot(5, 5), by, p)
			checkAdd(t, p, rect(-edge, -edge, edge, edge), by, p)
		}
		for i, s := range wrongShapes() {
			checkAdd(t, p, s, 1-2*(i%2), p)
			checkAdd(t, p, s, i%5-2, p)
		}
	}
	for _, s := range wrongShapes() {
		checkAdd(t, counts(0, 1), s, 1, counts(0, 1))
		checkAdd(t, counts(0, 1), s, -1, counts(0, 1))
	}
}

// TestPyramidAddAroundTheBounds has an N at the bounds of 64 bits: it goes around.
func TestPyramidAddAroundTheBounds(t *testing.T) {
	one := dot(5, 5)
	keys := keysUpTo(one)
	for _, key := range keys {
		rest := slices.DeleteFunc(countsOf(1, tilesUpTo(one)), func(c impl.Count) bool { return c.Key == key })
		with := func(n int) []impl.Count { return ascending(append(slices.Clone(rest), count(key, n))) }
		for _, c := range []struct{ n, by, want int }{
			{math.MaxInt - 1, 1, math.MaxInt}, {math.MaxInt, -1, math.MaxInt - 1}, {math.MinInt, -1, math.MaxInt}, {0, 1, 1},
		} {
			checkAdd(t, counts(key, c.n), one, c.by, addedTo(rest, c.by, count(key, c.want)))
		}
		for _, c := range []struct{ n, by int }{
			{math.MaxInt, 1}, {math.MinInt, 1}, {math.MinInt + 1, 1}, {math.MinInt + 1, -1}, {-1, 1}, {-1, -1}, {-2, 1}, {0, -1}, {1, -1},
		} {
			checkAdd(t, counts(key, c.n), one, c.by, addedTo(rest, c.by))
			if got := impl.PyramidAdd(with(c.n), one, c.by); slices.ContainsFunc(got, func(c impl.Count) bool { return c.Key == key }) {
				t.Error("0 or below is kept", key, c, got)
			}
		}
	}
}

// addedTo is what comes about of counts and of the rest of a shape's tiles, of which there were none.
func addedTo(rest []impl.Count, by int, list ...impl.Count) []impl.Count {
	if by > 0 {
		list = append(list, rest...)
	}
	return ascending(list)
}

// TestPyramidAddToWrongCounts hands in counts that are not right: what is not of the shape's tiles stays where it is, whatever its N.
func TestPyramidAddToWrongCounts(t *testing.T) {
	one := dot(5, 5) // keys 0, 49, 194, 771, 3076
	k := keysUpTo(one)
	if !slices.Equal(k, []int{0, 49, 194, 771, 3076}) {
		t.Fatal("keys", k)
	}
	for _, c := range []struct {
		p    []impl.Count
		by   int
		want []impl.Count
	}{
		// N of 0 or below
		{counts(1, 0, 17, -5, 33, math.MinInt), -1, counts(1, 0, 17, -5, 33, math.MinInt)},
		{counts(1, 0, 17, -5, 50, math.MinInt), 1, counts(0, 1, 1, 0, 17, -5, 49, 1, 50, math.MinInt, 194, 1, 771, 1, 3076, 1)},
		{counts(0, 0, 1, 0, 49, -1, 50, -1, 194, -7), 1, counts(0, 1, 1, 0, 50, -1, 771, 1, 3076, 1)},
		{counts(0, 0, 1, 0, 49, -1, 50, -1, 194, 7), -1, counts(1, 0, 50, -1, 194, 6)},
		// in any order
		{counts(3076, 3, 33, 1, 194, 3, 17, 1, 771, 3, 0, 3, 1, 1, 49, 3), 1, counts(3076, 4, 33, 1, 194, 4, 17, 1, 771, 4, 0, 4, 1, 1, 49, 4)},
		{counts(3076, 3, 33, 1, 194, 1, 17, 1, 771, 3, 0, 1, 1, 1, 49, 3), -1, counts(3076, 2, 33, 1, 17, 1, 771, 2, 1, 1, 49, 2)},
		{counts(33, 1, 17, 1, 1, 1), -1, counts(33, 1, 17, 1, 1, 1)},
		{counts(33, 1, 17, 1, 1, 1), 1, counts(0, 1, 33, 1, 17, 1, 1, 1, 49, 1, 194, 1, 771, 1, 3076, 1)},
		{counts(60, 1, 17, 1, 4000, 1, 1, 1), 1, counts(0, 1, 49, 1, 60, 1, 17, 1, 194, 1, 771, 1, 3076, 1, 4000, 1, 1, 1)},
		// Keys twice: the first one is that of the tile
		{counts(1, 2, 1, 2, 1, 3), -1, counts(1, 2, 1, 2, 1, 3)},
		{counts(1, 2, 1, 0, 17, 4, 17, 4), 1, counts(0, 1, 1, 2, 1, 0, 17, 4, 17, 4, 49, 1, 194, 1, 771, 1, 3076, 1)},
		{counts(0, 2, 0, 5), -1, counts(0, 1, 0, 5)},
		{counts(0, 1, 0, 5), -1, counts(0, 5)},
		{counts(0, 2, 1, 1, 0, 5, 49, 1, 49, 0, 194, 1, 771, 1, 3076, 1), 1, counts(0, 3, 1, 1, 0, 5, 49, 2, 49, 0, 194, 2, 771, 2, 3076, 2)},
		// Keys of no tile, and of tiles too deep
		{counts(-1, 4, -16, 0, 5, 2, 16, 1, 1<<40, 1), -1, counts(-1, 4, -16, 0, 5, 2, 16, 1, 1<<40, 1)},
		{counts(-1, 4, -16, 0, 5, 2, 48, 1, 1<<40, 1), 1, counts(-1, 4, -16, 0, 0, 1, 5, 2, 48, 1, 49, 1, 194, 1, 771, 1, 3076, 1, 1<<40, 1)},
		{counts(math.MinInt, 1, math.MaxInt, 1), 1, counts(math.MinInt, 1, 0, 1, 49, 1, 194, 1, 771, 1, 3076, 1, math.MaxInt, 1)},
		{counts(-16, 9, 1<<36, 9, 1<<40, 9), -1, counts(-16, 9, 1<<36, 9, 1<<40, 9)},
	} {
		checkAdd(t, c.p, one, c.by, c.want)
	}
	for _, key := range noKeys() {
		checkAdd(t, counts(key, 7), one, -1, counts(key, 7))
		checkAdd(t, counts(key, 0), one, 1, ascending(append(counts(key, 0), countsOf(1, tilesUpTo(one))...)))
	}
}

// TestPyramidAddLeavesOthers looks at counts of chance, right or not, for what is not of a shape's tiles and for what is.
func TestPyramidAddLeavesOthers(t *testing.T) {
	s := &steps{114}
	all := topTiles()
	for range 3000 {
		one, by := s.spread(), 1-2*s.below(2)
		own := keysUpTo(one)
		isOwn := func(c impl.Count) bool { return slices.Contains(own, c.Key) }
		var p []impl.Count
		for range s.below(30) {
			key := keyOf(all[s.below(len(all))])
			switch s.below(4) {
			case 0:
				key = own[s.below(len(own))]
			case 1:
				key = s.between(-40, 900)
			}
			p = append(p, count(key, s.between(-2, 3)))
		}
		got := impl.PyramidAdd(p, one, by)
		left, stay := slices.DeleteFunc(slices.Clone(got), isOwn), slices.DeleteFunc(slices.Clone(p), isOwn)
		if !slices.Equal(left, stay) {
			t.Fatal("others do not stay", p, one, by, got)
		}
		for _, key := range own {
			first := slices.IndexFunc(p, func(c impl.Count) bool { return c.Key == key })
			var want []int
			if first < 0 {
				want = append(want, by)
			}
			for i, c := range p {
				if c.Key == key && i == first {
					want = append(want, c.N+by)
				} else if c.Key == key {
					want = append(want, c.N)
				}
			}
			if want[0] <= 0 {
				want = want[1:]
			}
			var have []int
			for _, c := range got {
				if c.Key == key {
					have = append(have, c.N)
				}
			}
			if !slices.Equal(have, want) {
				t.Fatal("a tile of the shape", p, one, by, key, have, want)
			}
		}
	}
}

func checkStep(t *testing.T, p []impl.Count, r impl.Rows, want []impl.Count) {
	t.Helper()
	if got := impl.PyramidStep(p, r); !slices.Equal(got, want) {
		t.Error("stepped", r, p, got, "and not", want)
	}
}

func TestPyramidStepTells(t *testing.T) {
	here, there, wide := dot(5, 5), dot(-1, -1), line(-1, 5, 5, 5)
	of := func(list ...impl.Shape) []impl.Count {
		var p []impl.Count
		for _, s := range list {
			p = addByHand(p, s, 1)
		}
		return p
	}
	for _, c := range []struct {
		p    []impl.Count
		r    impl.Rows
		want []impl.Count
	}{
		// one begins, one ends
		{nil, rows(1, row(3, 1, 0, here)), of(here)},
		{of(there), rows(4, row(3, 4, 0, here), row(7, 1, 0, there)), of(there, here)},
		{of(there, here), rows(4, row(3, 2, 4, here), row(7, 1, 0, there)), of(there)},
		{of(here), rows(4, row(3, 2, 4, here)), nil},
		// several begin, and end
		{nil, rows(1, row(3, 1, 0, here), row(1, 1, 0, here), row(2, 1, 0, wide)), of(here, here, wide)},
		{of(here, wide, here), rows(2, row(3, 1, 2, here), row(1, 1, 0, here), row(2, 1, 2, wide)), of(here)},
		{of(here), rows(2, row(3, 1, 2, here), row(1, 2, 0, here)), of(here)},
		{of(here), rows(2, row(3, 2, 0, there), row(5, 1, 2, here)), of(there)},
		// one is changed for another, in other tiles, in some of the same, in the same
		{of(here), rows(2, row(3, 1, 2, here), row(3, 2, 0, there)), of(there)},
		{of(here), rows(2, row(3, 2, 0, there), row(3, 1, 2, here)), of(there)},
		{of(here), rows(2, row(3, 1, 2, here), row(3, 2, 0, wide)), of(wide)},
		{of(wide), rows(2, row(3, 1, 2, wide), row(3, 2, 0, here)), of(here)},
		{of(here), rows(2, row(3, 1, 2, here), row(3, 2, 0, here)), of(here)},
		{of(here, there), rows(9, row(3, 2, 9, here), row(4, 3, 9, there), row(4, 9, 0, here), row(3, 9, 0, there)), of(here, there)},
		{of(here, wide, wide), rows(9, row(3, 2, 9, here), row(4, 3, 9, wide), row(4, 9, 0, there), row(3, 9, 0, wide), row(8, 1, 0, wide)), of(wide, wide, there)},
		// nothing is changed at Now
		{of(here), rows(3, row(3, 1, 0, here)), of(here)},
		{of(here), rows(3, row(3, 2, 0, here), row(4, 1, 2, wide)), of(here)},
		{nil, rows(3, row(3, 1, 2, here)), nil},
		{of(wide), rows(3), of(wide)},
		{of(wide), impl.Rows{}, of(wide)},
		{nil, impl.Rows{}, nil},
		{of(wide), rows(math.MaxInt), of(wide)},
		{of(here), rows(math.MaxInt, row(3, math.MaxInt, 0, there), row(3, 1, math.MaxInt, here)), of(there)},
	} {
		checkStep(t, c.p, c.r, c.want)
		back := copyRows(c.r)
		slices.Reverse(back.List)
		checkStep(t, c.p, back, c.want)
	}
}

// TestPyramidStepInOrder has counts that are not those of the rows, so that more ahead of less is not the same as less ahead of more.
func TestPyramidStepInOrder(t *testing.T) {
	here, near, there := dot(5, 5), dot(6, 6), dot(-1, -1)
	one := countsOf(1, tilesUpTo(here))
	top := counts(0, 1)
	for _, c := range []struct {
		p    []impl.Count
		r    impl.Rows
		want []impl.Count
	}{
		// less for the old one, which is not counted, and then more for the new one
		{nil, rows(2, row(3, 1, 2, here), row(3, 2, 0, near)), one},
		{nil, rows(2, row(3, 2, 0, near), row(3, 1, 2, here)), one},
		{countsOf(math.MaxInt, tilesUpTo(here)), rows(2, row(3, 1, 2, here), row(3, 2, 0, near)), countsOf(math.MaxInt, tilesUpTo(here))},
		{countsOf(-1, tilesUpTo(here)), rows(2, row(3, 1, 2, here), row(3, 2, 0, near)), one},
		{countsOf(math.MinInt, tilesUpTo(here)), rows(2, row(3, 1, 2, here), row(3, 2, 0, near)), nil},
		// by Id: the lesser one goes, the greater one comes, and the other way round
		{nil, rows(2, row(3, 1, 2, here), row(4, 2, 0, near)), one},
		{nil, rows(2, row(4, 2, 0, near), row(3, 1, 2, here)), one},
		{nil, rows(2, row(4, 1, 2, here), row(3, 2, 0, near)), nil},
		{nil, rows(2, row(3, 2, 0, near), row(4, 1, 2, here)), nil},
		{countsOf(math.MaxInt, tilesUpTo(here)), rows(2, row(4, 1, 2, here), row(3, 2, 0, near)), nil},
		// the old one of the second Id takes the new one of the first away
		{nil, rows(2, row(3, 1, 2, here), row(3, 2, 0, here), row(4, 1, 2, here), row(4, 2, 0, there)), ascending(append(top, countsOf(1, tilesUpTo(there))[1:]...))},
		{nil, rows(2, row(3, 1, 2, here), row(3, 2, 0, there), row(4, 1, 2, here), row(4, 2, 0, here)), countsOf(1, append(tilesUpTo(there), tilesUpTo(here)[1:]...))},
	} {
		checkStep(t, c.p, c.r, c.want)
		checkStep(t, c.p, c.r, stepByHand(c.p, c.r))
	}
	// counts in any order: others stay where they are
	checkStep(t, counts(33, -1, 17, 0, 49, 1, 0, 1, 1, 4), rows(2, row(3, 1, 2, here)), counts(33, -1, 17, 0, 1, 4))
}

// stepByHand does as the document says, one PyramidAdd behind the other.
func stepByHand(p []impl.Count, r impl.Rows) []impl.Count {
	for _, c := range impl.Between(r, r.Now) {
		if was, ok := impl.RowAt(r, c.Id, r.Now-1); ok {
			p = impl.PyramidAdd(p, was, -1)
		}
		if is, ok := impl.RowAt(r, c.Id, r.Now); ok {
			p = impl.PyramidAdd(p, is, 1)
		}
	}
	return p
}

func TestPyramidStepOfAllRows(t *testing.T) {
	lists := [][]impl.Count{nil, counts(0, 1, 49, 3), counts(49, 2, 0, 0, 49, 1, -7, 3, 33, -3), countsOf(1, tilesUpTo(rect(-edge, -edge, edge, edge)))}
	for _, p := range lists {
		for _, r := range append(rightRows(), history()) {
			checkStep(t, p, r, stepByHand(p, r))
		}
		for _, r := range wrongRows() {
			checkStep(t, p, r, p)
		}
	}
	for _, p := range wrongPyramids() {
		checkStep(t, p, rows(0, row(3, 1, 0, dot(1, 1))), p)
		checkStep(t, p, rows(2, row(3, 1, 0, dot(1, 1))), p)
		checkStep(t, p, history(), stepByHand(p, history()))
	}
}

func TestPyramidGetTells(t *testing.T) {
	p := impl.PyramidOf(rows(1, row(1, 1, 0, dot(5, 5)), row(2, 1, 0, line(-1, 5, 5, 5))), 1)
	for _, c := range []struct {
		one  impl.Tile
		want int
	}{
		{tile(0, 0, 0), 2}, {tile(1, 1, 1), 2}, {tile(1, 0, 1), 1}, {tile(1, 0, 0), 0}, {tile(1, 1, 0), 0}, {tile(2, 2, 2), 2}, {tile(2, 1, 2), 1}, {tile(2, 2, 1), 0},
		{tile(4, 8, 8), 2}, {tile(4, 7, 8), 1}, {tile(4, 8, 7), 0}, {tile(5, 16, 16), 0}, {tile(8, 128, 128), 0},
	} {
		if got := impl.PyramidGet(p, c.one); got != c.want {
			t.Error("count", c.one, got)
		}
	}
	for i, one := range topTiles() {
		list := counts(keyOf(one), 5+i)
		if impl.PyramidGet(list, one) != 5+i || impl.PyramidGet(nil, one) != 0 || impl.PyramidGet(slices.Concat(counts(keyOf(one)-16, 3, keyOf(one)+16, 4), list), one) != 5+i {
			t.Fatal("count", one)
		}
	}
	// counts that are not right: the first one of a tile tells
	wrong := counts(49, 7, 0, 0, 17, -4, 49, 8, 1, math.MinInt, 5, 6, 33, math.MaxInt, keyOf(tile(8, 255, 255)), 12)
	for _, c := range []struct {
		one  impl.Tile
		want int
	}{
		{tile(1, 1, 1), 7}, {tile(0, 0, 0), 0}, {tile(1, 1, 0), -4}, {tile(1, 0, 0), math.MinInt}, {tile(1, 0, 1), math.MaxInt}, {tile(5, 0, 0), 6}, {tile(8, 255, 255), 12}, {tile(2, 0, 0), 0},
	} {
		if got := impl.PyramidGet(wrong, c.one); got != c.want {
			t.Error("count of wrong ones", c.one, got)
		}
	}
}

func TestPyramidGetOfNoTile(t *testing.T) {
	all := countsOf(3, topTiles())
	for _, key := range noKeys() {
		all = append(all, count(key, 4))
	}
	// -1 is what TileKey tells of no tile: a count under it is of none either.
	for _, p := range [][]impl.Count{nil, all, counts(-1, 9), counts(-1, 9, 0, 1)} {
		for _, no := range noTiles() {
			if got := impl.PyramidGet(p, no); got != 0 {
				t.Error("count of no tile", no, got)
			}
		}
	}
	for _, c := range []struct {
		key int
		no  impl.Tile
	}{
		{16, tile(0, 1, 0)}, {-16, tile(0, -1, -1)}, {-1, tile(-1, 0, 0)}, {-17, tile(-1, -1, -1)}, {9, tile(9, 0, 0)}, {15, tile(15, 0, 0)}, {1 << 40, tile(0, -1, -1)}, {65, tile(1, 2, 0)},
	} {
		if got := impl.PyramidGet(counts(c.key, 9), c.no); got != 0 {
			t.Error("count of no tile", c.key, c.no, got)
		}
	}
}

func checkSum(t *testing.T, p []impl.Count, level, want int) {
	t.Helper()
	if got := impl.PyramidSum(p, level); got != want {
		t.Error("sum", p, level, got, "and not", want)
	}
}

func TestPyramidSumTells(t *testing.T) {
	p := impl.PyramidOf(rows(1, row(1, 1, 0, dot(5, 5)), row(2, 1, 0, line(-1, 5, 5, 5)), row(3, 1, 0, rect(-edge, -edge, edge, edge))), 1)
	for level, want := range []int{3, 7, 19, 67, 259, 0, 0, 0, 0, 0} {
		checkSum(t, p, level, want)
		checkSum(t, nil, level, 0)
	}
	all := countsOf(1000, topTiles())
	for level := range levelTop + 1 {
		checkSum(t, all, level, 1000<<(2*level))
	}
	for _, level := range noLevels() {
		checkSum(t, all, level, 0)
	}
	// around 64 bits
	for _, c := range []struct{ a, b, want int }{
		{math.MaxInt, 1, math.MinInt}, {math.MaxInt, math.MaxInt, -2}, {math.MinInt, math.MinInt, 0}, {math.MinInt, -1, math.MaxInt}, {math.MaxInt, math.MinInt, -1}, {1 << 62, 1 << 62, math.MinInt}, {0, -5, -5},
	} {
		checkSum(t, counts(1, c.a, 17, c.b), 1, c.want)
		checkSum(t, counts(0, 7, 1, c.a, 2, 7, 17, c.b), 1, c.want)
		checkSum(t, counts(17, c.a, 1, c.b, 0, 7), 0, 7)
	}
	checkSum(t, counts(1, math.MaxInt, 17, math.MaxInt, 33, math.MaxInt, 49, 7), 1, math.MinInt+4)
}

func TestPyramidSumOfWrongCounts(t *testing.T) {
	// in any order, twice, of any N
	p := counts(49, 7, 0, 0, 17, -4, 49, 8, 0, 3, 33, 100)
	checkSum(t, p, 1, 111)
	checkSum(t, p, 0, 3)
	// a Key that is no tile's is of no level
	for _, key := range []int{-1, -2, -9, -15, -16, -17, -32, 9, 15, 16, 25, 48, 65, 16*16 + 2, 16*64 + 3, 16*256 + 4, 16*65536 + 8, 1 << 36, 1<<40 + 1, math.MinInt, math.MaxInt} {
		list := counts(key, 5, 0, 1, 4, 2)
		for _, level := range append([]int{-1, -2, -9, -15, 0, 1, 2, 3, 4, 5, 6, 7, 8, 9, 15}, noLevels()...) {
			want := map[int]int{0: 1, 4: 2}[level]
			checkSum(t, list, level, want)
		}
	}
	// tiles that are too deep are tiles of their level all the same
	deep := counts(keyOf(tile(5, 31, 31)), 6, keyOf(tile(8, 255, 255)), 7, keyOf(tile(5, 0, 0)), 8)
	checkSum(t, deep, 5, 14)
	checkSum(t, deep, 8, 7)
	checkSum(t, deep, 6, 0)
}

// TestPyramidKeptStepByStep is promise 11: rows are changed over and over, and the counts that are kept are those that are counted anew.
func TestPyramidKeptStepByStep(t *testing.T) {
	const ids = 8
	for seed := range 10 {
		s := &steps{uint64(1150 + seed)}
		r, p := impl.Rows{}, []impl.Count(nil)
		for step := range 40 {
			list := s.changes(ids)
			for i, c := range list {
				if !c.Gone {
					list[i].Shape = s.spread()
				}
			}
			next, ok := impl.Apply(r, list)
			if !ok {
				t.Fatal("changed", seed, step)
			}
			r, p = next, impl.PyramidStep(p, next)
			checkKept(t, p, r)
			if seed%2 == 0 && step%3 == 0 {
				// What ended is cleaned away: the counts are those of what is there.
				r = impl.Vacuum(r, r.Now)
				checkKept(t, p, r)
			}
		}
		for at := range r.Now + 1 {
			if seed%2 == 1 && !slices.Equal(impl.PyramidOf(r, at), ofByHand(r, at)) {
				t.Fatal("counted anew", seed, at)
			}
		}
	}
}

// checkKept holds counts against those that are counted anew at the last moment.
func checkKept(t *testing.T, p []impl.Count, r impl.Rows) {
	t.Helper()
	if !impl.PyramidOk(p) || !slices.Equal(p, impl.PyramidOf(r, r.Now)) || !slices.Equal(p, ofByHand(r, r.Now)) {
		t.Fatal("not those that are counted anew", r.Now, p, impl.PyramidOf(r, r.Now))
	}
	there := len(impl.IdsAt(r, r.Now))
	if impl.PyramidGet(p, tile(0, 0, 0)) != there || impl.PyramidSum(p, 0) != there {
		t.Fatal("what is in the one tile of all", r.Now, there)
	}
	for level := range levelTop {
		if impl.PyramidSum(p, level) > impl.PyramidSum(p, level+1) {
			t.Fatal("a level with less than the one ahead", r.Now, level)
		}
	}
}

// TestPyramidWithEachCommit keeps counts with what sessions commit, each statement asked for by its tile too.
func TestPyramidWithEachCommit(t *testing.T) {
	d, _ := impl.DbStart(2)
	var p []impl.Count
	for i, line := range []string{
		"0 PUT 1 POINT 5 5", "1 BEGIN", "1 PUT 2 LINE -1 5 5 5", "0 PUT 1 RECT -30000 -30000 30000 30000", "1 PUT 3 POINT -1 -1", "1 COMMIT",
		"0 BEGIN", "1 PUT 1 POINT 5 5", "0 CUT 1", "0 COMMIT", "0 CUT 2", "0 BEGIN", "0 PUT 3 POINT 5 5", "0 CUT 1", "0 PUT 2 POINT -1 -1", "0 COMMIT", "1 CUT 3", "1 CUT 2", "1 CUT 1",
	} {
		was := d.Store.Rows.Now
		d, _ = impl.Script(d, []string{line})
		r := d.Store.Rows
		if r.Now > was {
			p = impl.PyramidStep(p, r)
		}
		checkKept(t, p, r)
		for _, one := range tiles(1, 0, 0, 1, 1, 0, 1) {
			_, said := impl.Exec(d, 1, impl.Ask{Kind: impl.AskCount, Tile: one})
			if r.Now > was && d.Sessions[1] < 0 && said != impl.DecText(impl.PyramidGet(p, one)) {
				t.Error("counted otherwise", i, line, one, said)
			}
		}
	}
	if len(p) != 0 || d.Store.Rows.Now != 8 {
		t.Error("what is left", p, d.Store.Rows.Now)
	}
}

// TestPyramidOfManyChangedAtOnce changes as many rows at one moment as there may be.
func TestPyramidOfManyChangedAtOnce(t *testing.T) {
	s := &steps{115}
	r := impl.Rows{}
	var p []impl.Count
	for round := range 3 {
		var list []impl.Change
		for i := range rowsMost / 3 {
			list = append(list, put(i*7%100+1, s.spread()))
			if round == 2 && i%3 == 0 {
				list[i] = gone(list[i].Id)
			}
		}
		next, ok := impl.Apply(r, list)
		if !ok {
			t.Fatal("changed", round)
		}
		r, p = next, impl.PyramidStep(p, next)
		checkKept(t, p, r)
	}
}

// roomyCounts is a copy with marks in the spare room behind it.
func roomyCounts(p []impl.Count) []impl.Count {
	return append(slices.Clone(p), count(42, 42), count(42, 42), count(42, 42), count(42, 42), count(42, 42), count(42, 42))[:len(p)]
}

// countsKept tells whether counts are as they were, their spare room included.
func countsKept(p, was []impl.Count) bool {
	for _, c := range p[len(p) : len(p)+6] {
		if c != count(42, 42) {
			return false
		}
	}
	return slices.Equal(p, was)
}

func TestPyramidSharesNothing(t *testing.T) {
	lists := append(wrongPyramids()[:40], nil, counts(0, 1), countsOf(1, tilesUpTo(dot(5, 5))), countsOf(2, topTiles()))
	all := append(wrongRows()[:12], impl.Rows{}, rows(7), history(), manyRows(60), rows(2, row(3, 1, 2, dot(5, 5)), row(3, 2, 0, line(-1, 5, 5, 5))))
	for i, was := range lists {
		p := roomyCounts(was)
		places := map[*impl.Count]int{}
		takePlaces(p, places)
		var answers [][]impl.Count
		for k, r := range all {
			arg := roomyRows(r)
			answers = append(answers, impl.PyramidStep(p, arg), impl.PyramidStep(p, arg), impl.PyramidOf(arg, 1), impl.PyramidOf(arg, 1))
			if !sameRows(arg, r) || !rowsRoomLeft(arg) {
				t.Fatal("rows are written into", i, k)
			}
		}
		for _, s := range append(rightShapes(), wrongShapes()[:9]...) {
			arg := impl.Shape{Kind: s.Kind, Points: withRoom(s.Points)}
			for by := -2; by <= 2; by++ {
				answers = append(answers, impl.PyramidAdd(p, arg, by))
			}
			if !sameShape(arg, s) || !roomLeft(arg.Points) {
				t.Fatal("a shape is written into", i, s)
			}
		}
		impl.PyramidOk(p)
		for _, one := range append(topTiles(), noTiles()...) {
			impl.PyramidGet(p, one)
			impl.PyramidSum(p, one.Level)
		}
		if !countsKept(p, was) {
			t.Fatal("counts are written into", i, p)
		}
		for k, answer := range answers {
			if !takePlaces(answer, places) {
				t.Fatal("an answer shares memory", i, k)
			}
		}
	}
}
