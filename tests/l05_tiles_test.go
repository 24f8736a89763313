package tests

import (
	"math"
	"slices"
	"testing"

	"loop.example/g00229/impl"
)

const (
	levelMost  = 8
	squareLow  = -32768
	squareHigh = 32767
)

func tile(level, col, row int) impl.Tile { return impl.Tile{Level: level, Col: col, Row: row} }

// tiles are tiles of one level, told by column and row.
func tiles(level int, places ...int) []impl.Tile {
	var list []impl.Tile
	for i := 0; i+1 < len(places); i += 2 {
		list = append(list, tile(level, places[i], places[i+1]))
	}
	return list
}

// area are the tiles of a level with columns and rows from the first to the last, row by row.
func area(level, col0, row0, col1, row1 int) []impl.Tile {
	var list []impl.Tile
	for row := row0; row <= row1; row++ {
		for col := col0; col <= col1; col++ {
			list = append(list, tile(level, col, row))
		}
	}
	return list
}

func allTiles(level int) []impl.Tile { return area(level, 0, 0, 1<<level-1, 1<<level-1) }

func without(list []impl.Tile, gone []impl.Tile) []impl.Tile {
	return slices.DeleteFunc(slices.Clone(list), func(t impl.Tile) bool { return slices.Contains(gone, t) })
}

// bounds are the least and the greatest x or y of a column or a row.
func bounds(level, place int) (int, int) {
	long := 65536
	for range level {
		long /= 2
	}
	return squareLow + place*long, squareLow + (place+1)*long - 1
}

func noLevels() []int { return append([]int{-1, -2, -8, levelMost + 1, 15, 16, 63, 64}, farInts...) }

func noTiles() []impl.Tile {
	var list []impl.Tile
	for _, level := range noLevels() {
		list = append(list, tile(level, 0, 0), tile(level, 1, 1), tile(level, level, level))
	}
	for level := range levelMost + 1 {
		last := 1<<level - 1
		for _, no := range append([]int{-1, last + 1}, farInts...) {
			list = append(list, tile(level, no, 0), tile(level, 0, no), tile(level, no, no), tile(level, no, last), tile(level, last, no))
		}
	}
	return list
}

func TestTileOk(t *testing.T) {
	if impl.MaxLevel != levelMost {
		t.Error("constant")
	}
	for level := range levelMost + 1 {
		for _, one := range allTiles(level) {
			if !impl.TileOk(one) {
				t.Fatal("a tile is refused", one)
			}
		}
	}
	for _, no := range noTiles() {
		if impl.TileOk(no) {
			t.Error("no tile is taken", no)
		}
	}
}

func TestTilesThatAreNone(t *testing.T) {
	whole := rect(-edge, -edge, edge, edge)
	for _, no := range noTiles() {
		if x0, y0, x1, y1 := impl.TileBox(no); x0 != 0 || y0 != 0 || x1 != 0 || y1 != 0 {
			t.Error("box", no, x0, y0, x1, y1)
		}
		if up, ok := impl.TileUp(no); ok || up != (impl.Tile{}) {
			t.Error("up", no, up, ok)
		}
		if down := impl.TileDown(no); len(down) != 0 {
			t.Error("down", no, down)
		}
		if key := impl.TileKey(no); key != -1 {
			t.Error("key", no, key)
		}
		if impl.TileMeets(no, whole) || impl.TileMeets(no, dot(0, 0)) {
			t.Error("meets", no)
		}
	}
}

func TestTileBoxTells(t *testing.T) {
	for _, c := range []struct {
		tile           impl.Tile
		x0, y0, x1, y1 int
	}{
		{tile(0, 0, 0), -32768, -32768, 32767, 32767},
		{tile(1, 0, 0), -32768, -32768, -1, -1}, {tile(1, 1, 0), 0, -32768, 32767, -1}, {tile(1, 0, 1), -32768, 0, -1, 32767}, {tile(1, 1, 1), 0, 0, 32767, 32767},
		{tile(2, 1, 3), -16384, 16384, -1, 32767}, {tile(3, 5, 2), 8192, -16384, 16383, -8193},
		{tile(4, 0, 15), -32768, 28672, -28673, 32767}, {tile(5, 16, 15), 0, -2048, 2047, -1}, {tile(6, 63, 1), 31744, -31744, 32767, -30721}, {tile(7, 127, 64), 32256, 0, 32767, 511},
		{tile(8, 0, 0), -32768, -32768, -32513, -32513}, {tile(8, 255, 255), 32512, 32512, 32767, 32767}, {tile(8, 127, 128), -256, 0, -1, 255}, {tile(8, 255, 0), 32512, -32768, 32767, -32513},
	} {
		if x0, y0, x1, y1 := impl.TileBox(c.tile); x0 != c.x0 || y0 != c.y0 || x1 != c.x1 || y1 != c.y1 {
			t.Error("box", c.tile, x0, y0, x1, y1)
		}
	}
}

func TestTileBoxesCutTheSquare(t *testing.T) {
	for level := range levelMost + 1 {
		next := squareLow
		for col := range 1 << level {
			row := 1<<level - 1 - col
			x0, y0, x1, y1 := impl.TileBox(tile(level, col, row))
			low, high := bounds(level, row)
			if x0 != next || x1-x0 != y1-y0 || y0 != low || y1 != high {
				t.Error("box", level, col, row, x0, y0, x1, y1)
			}
			next = x1 + 1
		}
		if next != squareHigh+1 {
			t.Error("the last one of a level", level, next)
		}
	}
}

func TestTileUpAndDownTell(t *testing.T) {
	for _, c := range []struct{ tile, up impl.Tile }{
		{tile(1, 0, 0), tile(0, 0, 0)}, {tile(1, 1, 0), tile(0, 0, 0)}, {tile(1, 1, 1), tile(0, 0, 0)},
		{tile(3, 5, 2), tile(2, 2, 1)}, {tile(3, 2, 5), tile(2, 1, 2)}, {tile(8, 255, 255), tile(7, 127, 127)}, {tile(8, 254, 1), tile(7, 127, 0)},
	} {
		if up, ok := impl.TileUp(c.tile); !ok || up != c.up {
			t.Error("up", c.tile, up, ok)
		}
	}
	if up, ok := impl.TileUp(tile(0, 0, 0)); ok || up != (impl.Tile{}) {
		t.Error("up of the whole", up, ok)
	}
	for _, c := range []struct {
		tile impl.Tile
		down []impl.Tile
	}{
		{tile(0, 0, 0), tiles(1, 0, 0, 1, 0, 0, 1, 1, 1)},
		{tile(1, 1, 0), tiles(2, 2, 0, 3, 0, 2, 1, 3, 1)},
		{tile(3, 2, 5), tiles(4, 4, 10, 5, 10, 4, 11, 5, 11)},
		{tile(7, 127, 127), tiles(8, 254, 254, 255, 254, 254, 255, 255, 255)},
		{tile(8, 0, 0), nil}, {tile(8, 255, 255), nil}, {tile(8, 3, 7), nil},
	} {
		if down := impl.TileDown(c.tile); !slices.Equal(down, c.down) {
			t.Error("down", c.tile, down)
		}
	}
}

func TestTilesAreMadeOfFour(t *testing.T) {
	for level := range levelMost {
		seen := map[impl.Tile]int{}
		for _, one := range allTiles(level) {
			x0, y0, x1, y1 := impl.TileBox(one)
			down := impl.TileDown(one)
			if len(down) != 4 {
				t.Fatal("down", one, down)
			}
			for _, kid := range down {
				seen[kid]++
				a0, b0, a1, b1 := impl.TileBox(kid)
				if up, ok := impl.TileUp(kid); !ok || up != one || a0 < x0 || b0 < y0 || a1 > x1 || b1 > y1 {
					t.Fatal("up of one below", one, kid, up, ok)
				}
			}
		}
		if len(seen) != 1<<(2*level+2) {
			t.Error("the tiles of the next level", level, len(seen))
		}
	}
}

func TestTileKeyTells(t *testing.T) {
	for _, c := range []struct {
		tile impl.Tile
		key  int
	}{
		{tile(0, 0, 0), 0}, {tile(1, 0, 0), 1}, {tile(1, 1, 0), 17}, {tile(1, 0, 1), 33}, {tile(1, 1, 1), 49},
		{tile(2, 1, 3), 178}, {tile(2, 3, 1), 114}, {tile(8, 0, 0), 8}, {tile(8, 255, 255), 1048568}, {tile(8, 255, 0), 16*21845 + 8}, {tile(8, 0, 255), 16*43690 + 8},
	} {
		if key := impl.TileKey(c.tile); key != c.key {
			t.Error("key", c.tile, key)
		}
	}
	seen := map[int]impl.Tile{}
	for level := range levelMost + 1 {
		for _, one := range allTiles(level) {
			key := impl.TileKey(one)
			if col, row := impl.Part(key / 16); key%16 != level || col != one.Col || row != one.Row {
				t.Fatal("a key comes back", one, key)
			}
			if other, ok := seen[key]; ok {
				t.Fatal("one key of two", one, other, key)
			}
			seen[key] = one
		}
	}
}

func TestTileOfTells(t *testing.T) {
	for _, c := range []struct {
		p    impl.Point
		want impl.Tile
	}{
		{at(0, 0), tile(0, 0, 0)}, {at(-edge, edge), tile(0, 0, 0)},
		{at(0, 0), tile(1, 1, 1)}, {at(-1, -1), tile(1, 0, 0)}, {at(-1, 0), tile(1, 0, 1)}, {at(0, -1), tile(1, 1, 0)},
		{at(16383, 16384), tile(2, 2, 3)}, {at(-16384, -16385), tile(2, 1, 0)},
		{at(edge, -edge), tile(4, 15, 0)}, {at(edge, -edge), tile(5, 30, 1)}, {at(edge, -edge), tile(6, 61, 2)}, {at(edge, -edge), tile(7, 122, 5)},
		{at(edge, edge), tile(8, 245, 245)}, {at(-edge, -edge), tile(8, 10, 10)}, {at(-edge, edge), tile(8, 10, 245)},
		{at(0, 0), tile(8, 128, 128)}, {at(-1, -1), tile(8, 127, 127)}, {at(255, 256), tile(8, 128, 129)}, {at(-256, -257), tile(8, 127, 126)},
	} {
		if got, ok := impl.TileOf(c.p, c.want.Level); !ok || got != c.want {
			t.Error("tile", c.p, got, ok)
		}
	}
}

func TestTileOfRefuses(t *testing.T) {
	for _, p := range noPoints() {
		for level := range levelMost + 1 {
			if got, ok := impl.TileOf(p, level); ok || got != (impl.Tile{}) {
				t.Error("tile of no point", p, level, got, ok)
			}
		}
	}
	for _, level := range noLevels() {
		for _, p := range []impl.Point{at(0, 0), at(edge, -edge), at(edge+1, 0)} {
			if got, ok := impl.TileOf(p, level); ok || got != (impl.Tile{}) {
				t.Error("tile of no level", p, level, got, ok)
			}
		}
	}
}

// cornerPoints are the points at the corners of a tile and one beyond each of its edges, as far as they are points.
func cornerPoints(level, col, row int) []impl.Point {
	x0, x1 := bounds(level, col)
	y0, y1 := bounds(level, row)
	var list []impl.Point
	for _, x := range []int{x0 - 1, x0, x1, x1 + 1} {
		for _, y := range []int{y0 - 1, y0, y1, y1 + 1} {
			if impl.PointOk(at(x, y)) {
				list = append(list, at(x, y))
			}
		}
	}
	return list
}

// tilesWith are the tiles of a level whose box has a point.
func tilesWith(p impl.Point, level int) []impl.Tile {
	var list []impl.Tile
	for _, one := range allTiles(level) {
		if x0, y0, x1, y1 := impl.TileBox(one); holds(box(x0, y0, x1, y1), p) {
			list = append(list, one)
		}
	}
	return list
}

func TestPointsAreInOneTile(t *testing.T) {
	s := &steps{51}
	for level := range levelMost + 1 {
		points := append(s.points(20, edge), at(0, 0), at(-1, -1), at(edge, edge), at(-edge, -edge), at(edge, -edge), at(-edge, 7))
		last := 1<<level - 1
		for _, one := range tiles(level, 0, last, last, 0, last/2, last/2, last/2, last-last/2, last/3, last/5) {
			points = append(points, cornerPoints(level, one.Col, one.Row)...)
		}
		for _, p := range points {
			want := tilesWith(p, level)
			got, ok := impl.TileOf(p, level)
			if len(want) != 1 || !ok || got != want[0] {
				t.Fatal("tile", p, level, got, ok, want)
			}
			if list := impl.TilesOf(dot(p.X, p.Y), level); !slices.Equal(list, want) {
				t.Fatal("tiles of a point", p, level, list)
			}
			if up, ok := impl.TileUp(got); ok != (level > 0) || ok && !impl.TileMeets(up, dot(p.X, p.Y)) {
				t.Fatal("the tile that it is in", p, got, up)
			}
		}
	}
}

// uShape and its like go around tiles of level 3 with the sides between 18000 and 20000 from the midst.
func uShape() impl.Shape {
	return poly(-20000, -20000, 20000, -20000, 20000, 20000, 18000, 20000, 18000, -18000, -18000, -18000, -18000, 20000, -20000, 20000)
}

// tileCases are shapes with the tiles that they have of a level.
func tileCases() []struct {
	s    impl.Shape
	want []impl.Tile
} {
	around := without(area(3, 1, 1, 6, 6), area(3, 2, 2, 5, 5))
	return []struct {
		s    impl.Shape
		want []impl.Tile
	}{
		// in one tile, and in one that it fills
		{dot(5, 5), tiles(0, 0, 0)}, {dot(0, 0), tiles(1, 1, 1)}, {dot(-1, -1), tiles(1, 0, 0)}, {dot(700, -700), tiles(8, 130, 125)},
		{line(1, 1, 200, 90, 3, 255), tiles(8, 128, 128)}, {rect(-256, -256, -1, -1), tiles(8, 127, 127)}, {poly(0, 0, 255, 0, 255, 255), tiles(8, 128, 128)},
		{rect(0, 0, 255, 255), tiles(8, 128, 128)}, {rect(0, 0, 0, 0), tiles(8, 128, 128)}, {rect(100, 0, 100, 255), tiles(8, 128, 128)},
		// one more, where an edge or a corner of the next is touched
		{rect(0, 0, 256, 255), tiles(8, 128, 128, 129, 128)}, {rect(0, 0, 255, 256), tiles(8, 128, 128, 128, 129)}, {rect(-1, 0, 255, 255), tiles(8, 127, 128, 128, 128)}, {rect(0, -1, 255, 255), tiles(8, 128, 127, 128, 128)},
		{rect(-1, -1, 0, 0), area(1, 0, 0, 1, 1)}, {rect(-1, -1, 0, 0), area(8, 127, 127, 128, 128)},
		{line(16383, 5000, 20000, 9000), tiles(2, 2, 2, 3, 2)}, {line(16384, 5000, 20000, 9000), tiles(2, 3, 2)},
		{line(16383, 16383, 20000, 20000), tiles(2, 2, 2, 3, 3)}, {line(16384, 16384, 20000, 20000), tiles(2, 3, 3)},
		{poly(16384, 5000, 20000, 5000, 20000, 9000), tiles(2, 3, 2)}, {poly(16383, 5000, 20000, 5000, 20000, 9000), tiles(2, 2, 2, 3, 2)},
		{poly(-300, 0, 0, 300, -300, 600), tiles(8, 126, 128, 127, 128, 126, 129, 127, 129, 128, 129, 126, 130, 127, 130)},
		{poly(-300, 0, -1, 300, -300, 600), area(8, 126, 128, 127, 130)},
		// from a tile to the next but one
		{line(-1, 5, 16384, 7), area(2, 1, 2, 3, 2)}, {line(0, 0, 512, 0), area(8, 128, 128, 130, 128)}, {line(7, 256, 5, -1), area(8, 128, 127, 128, 129)},
		{line(-20000, -20000, 20000, 20000), tiles(1, 0, 0, 1, 1)}, {line(-20000, -20000, 20000, 20000), tiles(2, 0, 0, 1, 1, 2, 2, 3, 3)},
		// between two tiles at their common corner, and just touching one of the others
		{line(-1, 0, 0, -1), tiles(1, 1, 0, 0, 1)}, {line(-100, 99, 99, -100), tiles(1, 1, 0, 0, 1)}, {line(-1, -1, 0, 0), tiles(1, 0, 0, 1, 1)}, {line(99, 99, -100, -100), tiles(8, 127, 127, 128, 128)},
		{line(16380, 16386, 16386, 16380), tiles(2, 2, 2, 3, 2, 2, 3)}, {line(16380, 16387, 16387, 16380), tiles(2, 3, 2, 2, 3)}, {line(16380, 16388, 16388, 16380), tiles(2, 3, 2, 2, 3, 3, 3)},
		// along between two columns, and two rows
		{line(-1, -3, 0, 16390), tiles(2, 1, 1, 2, 3)}, {line(16390, 0, -3, -1), tiles(2, 1, 1, 3, 2)}, {line(-1, -3, 0, 16390, -1, 3), tiles(2, 1, 1, 1, 2, 2, 3)},
		{poly(-1, -3, 0, 16390, -1, 16390), tiles(2, 1, 1, 1, 2, 1, 3, 2, 3)}, {poly(0, -3, 0, 16390, -1, 16390), tiles(2, 2, 1, 2, 2, 1, 3, 2, 3)},
		// with whole tiles inside
		{rect(-20000, -20000, 20000, 20000), area(2, 0, 0, 3, 3)}, {rect(-20000, -20000, 20000, 20000), area(3, 1, 1, 6, 6)}, {rect(-24576, -16384, 24575, 8191), area(3, 1, 2, 6, 4)},
		{poly(-20000, -20000, 20000, -20000, 20000, 20000, -20000, 20000), area(3, 1, 1, 6, 6)},
		{poly(0, -20000, 20000, 0, 0, 20000, -20000, 0), without(area(3, 1, 1, 6, 6), tiles(3, 1, 1, 6, 1, 1, 6, 6, 6, 1, 2, 2, 1, 5, 1, 6, 2, 1, 5, 2, 6, 5, 6, 6, 5))},
		// around tiles without having them
		{uShape(), without(area(3, 1, 1, 6, 6), area(3, 2, 2, 5, 6))},
		{line(-20000, -20000, 20000, -20000, 20000, 20000, -20000, 20000, -20000, -20000), around},
		{poly(-20000, -20000, 20000, -20000, 20000, 20000, -19999, 20000, -19999, 18000, 18000, 18000, 18000, -18000, -18000, -18000, -18000, 17999, -20000, 17999), around},
		{line(-20000, -20000, 20000, -20000, 20000, 20000), without(around, append(area(3, 1, 2, 1, 6), area(3, 2, 6, 5, 6)...))},
		// at the bounds of the coordinates, where tiles reach beyond them
		{dot(edge, edge), tiles(8, 245, 245)}, {dot(-edge, -edge), tiles(8, 10, 10)}, {dot(-edge, edge), tiles(5, 1, 30)}, {rect(edge, -edge, edge, -edge), tiles(4, 15, 0)},
		{line(-edge, -edge, -edge, edge), area(5, 1, 1, 1, 30)}, {line(-edge, -edge, edge, -edge), area(6, 2, 2, 61, 2)}, {rect(edge, -edge, edge, edge), area(7, 122, 5, 122, 122)}, {rect(-edge, edge, edge, edge), area(4, 0, 15, 15, 15)},
		{poly(edge-1, edge, edge, edge-1, edge, edge), tiles(8, 245, 245)}, {poly(-edge, -edge, edge, -edge, -edge, -edge+1), area(8, 10, 10, 245, 10)},
		{rect(-edge, -edge, edge, edge), area(0, 0, 0, 0, 0)}, {rect(-edge, -edge, edge, edge), area(1, 0, 0, 1, 1)}, {rect(-edge, -edge, edge, edge), area(4, 0, 0, 15, 15)},
		{rect(-edge, -edge, edge, edge), area(5, 1, 1, 30, 30)}, {rect(-edge, -edge, edge, edge), area(6, 2, 2, 61, 61)}, {rect(-edge, -edge, edge, edge), area(7, 5, 5, 122, 122)}, {rect(-edge, -edge, edge, edge), area(8, 10, 10, 245, 245)},
		{poly(-edge, -edge, edge, -edge, edge, edge, -edge, edge), area(8, 10, 10, 245, 245)}, {line(-edge, -edge, edge, edge), tiles(1, 0, 0, 1, 1)},
	}
}

func TestTilesOfTells(t *testing.T) {
	for _, c := range tileCases() {
		level := c.want[0].Level
		got := impl.TilesOf(c.s, level)
		if !slices.Equal(got, c.want) {
			t.Error("tiles", c.s, level, len(got), got[:min(40, len(got))])
		}
		checkMeets(t, c.s, level, c.want)
	}
}

// checkMeets asks TileMeets of each tile of a level, and of what is beside it.
func checkMeets(t *testing.T, s impl.Shape, level int, want []impl.Tile) {
	t.Helper()
	had := map[impl.Tile]bool{}
	for _, one := range want {
		had[one] = true
	}
	for _, one := range area(level, -1, -1, 1<<level, 1<<level) {
		if impl.TileMeets(one, s) != had[one] {
			t.Fatal("meets", one, s, !had[one])
		}
	}
}

// squareOf is the square of a tile as a rectangle that ends with the coordinates, and whether there is any of it.
func squareOf(one impl.Tile) (impl.Shape, bool) {
	x0, x1 := bounds(one.Level, one.Col)
	y0, y1 := bounds(one.Level, one.Row)
	if x1 < -edge || y1 < -edge || x0 > edge || y0 > edge {
		return impl.Shape{}, false
	}
	return rect(max(x0, -edge), max(y0, -edge), min(x1, edge), min(y1, edge)), true
}

// tilesByHand are the tiles of a level whose square meets a shape, each of them asked.
func tilesByHand(s impl.Shape, level int) []impl.Tile {
	var list []impl.Tile
	for _, one := range allTiles(level) {
		if square, any := squareOf(one); any && impl.ShapesMeet(square, s) {
			list = append(list, one)
		}
	}
	return list
}

func checkTiles(t *testing.T, s impl.Shape, level int) {
	t.Helper()
	want := tilesByHand(s, level)
	if got := impl.TilesOf(s, level); !slices.Equal(got, want) {
		t.Fatal("tiles", s, level, len(got), len(want), got[:min(40, len(got))])
	}
	for _, one := range allTiles(level) {
		if impl.TileMeets(one, s) != slices.Contains(want, one) {
			t.Fatal("meets", one, s)
		}
	}
}

// greater is s with all its coordinates so many times as great, and then so much more.
func greater(s impl.Shape, by, dx, dy int) impl.Shape {
	out := impl.Shape{Kind: s.Kind}
	for _, p := range s.Points {
		out.Points = append(out.Points, at(p.X*by+dx, p.Y*by+dy))
	}
	return out
}

func TestTilesOfEachKind(t *testing.T) {
	for _, s := range rightShapes() {
		for level := range 6 {
			checkTiles(t, s, level)
		}
		around, _ := impl.ShapeBox(s)
		far := max(around.X1, around.Y1, -around.X0, -around.Y0, 1)
		for _, by := range []int{edge / far, edge / far / 3} {
			for level := range 5 {
				checkTiles(t, greater(s, by, 0, 0), level)
			}
		}
	}
}

func TestTilesOfChance(t *testing.T) {
	s := &steps{52}
	var seen [4]int
	for range 1200 {
		a := s.shape(7)
		seen[a.Kind]++
		// Corners near those of the tiles of a level, so that sides touch them, or miss them by one.
		level := s.between(1, 4)
		long := 65536 >> level
		b := impl.Shape{Kind: a.Kind}
		for _, p := range a.Points {
			x, y := (p.X-4)*long/2+s.between(-1, 1), (p.Y-4)*long/2+s.between(-1, 1)
			b.Points = append(b.Points, at(max(-edge, min(edge, x)), max(-edge, min(edge, y))))
		}
		if impl.ShapeOk(b) {
			checkTiles(t, b, level)
		}
		c := greater(a, s.between(1, 7500), s.between(-edge, -edge+7500), s.between(-edge, -edge+7500))
		checkTiles(t, c, s.below(5))
	}
	if slices.Min(seen[:]) == 0 {
		t.Error("a kind is not seen", seen)
	}
}

func TestTilesOfTheLastLevel(t *testing.T) {
	s := &steps{53}
	for range 300 {
		a := greater(s.shape(7), s.between(1, 300), 0, 0)
		a, ok := impl.Move(a, s.between(-edge, edge-2100), s.between(-edge, edge-2100))
		around, _ := impl.ShapeBox(a)
		low, _ := impl.TileOf(at(around.X0, around.Y0), levelMost)
		high, _ := impl.TileOf(at(around.X1, around.Y1), levelMost)
		var want []impl.Tile
		for _, one := range area(levelMost, low.Col, low.Row, high.Col, high.Row) {
			square, any := squareOf(one)
			meets := any && impl.ShapesMeet(a, square)
			if impl.TileMeets(one, a) != meets {
				t.Fatal("meets", one, a, !meets)
			}
			if meets {
				want = append(want, one)
			}
		}
		if got := impl.TilesOf(a, levelMost); !ok || !slices.Equal(got, want) {
			t.Fatal("tiles", a, ok, got, want)
		}
	}
	// Many sides over the whole square, so that the way down is a long one.
	for _, a := range []impl.Shape{greater(comb(60), 500, 0, 0), greater(zigzag(60), 500, -edge, -edge)} {
		got := impl.TilesOf(a, levelMost)
		if want := tilesByHand(a, 6); !slices.Equal(impl.TilesOf(a, 6), want) {
			t.Error("tiles of many sides", a.Kind)
		}
		for i, one := range got {
			square, any := squareOf(one)
			if !any || i%17 == 0 && !impl.ShapesMeet(square, a) || i > 0 && !ahead(got[i-1], one) {
				t.Fatal("a tile of many sides", one)
			}
		}
	}
}

func ahead(a, b impl.Tile) bool { return a.Row < b.Row || a.Row == b.Row && a.Col < b.Col }

func TestTilesOfAPlaceInAShape(t *testing.T) {
	s := &steps{54}
	for range 200 {
		a := s.shape(7)
		by := s.between(30, 100)
		a = greater(a, by, -s.below(4*by), -s.below(4*by))
		got := impl.TilesOf(a, levelMost)
		around, _ := impl.ShapeBox(a)
		seen := map[impl.Tile]bool{}
		for x := around.X0; x <= around.X1; x += 7 {
			for y := around.Y0; y <= around.Y1; y += 7 {
				one, _ := impl.TileOf(at(x, y), levelMost)
				if !seen[one] && impl.ShapeHas(a, at(x, y)) {
					seen[one] = true
				}
			}
		}
		for one := range seen {
			if !slices.Contains(got, one) {
				t.Fatal("a tile with a point of a shape is missing", a, one, got)
			}
		}
	}
}

func TestTilesOfRefuse(t *testing.T) {
	for _, s := range wrongShapes() {
		for _, level := range []int{0, 1, 4, levelMost} {
			if list := impl.TilesOf(s, level); len(list) != 0 {
				t.Error("tiles of no shape", s, level, list)
			}
		}
		if impl.TileMeets(tile(0, 0, 0), s) || impl.TileMeets(tile(1, 1, 1), s) {
			t.Error("no shape is met", s)
		}
	}
	for _, level := range noLevels() {
		for _, s := range append(rightShapes(), impl.Shape{}) {
			if list := impl.TilesOf(s, level); len(list) != 0 {
				t.Error("tiles of no level", s, level, list)
			}
		}
	}
	for _, s := range rightShapes() {
		if impl.TileMeets(tile(levelMost+1, 256, 256), s) || impl.TileMeets(tile(-1, 0, 0), s) || impl.TileMeets(tile(math.MaxInt, 0, 0), s) {
			t.Error("no tile is met", s)
		}
	}
}

func TestTilesShareNothing(t *testing.T) {
	for _, s := range rightShapes() {
		room := append(slices.Clone(s.Points), at(77, 77), at(78, 78))
		kept := slices.Clone(room)
		a := impl.Shape{Kind: s.Kind, Points: room[:len(s.Points)]}
		for _, level := range []int{0, 1, 3, 5} {
			first := impl.TilesOf(a, level)
			told := slices.Clone(first)
			for i := range first {
				first[i] = tile(-7, -7, -7)
				impl.TileMeets(told[i], a)
			}
			_ = append(first, tile(-8, -8, -8))
			if second := impl.TilesOf(a, level); !slices.Equal(second, told) || !slices.Equal(room, kept) {
				t.Fatal("an answer or an argument is shared", s, level, second)
			}
		}
	}
	down := impl.TileDown(tile(2, 1, 1))
	for i := range down {
		down[i] = impl.Tile{}
	}
	if again := impl.TileDown(tile(2, 1, 1)); !slices.Equal(again, area(3, 2, 2, 3, 3)) {
		t.Error("an answer is kept", again)
	}
}
