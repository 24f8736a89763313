package tests

import (
	"math"
	"slices"
	"strings"
	"testing"

	"loop.example/g00229/impl"
)

const moveMost = 60000

func shape(kind int, coords ...int) impl.Shape {
	s := impl.Shape{Kind: kind}
	for i := 0; i+1 < len(coords); i += 2 {
		s.Points = append(s.Points, at(coords[i], coords[i+1]))
	}
	return s
}

func dot(x, y int) impl.Shape { return shape(impl.KindPoint, x, y) }

func line(coords ...int) impl.Shape { return shape(impl.KindLine, coords...) }

func rect(coords ...int) impl.Shape { return shape(impl.KindRect, coords...) }

func poly(coords ...int) impl.Shape { return shape(impl.KindPoly, coords...) }

// zigzag is a line of n points that turns at each of them.
func zigzag(n int) impl.Shape {
	s := impl.Shape{Kind: impl.KindLine}
	for i := range n {
		s.Points = append(s.Points, at(i, i%2*7))
	}
	return s
}

// comb is a polygon of n points: two corners below, and n - 2 teeth and gaps from right to left.
func comb(n int) impl.Shape {
	s := poly(0, 0, n-3, 0)
	for i := range n - 2 {
		s.Points = append(s.Points, at(n-3-i, 5+i%2*7))
	}
	return s
}

func sameShape(a, b impl.Shape) bool {
	return a.Kind == b.Kind && slices.Equal(a.Points, b.Points)
}

func isNone(s impl.Shape) bool { return s.Kind == 0 && len(s.Points) == 0 }

// rightShapes are shapes of each kind, with the edges that the chapter names.
func rightShapes() []impl.Shape {
	return []impl.Shape{
		dot(0, 0), dot(1, -2), dot(edge, -edge), dot(-edge, edge),
		line(0, 0, 1, 0), line(0, 0, 4, 4, 4, 0), line(-edge, -edge, edge, edge),
		line(0, 0, 4, 0, 0, 0),             // back upon itself
		line(0, 0, 4, 4, 4, 0, 0, 4, 0, 0), // crosses itself and closes
		zigzag(2), zigzag(59), zigzag(60),
		rect(0, 0, 3, 2), rect(5, 5, 5, 5), rect(1, 5, 9, 5), rect(1, 5, 1, 9), rect(-edge, -edge, edge, edge), rect(edge, edge, edge, edge),
		poly(0, 0, 4, 0, 0, 4), poly(4, 0, 0, 4, 0, 0), poly(0, 0, 1, 0, 0, 1),
		poly(0, 0, 6, 0, 6, 6, 3, 2, 0, 6),       // with a dent
		poly(0, 0, 2, 0, 4, 0, 4, 4, 0, 4, 0, 2), // neighbours that go straight on
		poly(0, 0, 2, 0, 4, 0, 0, 4),             //
		poly(-edge, -edge, edge, -edge, edge, edge, -edge, edge),
		poly(0, 0, 9, 0, 9, 9, 0, 9, 0, 3, 6, 3, 6, 6, 3, 6, 3, 5, 5, 5, 5, 4, 1, 4, 1, 8, 8, 8, 8, 1, 0, 1), // winds inwards
		comb(5), comb(59), comb(60),
	}
}

// wrongShapes are none, each for one reason.
func wrongShapes() []impl.Shape {
	list := []impl.Shape{
		{}, {Kind: 1}, {Kind: 2}, {Kind: 3}, // no points
		shape(4, 0, 0), shape(-1, 0, 0), shape(4, 0, 0, 4, 0, 0, 4), shape(-1, 0, 0, 1, 1), // no kind
		shape(0, 1, 1, 2, 2), shape(0, 1, 1, 1, 1), // two points
		line(1, 1), zigzag(61), zigzag(62), zigzag(1000), // one point, too many
		line(1, 1, 1, 1), line(0, 0, 0, 0, 1, 1), line(0, 0, 1, 1, 1, 1), line(0, 0, 3, 3, 3, 3, 9, 9), // one like the one ahead
		rect(1, 1), rect(0, 0, 1, 1, 2, 2), rect(0, 0, 0, 0, 0, 0), // one and three points
		rect(3, 0, 0, 2), rect(0, 2, 3, 0), rect(3, 2, 0, 0), rect(1, 0, 0, 0), rect(0, 1, 0, 0), // the wrong way round
		poly(0, 0), poly(0, 0, 4, 0), comb(61), comb(62), comb(1000), // too few, too many
		poly(0, 0, 0, 4, 4, 0), poly(0, 0, 0, 4, 4, 4, 4, 0), poly(0, 4, 6, 0, 0, 0), // to the right
		poly(0, 0, 4, 0, 2, 0), poly(0, 0, 4, 4, 8, 8), poly(1, 1, 1, 1, 1, 1), poly(0, 0, 4, 0, 4, 0), // around nothing
		poly(0, 0, 4, 4, 4, 0, 0, 4), poly(0, 0, 6, 0, 0, 6, 6, 6), // crosses itself, around nothing
		poly(0, 0, 9, 0, 9, 9, 3, -3), poly(0, 0, 9, 9, 9, 0, 0, 3), poly(0, 0, 10, 0, 2, 8, 5, -4, 8, 8), // crosses itself
		poly(0, 0, 4, 0, 4, 4, 2, 0),                         // a corner touches a side
		poly(0, 0, 8, 0, 8, 8, 4, 0, 0, 8),                   // a corner touches a side in its midst
		poly(0, 0, 8, 0, 4, 4, 8, 8, 0, 8, 4, 4),             // corners touch
		poly(0, 0, 8, 0, 8, 8, 5, 0, 3, 0, 0, 8),             // a side lies upon a side
		poly(0, 0, 4, 0, 4, 4, 0, 4, 0, 4),                   // one like the one ahead, at the end
		poly(0, 0, 0, 0, 4, 0, 4, 4, 0, 4),                   // at the beginning
		poly(0, 0, 4, 0, 4, 0, 4, 4, 0, 4),                   // in the midst
		poly(0, 0, 4, 0, 4, 4, 0, 4, 0, 0),                   // the last like the first
		poly(0, 0, 4, 0, 4, 4, 0, 4, 0, 6),                   // folds back: the last side, beyond
		poly(0, 0, 6, 0, 4, 0, 4, 4, 0, 4),                   // folds back: the second upon the first
		poly(0, 0, 4, 0, -2, 0, -2, 4, -4, 4, -4, -4, 0, -4), // folds back beyond where it came from
		poly(0, 0, 4, 0, 4, 4, 0, 4, 0, -3),                  // the last beyond the first: its sides lie upon each other
		poly(2, 0, 4, 0, 4, 4, 0, 4, 0, 0, 3, 0),             // the last folds into the first
		poly(0, 0, 4, 0, 8, 8, 4, 0, 0, 4),                   // a spike, there and back
		poly(0, 0, 4, 0, 4, 4, 6, 6, 2, 2, 0, 4),             // a spike that goes on
		poly(0, 0, 4, 0, 4, 4, 0, 4, 0, 0, 4, 0, 4, 4, 0, 4), // twice around
	}
	for _, p := range noPoints() {
		for _, s := range []impl.Shape{dot(0, 0), line(0, 0, 4, 4, 4, 0), rect(0, 0, 3, 2), poly(0, 0, 6, 0, 0, 6)} {
			for i := range s.Points {
				list = append(list, withPoint(s, i, p))
			}
		}
	}
	return list
}

// withPoint is s with another point at place i.
func withPoint(s impl.Shape, i int, p impl.Point) impl.Shape {
	points := slices.Clone(s.Points)
	points[i] = p
	return impl.Shape{Kind: s.Kind, Points: points}
}

func TestShapeConstants(t *testing.T) {
	if impl.KindPoint != 0 || impl.KindLine != 1 || impl.KindRect != 2 || impl.KindPoly != 3 || impl.MaxPoints != 60 {
		t.Error("constants")
	}
}

func TestShapesThatAreRight(t *testing.T) {
	for _, s := range rightShapes() {
		if !impl.ShapeOk(s) {
			t.Error("a shape is refused", s)
		}
		around, _ := impl.BoxAround(s.Points)
		if b, ok := impl.ShapeBox(s); !ok || b != around {
			t.Error("box", s, b, ok)
		}
		if !impl.ShapeIn(s, around) || !impl.ShapeIn(s, box(-edge, -edge, edge, edge)) || !impl.ShapesMeet(s, s) {
			t.Error("a shape and itself", s)
		}
		for _, p := range s.Points {
			if !impl.ShapeHas(s, p) || !impl.ShapesMeet(s, dot(p.X, p.Y)) {
				t.Error("a shape has not its corner", s, p)
			}
		}
		for _, p := range noPoints() {
			if impl.ShapeHas(s, p) {
				t.Error("a shape has no point", s, p)
			}
		}
		for _, b := range noBoxes() {
			if impl.ShapeIn(s, b) {
				t.Error("a shape is in no box", s, b)
			}
		}
	}
}

func TestShapesThatAreNone(t *testing.T) {
	all := rect(-edge, -edge, edge, edge)
	for _, s := range wrongShapes() {
		if impl.ShapeOk(s) {
			t.Error("no shape is taken", s)
		}
		if b, ok := impl.ShapeBox(s); ok || b != (impl.Box{}) {
			t.Error("box of none", s, b, ok)
		}
		for _, p := range append(slices.Clone(s.Points), at(0, 0), at(1, 1)) {
			if impl.ShapeHas(s, p) {
				t.Error("none has", s, p)
			}
		}
		if impl.ShapesMeet(s, all) || impl.ShapesMeet(all, s) || impl.ShapesMeet(s, s) {
			t.Error("none meets", s)
		}
		if impl.ShapeIn(s, box(-edge, -edge, edge, edge)) || impl.ShapeIn(s, impl.Box{X0: 1}) {
			t.Error("none is in", s)
		}
		if text, bytes := impl.ShapeText(s), impl.PutShape(s); text != "" || bytes != "" {
			t.Errorf("none is told %v %q %q", s, text, bytes)
		}
		if m, ok := impl.Move(s, 0, 0); ok || !isNone(m) {
			t.Error("none is moved", s, m, ok)
		}
		if m, ok := impl.Move(s, -1, 1); ok || !isNone(m) {
			t.Error("none is moved", s, m, ok)
		}
	}
}

// foldsBack tells whether the side from b to c goes back along the one from a to b.
func foldsBack(a, b, c impl.Point) bool {
	back := (a.X-b.X)*(c.X-b.X) + (a.Y-b.Y)*(c.Y-b.Y)
	return leansLeft(a, b, c) == 0 && back > 0
}

// ringByGaps tells whether points are a polygon, each pair of sides held against each other by the gaps between them.
func ringByGaps(list []impl.Point) bool {
	n := len(list)
	if n < 3 || n > impl.MaxPoints || areaBelow(list) <= 0 {
		return false
	}
	for i := range n {
		a, b := list[i], list[(i+1)%n]
		for j := range n {
			c, d := list[j], list[(j+1)%n]
			switch {
			case i == j:
			case (i+1)%n == j:
				if foldsBack(a, b, d) {
					return false
				}
			case (j+1)%n == i:
				if foldsBack(c, d, b) {
					return false
				}
			case meetByGaps(a, b, c, d):
				return false
			}
		}
	}
	return true
}

func TestRingsOfAGrid(t *testing.T) {
	points := grid(2)
	count := 0
	check := func(list ...impl.Point) {
		want := ringByGaps(list)
		if got := impl.ShapeOk(impl.Shape{Kind: impl.KindPoly, Points: list}); got != want {
			t.Fatal("ring", list, got)
		}
		if want {
			count++
		}
	}
	for _, a := range points {
		for _, b := range points {
			check(a, b)
			for _, c := range points {
				check(a, b, c)
				for _, d := range points {
					check(a, b, c, d)
					for _, e := range points {
						check(a, b, c, d, e)
					}
				}
			}
		}
	}
	if count < 1000 {
		t.Error("too few rings", count)
	}
}

// ring is a polygon of n points in a grid of 0 .. most, to be had after some tries.
func (s *steps) ring(n, most int) impl.Shape {
	for {
		out := impl.Shape{Kind: impl.KindPoly}
		for range n {
			out.Points = append(out.Points, at(s.below(most+1), s.below(most+1)))
		}
		if ringByGaps(out.Points) {
			return out
		}
	}
}

func (s *steps) line(n, most int) impl.Shape {
	out := impl.Shape{Kind: impl.KindLine}
	for len(out.Points) < n {
		p := at(s.below(most+1), s.below(most+1))
		if k := len(out.Points); k == 0 || out.Points[k-1] != p {
			out.Points = append(out.Points, p)
		}
	}
	return out
}

// shape is one of any kind with coordinates of 0 .. most.
func (s *steps) shape(most int) impl.Shape {
	switch s.below(4) {
	case impl.KindPoint:
		return dot(s.below(most+1), s.below(most+1))
	case impl.KindLine:
		return s.line(s.between(2, 4), most)
	case impl.KindRect:
		a, b := at(s.below(most+1), s.below(most+1)), at(s.below(most+1), s.below(most+1))
		return rect(min(a.X, b.X), min(a.Y, b.Y), max(a.X, b.X), max(a.Y, b.Y))
	}
	return s.ring(s.between(3, 6), most)
}

func TestRingsOfChance(t *testing.T) {
	s := &steps{11}
	for range 30000 {
		list := s.points(s.between(4, 8), 3)
		if got := impl.ShapeOk(impl.Shape{Kind: impl.KindPoly, Points: list}); got != ringByGaps(list) {
			t.Fatal("ring", list, got)
		}
	}
	for range 300 {
		r := s.ring(s.between(3, 7), 6)
		k := s.below(len(r.Points))
		turned := impl.Shape{Kind: impl.KindPoly, Points: slices.Concat(r.Points[k:], r.Points[:k])}
		if !impl.ShapeOk(r) || !impl.ShapeOk(turned) {
			t.Fatal("a ring from another point on", r, k)
		}
		slices.Reverse(turned.Points)
		if impl.ShapeOk(turned) {
			t.Fatal("a ring to the right", turned)
		}
	}
}

func TestShapeHasTells(t *testing.T) {
	dent := poly(0, 0, 6, 0, 6, 6, 3, 2, 0, 6)
	for _, c := range []struct {
		s    impl.Shape
		p    impl.Point
		want bool
	}{
		{dot(3, 4), at(3, 4), true}, {dot(3, 4), at(4, 3), false}, {dot(3, 4), at(3, 5), false},
		{line(0, 0, 4, 4, 4, 0), at(2, 2), true}, {line(0, 0, 4, 4, 4, 0), at(4, 1), true}, {line(0, 0, 4, 4, 4, 0), at(3, 2), false},
		{line(0, 0, 4, 4, 4, 0), at(2, 0), false}, // what would close it is no side
		{line(0, 0, 4, 0, 4, 4, 0, 4, 0, 0), at(2, 2), false},
		{line(0, 0, 4, 4), at(5, 5), false},
		{rect(0, 0, 3, 2), at(3, 1), true}, {rect(0, 0, 3, 2), at(0, 2), true}, {rect(0, 0, 3, 2), at(1, 1), true}, {rect(0, 0, 3, 2), at(4, 1), false}, {rect(0, 0, 3, 2), at(1, 3), false},
		{rect(5, 5, 5, 5), at(5, 5), true}, {rect(5, 5, 5, 5), at(5, 6), false}, {rect(1, 5, 9, 5), at(4, 5), true}, {rect(1, 5, 9, 5), at(4, 4), false},
		{dent, at(3, 1), true}, {dent, at(3, 2), true}, {dent, at(3, 3), false}, {dent, at(0, 3), true}, {dent, at(6, 6), true}, {dent, at(7, 6), false}, {dent, at(-1, 0), false}, {dent, at(3, 0), true}, {dent, at(1, 4), true},
		{poly(-edge, -edge, edge, -edge, edge, edge), at(edge-2, edge-1), false}, {poly(-edge, -edge, edge, -edge, edge, edge), at(edge-1, edge-1), true},
	} {
		if impl.ShapeHas(c.s, c.p) != c.want {
			t.Error("has", c.s, c.p, !c.want)
		}
	}
}

func TestShapesMeetTells(t *testing.T) {
	dent := poly(0, 0, 6, 0, 6, 6, 3, 2, 0, 6)
	square := poly(0, 0, 4, 0, 4, 4, 0, 4)
	for _, c := range []struct {
		a, b impl.Shape
		want bool
	}{
		{dot(1, 1), dot(1, 1), true}, {dot(1, 1), dot(1, 2), false},
		{dot(2, 2), line(0, 0, 4, 4), true}, {dot(2, 3), line(0, 0, 4, 4), false}, {dot(4, 4), line(0, 0, 4, 4), true}, // on a side, at a corner
		{dot(3, 2), rect(0, 0, 3, 2), true}, {dot(1, 1), rect(0, 0, 3, 2), true}, {dot(4, 1), rect(0, 0, 3, 2), false},
		{dot(2, 2), square, true}, {dot(4, 2), square, true}, {dot(4, 4), square, true}, {dot(5, 2), square, false},
		{dot(3, 3), dent, false}, {dot(3, 2), dent, true},
		{line(0, 0, 1, 1), line(0, 1, 1, 0), true},              // at halves
		{line(0, 0, 3, 1), line(0, 1, 1, 0), true},              // at quarters
		{line(0, 0, 4, 0), line(4, 0, 8, 8), true},              // at one end
		{line(0, 0, 4, 0), line(2, 0, 9, 0), true},              // upon each other
		{line(0, 0, 4, 0), line(5, 0, 9, 0), false},             // one behind the other
		{line(0, 0, 4, 4), line(1, 0, 5, 4), false},             // level
		{line(0, 0, 9, 0, 9, 9), line(1, 1, 8, 1, 8, 9), false}, // one in the bend of the other
		{line(0, 0, 9, 0, 9, 9), line(0, 9, 9, 5), true},        // with the last side of one
		{line(0, 0, 4, 0, 4, 4, 0, 4, 0, 0), dot(2, 2), false},  // a line that closes has no inside
		{line(0, 0, 9, 0, 9, 9, 0, 9, 0, 0), rect(3, 3, 4, 4), false},
		{rect(0, 0, 3, 2), rect(3, 2, 5, 5), true}, {rect(0, 0, 3, 2), rect(4, 2, 5, 5), false}, // at one corner
		{rect(0, 0, 3, 2), rect(3, 0, 6, 2), true},                                             // at a side
		{rect(0, 0, 9, 9), rect(3, 3, 4, 4), true},                                             // one within the other
		{rect(0, 3, 9, 4), rect(3, 0, 4, 9), true},                                             // a cross: no corner is in the other
		{rect(5, 5, 5, 5), rect(0, 0, 9, 9), true}, {rect(5, 5, 5, 5), rect(5, 5, 5, 5), true}, // of one point
		{rect(5, 5, 5, 5), rect(6, 5, 9, 5), false}, {rect(1, 5, 9, 5), rect(5, 1, 5, 9), true}, // without width
		{rect(0, 0, 9, 9), line(3, 3, 4, 4), true}, {rect(0, 0, 9, 9), line(-5, 5, 15, 5), true}, // within, right through
		{rect(0, 0, 2, 2), line(0, 5, 5, 0), false}, {rect(0, 0, 2, 2), line(0, 4, 4, 0), true}, // past a corner, at a corner
		{square, poly(1, 1, 2, 1, 1, 2), true}, {square, poly(-9, -9, 9, -9, 9, 9, -9, 9), true}, // one within the other
		{square, square, true}, {square, poly(4, 4, 0, 4, 0, 0, 4, 0), true}, // upon each other
		{square, rect(0, 0, 4, 4), true}, {square, rect(1, 1, 3, 3), true}, //
		{square, poly(4, 4, 8, 4, 8, 8), true}, {square, poly(4, 1, 8, 0, 8, 8), true}, // a corner at a corner, at a side
		{square, poly(5, 4, 8, 4, 8, 8), false}, {square, poly(4, 0, 8, 0, 8, 4, 4, 4), true}, // beside, along a side
		{dent, line(2, 5, 4, 5), false}, {dent, line(0, 5, 5, 5), true}, {dent, line(3, 3, 3, 9), false}, {dent, line(3, 9, 3, 2), true}, {dent, rect(2, 5, 4, 6), false}, {dent, poly(3, 3, 4, 6, 2, 6), false}, {dent, poly(3, 2, 4, 6, 2, 6), true}, // in the dent
		{dent, rect(-9, 7, 9, 8), false}, {dent, rect(-9, 6, 9, 8), true}, {dent, line(6, 6, 0, 6), true},
		{rect(-edge, -edge, edge, edge), dot(edge, -edge), true}, {rect(-edge, -edge, -edge, edge), rect(edge, -edge, edge, edge), false},
		{line(-edge, -edge, edge, edge-1), line(0, -1, 0, 0), true}, {line(-edge, -edge, edge, edge-1), line(0, 0, edge, edge), false},
		{poly(-edge, -edge, edge, -edge, edge, edge), line(-edge, -edge+1, edge-1, edge), false},
		{poly(-edge, -edge, edge, -edge, edge, edge), poly(-edge, -edge, edge, edge, -edge, edge), true},
		{comb(60), line(2, 6, 2, 99), true}, {comb(60), line(3, 6, 3, 99), false}, {comb(60), line(3, 5, 3, 99), true}, {comb(60), line(0, 13, 59, 13), false}, {comb(60), line(0, 12, 59, 12), true},
	} {
		if !impl.ShapeOk(c.a) || !impl.ShapeOk(c.b) {
			t.Fatal("no shapes", c.a, c.b)
		}
		if impl.ShapesMeet(c.a, c.b) != c.want || impl.ShapesMeet(c.b, c.a) != c.want {
			t.Error("meet", c.a, c.b, !c.want)
		}
	}
}

// sidesTold are the sides of a shape; of a point that from itself to itself.
func sidesTold(s impl.Shape) [][2]impl.Point {
	list := s.Points
	switch s.Kind {
	case impl.KindPoint:
		return [][2]impl.Point{{list[0], list[0]}}
	case impl.KindRect:
		list = cornersOf(s).Points
		fallthrough
	case impl.KindPoly:
		list = append(slices.Clone(list), list[0])
	}
	var out [][2]impl.Point
	for i, p := range list[1:] {
		out = append(out, [2]impl.Point{list[i], p})
	}
	return out
}

// cornersOf is a rectangle as a polygon (none where it has no width).
func cornersOf(r impl.Shape) impl.Shape {
	a, b := r.Points[0], r.Points[1]
	return poly(a.X, a.Y, b.X, a.Y, b.X, b.Y, a.X, b.Y)
}

// hasAt tells whether a shape has the point x/w, y/w, by making all of it w times as great.
func hasAt(s impl.Shape, x, y, w int) bool {
	p := at(x, y)
	var list []impl.Point
	for _, q := range s.Points {
		list = append(list, at(q.X*w, q.Y*w))
	}
	switch s.Kind {
	case impl.KindPoint:
		return list[0] == p
	case impl.KindRect:
		return holds(box(list[0].X, list[0].Y, list[1].X, list[1].Y), p)
	case impl.KindPoly:
		return impl.InRing(p, list) != 0
	}
	for i, q := range list[1:] {
		if impl.OnSide(p, list[i], q) {
			return true
		}
	}
	return false
}

// meetAtCorners tells whether two shapes meet: where they do, they have a corner of one of them in common, or a point where two of their sides cross.
func meetAtCorners(a, b impl.Shape) bool {
	for _, p := range slices.Concat(a.Points, b.Points) {
		if hasAt(a, p.X, p.Y, 1) && hasAt(b, p.X, p.Y, 1) {
			return true
		}
	}
	for _, s := range sidesTold(a) {
		for _, t := range sidesTold(b) {
			u, v := at(s[1].X-s[0].X, s[1].Y-s[0].Y), at(t[1].X-t[0].X, t[1].Y-t[0].Y)
			w := u.X*v.Y - v.X*u.Y
			if w == 0 {
				continue
			}
			// The lines cross n/w of the way along u.
			n := (t[0].X-s[0].X)*v.Y - v.X*(t[0].Y-s[0].Y)
			if w < 0 {
				n, w = -n, -w
			}
			if x, y := s[0].X*w+n*u.X, s[0].Y*w+n*u.Y; hasAt(a, x, y, w) && hasAt(b, x, y, w) {
				return true
			}
		}
	}
	// A rectangle has corners that are none of its points.
	for _, s := range []impl.Shape{a, b} {
		if s.Kind != impl.KindRect {
			continue
		}
		for _, p := range cornersOf(s).Points {
			if hasAt(a, p.X, p.Y, 1) && hasAt(b, p.X, p.Y, 1) {
				return true
			}
		}
	}
	return false
}

func TestShapesMeetOfChance(t *testing.T) {
	s := &steps{12}
	var seen [4][4][2]int
	for range 20000 {
		a, b := s.shape(7), s.shape(7)
		want := meetAtCorners(a, b)
		if impl.ShapesMeet(a, b) != want || impl.ShapesMeet(b, a) != want {
			t.Fatal("meet", a, b, !want)
		}
		if want {
			seen[a.Kind][b.Kind][1]++
		} else {
			seen[a.Kind][b.Kind][0]++
		}
		dx, dy := s.between(-edge, edge-7), s.between(-edge, edge-7)
		c, one := impl.Move(a, dx, dy)
		d, two := impl.Move(b, dx, dy)
		if !one || !two || impl.ShapesMeet(c, d) != want {
			t.Fatal("meet when moved alike", a, b, dx, dy, c, d, want)
		}
	}
	for _, row := range seen {
		for _, n := range row {
			if min(n[0], n[1]) == 0 {
				t.Error("a pair of kinds is not seen", seen)
			}
		}
	}
}

func TestShapeHasOfChance(t *testing.T) {
	s := &steps{13}
	for range 2000 {
		a := s.shape(5)
		for _, p := range grid(6) {
			want := hasAt(a, p.X, p.Y, 1)
			if impl.ShapeHas(a, p) != want || impl.ShapesMeet(a, dot(p.X, p.Y)) != want || impl.ShapesMeet(rect(p.X, p.Y, p.X, p.Y), a) != want {
				t.Fatal("has", a, p, !want)
			}
		}
	}
}

func TestRectsAsPolygons(t *testing.T) {
	s := &steps{14}
	for range 3000 {
		x, y := s.below(6), s.below(6)
		r := rect(x, y, x+s.between(1, 4), y+s.between(1, 4))
		other := s.shape(8)
		if impl.ShapesMeet(r, other) != impl.ShapesMeet(cornersOf(r), other) {
			t.Fatal("a rectangle and its corners", r, other)
		}
	}
}

func TestShapeInTells(t *testing.T) {
	l := line(0, 0, 4, 4, 4, 0)
	for _, c := range []struct {
		s    impl.Shape
		b    impl.Box
		want bool
	}{
		{l, box(0, 0, 4, 4), true}, {l, box(0, 0, 3, 4), false}, {l, box(0, 0, 4, 3), false}, {l, box(1, 0, 4, 4), false}, {l, box(0, 1, 4, 4), false}, {l, box(-1, -1, 9, 9), true},
		{dot(3, 3), box(3, 3, 3, 3), true}, {dot(3, 3), box(3, 4, 3, 4), false},
		{rect(0, 0, 3, 2), box(0, 0, 3, 2), true}, {rect(0, 0, 3, 2), box(1, 1, 2, 2), false},
		{poly(0, 0, 6, 0, 6, 6, 3, 2, 0, 6), box(0, 0, 6, 6), true}, {poly(0, 0, 6, 0, 6, 6, 3, 2, 0, 6), box(0, 0, 6, 5), false},
		{dot(3, 3), impl.Box{X0: 4, Y0: 4, X1: 0, Y1: 0}, false},
	} {
		if impl.ShapeIn(c.s, c.b) != c.want {
			t.Error("in", c.s, c.b, !c.want)
		}
	}
	s := &steps{15}
	for range 5000 {
		a, b := s.shape(7), s.box(7)
		want := true
		for _, p := range a.Points {
			want = want && holds(b, p)
		}
		if impl.ShapeIn(a, b) != want {
			t.Fatal("in", a, b, !want)
		}
	}
}

func TestShapeTextTells(t *testing.T) {
	for _, c := range []struct {
		s    impl.Shape
		text string
	}{
		{dot(1, -2), "POINT 1 -2"}, {dot(0, 0), "POINT 0 0"}, {dot(-edge, edge), "POINT -30000 30000"},
		{line(0, 0, 4, 4, 4, 0), "LINE 0 0 4 4 4 0"}, {line(-10, 7, 120, -5), "LINE -10 7 120 -5"},
		{rect(0, 0, 3, 2), "RECT 0 0 3 2"}, {rect(5, 5, 5, 5), "RECT 5 5 5 5"},
		{poly(0, 0, 6, 0, 6, 6, 3, 2, 0, 6), "POLY 0 0 6 0 6 6 3 2 0 6"}, {poly(6, 0, 0, 6, 0, 0), "POLY 6 0 0 6 0 0"},
	} {
		if text := impl.ShapeText(c.s); text != c.text {
			t.Errorf("text of %v: %q", c.s, text)
		}
		if s, ok := impl.ReadShape(c.text); !ok || !sameShape(s, c.s) {
			t.Error("read", c.text, s, ok)
		}
	}
}

// wrongTexts are no text of a shape, each for one reason.
func wrongTexts() []string {
	list := []string{
		"", " ", "  ", "POINT", "LINE", "RECT", "POLY", "POINT ", "POINT  ", // no coordinates
		"POINT 1", "LINE 0 0 4", "RECT 0 0 3", "POLY 0 0 6 0 0", "POINT 1 2 3", "RECT 0 0 3 2 1", "POLY 0 0 6 0 0 6 1", // an odd number of them
		"POINT 1 2 3 4", "LINE 1 1", "RECT 0 0", "RECT 0 0 1 1 2 2", "POLY 0 0 6 0", // too few or too many
		" POINT 1 2", "POINT 1 2 ", "POINT  1 2", "POINT 1  2", "RECT 0 0  3 2", " RECT 0 0 3 2", "LINE 0 0 4 4 ", // a blank too many
		"POINT1 2", "POINT 12", "RECT 0 0 32", // a blank too few
		"POINT +1 2", "POINT 1 +2", "POINT -0 2", "POINT 1 --2", "POINT 01 2", "POINT 1 02", "POINT 1 -02", "POINT 00 0", "POINT - 2", // signs and noughts
		"POINT 1.0 2", "POINT 1e3 2", "POINT 0x1 2", "POINT 1_0 2", "POINT a b", "POINT 1,2", "POINT 1 2\n", "POINT\t1\t2", "\nPOINT 1 2", "POINT 1 2\x00", "POINT 1 \xb2",
		"point 1 2", "Point 1 2", "POIN 1 2", "POINTS 1 2", "CIRCLE 1 2", "1 2", "0 1 2", "POINT POINT 1 2", "POLYGON 0 0 6 0 0 6", // another word
		"LINE 1 2", "RECT 1 2", "POLY 1 2", "POINT 0 0 3 2", "POLY 0 0 3 2", "LINE 3 3 3 3", "RECT 0 0 6 0 0 6", // another kind's word
		"POINT 1 30001", "POINT -30001 1", "POINT 999999999 0", "POINT 1000000000 0", "POINT 18446744073709551617 0", "POINT 4294967297 0", "LINE 0 0 0 30001",
		"LINE 1 1 1 1", "RECT 3 0 0 2", "RECT 0 2 3 0", "POLY 0 0 0 4 4 0", "POLY 0 0 4 4 4 0 0 4", "POLY 0 0 4 0 2 0", "POLY 0 0 4 0 4 4 2 0", "POLY 0 0 6 0 4 0 4 4 0 4",
		strings.Repeat(" ", 100000), "POINT" + strings.Repeat(" 1", 100000), "LINE" + strings.Repeat(" 0 0 1 1", 100000), "LINE " + strings.Repeat("1", 100000) + " 2",
	}
	// One point more than may be, in texts that would be right but for that.
	return append(list, textOf("LINE", zigzag(61)), textOf("POLY", comb(61)))
}

func textOf(word string, s impl.Shape) string {
	for _, p := range s.Points {
		word += " " + impl.DecText(p.X) + " " + impl.DecText(p.Y)
	}
	return word
}

func TestReadShapeRefuses(t *testing.T) {
	if _, ok := impl.ReadShape(textOf("POLY", comb(60))); !ok {
		t.Error("as many points as may be")
	}
	for _, text := range wrongTexts() {
		if s, ok := impl.ReadShape(text); ok || !isNone(s) {
			t.Errorf("read %.60q: %v %v", text, s, ok)
		}
	}
}

func TestShapesComeBack(t *testing.T) {
	list := rightShapes()
	s := &steps{16}
	for range 3000 {
		a := s.shape(9)
		b, _ := impl.Move(a, s.between(-edge, edge-9), s.between(-edge, edge-9))
		list = append(list, a, b)
	}
	for _, a := range list {
		text := impl.ShapeText(a)
		if b, ok := impl.ReadShape(text); !ok || !sameShape(a, b) {
			t.Fatal("from its text", a, text, b, ok)
		}
		bytes := impl.PutShape(a)
		if b, next := impl.GetShape(bytes, 0); next != len(bytes) || !sameShape(a, b) {
			t.Fatal("from its bytes", a, []byte(bytes), b, next)
		}
		for _, ahead := range []string{"x", "\x00\x01", bytes} {
			if b, next := impl.GetShape(ahead+bytes+"\x80rest", len(ahead)); next != len(ahead)+len(bytes) || !sameShape(a, b) {
				t.Fatal("from its bytes in the midst", a, b, next)
			}
		}
		for cut := range len(bytes) {
			if b, next := impl.GetShape(bytes[:cut], 0); next != -1 || !isNone(b) {
				t.Fatal("from bytes that are cut off", a, cut, b, next)
			}
		}
	}
}

func TestPutShapeTells(t *testing.T) {
	for _, c := range []struct {
		s     impl.Shape
		bytes string
	}{
		{dot(0, 0), "\x00\x01\x00\x00"}, {dot(1, -2), "\x00\x01\x02\x03"}, {dot(-1, 64), "\x00\x01\x01\x80\x01"},
		{dot(edge, -edge), "\x00\x01\xe0\xd4\x03\xdf\xd4\x03"},
		{line(0, 0, 4, 4, 4, 0), "\x01\x03\x00\x00\x08\x08\x00\x07"},
		{line(-edge, edge, edge, -edge), "\x01\x02\xdf\xd4\x03\xe0\xd4\x03\xc0\xa9\x07\xbf\xa9\x07"},
		{rect(0, 0, 3, 2), "\x02\x02\x00\x00\x06\x04"}, {rect(5, 5, 5, 5), "\x02\x02\x0a\x0a\x00\x00"},
		{poly(1, 1, 6, 1, 1, 7), "\x03\x03\x02\x02\x0a\x00\x09\x0c"},
	} {
		if s := impl.PutShape(c.s); s != c.bytes {
			t.Errorf("bytes of %v: %x", c.s, s)
		}
		if s, next := impl.GetShape(c.bytes, 0); next != len(c.bytes) || !sameShape(s, c.s) {
			t.Errorf("get %x: %v %d", c.bytes, s, next)
		}
	}
}

func TestGetShapeRefuses(t *testing.T) {
	for _, s := range []string{
		"", "\x00", "\x00\x01", "\x00\x01\x02", "\x02\x02\x00\x00\x06", "\x02\x02\x00\x00\x06\x80", // cut off
		"\x04\x01\x02\x03", "\x05\x02\x00\x00\x06\x04", "\x7f\x01\x02\x03", "\x80\x01\x02\x03", "\x80\x00\x01\x02\x03", "\xff\x01\x02\x03", // no kind
		"\x00\x00", "\x00\x02\x02\x03\x02\x03", "\x01\x00", "\x01\x01\x02\x03", "\x02\x01\x02\x03", "\x02\x03\x00\x00\x02\x02\x02\x02", "\x03\x02\x00\x00\x08\x00", // too few or too many points
		"\x00\x81\x00\x02\x03", "\x00\x01\x82\x00\x03", "\x00\x01\x02\x83\x00", "\x00\x01\x82\x80\x00\x03", // a number in more bytes than are needed
		"\x01\x02\x00\x00\x00\x00", "\x02\x02\x00\x00\x05\x04", "\x02\x02\x00\x00\x04\x05", "\x03\x03\x00\x00\x00\x08\x08\x07", // not as the kind wants it
		"\x03\x04\x00\x00\x08\x08\x00\x07\x07\x08",                             // crosses itself
		"\x00\x01" + impl.PutNum(2*(edge+1)) + "\x00",                          // beyond the coordinates
		"\x00\x01\x00" + impl.PutNum(2*(edge+1)-1),                             //
		"\x01\x02" + impl.PutNum(2*edge) + "\x00\x02\x00",                      // beyond them at the second point
		"\x00\x01" + impl.PutNum(2*foldMost) + "\x00",                          // the greatest that is folded
		"\x00\x01" + impl.PutNum(2*foldMost+1) + "\x00",                        // not folded at all: must not pass for 0
		"\x00\x01\x00" + impl.PutNum(2*foldMost+2),                             //
		"\x00\x01" + impl.PutNum(numMost) + "\x00",                             // the greatest number
		"\x00\x01\xff\xff\xff\xff\x7f\x00", "\x00\x01\xff\xff\xff\xff\xff\x01", // beyond all numbers
		"\x00" + impl.PutNum(numMost), "\x01" + impl.PutNum(numMost) + strings.Repeat("\x02", 100000), // as many points as no text has
		"\x01\x3d" + strings.Repeat("\x02", 122), // a line of 61
		"\x01\x3c" + strings.Repeat("\x02", 119), // a line of 60, cut off
		"POINT 1 2",
	} {
		if b, next := impl.GetShape(s, 0); next != -1 || !isNone(b) {
			t.Errorf("get %.60q: %v %d", s, b, next)
		}
	}
	if b, next := impl.GetShape("\x01\x3c"+strings.Repeat("\x02", 120), 0); next != 122 || len(b.Points) != 60 {
		t.Error("a line of 60", b, next)
	}
}

func TestGetShapePlaces(t *testing.T) {
	s := impl.PutShape(dot(0, 0)) + impl.PutShape(rect(0, 0, 3, 2))
	if b, next := impl.GetShape(s, 4); next != len(s) || !sameShape(b, rect(0, 0, 3, 2)) {
		t.Error("the second", b, next)
	}
	for _, i := range append([]int{-1, -2, -len(s), len(s), len(s) + 1}, farInts...) {
		for _, text := range []string{s, ""} {
			if b, next := impl.GetShape(text, i); next != -1 || !isNone(b) {
				t.Error("at a place that is none", i, b, next)
			}
		}
	}
}

// changed is s with some of its bytes replaced, left out or put in.
func (s *steps) changed(text, with string) string {
	bytes := []byte(text)
	for range s.between(1, 3) {
		i := s.below(len(bytes) + 1)
		b := with[s.below(len(with))]
		switch {
		case s.below(3) == 0 || i == len(bytes):
			bytes = slices.Insert(bytes, i, b)
		case s.below(2) == 0:
			bytes[i] = b
		default:
			bytes = slices.Delete(bytes, i, i+1)
		}
	}
	return string(bytes)
}

func TestReadersTakeOneWayAlone(t *testing.T) {
	s := &steps{17}
	texts, puts := 0, 0
	for range 20000 {
		a := s.shape(70)
		text := s.changed(impl.ShapeText(a), "0123456789-+  POINTLERCY")
		if b, ok := impl.ReadShape(text); ok {
			texts++
			if impl.ShapeText(b) != text {
				t.Fatalf("read %q: %v", text, b)
			}
		}
		bytes := s.changed(impl.PutShape(a), "\x00\x01\x02\x03\x04\x08\x3c\x7f\x80\x81\xff")
		i := s.below(3)
		b, next := impl.GetShape(bytes, i)
		if next < 0 {
			continue
		}
		puts++
		if !impl.ShapeOk(b) || impl.PutShape(b) != bytes[i:next] {
			t.Fatalf("get %x at %d: %v %d", bytes, i, b, next)
		}
	}
	if texts < 1000 || puts < 1000 {
		t.Error("too few are read", texts, puts)
	}
}

func TestMoveTells(t *testing.T) {
	for _, c := range []struct {
		s      impl.Shape
		dx, dy int
		want   impl.Shape
	}{
		{dot(1, 2), 3, -4, dot(4, -2)}, {dot(1, 2), 0, 0, dot(1, 2)},
		{line(0, 0, 4, 4, 4, 0), -1, 2, line(-1, 2, 3, 6, 3, 2)},
		{rect(0, 0, 3, 2), 10, 20, rect(10, 20, 13, 22)},
		{poly(0, 0, 6, 0, 0, 6), -3, -3, poly(-3, -3, 3, -3, -3, 3)},
		{line(0, 0, 4, 4), edge - 4, edge - 4, line(edge-4, edge-4, edge, edge)}, // ends at the bounds
		{line(0, 0, 4, 4), -edge, -edge, line(-edge, -edge, -edge+4, -edge+4)},
		{dot(-edge, edge), moveMost, -moveMost, dot(edge, -edge)}, {dot(edge, -edge), -moveMost, moveMost, dot(-edge, edge)},
		{rect(-edge, -edge, -edge, 0), moveMost, edge, rect(edge, 0, edge, edge)},
	} {
		m, ok := impl.Move(c.s, c.dx, c.dy)
		if !ok || !sameShape(m, c.want) {
			t.Error("move", c.s, c.dx, c.dy, m, ok)
		}
		if back, ok := impl.Move(m, -c.dx, -c.dy); !ok || !sameShape(back, c.s) {
			t.Error("move back", c.s, c.dx, c.dy, back, ok)
		}
	}
}

func TestMoveRefuses(t *testing.T) {
	refused := func(s impl.Shape, dx, dy int) {
		t.Helper()
		if m, ok := impl.Move(s, dx, dy); ok || !isNone(m) {
			t.Error("move", s, dx, dy, m, ok)
		}
	}
	l := line(0, 0, 4, 4)
	refused(l, edge-3, 0)
	refused(l, 0, edge-3)
	refused(l, -edge-1, 0)
	refused(l, 0, -edge-1)
	refused(dot(-edge, 0), moveMost+1, 0)
	refused(dot(0, -edge), 0, moveMost+1)
	refused(dot(edge, 0), -moveMost-1, 0)
	refused(dot(0, edge), 0, -moveMost-1)
	for _, far := range append([]int{moveMost + 1, -moveMost - 1, math.MaxInt64 - edge}, farInts...) {
		for _, s := range rightShapes() {
			refused(s, far, 0)
			refused(s, 0, far)
			refused(s, far, far)
		}
	}
	// What comes out would be right again around 64 bits, and what went in is none.
	refused(dot(math.MaxInt64, 0), 1, 0)
	refused(dot(edge+1, 0), -1, 0)
	refused(poly(0, 0, 0, 4, 4, 0), 1, 1)
}

func TestShapesWriteNothing(t *testing.T) {
	for _, s := range append(rightShapes(), poly(0, 0, 0, 4, 4, 0), shape(9, 1, 1)) {
		room := append(slices.Clone(s.Points), at(77, 77), at(78, 78))
		kept := slices.Clone(room)
		a := impl.Shape{Kind: s.Kind, Points: room[:len(s.Points)]}
		impl.ShapeOk(a)
		impl.ShapeBox(a)
		impl.ShapeHas(a, at(1, 1))
		impl.ShapesMeet(a, a)
		impl.ShapesMeet(a, rect(-edge, -edge, edge, edge))
		impl.ShapeIn(a, box(0, 0, 5, 5))
		impl.ShapeText(a)
		impl.PutShape(a)
		m, ok := impl.Move(a, 0, 0)
		if !slices.Equal(room, kept) {
			t.Fatal("an argument was written into", room)
		}
		if !ok {
			continue
		}
		m.Points[0] = at(99, 99)
		_ = append(m.Points, at(98, 98))
		if !slices.Equal(room, kept) {
			t.Fatal("an answer shares memory with an argument", room)
		}
	}
}
