package tests

import (
	"math"
	"slices"
	"testing"

	"loop.example/g00229/impl"
)

const (
	edge     = impl.MaxCoord
	ringMost = 1000
)

func at(x, y int) impl.Point { return impl.Point{X: x, Y: y} }

func box(x0, y0, x1, y1 int) impl.Box { return impl.Box{X0: x0, Y0: y0, X1: x1, Y1: y1} }

// noCoords are no coordinates: just beyond the bounds, and those of which a difference or a product goes around 64 bits.
func noCoords() []int { return append([]int{-edge - 1, edge + 1}, farInts...) }

func noPoints() []impl.Point {
	var list []impl.Point
	for _, c := range noCoords() {
		list = append(list, at(c, 0), at(0, c), at(c, c))
	}
	return list
}

func noBoxes() []impl.Box {
	list := []impl.Box{box(1, 0, 0, 0), box(0, 1, 0, 0), box(1, 1, 0, 0), box(edge, 0, -edge, 0), box(0, edge, 0, -edge)}
	for _, c := range noCoords() {
		list = append(list, box(c, 0, edge, 0), box(0, c, 0, edge), box(-edge, 0, c, 0), box(0, -edge, 0, c), box(c, c, c, c))
	}
	return list
}

// grid tells all points of 0 .. most in x and y.
func grid(most int) []impl.Point {
	var list []impl.Point
	for x := range most + 1 {
		for y := range most + 1 {
			list = append(list, at(x, y))
		}
	}
	return list
}

// steps is a fixed row of numbers that looks like chance.
type steps struct{ state uint64 }

func (s *steps) below(n int) int {
	s.state = s.state*6364136223846793005 + 1442695040888963407
	return int((s.state >> 33) % uint64(n))
}

func (s *steps) between(least, most int) int { return least + s.below(most-least+1) }

func (s *steps) point(reach int) impl.Point {
	return at(s.between(-reach, reach), s.between(-reach, reach))
}

func (s *steps) points(n, reach int) []impl.Point {
	var list []impl.Point
	for range n {
		list = append(list, s.point(reach))
	}
	return list
}

func (s *steps) box(reach int) impl.Box {
	a, b := s.point(reach), s.point(reach)
	return box(min(a.X, b.X), min(a.Y, b.Y), max(a.X, b.X), max(a.Y, b.Y))
}

func moved(list []impl.Point, dx, dy int) []impl.Point {
	var out []impl.Point
	for _, p := range list {
		out = append(out, at(p.X+dx, p.Y+dy))
	}
	return out
}

func TestPointOk(t *testing.T) {
	for _, p := range []impl.Point{at(0, 0), at(edge, -edge), at(-edge, edge), at(1, edge), at(-edge, -1)} {
		if !impl.PointOk(p) {
			t.Error("a point is refused", p)
		}
	}
	for _, p := range noPoints() {
		if impl.PointOk(p) {
			t.Error("no point is taken", p)
		}
	}
}

func TestBoxOk(t *testing.T) {
	for _, b := range []impl.Box{box(0, 0, 0, 0), box(edge, edge, edge, edge), box(-edge, -edge, edge, edge), box(1, 5, 1, 9), box(-3, 2, 7, 2)} {
		if !impl.BoxOk(b) {
			t.Error("a box is refused", b)
		}
	}
	for _, b := range noBoxes() {
		if impl.BoxOk(b) {
			t.Error("no box is taken", b)
		}
	}
}

func TestBoxAround(t *testing.T) {
	for _, c := range []struct {
		list []impl.Point
		want impl.Box
	}{
		{[]impl.Point{at(3, -7)}, box(3, -7, 3, -7)},
		{[]impl.Point{at(3, 7), at(5, 2)}, box(3, 2, 5, 7)},
		{[]impl.Point{at(1, 1), at(2, 2), at(-4, 1), at(0, 9), at(0, -9)}, box(-4, -9, 2, 9)},
		{[]impl.Point{at(5, 5), at(5, 5), at(5, 5)}, box(5, 5, 5, 5)},
		{[]impl.Point{at(edge, -edge), at(-edge, edge)}, box(-edge, -edge, edge, edge)},
		{slices.Repeat([]impl.Point{at(1, 2), at(3, 4)}, 2*ringMost), box(1, 2, 3, 4)},
	} {
		if b, ok := impl.BoxAround(c.list); !ok || b != c.want {
			t.Error("around", len(c.list), b, ok, c.want)
		}
	}
	for _, list := range [][]impl.Point{nil, {}} {
		if b, ok := impl.BoxAround(list); ok || b != (impl.Box{}) {
			t.Error("around nothing", b, ok)
		}
	}
	for _, p := range noPoints() {
		for _, list := range [][]impl.Point{{p}, {p, at(1, 1)}, {at(1, 1), p}, {at(1, 1), p, at(2, 2)}} {
			if b, ok := impl.BoxAround(list); ok || b != (impl.Box{}) {
				t.Error("around no point", list, b, ok)
			}
		}
	}
}

// holds tells whether a point of whole coordinates is in a box.
func holds(b impl.Box, p impl.Point) bool {
	return p.X >= b.X0 && p.X <= b.X1 && p.Y >= b.Y0 && p.Y <= b.Y1
}

func TestBoxesHoldPoints(t *testing.T) {
	const most = 3
	points := grid(most)
	var boxes []impl.Box
	for _, a := range points {
		for _, b := range points {
			if a.X <= b.X && a.Y <= b.Y {
				boxes = append(boxes, box(a.X, a.Y, b.X, b.Y))
			}
		}
	}
	for _, a := range boxes {
		for _, b := range boxes {
			meets, has := false, true
			var both []impl.Point
			for _, p := range points {
				meets = meets || holds(a, p) && holds(b, p)
				has = has && (holds(a, p) || !holds(b, p))
				if holds(a, p) || holds(b, p) {
					both = append(both, p)
				}
			}
			if impl.BoxMeets(a, b) != meets || impl.BoxHas(a, b) != has {
				t.Fatal("boxes", a, b, meets, has)
			}
			around, _ := impl.BoxAround(both)
			if j, ok := impl.BoxJoin(a, b); !ok || j != around {
				t.Fatal("join", a, b, j, around)
			}
		}
	}
}

func TestBoxesFar(t *testing.T) {
	all := box(-edge, -edge, edge, edge)
	corner := box(edge, edge, edge, edge)
	other := box(-edge, -edge, -edge, -edge)
	if !impl.BoxMeets(all, corner) || !impl.BoxMeets(corner, all) || impl.BoxMeets(corner, other) || !impl.BoxHas(all, corner) || impl.BoxHas(corner, all) || !impl.BoxHas(all, all) {
		t.Error("the whole and its corner")
	}
	if j, ok := impl.BoxJoin(corner, other); !ok || j != all {
		t.Error("corners joined", j, ok)
	}
	touching := []impl.Box{box(4, 0, 9, 4), box(0, 4, 4, 9), box(4, 4, 9, 9), box(-9, -9, 0, 0), box(2, 4, 2, 4)}
	for _, b := range touching {
		if !impl.BoxMeets(box(0, 0, 4, 4), b) || !impl.BoxMeets(b, box(0, 0, 4, 4)) {
			t.Error("boxes that touch", b)
		}
	}
	for _, b := range []impl.Box{box(5, 0, 9, 4), box(0, 5, 4, 9), box(-9, 0, -1, 4), box(0, -9, 4, -1), box(5, 5, 5, 5)} {
		if impl.BoxMeets(box(0, 0, 4, 4), b) || impl.BoxMeets(b, box(0, 0, 4, 4)) {
			t.Error("boxes beside each other", b)
		}
	}
}

func TestBoxArea(t *testing.T) {
	for _, c := range []struct {
		b    impl.Box
		want int
	}{
		{box(0, 0, 0, 0), 0}, {box(0, 0, 3, 5), 15}, {box(-2, -3, 2, 3), 24}, {box(1, 1, 9, 1), 0}, {box(1, 1, 1, 9), 0}, {box(-edge, -edge, edge, edge), 3600000000},
	} {
		if n := impl.BoxArea(c.b); n != c.want {
			t.Error("area", c.b, n)
		}
	}
}

func TestBoxesRefuse(t *testing.T) {
	right := box(-edge, -edge, edge, edge)
	for _, b := range noBoxes() {
		if impl.BoxArea(b) != 0 {
			t.Error("area of none", b)
		}
		for _, c := range [][2]impl.Box{{b, right}, {right, b}, {b, b}} {
			if impl.BoxMeets(c[0], c[1]) || impl.BoxHas(c[0], c[1]) {
				t.Error("no box meets or has", c)
			}
			if j, ok := impl.BoxJoin(c[0], c[1]); ok || j != (impl.Box{}) {
				t.Error("no box is joined", c, j, ok)
			}
		}
	}
}

func TestTurnTells(t *testing.T) {
	for _, c := range []struct {
		a, b, c impl.Point
		want    int
	}{
		{at(0, 0), at(4, 0), at(4, 4), 1},
		{at(0, 0), at(4, 0), at(4, -4), -1},
		{at(0, 0), at(4, 0), at(9, 0), 0},
		{at(0, 0), at(4, 0), at(-9, 0), 0},
		{at(0, 0), at(4, 0), at(0, 0), 0},
		{at(1, 1), at(1, 1), at(5, 9), 0},
		{at(5, 9), at(1, 1), at(1, 1), 0},
		{at(7, 7), at(7, 7), at(7, 7), 0},
		{at(-3, -6), at(0, 0), at(2, 4), 0},
		{at(-edge, -edge), at(edge, edge), at(edge-1, edge), 1},
		{at(-edge, -edge), at(edge, edge), at(edge, edge-1), -1},
		{at(-edge, -edge), at(edge, -edge), at(edge, edge), 1},
		{at(-edge, edge), at(edge, edge), at(-edge, -edge), -1},
		{at(-edge, -edge), at(edge-1, edge-2), at(edge, edge-1), 1},
	} {
		if n := impl.Turn(c.a, c.b, c.c); n != c.want {
			t.Error("turn", c.a, c.b, c.c, n)
		}
	}
}

// leansLeft tells by how far c stands above or below the line from a to b, or left and right of it where that is upright.
func leansLeft(a, b, c impl.Point) int {
	if a == b {
		return 0
	}
	if a.X == b.X {
		side := a.X - c.X
		if b.Y < a.Y {
			side = -side
		}
		return sign(side)
	}
	// The line at c.X has a.Y + (b.Y - a.Y) (c.X - a.X) / (b.X - a.X).
	wide := b.X - a.X
	above := (c.Y-a.Y)*wide - (b.Y-a.Y)*(c.X-a.X)
	return sign(above)
}

func sign(n int) int {
	if n == 0 {
		return 0
	}
	if n < 0 {
		return -1
	}
	return 1
}

func TestTurnFromEachPoint(t *testing.T) {
	check := func(a, b, c impl.Point) {
		n := impl.Turn(a, b, c)
		if n != leansLeft(a, b, c) {
			t.Fatal("turn", a, b, c, n)
		}
		if impl.Turn(b, c, a) != n || impl.Turn(c, a, b) != n {
			t.Fatal("turn from another point on", a, b, c)
		}
		if impl.Turn(c, b, a) != -n || impl.Turn(a, c, b) != -n || impl.Turn(b, a, c) != -n {
			t.Fatal("turn the other way", a, b, c)
		}
	}
	points := grid(3)
	for _, a := range points {
		for _, b := range points {
			for _, c := range points {
				check(a, b, c)
			}
		}
	}
	s := &steps{1}
	for range 20000 {
		check(s.point(edge), s.point(edge), s.point(edge))
	}
}

func TestOnSideTells(t *testing.T) {
	for _, c := range []struct {
		p, a, b impl.Point
		want    bool
	}{
		{at(2, 2), at(0, 0), at(4, 4), true},
		{at(0, 0), at(0, 0), at(4, 4), true},
		{at(4, 4), at(0, 0), at(4, 4), true},
		{at(5, 5), at(0, 0), at(4, 4), false},
		{at(-1, -1), at(0, 0), at(4, 4), false},
		{at(2, 3), at(0, 0), at(4, 4), false},
		{at(3, 0), at(0, 0), at(9, 0), true},
		{at(10, 0), at(0, 0), at(9, 0), false},
		{at(0, 3), at(0, 9), at(0, 0), true},
		{at(0, -1), at(0, 9), at(0, 0), false},
		{at(1, 1), at(0, 0), at(3, 2), false},
		{at(6, 6), at(6, 6), at(6, 6), true},
		{at(6, 7), at(6, 6), at(6, 6), false},
		{at(0, 0), at(-edge, edge), at(edge, -edge), true},
		{at(1, 0), at(-edge, edge), at(edge, -edge), false},
		{at(edge, edge), at(-edge, -edge), at(edge, edge), true},
	} {
		if impl.OnSide(c.p, c.a, c.b) != c.want || impl.OnSide(c.p, c.b, c.a) != c.want {
			t.Error("on a side", c.p, c.a, c.b)
		}
	}
}

// onBySteps goes along the side by its whole steps.
func onBySteps(p, a, b impl.Point) bool {
	dx, dy := b.X-a.X, b.Y-a.Y
	n := greatest(dx, dy)
	if n == 0 {
		return p == a
	}
	for k := range n + 1 {
		if p == at(a.X+dx/n*k, a.Y+dy/n*k) {
			return true
		}
	}
	return false
}

// greatest is the greatest number that both are a multiple of: so many whole steps a side has.
func greatest(a, b int) int {
	for b != 0 {
		a, b = b, a%b
	}
	return max(a, -a)
}

func TestOnSideBySteps(t *testing.T) {
	points := grid(4)
	for _, a := range points {
		for _, b := range points {
			for _, p := range points {
				if impl.OnSide(p, a, b) != onBySteps(p, a, b) {
					t.Fatal("on a side", p, a, b)
				}
			}
		}
	}
}

func TestSidesMeetTells(t *testing.T) {
	for _, c := range []struct {
		a, b, c, d impl.Point
		want       bool
	}{
		{at(0, 0), at(4, 4), at(0, 4), at(4, 0), true},
		{at(0, 0), at(1, 1), at(0, 1), at(1, 0), true},  // at a half of both coordinates
		{at(0, 0), at(3, 1), at(0, 1), at(1, 0), true},  // at 3/4, 1/4
		{at(0, 0), at(4, 0), at(4, 0), at(9, 9), true},  // at an end of both
		{at(0, 0), at(4, 0), at(2, 0), at(2, 9), true},  // an end of one upon the other
		{at(0, 0), at(4, 0), at(3, 0), at(9, 0), true},  // lie upon each other in part
		{at(0, 0), at(9, 0), at(3, 0), at(4, 0), true},  // one wholly upon the other
		{at(0, 0), at(4, 0), at(0, 0), at(4, 0), true},  // alike
		{at(0, 0), at(4, 0), at(4, 0), at(9, 0), true},  // one line, one end
		{at(0, 0), at(4, 0), at(5, 0), at(9, 0), false}, // one line, apart
		{at(0, 0), at(4, 4), at(5, 5), at(9, 9), false}, // one slanted line, apart
		{at(0, 0), at(0, 4), at(0, 5), at(0, 9), false}, // one upright line, apart
		{at(0, 0), at(4, 0), at(0, 1), at(4, 1), false}, // level
		{at(0, 0), at(4, 4), at(1, 0), at(5, 4), false}, // level, boxes meet
		{at(0, 0), at(4, 4), at(3, 2), at(9, 2), false}, // boxes meet, sides do not
		{at(0, 0), at(9, 0), at(4, 1), at(4, 9), false}, // ends just ahead of it
		{at(5, 5), at(5, 5), at(5, 5), at(5, 5), true},  // of one point both
		{at(5, 5), at(5, 5), at(5, 6), at(5, 6), false}, //
		{at(2, 2), at(2, 2), at(0, 0), at(4, 4), true},  // of one point upon a side
		{at(0, 0), at(0, 0), at(0, 0), at(4, 4), true},  //
		{at(2, 3), at(2, 3), at(0, 0), at(4, 4), false}, //
		{at(5, 5), at(5, 5), at(0, 0), at(4, 4), false}, // of one point on the line beyond
		{at(-1, -1), at(-1, -1), at(0, 0), at(4, 4), false},
		{at(-edge, -edge), at(edge, edge), at(-edge, edge), at(edge, -edge), true},
		{at(-edge, -edge), at(edge, edge), at(-edge, -edge+1), at(edge-1, edge), false},
		{at(-edge, -edge), at(edge, edge-1), at(0, 0), at(edge, edge), false},
		{at(-edge, -edge), at(edge, edge-1), at(0, -1), at(0, 0), true}, // at 0, -1/2
	} {
		for _, o := range [][4]impl.Point{{c.a, c.b, c.c, c.d}, {c.b, c.a, c.c, c.d}, {c.a, c.b, c.d, c.c}, {c.d, c.c, c.b, c.a}} {
			if impl.SidesMeet(o[0], o[1], o[2], o[3]) != c.want {
				t.Error("sides", o, !c.want)
			}
		}
	}
}

// apartAlong tells whether what both sides have of the direction dx, dy leaves a gap.
func apartAlong(dx, dy int, a, b, c, d impl.Point) bool {
	along := func(p impl.Point) int { return p.X*dx + p.Y*dy }
	first := []int{along(a), along(b)}
	second := []int{along(c), along(d)}
	return slices.Max(first) < slices.Min(second) || slices.Max(second) < slices.Min(first)
}

// meetByGaps tells whether two sides meet: they do not just where one of the directions along or across a side, or those of the plane, shows a gap between them.
func meetByGaps(a, b, c, d impl.Point) bool {
	for _, v := range [][2]int{{1, 0}, {0, 1}, {b.X - a.X, b.Y - a.Y}, {d.X - c.X, d.Y - c.Y}} {
		if apartAlong(v[0], v[1], a, b, c, d) || apartAlong(-v[1], v[0], a, b, c, d) {
			return false
		}
	}
	return true
}

func checkSides(t *testing.T, a, b, c, d impl.Point) {
	t.Helper()
	meet := impl.SidesMeet(a, b, c, d)
	if meet != meetByGaps(a, b, c, d) {
		t.Fatal("sides", a, b, c, d, meet)
	}
	if impl.SidesMeet(c, d, a, b) != meet || impl.SidesMeet(b, a, c, d) != meet || impl.SidesMeet(a, b, d, c) != meet {
		t.Fatal("sides told otherwise", a, b, c, d)
	}
	one, _ := impl.BoxAround([]impl.Point{a, b})
	two, _ := impl.BoxAround([]impl.Point{c, d})
	if meet && !impl.BoxMeets(one, two) {
		t.Fatal("sides meet and their boxes do not", a, b, c, d)
	}
}

func TestSidesMeetByGaps(t *testing.T) {
	points := grid(3)
	for _, a := range points {
		for _, b := range points {
			for _, c := range points {
				for _, d := range points {
					checkSides(t, a, b, c, d)
				}
			}
		}
	}
	s := &steps{2}
	for range 20000 {
		checkSides(t, s.point(edge), s.point(edge), s.point(edge), s.point(edge))
		checkSides(t, s.point(9), s.point(9), s.point(9), s.point(9))
	}
}

func TestSidesRefuse(t *testing.T) {
	o := at(0, 0)
	for _, p := range noPoints() {
		if impl.Turn(p, o, at(1, 1)) != 0 || impl.Turn(o, p, at(1, 1)) != 0 || impl.Turn(o, at(1, 0), p) != 0 {
			t.Error("no point turns", p)
		}
		if impl.OnSide(p, p, p) || impl.OnSide(o, p, o) || impl.OnSide(o, o, p) || impl.OnSide(p, o, p) {
			t.Error("on a side of no point", p)
		}
		for i := range 4 {
			q := [4]impl.Point{o, o, o, o}
			q[i] = p
			if impl.SidesMeet(q[0], q[1], q[2], q[3]) {
				t.Error("a side of no point meets", q)
			}
		}
		if impl.SidesMeet(p, p, p, p) {
			t.Error("no points meet", p)
		}
	}
}

func TestArea2Tells(t *testing.T) {
	square := []impl.Point{at(0, 0), at(4, 0), at(4, 4), at(0, 4)}
	all := []impl.Point{at(-edge, -edge), at(edge, -edge), at(edge, edge), at(-edge, edge)}
	for _, c := range []struct {
		list []impl.Point
		want int
	}{
		{nil, 0},
		{[]impl.Point{at(3, 4)}, 0},
		{[]impl.Point{at(3, 4), at(9, 1)}, 0},
		{[]impl.Point{at(0, 0), at(1, 1), at(5, 5)}, 0},
		{square, 32},
		{[]impl.Point{at(0, 0), at(1, 0), at(0, 1)}, 1},
		{[]impl.Point{at(0, 0), at(0, 1), at(1, 0)}, -1},
		{[]impl.Point{at(0, 0), at(4, 4), at(4, 0), at(0, 4)}, 0}, // crosses itself
		{[]impl.Point{at(0, 0), at(4, 0), at(4, 4), at(2, 1), at(0, 4)}, 20},
		{slices.Concat(square, square), 64},
		{all, 7200000000},
		{slices.Repeat(all, ringMost/4), 7200000000 * ringMost / 4},
		{slices.Repeat(all, ringMost/4)[1:], 7200000000*ringMost/4 - 3600000000},
		{append(slices.Repeat(all, ringMost/4), all[0]), 0}, // one too many
	} {
		if n := impl.Area2(c.list); n != c.want {
			t.Error("area", len(c.list), n, c.want)
		}
	}
	for _, p := range noPoints() {
		for i := range square {
			if n := impl.Area2(slices.Insert(slices.Clone(square), i, p)); n != 0 {
				t.Error("area with no point", p, n)
			}
		}
	}
}

// areaBelow is twice the area below each side, down to 0, of those to the left more, of those to the right less.
func areaBelow(list []impl.Point) int {
	sum := 0
	for i, p := range list {
		q := list[(i+len(list)-1)%len(list)]
		sum += (q.X - p.X) * (q.Y + p.Y)
	}
	return sum
}

func TestArea2Moved(t *testing.T) {
	s := &steps{3}
	for k := range 3000 {
		list := s.points(s.below(12), edge/2)
		n := impl.Area2(list)
		if n != areaBelow(list) {
			t.Fatal("area", list, n)
		}
		dx, dy := s.between(-edge/2, edge/2), s.between(-edge/2, edge/2)
		if m := impl.Area2(moved(list, dx, dy)); m != n {
			t.Fatal("area moved", k, list, dx, dy, n, m)
		}
		if len(list) == 0 {
			continue
		}
		i := s.below(len(list))
		if m := impl.Area2(slices.Concat(list[i:], list[:i])); m != n {
			t.Fatal("area from another point on", list, i, n, m)
		}
		slices.Reverse(list)
		if m := impl.Area2(list); m != -n {
			t.Fatal("area the other way", list, n, m)
		}
	}
}

func TestInRingTells(t *testing.T) {
	square := []impl.Point{at(0, 0), at(4, 0), at(4, 4), at(0, 4)}
	dent := []impl.Point{at(0, 0), at(8, 0), at(8, 8), at(4, 4), at(0, 8)}
	spike := []impl.Point{at(0, 4), at(4, 0), at(8, 4), at(4, 8)}
	bow := []impl.Point{at(0, 0), at(4, 4), at(4, 0), at(0, 4)}
	star := []impl.Point{at(0, 0), at(10, 0), at(2, 8), at(5, -4), at(8, 8)}
	for _, c := range []struct {
		p    impl.Point
		list []impl.Point
		want int
	}{
		{at(2, 2), square, 1}, {at(5, 2), square, 0}, {at(-1, 2), square, 0}, {at(2, 5), square, 0}, {at(2, -1), square, 0},
		{at(4, 2), square, 2}, {at(0, 2), square, 2}, {at(2, 0), square, 2}, {at(2, 4), square, 2},
		{at(0, 0), square, 2}, {at(4, 4), square, 2}, {at(4, 0), square, 2}, {at(0, 4), square, 2},
		{at(-1, 0), square, 0}, {at(5, 0), square, 0}, {at(-1, 4), square, 0}, {at(5, 4), square, 0},
		{at(1, 4), dent, 1}, {at(-1, 4), dent, 0}, {at(4, 5), dent, 0}, {at(4, 4), dent, 2}, {at(4, 3), dent, 1}, {at(-1, 8), dent, 0}, {at(4, 8), dent, 0}, {at(-1, 0), dent, 0},
		{at(4, 4), spike, 1}, {at(-1, 4), spike, 0}, {at(0, 4), spike, 2}, {at(3, 0), spike, 0}, {at(3, 8), spike, 0}, {at(9, 4), spike, 0}, {at(1, 2), spike, 0}, {at(2, 2), spike, 2}, {at(3, 2), spike, 1},
		{at(1, 2), bow, 1}, {at(3, 2), bow, 1}, {at(2, 2), bow, 2}, {at(2, 1), bow, 0}, {at(2, 3), bow, 0},
		{at(5, 2), star, 0}, {at(2, 0), star, 2}, {at(5, -2), star, 1},
		{at(1, 1), slices.Concat(square, square), 0}, {at(1, 4), slices.Concat(square, square), 2},
		{at(1, 1), slices.Concat(square, square, square), 1},
		{at(0, 0), nil, 0}, {at(0, 0), []impl.Point{}, 0},
		{at(3, 3), []impl.Point{at(3, 3)}, 2}, {at(2, 3), []impl.Point{at(3, 3)}, 0},
		{at(2, 2), []impl.Point{at(0, 0), at(4, 4)}, 2}, {at(1, 2), []impl.Point{at(0, 0), at(4, 4)}, 0},
		{at(2, 0), []impl.Point{at(0, 0), at(4, 0), at(9, 0)}, 2}, {at(-1, 0), []impl.Point{at(0, 0), at(4, 0), at(9, 0)}, 0},
		{at(edge, edge), []impl.Point{at(-edge, -edge), at(edge, -edge), at(edge, edge), at(-edge, edge)}, 2},
		{at(edge-1, edge-1), []impl.Point{at(-edge, -edge), at(edge, -edge), at(edge, edge), at(-edge, edge)}, 1},
		{at(edge-1, edge-1), []impl.Point{at(-edge, -edge), at(edge, -edge), at(edge, edge)}, 2},
		{at(edge-2, edge-1), []impl.Point{at(-edge, -edge), at(edge, -edge), at(edge, edge)}, 0},
		{at(edge-1, edge-2), []impl.Point{at(-edge, -edge), at(edge, -edge), at(edge, edge)}, 1},
	} {
		if n := impl.InRing(c.p, c.list); n != c.want {
			t.Error("in a ring", c.p, c.list, n, c.want)
		}
	}
}

func TestInRingRefuses(t *testing.T) {
	square := []impl.Point{at(0, 0), at(4, 0), at(4, 4), at(0, 4)}
	for _, p := range noPoints() {
		if impl.InRing(p, square) != -1 || impl.InRing(p, nil) != -1 || impl.InRing(p, []impl.Point{p}) != -1 {
			t.Error("no point in a ring", p)
		}
		for i := range len(square) + 1 {
			list := slices.Insert(slices.Clone(square), i, p)
			// Also where a side ahead of the wrong point would have told already.
			if impl.InRing(at(1, 1), list) != -1 || impl.InRing(at(0, 0), list) != -1 {
				t.Error("in a ring with no point", list)
			}
		}
	}
	most := slices.Repeat(square, ringMost/4-1)
	most = append(most, at(0, 0), at(4, 0), at(9, 9), at(0, 4))
	if len(most) != ringMost || impl.InRing(at(6, 6), most) != 1 || impl.InRing(at(4, 2), most) != 2 || impl.InRing(at(10, 9), most) != 0 {
		t.Error("as many points as may be")
	}
	if impl.InRing(at(6, 6), append(most, at(0, 0))) != -1 || impl.InRing(at(0, 0), append(most, at(0, 0))) != -1 {
		t.Error("one point more than may be")
	}
}

// crossesSlanted counts sides on a way from p that rises by 1 in 1000: in a small grid it goes through no corner but p.
func crossesSlanted(p impl.Point, list []impl.Point) int {
	count := 0
	side := func(q impl.Point) int { return sign((q.Y-p.Y)*1000 - (q.X - p.X)) }
	for i, a := range list {
		b := list[(i+1)%len(list)]
		if onBySteps(p, a, b) {
			return 2
		}
		if side(a) < 0 && side(b) > 0 && leansLeft(a, b, p) > 0 || side(a) > 0 && side(b) < 0 && leansLeft(b, a, p) > 0 {
			count++
		}
	}
	return count % 2
}

func TestInRingMoved(t *testing.T) {
	s := &steps{4}
	seen := [3]int{}
	for range 4000 {
		list := s.points(s.below(9), 4)
		p := s.point(5)
		n := impl.InRing(p, list)
		if n != crossesSlanted(p, list) {
			t.Fatal("in a ring", p, list, n)
		}
		seen[n]++
		dx, dy := s.between(-edge+5, edge-5), s.between(-edge+5, edge-5)
		if m := impl.InRing(at(p.X+dx, p.Y+dy), moved(list, dx, dy)); m != n {
			t.Fatal("in a ring that is moved", p, list, dx, dy, n, m)
		}
		slices.Reverse(list)
		if m := impl.InRing(p, list); m != n {
			t.Fatal("in a ring the other way", p, list, n, m)
		}
	}
	if slices.Min(seen[:]) < 100 {
		t.Error("too few of a kind", seen)
	}
}

func TestBoxesOfChance(t *testing.T) {
	s := &steps{5}
	for range 5000 {
		a, b := s.box(edge), s.box(edge)
		j, ok := impl.BoxJoin(a, b)
		k, _ := impl.BoxJoin(b, a)
		if !ok || j != k || !impl.BoxHas(j, a) || !impl.BoxHas(j, b) || impl.BoxArea(j) < impl.BoxArea(a) {
			t.Fatal("join", a, b, j, k)
		}
		if impl.BoxMeets(a, b) != impl.BoxMeets(b, a) || impl.BoxHas(a, b) && !impl.BoxMeets(a, b) {
			t.Fatal("boxes told otherwise", a, b)
		}
	}
}

func TestGeometryWritesNothing(t *testing.T) {
	room := []impl.Point{at(0, 0), at(4, 0), at(4, 4), at(0, 4), at(77, 77), at(78, 78)}
	kept := slices.Clone(room)
	list := room[:4]
	impl.BoxAround(list)
	impl.Area2(list)
	impl.InRing(at(1, 1), list)
	impl.InRing(at(math.MaxInt64, 1), list)
	if !slices.Equal(room, kept) {
		t.Error("an argument was written into", room)
	}
}
