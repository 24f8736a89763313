package tests

import (
	"cmp"
	"go/ast"
	"go/parser"
	"go/token"
	"maps"
	"path/filepath"
	"reflect"
	"slices"
	"strconv"
	"strings"
	"testing"
	"unsafe"

	"loop.example/g00229/impl"
)

// allFunctions are those that the document lists.
var allFunctions = map[string]any{
	"CoordOk": impl.CoordOk, "Fold": impl.Fold, "Unfold": impl.Unfold, "PutNum": impl.PutNum, "GetNum": impl.GetNum, "Weave": impl.Weave, "Part": impl.Part, "CheckSum": impl.CheckSum, "DecText": impl.DecText, "ReadInt": impl.ReadInt, "Words": impl.Words,
	"PointOk": impl.PointOk, "BoxOk": impl.BoxOk, "BoxAround": impl.BoxAround, "BoxMeets": impl.BoxMeets, "BoxHas": impl.BoxHas, "BoxJoin": impl.BoxJoin, "BoxArea": impl.BoxArea, "Turn": impl.Turn, "OnSide": impl.OnSide, "SidesMeet": impl.SidesMeet, "Area2": impl.Area2, "InRing": impl.InRing,
	"ShapeOk": impl.ShapeOk, "ShapeBox": impl.ShapeBox, "ShapeHas": impl.ShapeHas, "ShapesMeet": impl.ShapesMeet, "ShapeIn": impl.ShapeIn, "ShapeText": impl.ShapeText, "ReadShape": impl.ReadShape, "PutShape": impl.PutShape, "GetShape": impl.GetShape, "Move": impl.Move,
	"TreeOk": impl.TreeOk, "TreeItems": impl.TreeItems, "TreePut": impl.TreePut, "TreeCut": impl.TreeCut, "TreeFind": impl.TreeFind, "TreeSeen": impl.TreeSeen, "TreeDepth": impl.TreeDepth,
	"TileOk": impl.TileOk, "TileBox": impl.TileBox, "TileUp": impl.TileUp, "TileDown": impl.TileDown, "TileKey": impl.TileKey, "TileOf": impl.TileOf, "TilesOf": impl.TilesOf, "TileMeets": impl.TileMeets,
	"RowsOk": impl.RowsOk, "RowAt": impl.RowAt, "IdsAt": impl.IdsAt, "TreeAt": impl.TreeAt, "Touched": impl.Touched, "Apply": impl.Apply, "Vacuum": impl.Vacuum,
	"StoreOk": impl.StoreOk, "Begin": impl.Begin, "TxnGet": impl.TxnGet, "TxnIds": impl.TxnIds, "TxnPut": impl.TxnPut, "TxnCut": impl.TxnCut, "Commit": impl.Commit, "Rollback": impl.Rollback, "Oldest": impl.Oldest, "Clean": impl.Clean,
	"AskText": impl.AskText, "ReadAsk": impl.ReadAsk, "Tokens": impl.Tokens, "Reads": impl.Reads,
	"DbStart": impl.DbStart, "DbOk": impl.DbOk, "Exec": impl.Exec, "Search": impl.Search, "Script": impl.Script,
	"PutChanges": impl.PutChanges, "GetChanges": impl.GetChanges, "Record": impl.Record, "Records": impl.Records, "Append": impl.Append, "Replay": impl.Replay, "Between": impl.Between,
	"PyramidOk": impl.PyramidOk, "PyramidOf": impl.PyramidOf, "PyramidAdd": impl.PyramidAdd, "PyramidStep": impl.PyramidStep, "PyramidGet": impl.PyramidGet, "PyramidSum": impl.PyramidSum,
	"Dump": impl.Dump, "Load": impl.Load, "Nearest": impl.Nearest, "Pairs": impl.Pairs, "Bounds": impl.Bounds,
	"SiteStart": impl.SiteStart, "SiteOk": impl.SiteOk, "SiteDo": impl.SiteDo, "SiteSync": impl.SiteSync, "SiteCrash": impl.SiteCrash, "SiteClean": impl.SiteClean, "SiteTile": impl.SiteTile,
	"DeskLine": impl.DeskLine, "Desk": impl.Desk,
}

// exportedFunctions are the names of all functions that the program's files hand out.
func exportedFunctions(t *testing.T) []string {
	files, err := filepath.Glob("../impl/*.go")
	if err != nil || len(files) != 14 {
		t.Fatal("a file a chapter", files, err)
	}
	var names []string
	for _, file := range files {
		parsed, err := parser.ParseFile(token.NewFileSet(), file, nil, 0)
		if err != nil {
			t.Fatal(err)
		}
		for _, one := range parsed.Decls {
			if f, ok := one.(*ast.FuncDecl); ok && f.Name.IsExported() && f.Recv == nil {
				names = append(names, f.Name.Name)
			}
		}
	}
	slices.Sort(names)
	return names
}

func TestAllFunctionsAreKnown(t *testing.T) {
	if names := exportedFunctions(t); !slices.Equal(names, slices.Sorted(maps.Keys(allFunctions))) {
		t.Error("other functions", names)
	}
}

func anyInts() []int {
	list := []int{0, 1, 2, 3, 4, 5, 6, 7, 9, 13, 16, 20, 21, 39, 40, 41, 60, 61, 99, 100, 101, 299, 300, 301, 1000, edge, edge + 1, moveMost, moveMost + 1, halfMost, halfMost + 1, logMost, idMost, foldMost, foldMost + 1, numMost, numMost + 1, 1<<32 - 1, 1 << 32}
	for _, n := range list {
		list = append(list, -n)
	}
	return append(list, farInts...)
}

func anyTexts(t *testing.T) []string {
	list := append(wrongTexts(), logOf(someLists()...), logOf(someLists()...)+"x", "x"+logOf(someLists()...), recordOf(""), bytesOf(changes(gone(6), put(9, dot(1, 1)))...), bytesOf(gone(6), gone(6)), linesOf(putUp(9)...), linesOf(putUp(101)...), talked(t).Log)
	for _, c := range rightAsks() {
		list = append(list, c.text, "0 "+c.text, "1 "+c.text+"\n")
	}
	for _, s := range rightShapes() {
		list = append(list, impl.ShapeText(s), impl.PutShape(s), "index "+impl.ShapeText(s))
	}
	for text := range numberTexts {
		list = append(list, text, "crash "+text, "tile 0 0 "+text, "near "+text+" 0 9", text+" ALL")
	}
	for word, line := range deskWords {
		list = append(list, line, line+"\n")
		list = append(list, spoiltLines(word, line)...)
	}
	for _, n := range numEdges {
		list = append(list, impl.PutNum(n))
	}
	by := &steps{1515}
	for n := range 12 {
		list = append(list, by.scriptOfChance(n), strings.Repeat("\xff", n), strings.Repeat("\x80", n)+"\x00", strings.Repeat("\n", 13*n))
	}
	// What a map is gone through in has no order.
	slices.Sort(list)
	return list
}

// isFinite tells whether a knot has an end so many knots down: one without an end can be copied by nobody.
func isFinite(t impl.Knot, down int) bool {
	return down > 0 && !slices.ContainsFunc(t.Kids, func(kid impl.Knot) bool { return !isFinite(kid, down-1) })
}

func anyTrees() []impl.Knot {
	list := append(rightTrees(), wrongTrees()...)
	return slices.DeleteFunc(list, func(one impl.Knot) bool { return !isFinite(one, 100) })
}

func anySites(t *testing.T) []impl.Site {
	list := append(rightSites(t), siteWithRoom(t, 3), lots(t, 101), impl.Site{Safe: -1, Log: "x", Pyramid: counts(0, -4, 0, 7, -1, 1)})
	// The log of as many bytes as there may be takes too long to be asked over and over.
	list = slices.DeleteFunc(list, func(one impl.Site) bool { return one.Db.Store.Rows.Now > 1000 })
	for i, one := range wrongSites(t) {
		if i%11 == 0 && len(one.Log) < 10000 {
			list = append(list, one)
		}
	}
	return list
}

// values are a list's elements as what functions are called with.
func values[T any](list ...T) []reflect.Value {
	var out []reflect.Value
	for _, one := range list {
		out = append(out, reflect.ValueOf(one))
	}
	return out
}

// anyArguments are right and wrong values of each type that a function takes.
func anyArguments(t *testing.T) map[reflect.Type][]reflect.Value {
	by := &steps{1500}
	shapes := append(rightShapes(), wrongShapes()...)
	points := append(append(grid(2), noPoints()...), at(edge, -edge), at(-edge, edge))
	boxes := append(noBoxes(), box(0, 0, 4, 4), box(-edge, -edge, edge, edge), box(3, 3, 3, 3), box(4, 0, 9, 9))
	tiles := append(topTiles()[:30], noTiles()...)
	texts := anyTexts(t)
	items := []impl.Item{{}, spot(1, 1, 1), spot(77, 5, 5), item(-3, 0, 0, 9, 9)}
	for _, b := range noBoxes() {
		items = append(items, impl.Item{Id: 1, Box: b})
	}
	asks := append(wrongAsks(), allKinds()...)
	for _, c := range rightAsks() {
		asks = append(asks, c.ask)
	}
	lists := [][]impl.Point{nil, {}, {at(1, 1)}, {at(1, 1), at(1, 1)}, slices.Repeat([]impl.Point{at(1, 2), at(3, 4)}, ringMost/2), slices.Repeat([]impl.Point{at(1, 2)}, ringMost+1)}
	for _, s := range shapes {
		lists = append(lists, s.Points)
	}
	scripts := [][]string{nil, {}, texts, texts[:50], slices.Repeat([]string{"0 ALL"}, linesMost+1)}
	for n := range 20 {
		scripts = append(scripts, strings.Split(by.scriptOfChance(n), "\n"))
	}
	out := map[reflect.Type][]reflect.Value{}
	for _, list := range [][]reflect.Value{
		values(anyInts()...), values(texts...), values(points...), values(boxes...), values(lists...), values(shapes...), values(items...), values(anyTrees()...), values(tiles...),
		values(append(rightRows(), append(wrongRows(), history(), copyRows(few()))...)...), values(append(rightChanges(), wrongChanges()...)...), values(append(rightStores(), wrongStores()...)...),
		values(asks...), values(append(rightDbs(), wrongDbs()...)...), values(scripts...), values(append(wrongPyramids(), nil, busySite().Pyramid, counts(0, 1, 49, 2))...), values(anySites(t)...),
	} {
		out[list[0].Type()] = list
	}
	return out
}

// marked is a value with each of its numbers and texts told apart from what a function may write.
func marked(kind reflect.Type) reflect.Value {
	v := reflect.New(kind).Elem()
	switch kind.Kind() {
	case reflect.Int:
		v.SetInt(4242)
	case reflect.String:
		v.SetString("mark")
	case reflect.Struct:
		for i := range v.NumField() {
			v.Field(i).Set(marked(v.Field(i).Type()))
		}
	}
	return v
}

// ownCopy is v in memory of its own, with marks in the spare room behind each list; texts are copied too.
func ownCopy(v reflect.Value) reflect.Value {
	out := reflect.New(v.Type()).Elem()
	switch v.Kind() {
	case reflect.String:
		out.SetString(strings.Clone(v.String()))
	case reflect.Struct:
		for i := range v.NumField() {
			out.Field(i).Set(ownCopy(v.Field(i)))
		}
	case reflect.Slice:
		list := reflect.MakeSlice(v.Type(), v.Len()+2, v.Len()+2)
		for i := range v.Len() {
			list.Index(i).Set(ownCopy(v.Index(i)))
		}
		for i := range 2 {
			list.Index(v.Len() + i).Set(marked(v.Type().Elem()))
		}
		out.Set(list.Slice(0, v.Len()))
	default:
		out.Set(v)
	}
	return out
}

// sameWhole tells whether two values are alike, the spare room of their lists included.
func sameWhole(a, b reflect.Value) bool {
	switch a.Kind() {
	case reflect.Struct:
		for i := range a.NumField() {
			if !sameWhole(a.Field(i), b.Field(i)) {
				return false
			}
		}
		return true
	case reflect.Slice:
		if a.Len() != b.Len() || a.Cap() != b.Cap() {
			return false
		}
		a, b = a.Slice(0, a.Cap()), b.Slice(0, b.Cap())
		for i := range a.Len() {
			if !sameWhole(a.Index(i), b.Index(i)) {
				return false
			}
		}
		return true
	}
	return a.Equal(b)
}

// sameAnswer tells whether two values are alike; an empty list and nil are the same.
func sameAnswer(a, b reflect.Value) bool {
	switch a.Kind() {
	case reflect.Struct:
		for i := range a.NumField() {
			if !sameAnswer(a.Field(i), b.Field(i)) {
				return false
			}
		}
		return true
	case reflect.Slice:
		if a.Len() != b.Len() {
			return false
		}
		for i := range a.Len() {
			if !sameAnswer(a.Index(i), b.Index(i)) {
				return false
			}
		}
		return true
	}
	return a.Equal(b)
}

// span is where something stands: from its first byte on up to the one behind it.
type span struct{ from, to uintptr }

// spansOf are the places of all lists of v, spare room included, and of all its texts.
func spansOf(v reflect.Value) (lists, texts []span) {
	switch v.Kind() {
	case reflect.String:
		if at := uintptr(unsafe.Pointer(unsafe.StringData(v.String()))); v.Len() > 0 {
			texts = append(texts, span{at, at + uintptr(v.Len())})
		}
	case reflect.Struct:
		for i := range v.NumField() {
			a, b := spansOf(v.Field(i))
			lists, texts = append(lists, a...), append(texts, b...)
		}
	case reflect.Slice:
		if at := v.Pointer(); v.Cap() > 0 {
			lists = append(lists, span{at, at + uintptr(v.Cap())*v.Type().Elem().Size()})
		}
		for i := range v.Len() {
			a, b := spansOf(v.Index(i))
			lists, texts = append(lists, a...), append(texts, b...)
		}
	}
	return lists, texts
}

// standApart tells whether no two places have a byte in common.
func standApart(list []span) bool {
	slices.SortFunc(list, func(a, b span) int { return cmp.Compare(a.from, b.from) })
	for i := 1; i < len(list); i++ {
		if list[i].from < list[i-1].to {
			return false
		}
	}
	return true
}

// lieApart tells whether no place of one list has a byte in common with one of another list.
func lieApart(some, others []span) bool {
	return !slices.ContainsFunc(some, func(a span) bool {
		return slices.ContainsFunc(others, func(b span) bool { return a.from < b.to && b.from < a.to })
	})
}

// calling calls a function, and tells what it panicked with.
func calling(f reflect.Value, args []reflect.Value) (answers []reflect.Value, wrong any) {
	defer func() { wrong = recover() }()
	return f.Call(args), nil
}

// checkCall is promise 15 of one call: there is an answer, the same one each time, no argument is written into, and no list of an answer shares memory.
func checkCall(t *testing.T, name string, f reflect.Value, given []reflect.Value) {
	t.Helper()
	var args, was []reflect.Value
	var argTexts, lists, texts []span
	for _, one := range given {
		arg := ownCopy(one)
		args, was = append(args, arg), append(was, ownCopy(one))
		a, b := spansOf(arg)
		lists, argTexts = append(lists, a...), append(argTexts, b...)
	}
	answers, wrong := calling(f, args)
	if wrong != nil {
		t.Fatalf("%s panics: %v: %.300v", name, wrong, args)
	}
	for i, arg := range args {
		if !sameWhole(arg, was[i]) {
			t.Fatalf("%s writes into argument %d: %.300v", name, i, was)
		}
	}
	for _, one := range answers {
		a, b := spansOf(one)
		lists, texts = append(lists, a...), append(texts, b...)
	}
	if !standApart(lists) || !lieApart(texts, argTexts) {
		t.Fatalf("%s shares memory: %.300v", name, args)
	}
	again, _ := calling(f, args)
	for i, one := range again {
		if !sameAnswer(one, answers[i]) {
			t.Fatalf("%s answers otherwise: %.300v", name, args)
		}
	}
}

// TestEveryFunctionAnswers is promise 15 of all functions: each at right and at wrong arguments, in any company.
func TestEveryFunctionAnswers(t *testing.T) {
	pool := anyArguments(t)
	for k, name := range slices.Sorted(maps.Keys(allFunctions)) {
		f := reflect.ValueOf(allFunctions[name])
		by := &steps{uint64(1550 + k)}
		most := 0
		for i := range f.Type().NumIn() {
			list := pool[f.Type().In(i)]
			if len(list) == 0 {
				t.Fatal("no values for", name, f.Type().In(i))
			}
			most = max(most, len(list))
		}
		// Each value of the longest list comes by once, the others again and again.
		for n := range max(most, 200) {
			var given []reflect.Value
			for i := range f.Type().NumIn() {
				list := pool[f.Type().In(i)]
				one := list[by.below(len(list))]
				if len(list) == most && n < most {
					one = list[n]
				}
				given = append(given, one)
			}
			checkCall(t, name+" "+strconv.Itoa(n), f, given)
		}
	}
}

// TestEveryFunctionAnswersZero calls each function with the zero value of all that it takes.
func TestEveryFunctionAnswersZero(t *testing.T) {
	for _, name := range slices.Sorted(maps.Keys(allFunctions)) {
		f := reflect.ValueOf(allFunctions[name])
		var given []reflect.Value
		for i := range f.Type().NumIn() {
			given = append(given, reflect.Zero(f.Type().In(i)))
		}
		checkCall(t, name, f, given)
		if _, wrong := calling(f, given); wrong != nil {
			t.Fatal(name, "panics at nil", wrong)
		}
	}
}
