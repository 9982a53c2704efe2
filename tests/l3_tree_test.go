package tests

import (
	"math"
	"slices"
	"strings"
	"testing"

	"loop.example/g00756/impl"
)

// sampleFs has /a (a directory), /a/f (a file, also /g), /l (a link to a), a
// free node, and /a/z (a directory without entries).
func sampleFs() impl.Fs {
	return impl.Fs{Room: 100, Nodes: []impl.Node{
		{Kind: impl.KdDir, Mode: 493, List: []impl.Entry{{Name: "a", Node: 1}, {Name: "g", Node: 2}, {Name: "l", Node: 3}}},
		{Kind: impl.KdDir, Mode: 448, Uid: 1, Gid: 2, Time: 10, List: []impl.Entry{{Name: "f", Node: 2}, {Name: "z", Node: 5}}},
		{Kind: impl.KdFile, Mode: 420, Uid: 3, Gid: 4, Time: 20, Data: "hello"},
		{Kind: impl.KdLink, Mode: 511, Uid: 5, Gid: 6, Time: 40, Data: "a"},
		{},
		{Kind: impl.KdDir, Mode: 0, Uid: 99, Gid: 99, Time: 1000000},
	}}
}

// chainFs has n directories, each but the first in the one ahead of it.
func chainFs(n int, name string) impl.Fs {
	f := impl.Fs{Nodes: make([]impl.Node, n)}
	for i := range f.Nodes {
		f.Nodes[i].Kind = impl.KdDir
		if i+1 < n {
			f.Nodes[i].List = []impl.Entry{{Name: name, Node: i + 1}}
		}
	}
	return f
}

// filesFs has n files of as many bytes each, by names that rise.
func filesFs(n int, bytes int, room int) impl.Fs {
	f := impl.Fs{Room: room, Nodes: []impl.Node{{Kind: impl.KdDir}}}
	for i := 1; i <= n; i++ {
		name := string([]byte{'a' + byte(i/10), '0' + byte(i%10)})
		f.Nodes = append(f.Nodes, impl.Node{Kind: impl.KdFile, Data: strings.Repeat("x", bytes)})
		f.Nodes[0].List = append(f.Nodes[0].List, impl.Entry{Name: name, Node: i})
	}
	return f
}

func copyOfFs(f impl.Fs) impl.Fs {
	f.Nodes = slices.Clone(f.Nodes)
	for i := range f.Nodes {
		f.Nodes[i].List = slices.Clone(f.Nodes[i].List)
	}
	return f
}

// waysToNodes has for each node all ways that lead to it from node 0, told by
// their names, and by the directory that each ends in. It gives up on ways that
// are longer than there are nodes: these go in a circle.
func waysToNodes(f impl.Fs) (ways [][]string, dirs [][]int, endless bool) {
	ways, dirs = make([][]string, len(f.Nodes)), make([][]int, len(f.Nodes))
	var enter func(dir int, way string, deep int)
	enter = func(dir int, way string, deep int) {
		if deep > len(f.Nodes) {
			endless = true
			return
		}
		for _, e := range f.Nodes[dir].List {
			ways[e.Node] = append(ways[e.Node], way+"/"+e.Name)
			dirs[e.Node] = append(dirs[e.Node], dir)
			if f.Nodes[e.Node].Kind == impl.KdDir {
				enter(e.Node, way+"/"+e.Name, deep+1)
			}
		}
	}
	enter(0, "", 1)
	return ways, dirs, endless
}

// entriesOf counts the entries that name a node, wherever they are.
func entriesOf(f impl.Fs, node int) int {
	n := 0
	for _, dir := range f.Nodes {
		for _, e := range dir.List {
			if e.Node == node {
				n++
			}
		}
	}
	return n
}

// isGoodAlone reads a node as the document tells it, without the others but
// for those that its entries name.
func isGoodAlone(n impl.Node, all []impl.Node) bool {
	names := []string{}
	for _, e := range n.List {
		if !isNameByForm(e.Name) || !within(e.Node, 0, len(all)-1) || all[e.Node].Kind == 0 {
			return false
		}
		names = append(names, e.Name)
	}
	rising := slices.IsSorted(names) && len(slices.Compact(slices.Clone(names))) == len(names)
	attributes := within(n.Mode, 0, 511) && within(n.Uid, 0, 99) && within(n.Gid, 0, 99) && within(n.Time, 0, 1000000)
	switch n.Kind {
	case 0:
		return n.Mode == 0 && n.Uid == 0 && n.Gid == 0 && n.Time == 0 && n.Data == "" && len(n.List) == 0
	case 1:
		return attributes && len(n.Data) <= 60 && len(n.List) == 0
	case 2:
		return attributes && n.Data == "" && rising
	case 3:
		return attributes && isPathByForm(n.Data) && len(n.List) == 0
	}
	return false
}

// isGoodByWays does not climb from a directory as the program does: it goes
// down from node 0 and looks at what it has met.
func isGoodByWays(f impl.Fs) bool {
	if !within(len(f.Nodes), 1, 40) || !within(f.Room, 0, 1000) || f.Nodes[0].Kind != 2 {
		return false
	}
	bytes := 0
	for _, n := range f.Nodes {
		if !isGoodAlone(n, f.Nodes) {
			return false
		}
		bytes += len(n.Data)
	}
	ways, _, endless := waysToNodes(f)
	if endless || bytes > f.Room {
		return false
	}
	for i, n := range f.Nodes {
		switch {
		case i == 0 && entriesOf(f, i) > 0:
			return false
		case i > 0 && n.Kind == 2 && (entriesOf(f, i) != 1 || len(ways[i]) != 1):
			return false
		case (n.Kind == 1 || n.Kind == 3) && entriesOf(f, i) < 1:
			return false
		}
	}
	return true
}

// listsOf has all lists of up to two entries to n nodes, by names in order, not
// in order, and alike.
func listsOf(n int) [][]impl.Entry {
	lists := [][]impl.Entry{nil}
	for x := range n {
		lists = append(lists, []impl.Entry{{Name: "a", Node: x}})
		for y := range n {
			lists = append(lists, []impl.Entry{{Name: "a", Node: x}, {Name: "b", Node: y}})
		}
	}
	return append(lists,
		[]impl.Entry{{Name: "b", Node: 1}, {Name: "a", Node: n - 1}},
		[]impl.Entry{{Name: "a", Node: 1}, {Name: "a", Node: n - 1}})
}

// eachSmallFs hands out all file systems of n nodes of these kinds, with the
// lists of listsOf.
func eachSmallFs(n int, kinds []int, use func(impl.Fs)) {
	lists := listsOf(n)
	f := impl.Fs{Room: 3, Nodes: make([]impl.Node, n)}
	var fill func(at int)
	fill = func(at int) {
		if at == n {
			use(f)
			return
		}
		for _, kind := range kinds {
			for _, list := range lists {
				f.Nodes[at] = impl.Node{Kind: kind, List: list}
				if kind == impl.KdFile || kind == impl.KdLink {
					f.Nodes[at].Data = "d"
				}
				fill(at + 1)
			}
		}
	}
	fill(0)
}

// grownFs is a good file system of up to 40 nodes that a number tells: each node
// comes into some directory that is there, files and links at times into more.
// The numbers of the nodes are mixed, so that a directory may have a greater one
// than what is in it.
func grownFs(seed int) impl.Fs {
	next := func(n int) int { seed = (seed*1103515245 + 12345) % (1 << 31); return (seed >> 8) % n }
	f := impl.Fs{Room: 1000, Nodes: make([]impl.Node, 1+next(40))}
	f.Nodes[0].Kind = impl.KdDir
	dirs := []int{0}
	add := func(node int) {
		list := &f.Nodes[dirs[next(len(dirs))]].List
		e := impl.Entry{Name: string([]byte{'a' + byte(next(26)), 'a' + byte(next(26)), '0' + byte(len(*list)%10)}), Node: node}
		at, there := slices.BinarySearchFunc(*list, e.Name, func(e impl.Entry, s string) int { return strings.Compare(e.Name, s) })
		if there {
			e.Name += "-" + string([]byte{'a' + byte(node/10), '0' + byte(node%10)})
			at++
		}
		*list = slices.Insert(*list, at, e)
	}
	for left := 1; left < len(f.Nodes); left++ {
		node := 1 + (left*7+3)%(len(f.Nodes)-1)
		if f.Nodes[node].Kind != impl.KdFree {
			continue
		}
		f.Nodes[node].Kind = []int{impl.KdDir, impl.KdFile, impl.KdDir, impl.KdLink, impl.KdFree}[next(5)]
		switch f.Nodes[node].Kind {
		case impl.KdDir:
			add(node)
			dirs = append(dirs, node)
		case impl.KdFile, impl.KdLink:
			f.Nodes[node].Data = longPath(2 + next(20))
			add(node)
			if next(3) == 0 {
				add(node)
			}
		}
	}
	return f
}

// bentFs leads one entry to another node, which may leave nodes without one or
// lead in a circle.
func bentFs(f impl.Fs, seed int) impl.Fs {
	f = copyOfFs(f)
	for i := range f.Nodes {
		list := f.Nodes[(i+seed)%len(f.Nodes)].List
		if len(list) > 0 {
			list[seed%len(list)].Node = seed * 31 % len(f.Nodes)
			break
		}
	}
	return f
}

// eachFs hands out small file systems of all kinds, ones of directories alone,
// and larger ones.
func eachFs(use func(impl.Fs)) {
	all := []int{impl.KdFree, impl.KdFile, impl.KdDir, impl.KdLink}
	eachSmallFs(1, append([]int{-1, 4}, all...), use)
	eachSmallFs(2, append([]int{-1, 4}, all...), use)
	eachSmallFs(3, all, use)
	eachSmallFs(4, []int{impl.KdDir}, use)
	for _, f := range []impl.Fs{
		sampleFs(), {}, {Room: 1}, chainFs(1, "a"), chainFs(39, "abcdefgh"), chainFs(40, "abcdefgh"), chainFs(41, "abcdefgh"), chainFs(40, "a"),
		filesFs(39, 0, 0), filesFs(39, 25, 975), filesFs(39, 25, 974), filesFs(40, 0, 0), filesFs(16, 60, 1000), filesFs(17, 60, 1000),
	} {
		use(f)
	}
	for seed := range 400 {
		f := grownFs(seed * 7919)
		use(f)
		use(bentFs(f, seed))
	}
}

func TestTreeConstants(t *testing.T) {
	if impl.MaxNodes != 40 || impl.MaxData != 60 || impl.MaxTime != 1000000 {
		t.Error(impl.MaxNodes, impl.MaxData, impl.MaxTime)
	}
	if impl.KdFree != 0 || impl.KdFile != 1 || impl.KdDir != 2 || impl.KdLink != 3 {
		t.Error(impl.KdFree, impl.KdFile, impl.KdDir, impl.KdLink)
	}
}

func TestNewFs(t *testing.T) {
	for room := -3; room <= 1003; room++ {
		f, ok := impl.NewFs(room)
		if !within(room, 0, 1000) {
			if ok || f.Nodes != nil || f.Room != 0 {
				t.Errorf("a room of %d: %v, %t", room, f, ok)
			}
			continue
		}
		want := impl.Fs{Room: room, Nodes: []impl.Node{{Kind: impl.KdDir, Mode: 493}}}
		if !ok || !impl.SameFs(f, want) || !impl.GoodFs(f) {
			t.Errorf("a room of %d: %v, %t", room, f, ok)
		}
	}
	for _, room := range oddNumbers {
		if _, ok := impl.NewFs(room); ok != within(room, 0, 1000) {
			t.Errorf("a room of %d: %t", room, ok)
		}
	}
}

func TestNewFsIsNewMemory(t *testing.T) {
	f, _ := impl.NewFs(7)
	g, _ := impl.NewFs(7)
	f.Nodes[0].Mode = 1
	f.Nodes[0].List = append(f.Nodes[0].List, impl.Entry{Name: "x"})
	if g.Nodes[0].Mode != 493 || len(g.Nodes[0].List) != 0 {
		t.Error("two file systems share memory", g)
	}
}

func TestGoodFsOfEverySmallOne(t *testing.T) {
	good, large := 0, 0
	eachFs(func(f impl.Fs) {
		want := isGoodByWays(f)
		if impl.GoodFs(f) != want {
			t.Fatalf("good: %t, not so for %v", want, f)
		}
		if want {
			good++
		}
		if want && len(f.Nodes) > 20 {
			large++
		}
	})
	if good < 400 || large < 100 {
		t.Errorf("hardly a good one was met: %d, %d of them large", good, large)
	}
}

// An edit is one change of the sample, and whether it is good then.
type edit struct {
	what string
	good bool
	make func(f *impl.Fs)
}

func nodeEdits() []edit {
	return []edit{
		{"nothing", true, func(f *impl.Fs) {}},
		{"a mode of 511", true, func(f *impl.Fs) { f.Nodes[2].Mode = 511 }},
		{"a mode of 512", false, func(f *impl.Fs) { f.Nodes[2].Mode = 512 }},
		{"a mode of -1", false, func(f *impl.Fs) { f.Nodes[0].Mode = -1 }},
		{"a link's mode of 512", false, func(f *impl.Fs) { f.Nodes[3].Mode = 512 }},
		{"a directory's mode of 512", false, func(f *impl.Fs) { f.Nodes[5].Mode = 512 }},
		{"a uid of 99", true, func(f *impl.Fs) { f.Nodes[2].Uid = 99 }},
		{"a uid of 100", false, func(f *impl.Fs) { f.Nodes[2].Uid = 100 }},
		{"a uid of -1", false, func(f *impl.Fs) { f.Nodes[1].Uid = -1 }},
		{"a link's uid of 100", false, func(f *impl.Fs) { f.Nodes[3].Uid = 100 }},
		{"a gid of 99", true, func(f *impl.Fs) { f.Nodes[2].Gid = 99 }},
		{"a gid of 100", false, func(f *impl.Fs) { f.Nodes[2].Gid = 100 }},
		{"a gid of -1", false, func(f *impl.Fs) { f.Nodes[1].Gid = -1 }},
		{"a time of MaxTime", true, func(f *impl.Fs) { f.Nodes[2].Time = impl.MaxTime }},
		{"a time beyond MaxTime", false, func(f *impl.Fs) { f.Nodes[2].Time = impl.MaxTime + 1 }},
		{"a time of -1", false, func(f *impl.Fs) { f.Nodes[0].Time = -1 }},
		{"a link's time of -1", false, func(f *impl.Fs) { f.Nodes[3].Time = -1 }},
		{"a free node with a mode", false, func(f *impl.Fs) { f.Nodes[4].Mode = 1 }},
		{"a free node with a uid", false, func(f *impl.Fs) { f.Nodes[4].Uid = 1 }},
		{"a free node with a gid", false, func(f *impl.Fs) { f.Nodes[4].Gid = 1 }},
		{"a free node with a time", false, func(f *impl.Fs) { f.Nodes[4].Time = 1 }},
		{"a free node with data", false, func(f *impl.Fs) { f.Nodes[4].Data = "x" }},
		{"a free node with a list", false, func(f *impl.Fs) { f.Nodes[4].List = []impl.Entry{{Name: "x", Node: 2}} }},
		{"a free node with an empty list", true, func(f *impl.Fs) { f.Nodes[4].List = []impl.Entry{} }},
		{"a kind of 4", false, func(f *impl.Fs) { f.Nodes[2].Kind = 4 }},
		{"a kind of -1", false, func(f *impl.Fs) { f.Nodes[2].Kind = -1 }},
		{"a kind that is none, in no entry", false, func(f *impl.Fs) { f.Nodes[4].Kind = 4 }},
		{"a directory with data", false, func(f *impl.Fs) { f.Nodes[5].Data = "x" }},
		{"node 0 with data", false, func(f *impl.Fs) { f.Nodes[0].Data = "x" }},
		{"a file with a list", false, func(f *impl.Fs) { f.Nodes[2].List = []impl.Entry{{Name: "x", Node: 2}} }},
		{"a link with a list", false, func(f *impl.Fs) { f.Nodes[3].List = []impl.Entry{{Name: "x", Node: 2}} }},
		{"lists that are empty, not nil", true, func(f *impl.Fs) {
			f.Nodes[2].List, f.Nodes[3].List, f.Nodes[5].List = []impl.Entry{}, []impl.Entry{}, []impl.Entry{}
		}},
		{"node 0 a file", false, func(f *impl.Fs) { f.Nodes[0] = impl.Node{Kind: impl.KdFile} }},
		{"node 0 free", false, func(f *impl.Fs) { f.Nodes = []impl.Node{{}} }},
		{"node 0 a link", false, func(f *impl.Fs) { f.Nodes = []impl.Node{{Kind: impl.KdLink, Data: "a"}} }},
		{"no nodes", false, func(f *impl.Fs) { f.Nodes = nil }},
		{"no nodes in a list", false, func(f *impl.Fs) { f.Nodes = []impl.Node{} }},
		{"one node alone", true, func(f *impl.Fs) { f.Nodes = []impl.Node{{Kind: impl.KdDir}} }},
		{"MaxNodes nodes", true, func(f *impl.Fs) { f.Nodes = append(f.Nodes, make([]impl.Node, 34)...) }},
		{"MaxNodes + 1 nodes", false, func(f *impl.Fs) { f.Nodes = append(f.Nodes, make([]impl.Node, 35)...) }},
	}
}

func dataEdits() []edit {
	long := func(n int) string { return strings.Repeat("x", n) }
	return []edit{
		{"a file without bytes", true, func(f *impl.Fs) { f.Nodes[2].Data = "" }},
		{"a file of bytes that are no text", true, func(f *impl.Fs) { f.Nodes[2].Data = "\x00\xff\n é" }},
		{"a file of MaxData bytes", true, func(f *impl.Fs) { f.Nodes[2].Data = long(60) }},
		{"a file of one byte more", false, func(f *impl.Fs) { f.Nodes[2].Data = long(61) }},
		{"a file of 31 signs of two bytes each", false, func(f *impl.Fs) { f.Nodes[2].Data = strings.Repeat("é", 31) }},
		{"a link to no path", false, func(f *impl.Fs) { f.Nodes[3].Data = "A" }},
		{"a link without bytes", false, func(f *impl.Fs) { f.Nodes[3].Data = "" }},
		{"a link to a name that is too long", false, func(f *impl.Fs) { f.Nodes[3].Data = "123456789" }},
		{"a link to /", true, func(f *impl.Fs) { f.Nodes[3].Data = "/" }},
		{"a link to a path that is not clean", true, func(f *impl.Fs) { f.Nodes[3].Data = "..//./a/" }},
		{"a link to itself", true, func(f *impl.Fs) { f.Nodes[3].Data = "/l" }},
		{"a link to a path of MaxPath bytes", true, func(f *impl.Fs) { f.Nodes[3].Data = longPath(60) }},
		{"a link to a path of one byte more", false, func(f *impl.Fs) { f.Nodes[3].Data = longPath(61) }},
		{"just the room that is needed", true, func(f *impl.Fs) { f.Room = 6 }},
		{"one byte more than the room", false, func(f *impl.Fs) { f.Room = 5 }},
		{"a link's bytes beyond the room", false, func(f *impl.Fs) { f.Nodes[2].Data, f.Room = "", 0 }},
		{"a room of 0 and no bytes", true, func(f *impl.Fs) { f.Nodes, f.Room = f.Nodes[5:], 0 }},
		{"a room of 1000", true, func(f *impl.Fs) { f.Room = 1000 }},
		{"a room of 1001", false, func(f *impl.Fs) { f.Room = 1001 }},
		{"a room of -1", false, func(f *impl.Fs) { f.Room = -1 }},
		{"a room of -1 and no bytes", false, func(f *impl.Fs) { f.Nodes, f.Room = f.Nodes[5:], -1 }},
	}
}

func entryEdits() []edit {
	name := func(s string) func(f *impl.Fs) {
		return func(f *impl.Fs) { f.Nodes[1].List = f.Nodes[1].List[1:]; f.Nodes[1].List[0].Name = s }
	}
	more := func(dir int, names string, node int) func(f *impl.Fs) {
		return func(f *impl.Fs) { f.Nodes[dir].List = append(f.Nodes[dir].List, impl.Entry{Name: names, Node: node}) }
	}
	return []edit{
		{"a name of eight bytes", true, name("12345678")},
		{"a name of nine bytes", false, name("123456789")},
		{"an empty name", false, name("")},
		{"the name .", false, name(".")},
		{"the name ..", false, name("..")},
		{"the name ...", true, name("...")},
		{"a name with /", false, name("a/b")},
		{"a name with a great letter", false, name("aB")},
		{"names that do not rise", false, func(f *impl.Fs) { f.Nodes[1].List[0].Name = "zz" }},
		{"names that are alike", false, func(f *impl.Fs) { f.Nodes[1].List[0].Name = "z" }},
		{"names that do not rise behind ones that do", false, more(0, "b", 2)},
		{"names that are alike behind ones that rise", false, more(0, "l", 2)},
		{"names by bytes, the shorter ahead", true, func(f *impl.Fs) { f.Nodes[1].List[1].Name = "ff" }},
		{"names by bytes, the longer ahead", false, func(f *impl.Fs) { f.Nodes[1].List[0].Name, f.Nodes[1].List[1].Name = "ff", "f" }},
		{"names by bytes, not by numbers", true, func(f *impl.Fs) { f.Nodes[1].List[0].Name, f.Nodes[1].List[1].Name = "10", "9" }},
		{"the same name in two directories", true, more(5, "a", 2)},
		{"an entry beyond the last node", false, more(0, "z", 6)},
		{"an entry far beyond it", false, more(0, "z", math.MaxInt)},
		{"an entry below node 0", false, more(0, "z", -1)},
		{"an entry far below it", false, more(0, "z", math.MinInt)},
		{"an entry of a free node", false, more(0, "z", 4)},
		{"an entry of node 0 in itself", false, more(0, "z", 0)},
		{"an entry of node 0 below", false, more(5, "z", 0)},
		{"a directory in two entries of one directory", false, more(0, "z", 1)},
		{"a directory in entries of two directories", false, more(0, "z", 5)},
		{"a directory within itself, too", false, more(5, "z", 5)},
		{"a directory within one that is below it, too", false, more(5, "z", 1)},
		{"a directory within itself alone", false, func(f *impl.Fs) {
			f.Nodes[4] = impl.Node{Kind: impl.KdDir, List: []impl.Entry{{Name: "x", Node: 4}}}
		}},
		{"two directories within each other alone", false, func(f *impl.Fs) {
			f.Nodes[1].List = f.Nodes[1].List[:1]
			f.Nodes[4] = impl.Node{Kind: impl.KdDir, List: []impl.Entry{{Name: "x", Node: 5}}}
			f.Nodes[5].List = []impl.Entry{{Name: "x", Node: 4}}
		}},
		{"a file below directories within each other", false, func(f *impl.Fs) {
			f.Nodes[0].List = f.Nodes[0].List[2:]
			f.Nodes[1].List[1].Node, f.Nodes[5].List = 5, []impl.Entry{{Name: "x", Node: 1}}
		}},
		{"a directory in no entry", false, func(f *impl.Fs) { f.Nodes[1].List = f.Nodes[1].List[:1] }},
		{"a file in one entry", true, func(f *impl.Fs) { f.Nodes[1].List = f.Nodes[1].List[1:] }},
		{"a file in three entries", true, more(5, "x", 2)},
		{"a file in no entry", false, func(f *impl.Fs) {
			f.Nodes[0].List = slices.Delete(f.Nodes[0].List, 1, 2)
			f.Nodes[1].List = f.Nodes[1].List[1:]
		}},
		{"a link in two entries", true, more(5, "x", 3)},
		{"a link in no entry", false, func(f *impl.Fs) { f.Nodes[0].List = f.Nodes[0].List[:2] }},
		{"a file and a link behind the lists' lengths alone", false, func(f *impl.Fs) {
			f.Nodes[0].List, f.Nodes[1].List = f.Nodes[0].List[:1], f.Nodes[1].List[:0]
		}},
	}
}

func allEdits() []edit { return slices.Concat(nodeEdits(), dataEdits(), entryEdits()) }

func TestGoodFsOfEdits(t *testing.T) {
	for _, e := range allEdits() {
		f := sampleFs()
		e.make(&f)
		if impl.GoodFs(f) != e.good {
			t.Errorf("%s: good should be %t: %v", e.what, e.good, f)
		}
	}
}

func TestAttributesAtTheirLimits(t *testing.T) {
	for _, n := range append([]int{511, 512, 99, 100, 1000000, 1000001}, oddNumbers...) {
		for node, kind := range []int{impl.KdDir, impl.KdFile, impl.KdDir, impl.KdLink} {
			for i, good := range []bool{within(n, 0, 511), within(n, 0, 99), within(n, 0, 99), within(n, 0, 1000000)} {
				f := sampleFs()
				at := &f.Nodes[[]int{0, 2, 1, 3}[node]]
				*[]*int{&at.Mode, &at.Uid, &at.Gid, &at.Time}[i] = n
				if impl.GoodFs(f) != good {
					t.Errorf("field %d of kind %d is %d: good should be %t", i, kind, n, good)
				}
			}
		}
	}
}

func TestSampleIsTold(t *testing.T) {
	f := sampleFs()
	links := []int{0, 1, 2, 1, 0, 1}
	parents := map[int]int{0: 0, 1: 0, 5: 1}
	paths := map[int]string{0: "/", 1: "/a", 5: "/a/z"}
	for i := range f.Nodes {
		if n, ok := impl.LinksOf(f, i); n != links[i] || ok != (i != 4) {
			t.Error("links", i, n, ok)
		}
		parent, isDir := parents[i]
		if n, ok := impl.ParentOf(f, i); n != parent || ok != isDir {
			t.Error("parent", i, n, ok)
		}
		if s, ok := impl.PathTo(f, i); s != paths[i] || ok != isDir {
			t.Error("path", i, s, ok)
		}
	}
	if n, ok := impl.BytesIn(f); n != 6 || !ok {
		t.Error("bytes", n, ok)
	}
	if n, ok := impl.FreeNode(f); n != 4 || !ok {
		t.Error("free", n, ok)
	}
}

// nodeByPath goes down from node 0 by the names of a whole path.
func nodeByPath(f impl.Fs, path string) (int, bool) {
	node := 0
	for _, name := range partsByForm(path) {
		at := slices.IndexFunc(f.Nodes[node].List, func(e impl.Entry) bool { return e.Name == name })
		if at < 0 {
			return 0, false
		}
		node = f.Nodes[node].List[at].Node
	}
	return node, true
}

func TestEveryDirectoryHasOnePathByWhichItIsFound(t *testing.T) {
	eachFs(func(f impl.Fs) {
		if !isGoodByWays(f) {
			return
		}
		checkPaths(t, f)
		if t.Failed() {
			t.FailNow()
		}
	})
}

func checkPaths(t *testing.T, f impl.Fs) {
	ways, dirs, _ := waysToNodes(f)
	ways[0], dirs[0] = []string{"/"}, []int{0}
	for i, n := range f.Nodes {
		path, ok := impl.PathTo(f, i)
		parent, parentOk := impl.ParentOf(f, i)
		if n.Kind != impl.KdDir {
			if ok || path != "" || parentOk || parent != 0 {
				t.Errorf("node %d is no directory: %q, %t, %d, %t in %v", i, path, ok, parent, parentOk, f)
			}
			continue
		}
		if !ok || len(ways[i]) != 1 || path != ways[i][0] {
			t.Errorf("node %d: the path is %q, %t, the ways there are %q in %v", i, path, ok, ways[i], f)
		}
		if !parentOk || parent != dirs[i][0] {
			t.Errorf("node %d: the parent is %d, %t, not %d in %v", i, parent, parentOk, dirs[i][0], f)
		}
		if found, ok := nodeByPath(f, path); !ok || found != i {
			t.Errorf("node %d: its path %q leads to %d, %t in %v", i, path, found, ok, f)
		}
	}
}

func TestLinksBytesAndFreeNodeOfEverySmallOne(t *testing.T) {
	eachFs(func(f impl.Fs) {
		if !isGoodByWays(f) {
			return
		}
		bytes, free := 0, -1
		for i, n := range f.Nodes {
			bytes += len(n.Data)
			if n.Kind == impl.KdFree && free < 0 {
				free = i
			}
			if links, ok := impl.LinksOf(f, i); links != entriesOf(f, i) || ok != (n.Kind != impl.KdFree) {
				t.Fatalf("node %d: %d links, %t in %v", i, links, ok, f)
			}
		}
		if n, ok := impl.BytesIn(f); n != bytes || !ok {
			t.Fatalf("%d bytes, %t in %v", n, ok, f)
		}
		n, ok := impl.FreeNode(f)
		switch {
		case free < 0 && len(f.Nodes) < 40:
			free = len(f.Nodes)
		case free < 0:
			free = 0
			if ok {
				t.Fatalf("room where there is none in %v", f)
			}
			return
		}
		if n != free || !ok {
			t.Fatalf("the free node is %d, %t in %v", n, ok, f)
		}
	})
}

func TestPathsOfAnyLength(t *testing.T) {
	for _, name := range []string{"a", "abc", "abcdefgh"} {
		f := chainFs(40, name)
		for i := range f.Nodes {
			want := strings.Repeat("/"+name, i)
			if i == 0 {
				want = "/"
			}
			if s, ok := impl.PathTo(f, i); s != want || !ok {
				t.Errorf("node %d by %s: %q, %t", i, name, s, ok)
			}
			if n, ok := impl.ParentOf(f, i); n != max(i-1, 0) || !ok {
				t.Errorf("node %d by %s is in %d, %t", i, name, n, ok)
			}
			if s, ok := impl.PathOf(slices.Repeat([]string{name}, i)); ok && s != want {
				t.Errorf("PathOf has %q for node %d", s, i)
			}
		}
	}
}

func TestFreeNodeAtTheLimit(t *testing.T) {
	free := func(n int, at ...int) impl.Fs {
		f := chainFs(1, "")
		f.Nodes = append(f.Nodes, make([]impl.Node, n-1)...)
		for i := 1; i < n; i++ {
			if !slices.Contains(at, i) {
				f.Nodes[i].Kind = impl.KdDir
				f.Nodes[0].List = append(f.Nodes[0].List, impl.Entry{Name: string([]byte{'a' + byte(i/10), '0' + byte(i%10)}), Node: i})
			}
		}
		return f
	}
	for _, c := range []struct {
		f    impl.Fs
		want int
		ok   bool
	}{
		{free(1), 1, true}, {free(2, 1), 1, true}, {free(39), 39, true}, {free(39, 38), 38, true}, {free(39, 5, 20), 5, true},
		{free(40), 0, false}, {free(40, 39), 39, true}, {free(40, 1), 1, true}, {free(40, 20, 39), 20, true}, {free(41), 0, false}, {free(41, 3), 0, false},
	} {
		if n, ok := impl.FreeNode(c.f); n != c.want || ok != c.ok {
			t.Errorf("%d, %t instead of %d, %t", n, ok, c.want, c.ok)
		}
	}
}

func TestBytesOfAllKinds(t *testing.T) {
	for _, n := range []int{0, 1, 16} {
		if sum, ok := impl.BytesIn(filesFs(n, 60, 1000)); sum != n*60 || !ok {
			t.Error(n, sum, ok)
		}
	}
	f := sampleFs()
	f.Nodes[2].Data, f.Nodes[3].Data = "é\x00", "/a/z"
	if n, ok := impl.BytesIn(f); n != 7 || !ok {
		t.Error(n, ok)
	}
}

func TestSameFs(t *testing.T) {
	for _, e := range allEdits() {
		f, g := sampleFs(), sampleFs()
		e.make(&f)
		e.make(&g)
		if !impl.SameFs(f, g) || !impl.SameFs(g, f) || !impl.SameFs(f, f) {
			t.Errorf("%s: made twice it is the same: %v", e.what, f)
		}
	}
	if impl.SameFs(impl.Fs{}, sampleFs()) || impl.SameFs(sampleFs(), impl.Fs{}) || impl.SameFs(impl.Fs{}, impl.Fs{Room: 1}) {
		t.Error("file systems that are not good")
	}
	if !impl.SameFs(impl.Fs{}, impl.Fs{Nodes: []impl.Node{}}) {
		t.Error("a list of nodes that is nil and one that is empty")
	}
}

func TestSameFsLooksAtEveryField(t *testing.T) {
	changes := []func(f *impl.Fs){
		func(f *impl.Fs) { f.Room++ },
		func(f *impl.Fs) { f.Nodes = f.Nodes[:5] },
		func(f *impl.Fs) { f.Nodes = append(f.Nodes, impl.Node{}) },
		func(f *impl.Fs) { f.Nodes[0], f.Nodes[5] = f.Nodes[5], f.Nodes[0] },
		func(f *impl.Fs) { f.Nodes[1].List = f.Nodes[1].List[:1] },
		func(f *impl.Fs) { f.Nodes[1].List[1].Name = "y" },
		func(f *impl.Fs) { f.Nodes[1].List[1].Node = 4 },
		func(f *impl.Fs) { f.Nodes[1].List[0], f.Nodes[1].List[1] = f.Nodes[1].List[1], f.Nodes[1].List[0] },
	}
	for i := range sampleFs().Nodes {
		changes = append(changes,
			func(f *impl.Fs) { f.Nodes[i].Kind++ },
			func(f *impl.Fs) { f.Nodes[i].Mode++ },
			func(f *impl.Fs) { f.Nodes[i].Uid++ },
			func(f *impl.Fs) { f.Nodes[i].Gid++ },
			func(f *impl.Fs) { f.Nodes[i].Time++ },
			func(f *impl.Fs) { f.Nodes[i].Data += "x" },
			func(f *impl.Fs) { f.Nodes[i].List = append(f.Nodes[i].List, impl.Entry{}) })
	}
	for i, change := range changes {
		f := sampleFs()
		change(&f)
		if impl.SameFs(f, sampleFs()) || impl.SameFs(sampleFs(), f) {
			t.Errorf("change %d is not seen: %v", i, f)
		}
	}
}

func TestSameFsTakesNilForEmptyAndStopsAtTheLength(t *testing.T) {
	f, g := sampleFs(), sampleFs()
	for i := range g.Nodes {
		if len(g.Nodes[i].List) == 0 {
			g.Nodes[i].List = []impl.Entry{}
		}
	}
	f.Nodes = append(f.Nodes, impl.Node{Kind: 7})[:6]
	f.Nodes[1].List = append(f.Nodes[1].List, impl.Entry{Name: "behind", Node: 3})[:2]
	if !impl.SameFs(f, g) || !impl.SameFs(g, f) || !impl.GoodFs(f) || !impl.GoodFs(g) {
		t.Error("the same by value", f, g)
	}
}

type treeAnswers struct {
	good, linksOk, parentOk, pathOk, bytesOk, freeOk, same bool
	links, parent, bytes, free                             int
	path                                                   string
}

func treeAnswersOf(f impl.Fs, g impl.Fs, node int) treeAnswers {
	var r treeAnswers
	r.good = impl.GoodFs(f)
	r.links, r.linksOk = impl.LinksOf(f, node)
	r.parent, r.parentOk = impl.ParentOf(f, node)
	r.path, r.pathOk = impl.PathTo(f, node)
	r.bytes, r.bytesOk = impl.BytesIn(f)
	r.free, r.freeOk = impl.FreeNode(f)
	r.same = impl.SameFs(f, g)
	return r
}

func (r treeAnswers) isZeroWhereFalse() bool {
	return (r.linksOk || r.links == 0) && (r.parentOk || r.parent == 0) && (r.pathOk || r.path == "") &&
		(r.bytesOk || r.bytes == 0) && (r.freeOk || r.free == 0)
}

// oddFs has file systems that are good, and ones that are not in many ways.
func oddFs() []impl.Fs {
	all := []impl.Fs{
		{}, {Room: -1}, {Nodes: []impl.Node{}}, {Nodes: make([]impl.Node, 41)}, {Nodes: make([]impl.Node, 5000)}, {Room: math.MaxInt}, {Room: math.MinInt},
		chainFs(40, "abcdefgh"), chainFs(41, "a"), filesFs(39, 25, 975), filesFs(39, 60, 1000),
		{Nodes: []impl.Node{{Kind: math.MinInt, Mode: math.MaxInt, Uid: math.MinInt, Gid: math.MaxInt, Time: math.MinInt, Data: strings.Repeat("\xff", 100000)}}},
	}
	for _, e := range allEdits() {
		f := sampleFs()
		e.make(&f)
		all = append(all, f)
	}
	return all
}

func TestTreeFunctionsAnswerAtAllArguments(t *testing.T) {
	nodes := append([]int{0, 1, 2, 3, 4, 5, 6, 39, 40, 41}, oddNumbers...)
	for i, f := range oddFs() {
		kept := copyOfFs(f)
		good := isGoodByWays(f)
		for _, node := range nodes {
			r := treeAnswersOf(f, kept, node)
			used := good && within(node, 0, len(f.Nodes)-1) && f.Nodes[node].Kind != impl.KdFree
			isDir := used && f.Nodes[node].Kind == impl.KdDir
			if r.good != good || r.bytesOk != good || r.linksOk != used || r.parentOk != isDir || r.pathOk != isDir || !r.same {
				t.Errorf("file system %d, node %d: %+v", i, node, r)
			}
			if !r.isZeroWhereFalse() || (!good && r.freeOk) {
				t.Errorf("file system %d, node %d: an answer that is not zero: %+v", i, node, r)
			}
			if r != treeAnswersOf(f, kept, node) {
				t.Errorf("file system %d, node %d: another answer when asked again", i, node)
			}
		}
	}
}

// markBehind puts a mark behind the length of each list of a file system, and
// tells afterwards whether all is as it was, behind the lists, too.
func markBehind(f *impl.Fs) func() bool {
	mark := impl.Entry{Name: "mark", Node: 77}
	f.Nodes = append(f.Nodes, impl.Node{Kind: 77})[:len(f.Nodes)]
	for i := range f.Nodes {
		list := f.Nodes[i].List
		f.Nodes[i].List = append(list, mark)[:len(list)]
	}
	kept := copyOfFs(*f)
	return func() bool {
		if f.Nodes[:len(f.Nodes)+1][len(f.Nodes)].Kind != 77 || f.Room != kept.Room || len(f.Nodes) != len(kept.Nodes) {
			return false
		}
		for i, n := range f.Nodes {
			k := kept.Nodes[i]
			if n.List[:len(n.List)+1][len(n.List)] != mark || !slices.Equal(n.List, k.List) {
				return false
			}
			n.List, k.List = nil, nil
			if n.Kind != k.Kind || n.Mode != k.Mode || n.Uid != k.Uid || n.Gid != k.Gid || n.Time != k.Time || n.Data != k.Data {
				return false
			}
		}
		return true
	}
}

func TestTreeFunctionsLeaveTheirArguments(t *testing.T) {
	for i, f := range oddFs() {
		plain, other := copyOfFs(f), copyOfFs(f)
		isAsItWas, otherIs := markBehind(&f), markBehind(&other)
		for node := -1; node <= 41; node++ {
			if treeAnswersOf(f, other, node) != treeAnswersOf(plain, plain, node) {
				t.Errorf("file system %d, node %d: what is behind a list counts", i, node)
			}
		}
		if !isAsItWas() || !otherIs() {
			t.Errorf("file system %d was written to", i)
		}
	}
}
