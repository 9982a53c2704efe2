package tests

import (
	"fmt"
	"math"
	"slices"
	"strings"
	"sync"
	"testing"

	"loop.example/g00756/impl"
)

// The nodes of walkFs.
const (
	wkRoot = iota
	wkFree
	wkEmpty
	wkThree
	wkToDir
	wkDots
	wkPair
	wkUp
	wkInner
	wkMid
	wkTop
	wkLast
)

// walkFs has names one of which begins with another one, with bytes below and
// above `/`. Its nodes come in another order than their ways. It has a free node
// 1, and, in the order of the entries:
//
//	/a     a directory
//	/a/b   a directory, /a/b/c in it, one without entries
//	/a/b/x (also /a/z and /g)   a file "three"
//	/a-b (also /a.c/y)   a file "a b"
//	/a.c   a directory
//	/a.c/up -> ..
//	/a0    a file without bytes
//	/a_ (also /y) -> a
//	/z     a file "last\n"
func walkFs() impl.Fs {
	d := &draft{impl.Fs{Room: 100, Nodes: []impl.Node{
		wkRoot:  {Kind: impl.KdDir, Mode: 0o755, Time: 10},
		wkFree:  {},
		wkEmpty: {Kind: impl.KdFile, Mode: 0, Uid: 1, Gid: 2, Time: 12},
		wkThree: {Kind: impl.KdFile, Mode: 0o640, Uid: 1, Gid: 2, Time: 13, Data: "three"},
		wkToDir: {Kind: impl.KdLink, Mode: 0o777, Uid: 3, Gid: 6, Time: 14, Data: "a"},
		wkDots:  {Kind: impl.KdDir, Mode: 0o751, Uid: 4, Gid: 5, Time: 15},
		wkPair:  {Kind: impl.KdFile, Mode: 0o777, Uid: 99, Gid: 98, Time: 1000000, Data: "a b"},
		wkUp:    {Kind: impl.KdLink, Mode: 0o412, Time: 17, Data: ".."},
		wkInner: {Kind: impl.KdDir, Mode: 0, Time: 18},
		wkMid:   {Kind: impl.KdDir, Mode: 0o511, Gid: 7, Time: 0},
		wkTop:   {Kind: impl.KdDir, Mode: 0o700, Uid: 1, Gid: 2, Time: 20},
		wkLast:  {Kind: impl.KdFile, Mode: 0o020, Uid: 8, Time: 21, Data: "last\n"},
	}}}
	d.name(wkRoot, "a", wkTop)
	d.name(wkTop, "b", wkMid)
	d.name(wkMid, "c", wkInner)
	for _, e := range []struct {
		dir  int
		name string
		node int
	}{
		{wkMid, "x", wkThree}, {wkTop, "z", wkThree}, {wkRoot, "g", wkThree}, {wkRoot, "a-b", wkPair}, {wkRoot, "a.c", wkDots}, {wkDots, "y", wkPair},
		{wkDots, "up", wkUp}, {wkRoot, "a0", wkEmpty}, {wkRoot, "a_", wkToDir}, {wkRoot, "y", wkToDir}, {wkRoot, "z", wkLast},
	} {
		d.name(e.dir, e.name, e.node)
	}
	return d.Fs
}

func TestWalkSampleIsGood(t *testing.T) {
	f := walkFs()
	if !isGoodByWays(f) || len(f.Nodes) != wkLast+1 || f.Nodes[wkRoot].List[3].Name != "a0" || f.Nodes[wkRoot].List[4].Node != wkToDir {
		t.Error("the sample is not as said", f)
	}
}

// walkAnswers has all that is told of a node. Lists are texts here, of which the
// nil one and the empty one are the same.
type walkAnswers struct {
	pre, post, below, groups, text                   string
	deep                                             int
	preOk, postOk, belowOk, deepOk, textOk, groupsOk bool
}

func listText[E any](l []E) string {
	if len(l) == 0 {
		return ""
	}
	return fmt.Sprintf("%#v", l)
}

func walkAnswersOf(f impl.Fs, node int) walkAnswers {
	pre, preOk := impl.WalkPre(f, node)
	post, postOk := impl.WalkPost(f, node)
	below, belowOk := impl.NodesBelow(f, node)
	deep, deepOk := impl.DeepOf(f, node)
	text, textOk := impl.TreeText(f, node)
	groups, groupsOk := impl.GroupsIn(f, node)
	return walkAnswers{listText(pre), listText(post), listText(below), listText(groups), text, deep, preOk, postOk, belowOk, deepOk, textOk, groupsOk}
}

// tellAs has these answers, all true. Ways and lines are told one behind another,
// with blanks and bytes 10 between.
func tellAs(pre, post string, below []int, deep int, text string, groups ...string) walkAnswers {
	var lists [][]string
	for _, group := range groups {
		lists = append(lists, strings.Fields(group))
	}
	return walkAnswers{listText(strings.Fields(pre)), listText(strings.Fields(post)), listText(below), listText(lists), text, deep, true, true, true, true, true, true}
}

func checkWalk(t *testing.T, f impl.Fs, node int, want walkAnswers) {
	t.Helper()
	if got := walkAnswersOf(f, node); got != want {
		t.Fatalf("node %d:\n%+v instead of\n%+v in\n%v", node, got, want, f)
	}
}

func TestWalksFromTheRoot(t *testing.T) {
	checkWalk(t, walkFs(), wkRoot, tellAs(
		". a a/b a/b/c a/b/x a/z a-b a.c a.c/up a.c/y a0 a_ g y z",
		"a/b/c a/b/x a/b a/z a a-b a.c/up a.c/y a.c a0 a_ g y z .",
		[]int{0, 2, 3, 4, 5, 6, 7, 8, 9, 10, 11}, 3,
		"drwxr-xr-x 0 0 10 .\n"+
			"drwx------ 1 2 20 a\n"+
			"dr-x--x--x 0 7 0 a/b\n"+
			"d--------- 0 0 18 a/b/c\n"+
			"-rw-r----- 1 2 13 a/b/x three\n"+
			"-rw-r----- 1 2 13 a/z three\n"+
			"-rwxrwxrwx 99 98 1000000 a-b a b\n"+
			"drwxr-x--x 4 5 15 a.c\n"+
			"lr----x-w- 0 0 17 a.c/up ..\n"+
			"-rwxrwxrwx 99 98 1000000 a.c/y a b\n"+
			"---------- 1 2 12 a0 \n"+
			"lrwxrwxrwx 3 6 14 a_ a\n"+
			"-rw-r----- 1 2 13 g three\n"+
			"lrwxrwxrwx 3 6 14 y a\n"+
			"-----w---- 8 0 21 z last\n\n",
		"a/b/x a/z g", "a-b a.c/y", "a_ y"))
}

func TestWalksFromFurtherDown(t *testing.T) {
	f := walkFs()
	checkWalk(t, f, wkTop, tellAs(". b b/c b/x z", "b/c b/x b z .", []int{3, 8, 9, 10}, 2,
		"drwx------ 1 2 20 .\ndr-x--x--x 0 7 0 b\nd--------- 0 0 18 b/c\n-rw-r----- 1 2 13 b/x three\n-rw-r----- 1 2 13 z three\n",
		"b/x z"))
	// Here a node has one of its names below, others elsewhere.
	checkWalk(t, f, wkMid, tellAs(". c x", "c x .", []int{3, 8, 9}, 1, "dr-x--x--x 0 7 0 .\nd--------- 0 0 18 c\n-rw-r----- 1 2 13 x three\n"))
	checkWalk(t, f, wkDots, tellAs(". up y", "up y .", []int{5, 6, 7}, 1, "drwxr-x--x 4 5 15 .\nlr----x-w- 0 0 17 up ..\n-rwxrwxrwx 99 98 1000000 y a b\n"))
}

// Of these there is one way alone, however many names they have.
func TestWalksOfFilesLinksAndEmptyDirectories(t *testing.T) {
	f := walkFs()
	for node, line := range map[int]string{
		wkInner: "d--------- 0 0 18 .\n", wkThree: "-rw-r----- 1 2 13 . three\n", wkPair: "-rwxrwxrwx 99 98 1000000 . a b\n", wkEmpty: "---------- 1 2 12 . \n",
		wkToDir: "lrwxrwxrwx 3 6 14 . a\n", wkUp: "lr----x-w- 0 0 17 . ..\n", wkLast: "-----w---- 8 0 21 . last\n\n",
	} {
		checkWalk(t, f, node, tellAs(".", ".", []int{node}, 0, line))
	}
	g, _ := impl.NewFs(0)
	checkWalk(t, g, 0, tellAs(".", ".", []int{0}, 0, "drwxr-xr-x 0 0 0 .\n"))
}

func TestWalksDoNotFollowLinks(t *testing.T) {
	d := newDraft()
	dir := d.dir(0, "d", 0o755)
	d.file(dir, "f")
	for i, to := range []string{"/", ".", "..", "d", "/d/", "d/f", "l0", "none"} {
		d.link(0, fmt.Sprint("l", i), to)
		d.link(dir, fmt.Sprint("l", i), to)
	}
	ways := ". d d/f d/l0 d/l1 d/l2 d/l3 d/l4 d/l5 d/l6 d/l7 l0 l1 l2 l3 l4 l5 l6 l7"
	if l, ok := impl.WalkPre(d.Fs, 0); !slices.Equal(l, strings.Fields(ways)) || !ok {
		t.Error(l, ok)
	}
	if l, ok := impl.WalkPost(d.Fs, dir); !slices.Equal(l, strings.Fields("f l0 l1 l2 l3 l4 l5 l6 l7 .")) || !ok {
		t.Error(l, ok)
	}
	if deep, ok := impl.DeepOf(d.Fs, 0); deep != 2 || !ok {
		t.Error(deep, ok)
	}
}

// As deep as there are nodes for: far beyond what a path may have.
func TestWalksOfDeepDirectories(t *testing.T) {
	for _, name := range []string{"a", "abcdefgh", "..."} {
		f := chainFs(40, name)
		for top := range 40 {
			pre := []string{"."}
			for n := 1; n < 40-top; n++ {
				pre = append(pre, strings.Repeat(name+"/", n-1)+name)
			}
			post := slices.Clone(pre)
			slices.Reverse(post)
			below, text := []int{}, ""
			for i, way := range pre {
				below = append(below, top+i)
				text += "d--------- 0 0 0 " + way + "\n"
			}
			checkWalk(t, f, top, tellAs(strings.Join(pre, " "), strings.Join(post, " "), below, 39-top, text))
		}
	}
	// Ways that part at each directory, with a file of 39 names.
	f := chainFs(39, "d")
	f.Nodes = append(f.Nodes, impl.Node{Kind: impl.KdFile})
	want := ""
	for i := range 39 {
		come(&f, i, "e", 39)
		want = strings.Repeat("d/", i) + "e " + want
	}
	groups, ok := impl.GroupsIn(f, 0)
	if len(groups) != 1 || !slices.Equal(groups[0], strings.Fields(want)) || !ok {
		t.Error(groups, ok)
	}
	post, ok := impl.WalkPost(f, 0)
	if len(post) != 78 || post[0] != strings.Repeat("d/", 38)+"e" || post[1] != strings.Repeat("d/", 37)+"d" || post[2] != strings.Repeat("d/", 37)+"e" || post[76] != "e" || post[77] != "." || !ok {
		t.Error(post, ok)
	}
}

// The order is that of the entries, name by name: what is below a name comes
// ahead of a longer name that begins with it, whatever byte that goes on with.
func TestWalksGoByTheOrderOfTheEntries(t *testing.T) {
	names := []string{"a", "a-", "a--", "a-b", "a.", "a.a", "a0", "a_", "aa", "aaaaaaaa", "b"}
	d := newDraft()
	d.Nodes = append(d.Nodes, impl.Node{Kind: impl.KdFile})
	var want, wantPost []string
	for _, name := range names {
		dir := d.dir(0, name, 0o755)
		want = append(want, name)
		for _, under := range names {
			d.name(dir, under, 1)
			want, wantPost = append(want, name+"/"+under), append(wantPost, name+"/"+under)
		}
		wantPost = append(wantPost, name)
	}
	if l, ok := impl.WalkPre(d.Fs, 0); !slices.Equal(l, append([]string{"."}, want...)) || !ok {
		t.Errorf("%q instead of %q", l, want)
	}
	if l, ok := impl.WalkPost(d.Fs, 0); !slices.Equal(l, append(wantPost, ".")) || !ok {
		t.Errorf("%q instead of %q", l, wantPost)
	}
	// So do the ways of a group, though by bytes "a-/a" is less than "a/a".
	if groups, ok := impl.GroupsIn(d.Fs, 0); len(groups) != 1 || !slices.Equal(groups[0], without(want, names)) || !ok {
		t.Errorf("%q", groups)
	}
}

func without(l []string, gone []string) []string {
	return slices.DeleteFunc(slices.Clone(l), func(s string) bool { return slices.Contains(gone, s) })
}

func TestNodesBelowRise(t *testing.T) {
	// Each directory has a lesser number than the one that it is in, and the file
	// that all have names of comes first, last and in the middle.
	for _, file := range []int{1, 5, 10} {
		f := impl.Fs{Nodes: make([]impl.Node, 11)}
		at, want := 0, []int{0}
		f.Nodes[file].Kind, f.Nodes[0].Kind = impl.KdFile, impl.KdDir
		for node := 10; node > 0; node-- {
			want = append(want, 11-node)
			if node != file {
				f.Nodes[node].Kind = impl.KdDir
				come(&f, at, "d", node)
				come(&f, at, "a", file)
				come(&f, at, "z", file)
				at = node
			}
		}
		if l, ok := impl.NodesBelow(f, 0); !slices.Equal(l, want) || !ok {
			t.Errorf("%v, %t instead of %v", l, ok, want)
		}
	}
	f := filesFs(39, 0, 0)
	slices.SortFunc(f.Nodes[0].List, func(a, b impl.Entry) int { return b.Node - a.Node })
	for i := range f.Nodes[0].List {
		f.Nodes[0].List[i].Name = string([]byte{'a' + byte(i/10), '0' + byte(i%10)})
	}
	if l, ok := impl.NodesBelow(f, 0); len(l) != 40 || !slices.IsSorted(l) || l[0] != 0 || l[39] != 39 || !ok {
		t.Error(l, ok)
	}
}

func TestTreeTextOfEveryModeAndKind(t *testing.T) {
	for mode := range 512 {
		for _, n := range []impl.Node{
			{Kind: impl.KdDir, Mode: mode}, {Kind: impl.KdFile, Mode: mode, Uid: 99, Gid: 10, Time: 1000000, Data: "data"}, {Kind: impl.KdLink, Mode: mode, Uid: 9, Gid: 99, Time: 9, Data: "/to/"},
		} {
			d := newDraft()
			node := d.add(0, "n", n)
			want := fmt.Sprintf("%c%s %d %d %d", " -dl"[n.Kind], textOfMode(mode), n.Uid, n.Gid, n.Time)
			rest := "\n"
			if n.Kind != impl.KdDir {
				rest = " " + n.Data + "\n"
			}
			if text, ok := impl.TreeText(d.Fs, node); text != want+" ."+rest || !ok {
				t.Errorf("%q, %t instead of %q", text, ok, want+" ."+rest)
			}
			if text, ok := impl.TreeText(d.Fs, 0); text != "drwxr-xr-x 0 0 0 .\n"+want+" n"+rest || !ok {
				t.Errorf("%q, %t instead of %q", text, ok, want+" n"+rest)
			}
		}
	}
}

// What is in a file comes into the text as it is.
func TestTreeTextOfEveryData(t *testing.T) {
	for _, data := range []string{"", " ", "a b", " a  b ", "\n", "a\nb", "\n\n", "\x00\xff\t", "é", strings.Repeat("x", 60), strings.Repeat("\n", 60), strings.Repeat("\xff", 60)} {
		d := newDraft()
		node := d.add(0, "f", impl.Node{Kind: impl.KdFile, Mode: 0o644, Data: data})
		d.name(0, "g", node)
		want := "drwxr-xr-x 0 0 0 .\n-rw-r--r-- 0 0 0 f " + data + "\n-rw-r--r-- 0 0 0 g " + data + "\n"
		if text, ok := impl.TreeText(d.Fs, 0); text != want || !ok {
			t.Errorf("%q, %t instead of %q", text, ok, want)
		}
	}
	for _, to := range []string{"/", ".", "..", "//a//", "a/../b", longPath(60)} {
		d := newDraft()
		if text, ok := impl.TreeText(d.Fs, d.link(0, "l", to)); text != "l--------- 0 0 0 . "+to+"\n" || !ok {
			t.Errorf("%q, %t of a link to %q", text, ok, to)
		}
	}
}

func TestGroupsIn(t *testing.T) {
	for _, c := range []struct {
		names  string
		groups []string
	}{
		{"a=1 b=2 c=3", nil},
		{"a=1 b=1", []string{"a b"}},
		{"a=1 b=2 c=1", []string{"a c"}},
		{"a=2 b=1 c=2 d=1", []string{"a c", "b d"}},
		{"a=1 b=2 c=2 d=1", []string{"a d", "b c"}},
		{"a=3 b=2 c=1 d=1 e=2 f=3 g=3", []string{"a f g", "b e", "c d"}},
		{"a=1 b=2 c=3 d=3 e=3 f=2", []string{"b f", "c d e"}},
		// In d are names of the directory 9, which has the name d.
		{"a=1 d=9 d/a=1 d/b=2", []string{"a d/a"}},
		{"d=9 d/a=2 d/b=1 e=1 f=2 g=2", []string{"d/a f g", "d/b e"}},
		{"a=1 d=9 d/a=2 d/b=2 e=1", []string{"a e", "d/a d/b"}},
		{"d=9 d-=1 d/x=1 d.=2 d/y=2", []string{"d/x d-", "d/y d."}},
	} {
		// Files and links alike.
		for _, kind := range []int{impl.KdFile, impl.KdLink} {
			f := impl.Fs{Room: 100, Nodes: make([]impl.Node, 10)}
			f.Nodes[0].Kind = impl.KdDir
			for _, name := range strings.Fields(c.names) {
				way, number, _ := strings.Cut(name, "=")
				node, dir := int(number[0]-'0'), 0
				f.Nodes[node] = impl.Node{Kind: kind, Data: "d"}
				if node == 9 {
					f.Nodes[node] = impl.Node{Kind: impl.KdDir}
				}
				if below, is := strings.CutPrefix(way, "d/"); is {
					way, dir = below, 9
				}
				come(&f, dir, way, node)
			}
			want := [][]string{}
			for _, group := range c.groups {
				want = append(want, strings.Fields(group))
			}
			if groups, ok := impl.GroupsIn(f, 0); listText(groups) != listText(want) || !ok || !isGoodByWays(f) {
				t.Errorf("%s: %q, %t instead of %q", c.names, groups, ok, want)
			}
		}
	}
}

func checkSame(t *testing.T, f impl.Fs, a int, g impl.Fs, b int, want bool) {
	t.Helper()
	if is, ok := impl.SameTree(f, a, g, b); is != want || !ok {
		t.Errorf("node %d and node %d: %t, %t of\n%v and\n%v", a, b, is, ok, f, g)
	}
	if is, ok := impl.SameTree(g, b, f, a); is != want || !ok {
		t.Errorf("node %d and node %d: %t, %t of\n%v and\n%v", b, a, is, ok, g, f)
	}
}

// renumber gives each of the numbers 0..36 another one of these, but 0 its own.
func renumber(node, by int) int { return node * by % 37 }

func renumbered(f impl.Fs, by int) impl.Fs {
	g := impl.Fs{Room: f.Room, Nodes: make([]impl.Node, 40)}
	for i, n := range f.Nodes {
		n.List = slices.Clone(n.List)
		for j := range n.List {
			n.List[j].Node = renumber(n.List[j].Node, by)
		}
		if n.Kind != impl.KdFree {
			g.Nodes[renumber(i, by)] = n
		}
	}
	return g
}

func TestSameTreeOfEqualOnes(t *testing.T) {
	f := walkFs()
	for _, by := range []int{1, 2, 3, 5, 17, 36} {
		g := renumbered(f, by)
		if !isGoodByWays(g) {
			t.Fatal("not good", by, g)
		}
		for node, n := range f.Nodes {
			if n.Kind != impl.KdFree {
				checkSame(t, f, node, g, renumber(node, by), true)
				checkSame(t, f, node, f, node, true)
			}
		}
	}
	// Neither the room, nor nodes that are free, nor what is elsewhere counts.
	g := walkFs()
	g.Room, g.Nodes = 99, append(g.Nodes, make([]impl.Node, 28)...)
	checkSame(t, f, 0, g, 0, true)
	g.Nodes[wkRoot].Mode, g.Nodes[wkLast].Data, g.Nodes[wkDots].Time, g.Nodes[wkToDir].Data = 0, "x", 5, "b"
	gone(&g, wkRoot, "g")
	gone(&g, wkRoot, "a0")
	g.Nodes[wkEmpty] = impl.Node{}
	checkSame(t, f, wkTop, g, wkTop, true)
	checkSame(t, f, wkPair, g, wkPair, true)
	checkSame(t, f, 0, g, 0, false)
}

func TestSameTreeOfTreesInOneFileSystem(t *testing.T) {
	d := newDraft()
	tops := [3]int{}
	for i, name := range []string{"x", "y", "z"} {
		tops[i] = d.dir(0, name, 0o750)
		file := d.file(d.dir(tops[i], "d", 0o700), "f")
		d.link(tops[i], "l", "d/f")
		if i < 2 {
			d.name(tops[i], "h", file)
			continue
		}
		d.Nodes[d.file(tops[i], "h")].Data = "f"
	}
	checkSame(t, d.Fs, tops[0], d.Fs, tops[1], true)
	// The last one has another file of the same data by that name.
	first, _ := impl.TreeText(d.Fs, tops[0])
	if last, _ := impl.TreeText(d.Fs, tops[2]); first != last {
		t.Error(first, last)
	}
	checkSame(t, d.Fs, tops[0], d.Fs, tops[2], false)
	checkSame(t, d.Fs, tops[0], d.Fs, 0, false)
	// What is below is the same, and so are files, whatever names they have.
	checkSame(t, d.Fs, tops[0]+1, d.Fs, tops[2]+1, true)
	checkSame(t, d.Fs, tops[0]+2, d.Fs, tops[2]+2, true)
	checkSame(t, d.Fs, tops[0]+2, d.Fs, tops[2]+4, true)
	checkSame(t, d.Fs, tops[0]+1, d.Fs, tops[0]+2, false)
	checkSame(t, d.Fs, tops[0]+2, d.Fs, tops[0]+3, false)
}

// Trees are not the same where one thing alone is another one.
func TestSameTreeLooksAtEverything(t *testing.T) {
	f := walkFs()
	apart := func(what string, change func(g *impl.Fs)) {
		g := walkFs()
		change(&g)
		if !isGoodByWays(g) {
			t.Fatalf("%s: not good: %v", what, g)
		}
		checkSame(t, f, 0, g, 0, false)
		if t.Failed() {
			t.Fatal(what)
		}
	}
	for i, n := range f.Nodes {
		if n.Kind == impl.KdFree {
			continue
		}
		apart("a mode", func(g *impl.Fs) { g.Nodes[i].Mode ^= 1 << (i % 9) })
		apart("an owner", func(g *impl.Fs) { g.Nodes[i].Uid ^= 1 })
		apart("a group", func(g *impl.Fs) { g.Nodes[i].Gid ^= 1 })
		apart("a time", func(g *impl.Fs) { g.Nodes[i].Time ^= 1; g.Nodes[i].Time %= 1000001 })
		for j, e := range n.List {
			apart("a name", func(g *impl.Fs) { g.Nodes[i].List[j].Name = e.Name + "--" })
			if f.Nodes[e.Node].Kind != impl.KdDir {
				apart("a name more", func(g *impl.Fs) { come(g, i, "more", e.Node); g.Nodes[i].Time = n.Time })
			}
		}
		if n.Kind == impl.KdFile {
			apart("a byte of data more", func(g *impl.Fs) { g.Nodes[i].Data += " " })
			apart("a byte of data", func(g *impl.Fs) { g.Nodes[i].Data = "x" + strings.TrimPrefix(n.Data, n.Data[:min(1, len(n.Data))]) })
		}
		if n.Kind == impl.KdLink {
			apart("what a link leads to", func(g *impl.Fs) { g.Nodes[i].Data = "./" + n.Data })
			apart("a file in place of a link", func(g *impl.Fs) { g.Nodes[i].Kind = impl.KdFile })
		}
	}
	apart("a directory in place of a file", func(g *impl.Fs) { g.Nodes[wkEmpty].Kind = impl.KdDir })
	apart("a link in place of a file", func(g *impl.Fs) { g.Nodes[wkThree].Kind = impl.KdLink })
	apart("a file in place of a directory", func(g *impl.Fs) { g.Nodes[wkInner].Kind = impl.KdFile })
	apart("what is in a directory one further up", func(g *impl.Fs) {
		gone(g, wkMid, "c")
		come(g, wkTop, "c", wkInner)
		g.Nodes[wkMid].Time, g.Nodes[wkTop].Time = f.Nodes[wkMid].Time, f.Nodes[wkTop].Time
	})
	apart("owner and group", func(g *impl.Fs) { n := &g.Nodes[wkThree]; n.Uid, n.Gid = n.Gid, n.Uid })
}

// Four names of files that are alike but for which of them are of one node, in
// all fifteen ways: the text is the same for all.
func TestSameTreeLooksAtTheGroups(t *testing.T) {
	var all []impl.Fs
	for code := range 256 {
		of := [4]int{code % 4, code / 4 % 4, code / 16 % 4, code / 64}
		// Each way once: a node that was not met yet has the next number.
		next, isOnce := 0, true
		for _, n := range of {
			isOnce = isOnce && n <= next
			next = max(next, n+1)
		}
		if !isOnce {
			continue
		}
		f := impl.Fs{Nodes: make([]impl.Node, 2+next)}
		f.Nodes[0].Kind, f.Nodes[1].Kind = impl.KdDir, impl.KdDir
		come(&f, 0, "d", 1)
		for i, n := range of {
			// The names are in two directories, and the numbers of the nodes fall.
			node := len(f.Nodes) - 1 - n
			f.Nodes[node].Kind = impl.KdFile
			come(&f, i%2, string([]byte{'c' + byte(i)}), node)
		}
		all = append(all, f)
	}
	if len(all) != 15 {
		t.Fatal(len(all))
	}
	for i, f := range all {
		text, _ := impl.TreeText(f, 0)
		for j, g := range all {
			if other, _ := impl.TreeText(g, 0); other != text {
				t.Fatalf("%q and %q", text, other)
			}
			checkSame(t, f, 0, g, 0, i == j)
		}
	}
}

// What counts is the text: a file may have a line in its data that reads as that
// of another file.
func TestSameTreeGoesByTheText(t *testing.T) {
	d, e := newDraft(), newDraft()
	d.add(0, "a", impl.Node{Kind: impl.KdFile, Data: "x\n---------- 0 0 0 b y"})
	e.add(0, "a", impl.Node{Kind: impl.KdFile, Data: "x"})
	e.add(0, "b", impl.Node{Kind: impl.KdFile, Data: "y"})
	checkSame(t, d.Fs, 0, e.Fs, 0, true)
	e.Nodes[2].Data = "z"
	checkSame(t, d.Fs, 0, e.Fs, 0, false)
}

// A met is a node that is met below another one, by these names.
type met struct {
	names []string
	node  int
}

// metBelow, byPost and walkAgain are a second reading of the chapter: it cuts the
// ways from node 0 to those below a node, and sorts them, name by name.
func metBelow(f impl.Fs, node int) []met {
	all := []met{{nil, node}}
	if f.Nodes[node].Kind != 2 {
		return all
	}
	ways, _, _ := waysToNodes(f)
	top := ""
	if node != 0 {
		top = ways[node][0]
	}
	for i, l := range ways {
		for _, way := range l {
			if below, is := strings.CutPrefix(way, top+"/"); is {
				all = append(all, met{strings.Split(below, "/"), i})
			}
		}
	}
	slices.SortFunc(all, func(a, b met) int { return slices.Compare(a.names, b.names) })
	return all
}

// byPost has the longer one of two first where the other one begins it.
func byPost(a, b met) int {
	short := min(len(a.names), len(b.names))
	if order := slices.Compare(a.names[:short], b.names[:short]); order != 0 {
		return order
	}
	return len(b.names) - len(a.names)
}

func wayOf(m met) string {
	if len(m.names) == 0 {
		return "."
	}
	return strings.Join(m.names, "/")
}

func waysOf(l []met) string {
	var ways []string
	for _, m := range l {
		ways = append(ways, wayOf(m))
	}
	return strings.Join(ways, " ")
}

func groupsAgain(l []met) []string {
	var groups []string
	for i, first := range l {
		is := func(m met) bool { return m.node == first.node }
		if slices.IndexFunc(l, is) < i {
			continue
		}
		if same := slices.DeleteFunc(slices.Clone(l), func(m met) bool { return !is(m) }); len(same) > 1 {
			groups = append(groups, waysOf(same))
		}
	}
	return groups
}

func walkAgain(f impl.Fs, node int) walkAnswers {
	pre := metBelow(f, node)
	post := slices.SortedFunc(slices.Values(pre), byPost)
	below, deep, text := []int{}, 0, ""
	for i := range f.Nodes {
		if slices.ContainsFunc(pre, func(m met) bool { return m.node == i }) {
			below = append(below, i)
		}
	}
	for _, m := range pre {
		n := f.Nodes[m.node]
		deep = max(deep, len(m.names))
		text += fmt.Sprintf("%c%s %d %d %d %s", " -dl"[n.Kind], textOfMode(n.Mode), n.Uid, n.Gid, n.Time, wayOf(m))
		if n.Kind != 2 {
			text += " " + n.Data
		}
		text += "\n"
	}
	return tellAs(waysOf(pre), waysOf(post), below, deep, text, groupsAgain(pre)...)
}

// eachWalkable hands out each node that is not free of many good file systems.
func eachWalkable(use func(f impl.Fs, node int)) {
	each := func(f impl.Fs) {
		if !isGoodByWays(f) {
			return
		}
		for node, n := range f.Nodes {
			if n.Kind != impl.KdFree {
				use(f, node)
			}
		}
	}
	eachFs(each)
	for seed := range 100 {
		f, _ := tangledFs(seed*6607 + 1)
		each(f)
	}
	for _, f := range []impl.Fs{walkFs(), lookFs(), hopsFs(), makeFs(), attrFs()} {
		each(f)
	}
}

func TestEveryWalkIsAsReadAgain(t *testing.T) {
	walks, grouped, deep := 0, 0, 0
	eachWalkable(func(f impl.Fs, node int) {
		want := walkAgain(f, node)
		checkWalk(t, f, node, want)
		walks++
		if want.groups != "" {
			grouped++
		}
		if want.deep > 3 {
			deep++
		}
	})
	if walks < 5000 || grouped < 100 || deep < 100 {
		t.Error("hardly a tree was met", walks, grouped, deep)
	}
}

// Promise 7: pre-order and post-order walks visit the same paths. Each comes once,
// in the one order behind the way that it is below, in the other one ahead of it.
func TestBothWalksVisitTheSameWays(t *testing.T) {
	eachWalkable(func(f impl.Fs, node int) {
		pre, preOk := impl.WalkPre(f, node)
		post, postOk := impl.WalkPost(f, node)
		if !preOk || !postOk || len(pre) != len(post) {
			t.Fatalf("node %d: %q, %t and %q, %t", node, pre, preOk, post, postOk)
		}
		sorted, other := slices.Sorted(slices.Values(pre)), slices.Sorted(slices.Values(post))
		if !slices.Equal(sorted, other) || len(slices.Compact(sorted)) != len(pre) {
			t.Fatalf("node %d: %q and %q are not the same ways, each once", node, pre, post)
		}
		if pre[0] != "." || post[len(post)-1] != "." {
			t.Fatalf("node %d: %q and %q", node, pre, post)
		}
		at, atPost := map[string]int{}, map[string]int{}
		for i := range pre {
			at[pre[i]], atPost[post[i]] = i, i
		}
		for way, i := range at {
			if cut := strings.LastIndexByte(way, '/'); cut >= 0 && (at[way[:cut]] >= i || atPost[way[:cut]] <= atPost[way]) {
				t.Fatalf("node %d: %q is not between what it is below in %q and %q", node, way, pre, post)
			}
		}
		checkWaysAreThere(t, f, node, pre)
	})
}

// checkWaysAreThere follows each way by its names to a node, and finds all nodes
// below so, each as often as it has entries there.
func checkWaysAreThere(t *testing.T, f impl.Fs, node int, ways []string) {
	t.Helper()
	below, _ := impl.NodesBelow(f, node)
	entries := 1
	for _, i := range below {
		entries += len(f.Nodes[i].List)
	}
	if entries != len(ways) {
		t.Fatalf("node %d: %d ways of %d entries", node, len(ways), entries)
	}
	var led []int
	for _, way := range ways {
		at, is := node, true
		for _, name := range strings.Split(way, "/") {
			if name != "." {
				at, is = nodeIn(f, at, name)
			}
			if !is {
				t.Fatalf("node %d: %q leads to none in %v", node, way, f)
			}
		}
		led = append(led, at)
	}
	slices.Sort(led)
	if !slices.Equal(slices.Compact(led), below) {
		t.Fatalf("node %d: the ways lead to %v, below are %v", node, led, below)
	}
}

func TestSameTreeOfEveryPairIsAsReadAgain(t *testing.T) {
	type tree struct {
		f    impl.Fs
		node int
		told walkAnswers
	}
	var trees []tree
	keep := func(f impl.Fs) {
		if !isGoodByWays(f) {
			return
		}
		for node, n := range f.Nodes {
			if n.Kind != impl.KdFree {
				trees = append(trees, tree{f, node, walkAgain(f, node)})
			}
		}
	}
	eachSmallFs(2, []int{impl.KdFree, impl.KdFile, impl.KdDir, impl.KdLink}, func(f impl.Fs) { keep(copyOfFs(f)) })
	eachSmallFs(3, []int{impl.KdFile, impl.KdDir}, func(f impl.Fs) { keep(copyOfFs(f)) })
	for seed := range 6 {
		keep(grownFs(seed*7919 + 3))
	}
	for _, f := range []impl.Fs{walkFs(), renumbered(walkFs(), 3), makeFs()} {
		keep(f)
	}
	same, other := 0, 0
	for _, a := range trees {
		for _, b := range trees {
			want := a.told.text == b.told.text && a.told.groups == b.told.groups
			if is, ok := impl.SameTree(a.f, a.node, b.f, b.node); is != want || !ok {
				t.Fatalf("%t, %t instead of %t of node %d in\n%v and node %d in\n%v", is, ok, want, a.node, a.f, b.node, b.f)
			}
			if want {
				same++
			} else {
				other++
			}
		}
	}
	if same < 1000 || other < 1000 {
		t.Error("hardly a pair was met", same, other)
	}
}

// A directory has as many entries as there are names for, of one file, too.
func TestWalksOfManyNames(t *testing.T) {
	f := filesFs(2, 3, 6)
	var want []string
	f.Nodes[0].List = nil
	for i := range 20000 {
		name := string([]byte{'a' + byte(i/1000), '0' + byte(i/100%10), '0' + byte(i/10%10), '0' + byte(i%10)})
		f.Nodes[0].List = append(f.Nodes[0].List, impl.Entry{Name: name, Node: 1 + i%2})
		want = append(want, name)
	}
	pre, ok := impl.WalkPre(f, 0)
	if !slices.Equal(pre, append([]string{"."}, want...)) || !ok {
		t.Error(len(pre), ok)
	}
	post, ok := impl.WalkPost(f, 0)
	if !slices.Equal(post, append(want, ".")) || !ok {
		t.Error(len(post), ok)
	}
	if l, ok := impl.NodesBelow(f, 0); !slices.Equal(l, []int{0, 1, 2}) || !ok {
		t.Error(l, ok)
	}
	groups, ok := impl.GroupsIn(f, 0)
	if len(groups) != 2 || len(groups[0]) != 10000 || groups[0][9999] != "t998" || len(groups[1]) != 10000 || groups[1][0] != "a001" || !ok {
		t.Error(len(groups), ok)
	}
	if text, ok := impl.TreeText(f, 0); strings.Count(text, "\n") != 20001 || !strings.HasSuffix(text, " t999 xxx\n") || !ok {
		t.Error(len(text), ok)
	}
	checkSame(t, f, 0, f, 0, true)
}

// The signs of the kinds are there for all who ask at the same time.
func TestTreeTextFromManyAtOnce(t *testing.T) {
	var all sync.WaitGroup
	texts := make([]string, 60)
	for i := range texts {
		all.Go(func() { texts[i], _ = impl.TreeText(walkFs(), []int{wkRoot, wkTop, wkUp}[i%3]) })
	}
	all.Wait()
	for i, text := range texts {
		if want := walkAgain(walkFs(), []int{wkRoot, wkTop, wkUp}[i%3]).text; text != want {
			t.Errorf("%d: %q instead of %q", i, text, want)
		}
	}
}

// oddNodes has numbers below all nodes, of nodes, and beyond them.
var oddNodes = append([]int{0, 1, 2, 3, 4, 5, 6, 11, 12, 39, 40, 41, math.MinInt32, math.MaxInt32, 1 << 32, -1 << 32}, oddNumbers...)

func isUsed(f impl.Fs, node int) bool {
	return isGoodByWays(f) && within(node, 0, len(f.Nodes)-1) && f.Nodes[node].Kind != impl.KdFree
}

// Promise 19: every function answers at all arguments.
func TestWalkFunctionsAnswerAtAllArguments(t *testing.T) {
	for i, f := range append(oddFs(), walkFs(), makeFs(), fullFs(40, 39), fullFs(40, 5)) {
		for _, node := range oddNodes {
			want := walkAnswers{}
			if isUsed(f, node) {
				want = walkAgain(f, node)
			}
			for range 2 {
				if got := walkAnswersOf(f, node); got != want {
					t.Fatalf("file system %d, node %d: %+v instead of %+v in %.500v", i, node, got, want, f)
				}
			}
		}
	}
}

func TestSameTreeAnswersAtAllArguments(t *testing.T) {
	all := append(oddFs(), walkFs(), makeFs())
	some := []impl.Fs{{}, sampleFs(), walkFs(), chainFs(40, "a"), chainFs(41, "a"), fullFs(40, 39)}
	for i, f := range all {
		for j, g := range some {
			for _, a := range []int{math.MinInt, -1, 0, 1, 2, 4, 5, 6, 11, 12, 39, 40, math.MaxInt} {
				for _, b := range []int{-1, 0, 1, 4, 39, 40} {
					wantOk := isUsed(f, a) && isUsed(g, b)
					want := false
					if wantOk {
						x, y := walkAgain(f, a), walkAgain(g, b)
						want = x.text == y.text && x.groups == y.groups
					}
					is, ok := impl.SameTree(f, a, g, b)
					back, backOk := impl.SameTree(g, b, f, a)
					if is != want || ok != wantOk || back != want || backOk != wantOk {
						t.Fatalf("file systems %d and %d, nodes %d and %d: %t, %t and back %t, %t instead of %t, %t", i, j, a, b, is, ok, back, backOk, want, wantOk)
					}
				}
			}
		}
	}
	// Not even of what is not good and itself.
	for _, node := range []int{wkFree, -1, wkLast + 1, math.MinInt, math.MaxInt} {
		if is, ok := impl.SameTree(walkFs(), node, walkFs(), node); is || ok {
			t.Error(node, is, ok)
		}
	}
	if is, ok := impl.SameTree(impl.Fs{}, 0, impl.Fs{}, 0); is || ok {
		t.Error(is, ok)
	}
}

// Promise 19: no function changes an argument.
func TestWalkFunctionsLeaveTheirArguments(t *testing.T) {
	for i, f := range append(oddFs(), walkFs(), makeFs(), hopsFs(), fullFs(40, 5)) {
		plain, other := copyOfFs(f), copyOfFs(f)
		isAsItWas, otherIs := markBehind(&f), markBehind(&other)
		for node := -1; node <= 41; node++ {
			if walkAnswersOf(f, node) != walkAnswersOf(plain, node) {
				t.Errorf("file system %d, node %d: what is behind a list counts", i, node)
			}
			want, wantOk := impl.SameTree(plain, 0, plain, node)
			if is, ok := impl.SameTree(f, 0, other, node); is != want || ok != wantOk {
				t.Errorf("file system %d, node %d: %t, %t: what is behind a list counts", i, node, is, ok)
			}
		}
		if !isAsItWas() || !otherIs() {
			t.Fatalf("file system %d was written to", i)
		}
	}
}

// fill writes to all memory of a list.
func fill[E any](l []E, by E) {
	l = l[:cap(l)]
	for i := range l {
		l[i] = by
	}
}

// What is written into an answer is seen in no other one, in no other list of it,
// and in no argument.
func TestWalkAnswersAreNewMemory(t *testing.T) {
	for _, f := range []impl.Fs{walkFs(), chainFs(40, "abcdefgh"), filesFs(20, 2, 40), makeFs()} {
		isAsItWas := markBehind(&f)
		for node, n := range f.Nodes {
			if n.Kind == impl.KdFree {
				continue
			}
			want := walkAgain(f, node)
			pre, _ := impl.WalkPre(f, node)
			post, _ := impl.WalkPost(f, node)
			below, _ := impl.NodesBelow(f, node)
			groups, _ := impl.GroupsIn(f, node)
			fill(pre, "written")
			fill(post, "written")
			fill(below, 77)
			for i := range groups {
				if ways := listText(groups[i]); !strings.Contains(want.groups, ways) {
					t.Fatalf("node %d: a group is %s, those told are %s", node, ways, want.groups)
				}
				fill(groups[i], "written")
			}
			fill(groups, []string{"written"})
			checkWalk(t, f, node, want)
		}
		if !isAsItWas() {
			t.Fatal("an answer has memory of the argument", f)
		}
	}
}

// Nothing is kept from call to call: not of a tree that was walked ahead of this
// one, nor of this one as it was.
func TestWalksKeepNothing(t *testing.T) {
	f := walkFs()
	before := walkAnswersOf(f, wkTop)
	g, code, ok := impl.MakeDir(f, root, "/a/b/new", 0o700, 5)
	if code != impl.EcOk || !ok {
		t.Fatal(code, ok)
	}
	checkWalk(t, g, wkTop, walkAgain(g, wkTop))
	checkWalk(t, f, wkTop, before)
	f.Nodes[wkTop].List[1].Name, f.Nodes[wkThree].Data = "zz", "other"
	after := walkAnswersOf(f, wkTop)
	if after == before || after != walkAgain(f, wkTop) {
		t.Error(before, after)
	}
}
