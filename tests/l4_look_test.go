package tests

import (
	"math"
	"slices"
	"strings"
	"testing"

	"loop.example/g00756/impl"
)

var (
	root  = impl.Cred{}
	owner = impl.Cred{Uid: 1, Gid: 2}
	mate  = impl.Cred{Uid: 3, Gid: 2}
	other = impl.Cred{Uid: 4, Gid: 5}
)

var someCreds = []impl.Cred{root, owner, mate, other, {Uid: 0, Gid: 99}, {Uid: 99, Gid: 0}}

// draft is a file system that is laid out name by name.
type draft struct{ impl.Fs }

func newDraft() *draft {
	return &draft{impl.Fs{Room: 1000, Nodes: []impl.Node{{Kind: impl.KdDir, Mode: 0o755}}}}
}

func (d *draft) name(dir int, name string, node int) {
	list := &d.Nodes[dir].List
	at, _ := slices.BinarySearchFunc(*list, name, func(e impl.Entry, s string) int { return strings.Compare(e.Name, s) })
	*list = slices.Insert(*list, at, impl.Entry{Name: name, Node: node})
}

func (d *draft) add(dir int, name string, n impl.Node) int {
	d.Nodes = append(d.Nodes, n)
	d.name(dir, name, len(d.Nodes)-1)
	return len(d.Nodes) - 1
}

func (d *draft) dir(dir int, name string, mode int) int {
	return d.add(dir, name, impl.Node{Kind: impl.KdDir, Mode: mode, Uid: 1, Gid: 2})
}

func (d *draft) file(dir int, name string) int {
	return d.add(dir, name, impl.Node{Kind: impl.KdFile, Mode: 0o644, Data: name})
}

func (d *draft) link(dir int, name string, to string) int {
	return d.add(dir, name, impl.Node{Kind: impl.KdLink, Data: to})
}

// The nodes of lookFs that the tests ask for by name.
const (
	ndRoot = iota
	ndFree
	ndA
	ndB
	ndFile
	ndDeep
	ndEmpty
	ndShut
	ndInShut
	ndBlind
	ndOwn
	ndToA
	ndToFile
	ndUp
	ndToRoot
	ndNowhere
	ndSelf
	ndToShut
	ndInA
	ndHere
	ndSlash
	ndPing
	ndPong
)

// lookFs has:
//
//	/a (755)  /a/b (755)  /a/b/g (file)   /a/e (755, without entries)
//	/f (file, also /a/f)
//	/shut (600, of 1:2)   /shut/x (755)    may be read by 1, entered by none but 0
//	/blind (711, of 1:2)  /blind/f         may be entered, but read by 1 alone
//	/own (700, of 1:2)    /own/f           may be entered by 1 alone
//	/la -> a   /lf -> /a/f   /a/up -> ../la/b   /lr -> /   /no -> a/none
//	/self -> self   /ls -> shut/x   /a/in (also /in) -> b   /here -> .
//	/sl -> f/   /ping -> pong   /pong -> /ping
func lookFs() impl.Fs {
	d := newDraft()
	d.Nodes = append(d.Nodes, impl.Node{})
	a := d.dir(0, "a", 0o755)
	b := d.dir(a, "b", 0o755)
	f := d.file(0, "f")
	d.name(a, "f", f)
	d.file(b, "g")
	d.dir(a, "e", 0o755)
	shut := d.dir(0, "shut", 0o600)
	d.dir(shut, "x", 0o755)
	d.name(d.dir(0, "blind", 0o711), "f", f)
	d.name(d.dir(0, "own", 0o700), "f", f)
	d.link(0, "la", "a")
	d.link(0, "lf", "/a/f")
	d.link(a, "up", "../la/b")
	d.link(0, "lr", "/")
	d.link(0, "no", "a/none")
	d.link(0, "self", "self")
	d.link(0, "ls", "shut/x")
	d.name(0, "in", d.link(a, "in", "b"))
	d.link(0, "here", ".")
	d.link(0, "sl", "f/")
	d.link(0, "ping", "pong")
	d.link(0, "pong", "/ping")
	return d.Fs
}

// hopsFs has links l1 to l12, each to the one ahead of it, l1 to the directory
// d, in which h leads to its own directory and w to it by a whole path.
func hopsFs() impl.Fs {
	d := newDraft()
	dir := d.dir(0, "d", 0o755)
	d.file(dir, "f")
	d.link(dir, "h", ".")
	d.link(dir, "w", "/d")
	to := "d"
	for _, name := range []string{"l1", "l2", "l3", "l4", "l5", "l6", "l7", "l8", "l9", "l10", "l11", "l12"} {
		d.link(0, name, to)
		to = name
	}
	return d.Fs
}

func TestLookConstants(t *testing.T) {
	codes := []int{
		impl.EcOk, impl.EcPath, impl.EcNone, impl.EcNoDir, impl.EcMay, impl.EcLoop, impl.EcThere, impl.EcIsDir, impl.EcFull, impl.EcBusy, impl.EcFault,
	}
	for i, code := range codes {
		if i != code {
			t.Errorf("code %d is %d", i, code)
		}
	}
	if impl.MaxHops != 8 {
		t.Error(impl.MaxHops)
	}
}

func TestLookSamplesAreGood(t *testing.T) {
	if !isGoodByWays(lookFs()) || !isGoodByWays(hopsFs()) || !impl.GoodFs(lookFs()) || !impl.GoodFs(hopsFs()) {
		t.Error("a sample is not good")
	}
}

// A look is a path, whether a link at its end is followed, and what is found.
type look struct {
	path   string
	follow bool
	node   int
	code   int
}

func checkLooks(t *testing.T, f impl.Fs, c impl.Cred, looks []look) {
	t.Helper()
	for _, l := range looks {
		if node, code, ok := impl.FindNode(f, c, l.path, l.follow); node != l.node || code != l.code || !ok {
			t.Errorf("%v, %.70q, %t: node %d, code %d, %t instead of %d, %d", c, l.path, l.follow, node, code, ok, l.node, l.code)
		}
	}
}

// both has a look with and one without follow, which make no difference.
func both(path string, node int, code int) []look {
	return []look{{path, false, node, code}, {path, true, node, code}}
}

func TestFindNodeOfTextsThatAreNotWhole(t *testing.T) {
	texts := []string{
		"", ".", "..", "a", "a/b", "./a", "../a", "f", "la", "A", "/A", "/a b", "/a/\x00", "/\xff", "/é", "é", "/123456789", "/a/123456789", " /a", "\n", "/a\n",
		longPath(61), longPath(60)[1:], strings.Repeat("/", 61), strings.Repeat("/a", 100000), strings.Repeat("/./", 21), "a/" + longPath(20),
	}
	for _, c := range someCreds {
		for _, text := range texts {
			checkLooks(t, lookFs(), c, both(text, 0, impl.EcPath))
		}
	}
}

func TestFindNodeOfTheRoot(t *testing.T) {
	f := lookFs()
	f.Nodes[0].Mode = 0
	for _, path := range []string{"/", "//", "///", strings.Repeat("/", 60)} {
		for _, c := range someCreds {
			checkLooks(t, lookFs(), c, both(path, ndRoot, impl.EcOk))
			// No part is asked for, so nothing has to be entered.
			checkLooks(t, f, c, both(path, ndRoot, impl.EcOk))
		}
	}
	for _, path := range []string{"/.", "/..", "/a", "/none", "/f", "/./", "/../", "/f/a"} {
		checkLooks(t, f, owner, both(path, 0, impl.EcMay))
	}
	checkLooks(t, f, root, slices.Concat(both("/.", ndRoot, impl.EcOk), both("/none", 0, impl.EcNone), both("/f/a", 0, impl.EcNoDir)))
}

func TestFindNodePartByPart(t *testing.T) {
	for _, c := range someCreds {
		checkLooks(t, lookFs(), c, slices.Concat(
			both("/a", ndA, impl.EcOk), both("//a", ndA, impl.EcOk), both("/a/b", ndB, impl.EcOk), both("/a//b", ndB, impl.EcOk),
			both("/a/b/g", ndDeep, impl.EcOk), both("/f", ndFile, impl.EcOk), both("/a/f", ndFile, impl.EcOk), both("/a/e", ndEmpty, impl.EcOk),
			both("/none", 0, impl.EcNone), both("/a/none", 0, impl.EcNone), both("/a/e/f", 0, impl.EcNone), both("/none/f", 0, impl.EcNone),
			both("/none/", 0, impl.EcNone), both("/none/..", 0, impl.EcNone), both("/b", 0, impl.EcNone), both("/a/a", 0, impl.EcNone),
			both("/f/none", 0, impl.EcNoDir), both("/f/f", 0, impl.EcNoDir), both("/f/.", 0, impl.EcNoDir), both("/f/..", 0, impl.EcNoDir),
			both("/f/../f", 0, impl.EcNoDir), both("/a/b/g/x", 0, impl.EcNoDir), both("/f/none/none", 0, impl.EcNoDir),
			// Names are taken whole: neither a part of one nor one with more behind it.
			both("/shu", 0, impl.EcNone), both("/shutt", 0, impl.EcNone), both("/aa", 0, impl.EcNone), both("/a/.f", 0, impl.EcNone), both("/...", 0, impl.EcNone),
		))
	}
}

func TestFindNodeOfPathsThatEndInSlash(t *testing.T) {
	for _, c := range someCreds {
		checkLooks(t, lookFs(), c, slices.Concat(
			both("/a/", ndA, impl.EcOk), both("/a///", ndA, impl.EcOk), both("/a/b/", ndB, impl.EcOk), both("/a/e/", ndEmpty, impl.EcOk),
			both("/f/", 0, impl.EcNoDir), both("/f//", 0, impl.EcNoDir), both("/a/b/g/", 0, impl.EcNoDir), both("/./", ndRoot, impl.EcOk), both("/a/../", ndRoot, impl.EcOk),
			both("/la/", ndA, impl.EcOk), both("/la//", ndA, impl.EcOk), both("/lf/", 0, impl.EcNoDir), both("/sl/", 0, impl.EcNoDir), both("/no/", 0, impl.EcNone),
			both("/self/", 0, impl.EcLoop), both("/ping/", 0, impl.EcLoop), both("/lr/", ndRoot, impl.EcOk), both("/here/", ndRoot, impl.EcOk), both("/a/up/", ndB, impl.EcOk),
		))
		// To be the last one, a directory need not be one that may be entered.
		checkLooks(t, lookFs(), c, slices.Concat(both("/shut/", ndShut, impl.EcOk), both("/own/", ndOwn, impl.EcOk), both("/shut", ndShut, impl.EcOk)))
	}
}

func TestFindNodeOfDots(t *testing.T) {
	for _, c := range someCreds {
		checkLooks(t, lookFs(), c, slices.Concat(
			both("/.", ndRoot, impl.EcOk), both("/..", ndRoot, impl.EcOk), both("/../..", ndRoot, impl.EcOk), both("/./../a", ndA, impl.EcOk), both("/../../a/b", ndB, impl.EcOk),
			both("/a/.", ndA, impl.EcOk), both("/a/..", ndRoot, impl.EcOk), both("/a/b/..", ndA, impl.EcOk), both("/a/b/../..", ndRoot, impl.EcOk),
			both("/a/b/../../../a/./b/.", ndB, impl.EcOk), both("/a/b/../e", ndEmpty, impl.EcOk), both("/a/e/../../f", ndFile, impl.EcOk), both("/a/../b", 0, impl.EcNone),
			// Behind a link ".." is above what it leads to, not above the link.
			both("/la/..", ndRoot, impl.EcOk), both("/a/up/..", ndA, impl.EcOk), both("/a/up/../..", ndRoot, impl.EcOk), both("/in/..", 0, impl.EcNone), both("/a/in/..", ndA, impl.EcOk),
		))
	}
}

func TestFindNodeAsksWhetherItMayEnter(t *testing.T) {
	f := lookFs()
	shut := []string{"/shut/x", "/shut/.", "/shut/..", "/shut/none", "/shut/x/", "/shut/x/y", "/a/../shut/../a", "/ls/", "/ls/y"}
	for _, path := range shut {
		for _, c := range []impl.Cred{owner, mate, other, {Uid: 99, Gid: 0}} {
			checkLooks(t, f, c, both(path, 0, impl.EcMay))
		}
	}
	for _, c := range []impl.Cred{root, {Uid: 0, Gid: 99}} {
		checkLooks(t, f, c, slices.Concat(
			both("/shut/x", ndInShut, impl.EcOk), both("/shut/.", ndShut, impl.EcOk), both("/shut/..", ndRoot, impl.EcOk), both("/shut/none", 0, impl.EcNone),
			both("/ls/", ndInShut, impl.EcOk), both("/own/f", ndFile, impl.EcOk), both("/blind/f", ndFile, impl.EcOk)))
	}
	for _, c := range someCreds {
		checkLooks(t, f, c, slices.Concat(both("/blind/f", ndFile, impl.EcOk), both("/blind/.", ndBlind, impl.EcOk), both("/blind/none", 0, impl.EcNone)))
	}
	checkLooks(t, f, owner, both("/own/f", ndFile, impl.EcOk))
	for _, c := range []impl.Cred{mate, other, {Uid: 99, Gid: 0}} {
		checkLooks(t, f, c, both("/own/f", 0, impl.EcMay))
	}
}

// Of each of the three classes only its own bit to enter counts.
func TestFindNodeOfEveryMode(t *testing.T) {
	f := lookFs()
	for mode := range 512 {
		f.Nodes[ndA].Mode = mode
		for i, c := range []impl.Cred{owner, mate, other} {
			want := both("/a/b", ndB, impl.EcOk)
			if mode>>(6-3*i)&1 == 0 {
				want = both("/a/b", 0, impl.EcMay)
			}
			checkLooks(t, f, c, want)
		}
		checkLooks(t, f, root, both("/a/b", ndB, impl.EcOk))
	}
}

func TestFindNodeTellsTheFirstFaultThatIsMet(t *testing.T) {
	checkLooks(t, lookFs(), owner, slices.Concat(
		both("/none/shut/x", 0, impl.EcNone), both("/shut/x/none", 0, impl.EcMay), both("/f/shut", 0, impl.EcNoDir), both("/self/none", 0, impl.EcLoop),
		both("/no/self", 0, impl.EcNone), both("/ls/self", 0, impl.EcMay), both("/lf/none", 0, impl.EcNoDir), both("/shut/f/", 0, impl.EcMay), both("/none//", 0, impl.EcNone),
		// What is not whole is told ahead of all that would be met on the way.
		both("/shut/x/A", 0, impl.EcPath), both("/none/123456789", 0, impl.EcPath),
	))
}

func TestFindNodeOfLinks(t *testing.T) {
	last := func(path string, link int, node int, code int) []look {
		return []look{{path, false, link, impl.EcOk}, {path, true, node, code}}
	}
	for _, c := range someCreds {
		checkLooks(t, lookFs(), c, slices.Concat(
			last("/la", ndToA, ndA, impl.EcOk), last("/lf", ndToFile, ndFile, impl.EcOk), last("/a/up", ndUp, ndB, impl.EcOk), last("/lr", ndToRoot, ndRoot, impl.EcOk),
			last("/here", ndHere, ndRoot, impl.EcOk), last("/no", ndNowhere, 0, impl.EcNone), last("/self", ndSelf, 0, impl.EcLoop), last("/ping", ndPing, 0, impl.EcLoop),
			last("/pong", ndPong, 0, impl.EcLoop), last("/la/up", ndUp, ndB, impl.EcOk), last("/la/in", ndInA, ndB, impl.EcOk), last("/lr/la", ndToA, ndA, impl.EcOk),
			// What a link leads to is told from the directory by which it was met.
			last("/in", ndInA, 0, impl.EcNone), last("/a/in", ndInA, ndB, impl.EcOk),
			// The slash at the end of a link's Data is no part of it.
			last("/sl", ndSlash, ndFile, impl.EcOk),
			both("/la/b", ndB, impl.EcOk), both("/la/.", ndA, impl.EcOk), both("/la/b/../f", ndFile, impl.EcOk), both("/lr/a", ndA, impl.EcOk), both("/lr/f", ndFile, impl.EcOk),
			both("/here/here/a", ndA, impl.EcOk), both("/a/up/g", ndDeep, impl.EcOk), both("/a/in/g", ndDeep, impl.EcOk), both("/in/g", 0, impl.EcNone),
			both("/lf/x", 0, impl.EcNoDir), both("/lf/.", 0, impl.EcNoDir), both("/lf/..", 0, impl.EcNoDir), both("/sl/x", 0, impl.EcNoDir),
			both("/no/x", 0, impl.EcNone), both("/self/.", 0, impl.EcLoop), both("/ping/x", 0, impl.EcLoop),
		))
	}
	checkLooks(t, lookFs(), root, last("/ls", ndToShut, ndInShut, impl.EcOk))
	checkLooks(t, lookFs(), owner, last("/ls", ndToShut, 0, impl.EcMay))
}

// A link is followed whatever its own mode and owner are, but not out of a
// directory that may not be entered.
func TestFindNodeThroughLinksOfAnyMode(t *testing.T) {
	f := lookFs()
	f.Nodes[ndToA].Mode, f.Nodes[ndToA].Uid, f.Nodes[ndToFile].Uid = 0, 50, 1
	checkLooks(t, f, other, slices.Concat([]look{{"/la", true, ndA, impl.EcOk}, {"/lf", true, ndFile, impl.EcOk}}, both("/la/b", ndB, impl.EcOk)))
	f.Nodes[ndA].Mode = 0o666
	checkLooks(t, f, owner, slices.Concat(both("/a/up", 0, impl.EcMay), both("/a/in", 0, impl.EcMay), []look{{"/la", true, ndA, impl.EcOk}, {"/lf", true, 0, impl.EcMay}}))
}

func TestFindNodeOverMaxHopsLinks(t *testing.T) {
	const dir, file, linkH = 1, 2, 3
	names := []string{"/l1", "/l2", "/l3", "/l4", "/l5", "/l6", "/l7", "/l8", "/l9", "/l10", "/l11", "/l12"}
	for i, name := range names {
		hops := i + 1
		code, node, inner := impl.EcOk, dir, file
		if hops > 8 {
			code, node, inner = impl.EcLoop, 0, 0
		}
		checkLooks(t, hopsFs(), other, slices.Concat(
			[]look{{name, true, node, code}, {name, false, 4 + hops, impl.EcOk}}, both(name+"/", node, code), both(name+"/f", inner, code), both(name+"/.", node, code)))
	}
	// All links on a way count, those that are met one by one, too.
	for hops := 1; hops <= 12; hops++ {
		code, node, inner := impl.EcOk, dir, file
		if hops > 8 {
			code, node, inner = impl.EcLoop, 0, 0
		}
		for _, step := range []string{"/h", "/w", "/./h", "/h/../d"} {
			way := "/d" + strings.Repeat(step, hops)
			if len(way) <= 58 {
				checkLooks(t, hopsFs(), other, slices.Concat(both(way+"/", node, code), both(way+"/f", inner, code)))
			}
		}
		// The last link counts only where it is followed.
		want := []look{{"/d" + strings.Repeat("/h", hops), true, node, code}, {"/d" + strings.Repeat("/h", hops), false, linkH, impl.EcOk}}
		if hops > 9 {
			want[1].node, want[1].code = 0, impl.EcLoop
		}
		checkLooks(t, hopsFs(), other, want)
	}
	checkLooks(t, hopsFs(), other, slices.Concat(
		both("/l4/h/h/h/h/f", file, impl.EcOk), both("/l4/h/h/h/h/h/f", 0, impl.EcLoop), both("/l4/../l4/f", file, impl.EcOk), both("/l4/../l5/f", 0, impl.EcLoop),
		// The ninth link is told of ahead of what would be met behind it.
		both("/l9/none", 0, impl.EcLoop), both("/l8/none", 0, impl.EcNone), both("/l8/f/x", 0, impl.EcNoDir)))
}

func TestFindNodeAtTheLimitOfPaths(t *testing.T) {
	f := chainFs(31, "a")
	for i := range f.Nodes {
		f.Nodes[i].Mode = 0o111
	}
	checkLooks(t, f, owner, slices.Concat(both(longPath(60), 30, impl.EcOk), both(longPath(59), 29, impl.EcOk), both(longPath(61), 0, impl.EcPath), both(longPath(58)+"//", 29, impl.EcOk)))
	f.Nodes[30] = impl.Node{Kind: impl.KdLink, Data: longPath(58) + "/."}
	f.Room = 60
	checkLooks(t, f, owner, []look{{longPath(60), false, 30, impl.EcOk}, {longPath(60), true, 29, impl.EcOk}})
	wide := filesFs(39, 0, 0)
	for _, e := range wide.Nodes[0].List {
		checkLooks(t, wide, root, both("/"+e.Name, e.Node, impl.EcOk))
	}
}

func TestFindPlace(t *testing.T) {
	f := lookFs()
	cases := []struct {
		cred impl.Cred
		path string
		node int
		name string
		code int
	}{
		{other, "/a", ndRoot, "a", impl.EcOk},
		{other, "/none", ndRoot, "none", impl.EcOk},
		{other, "//none", ndRoot, "none", impl.EcOk},
		{other, "/./none", ndRoot, "none", impl.EcOk},
		{other, "/../none", ndRoot, "none", impl.EcOk},
		{other, "/a/..x", ndA, "..x", impl.EcOk},
		{other, "/a/...", ndA, "...", impl.EcOk},
		{other, "/a/12345678", ndA, "12345678", impl.EcOk},
		{other, "/a/b/g", ndB, "g", impl.EcOk},
		{other, "/a//b//new", ndB, "new", impl.EcOk},
		{other, "/a/b/../new", ndA, "new", impl.EcOk},
		{other, "/a/./new", ndA, "new", impl.EcOk},
		{other, "/f", ndRoot, "f", impl.EcOk},
		{other, "/self", ndRoot, "self", impl.EcOk},
		{other, "/la", ndRoot, "la", impl.EcOk},
		{other, "/la/new", ndA, "new", impl.EcOk},
		{other, "/a/up/new", ndB, "new", impl.EcOk},
		{other, "/lr/new", ndRoot, "new", impl.EcOk},
		{other, "/la/up", ndA, "up", impl.EcOk},
		{other, "/blind/new", ndBlind, "new", impl.EcOk},
		{owner, "/own/new", ndOwn, "new", impl.EcOk},
		{root, "/shut/new", ndShut, "new", impl.EcOk},
		{root, "/ls/new", ndInShut, "new", impl.EcOk},
		{other, "/f/new", 0, "", impl.EcNoDir},
		{other, "/f//new", 0, "", impl.EcNoDir},
		{other, "/a/b/g/new", 0, "", impl.EcNoDir},
		{other, "/lf/new", 0, "", impl.EcNoDir},
		{other, "/sl/new", 0, "", impl.EcNoDir},
		{other, "/f/x/new", 0, "", impl.EcNoDir},
		{other, "/none/new", 0, "", impl.EcNone},
		{other, "/no/new", 0, "", impl.EcNone},
		{other, "/self/new", 0, "", impl.EcLoop},
		{other, "/ping/new", 0, "", impl.EcLoop},
		{other, "/shut/new", 0, "", impl.EcMay},
		{owner, "/shut/new", 0, "", impl.EcMay},
		{owner, "/shut/x/new", 0, "", impl.EcMay},
		{mate, "/own/f", 0, "", impl.EcMay},
		{owner, "/ls/new", 0, "", impl.EcMay},
	}
	for _, c := range cases {
		if node, name, code, ok := impl.FindPlace(f, c.cred, c.path); node != c.node || name != c.name || code != c.code || !ok {
			t.Errorf("%v, %q: %d, %q, code %d, %t instead of %d, %q, %d", c.cred, c.path, node, name, code, ok, c.node, c.name, c.code)
		}
	}
}

func TestFindPlaceOfPathsThatHaveNone(t *testing.T) {
	paths := []string{
		"", "/", "//", ".", "..", "/.", "/..", "a", "a/b", "none", "/a/", "/none/", "/a/b//", "/a/.", "/a/..", "/a/b/..", "/none/..", "/none/.", "/shut/..", "/shut/x/", "/f/.",
		"/self/..", "/A", "/a/B", "/123456789", "/a/123456789", "A/a", "/A/a", "/é", "/a\n", "\xff", longPath(61), strings.Repeat("/", 60), strings.Repeat("/a", 100000),
	}
	for _, path := range paths {
		for _, c := range someCreds {
			if node, name, code, ok := impl.FindPlace(lookFs(), c, path); node != 0 || name != "" || code != impl.EcPath || !ok {
				t.Errorf("%v, %.70q: %d, %q, %d, %t", c, path, node, name, code, ok)
			}
		}
	}
}

func TestFindPlaceInTheRootOfAnyMode(t *testing.T) {
	f := lookFs()
	for mode := range 512 {
		f.Nodes[0].Mode, f.Nodes[0].Uid, f.Nodes[0].Gid = mode, 1, 2
		for i, c := range []impl.Cred{owner, mate, other, root} {
			want := impl.EcOk
			if c != root && mode>>(6-3*i)&1 == 0 {
				want = impl.EcMay
			}
			node, name, code, ok := impl.FindPlace(f, c, "/new")
			if node != 0 || (name == "new") != (want == impl.EcOk) || code != want || !ok {
				t.Errorf("mode %o, %v: %d, %q, %d, %t", mode, c, node, name, code, ok)
			}
		}
	}
}

func TestFindPlaceAtTheLimits(t *testing.T) {
	f := chainFs(31, "a")
	for _, n := range []int{2, 4, 58, 60} {
		if node, name, code, ok := impl.FindPlace(f, root, longPath(n)); node != n/2-1 || name != "a" || code != impl.EcOk || !ok {
			t.Error(n, node, name, code, ok)
		}
	}
	for hops, path := range map[int]string{8: "/l8/new", 9: "/l9/new"} {
		node, name, code, ok := impl.FindPlace(hopsFs(), other, path)
		if hops == 8 && (node != 1 || name != "new" || code != impl.EcOk) || hops == 9 && (node != 0 || name != "" || code != impl.EcLoop) || !ok {
			t.Error(path, node, name, code, ok)
		}
	}
}

func TestReadLink(t *testing.T) {
	cases := []struct {
		cred impl.Cred
		path string
		to   string
		code int
	}{
		{other, "/la", "a", impl.EcOk},
		{other, "/lf", "/a/f", impl.EcOk},
		{other, "/a/up", "../la/b", impl.EcOk},
		{other, "/la/up", "../la/b", impl.EcOk},
		{other, "/lr", "/", impl.EcOk},
		{other, "/no", "a/none", impl.EcOk},
		{other, "/self", "self", impl.EcOk},
		{other, "/sl", "f/", impl.EcOk},
		{other, "/here", ".", impl.EcOk},
		{other, "/here/here", ".", impl.EcOk},
		{other, "/in", "b", impl.EcOk},
		{other, "/ls", "shut/x", impl.EcOk},
		{other, "/", "", impl.EcNone},
		{other, "/a", "", impl.EcNone},
		{other, "/f", "", impl.EcNone},
		{other, "/a/e", "", impl.EcNone},
		{other, "/shut", "", impl.EcNone},
		{other, "/la/", "", impl.EcNone},
		{other, "/la/.", "", impl.EcNone},
		{other, "/lr/", "", impl.EcNone},
		{other, "/none", "", impl.EcNone},
		{other, "/no/", "", impl.EcNone},
		{other, "/lf/", "", impl.EcNoDir},
		{other, "/f/", "", impl.EcNoDir},
		{other, "/lf/x", "", impl.EcNoDir},
		{other, "/self/", "", impl.EcLoop},
		{other, "/self/x", "", impl.EcLoop},
		{other, "/ls/", "", impl.EcMay},
		{other, "/own/f", "", impl.EcMay},
		{root, "/ls/", "", impl.EcNone},
		{other, "", "", impl.EcPath},
		{other, "la", "", impl.EcPath},
		{other, "/LA", "", impl.EcPath},
		{root, longPath(61), "", impl.EcPath},
	}
	for _, c := range cases {
		if to, code, ok := impl.ReadLink(lookFs(), c.cred, c.path); to != c.to || code != c.code || !ok {
			t.Errorf("%v, %q: %q, code %d, %t instead of %q, %d", c.cred, c.path, to, code, ok, c.to, c.code)
		}
	}
}

func TestListDir(t *testing.T) {
	all := []string{"a", "blind", "f", "here", "in", "la", "lf", "lr", "ls", "no", "own", "ping", "pong", "self", "shut", "sl"}
	inA := []string{"b", "e", "f", "in", "up"}
	cases := []struct {
		cred  impl.Cred
		path  string
		names []string
		code  int
	}{
		{other, "/", all, impl.EcOk},
		{other, "//", all, impl.EcOk},
		{other, "/a/..", all, impl.EcOk},
		{other, "/lr", all, impl.EcOk},
		{other, "/here/", all, impl.EcOk},
		{other, "/a", inA, impl.EcOk},
		{other, "/la", inA, impl.EcOk},
		{other, "/la/", inA, impl.EcOk},
		{other, "/a/up", []string{"g"}, impl.EcOk},
		{other, "/a/e", nil, impl.EcOk},
		{other, "/a/e/", nil, impl.EcOk},
		// To be read, a directory need not be one that may be entered, nor the other way round.
		{owner, "/shut", []string{"x"}, impl.EcOk},
		{mate, "/shut", nil, impl.EcMay},
		{owner, "/blind", []string{"f"}, impl.EcOk},
		{mate, "/blind", nil, impl.EcMay},
		{other, "/blind", nil, impl.EcMay},
		{other, "/blind/.", nil, impl.EcMay},
		{owner, "/own", []string{"f"}, impl.EcOk},
		{other, "/own", nil, impl.EcMay},
		{root, "/own", []string{"f"}, impl.EcOk},
		{root, "/shut", []string{"x"}, impl.EcOk},
		{root, "/shut/x", nil, impl.EcOk},
		{owner, "/shut/.", nil, impl.EcMay},
		{owner, "/ls", nil, impl.EcMay},
		{other, "/f", nil, impl.EcNoDir},
		{other, "/f/", nil, impl.EcNoDir},
		{other, "/lf", nil, impl.EcNoDir},
		{other, "/sl", nil, impl.EcNoDir},
		{other, "/none", nil, impl.EcNone},
		{other, "/no", nil, impl.EcNone},
		{other, "/self", nil, impl.EcLoop},
		{other, "", nil, impl.EcPath},
		{other, "a", nil, impl.EcPath},
		{other, "/A", nil, impl.EcPath},
	}
	for _, c := range cases {
		if names, code, ok := impl.ListDir(lookFs(), c.cred, c.path); !slices.Equal(names, c.names) || code != c.code || !ok {
			t.Errorf("%v, %q: %q, code %d, %t instead of %q, %d", c.cred, c.path, names, code, ok, c.names, c.code)
		}
	}
	// A file that the cred may not read is no directory, first of all.
	f := lookFs()
	f.Nodes[ndFile].Mode = 0
	if names, code, ok := impl.ListDir(f, other, "/f"); len(names) != 0 || code != impl.EcNoDir || !ok {
		t.Error(names, code, ok)
	}
}

func TestListDirOfManyNames(t *testing.T) {
	d := newDraft()
	file := d.file(0, "f")
	want := []string{"f"}
	for x := 'a'; x <= 'z'; x++ {
		for y := '0'; y <= '9'; y++ {
			d.name(0, "x"+string([]rune{x, y}), file)
			want = append(want, "x"+string([]rune{x, y}))
		}
	}
	names, code, ok := impl.ListDir(d.Fs, other, "/")
	if !slices.Equal(names, want) || code != impl.EcOk || !ok {
		t.Error(names, code, ok)
	}
	for _, name := range want {
		checkLooks(t, d.Fs, other, both("/"+name, file, impl.EcOk))
	}
	checkLooks(t, d.Fs, other, slices.Concat(both("/xa", 0, impl.EcNone), both("/xz99", 0, impl.EcNone), both("/a", 0, impl.EcNone), both("/z", 0, impl.EcNone)))
}

func TestListDirIsNewMemory(t *testing.T) {
	f := lookFs()
	isAsItWas := markBehind(&f)
	names, _, _ := impl.ListDir(f, root, "/a")
	again, _, _ := impl.ListDir(f, root, "/a")
	for i := range names {
		names[i] = "x"
	}
	names = append(names, "y")
	if !slices.Equal(again, []string{"b", "e", "f", "in", "up"}) || !isAsItWas() {
		t.Error("an answer shares memory", again)
	}
}

func TestRealPath(t *testing.T) {
	cases := []struct {
		cred impl.Cred
		path string
		real string
		code int
	}{
		{other, "/", "/", impl.EcOk},
		{other, "///", "/", impl.EcOk},
		{other, "/.", "/", impl.EcOk},
		{other, "/..", "/", impl.EcOk},
		{other, "/lr", "/", impl.EcOk},
		{other, "/lr/lr/", "/", impl.EcOk},
		{other, "/here", "/", impl.EcOk},
		{other, "/a", "/a", impl.EcOk},
		{other, "//a/", "/a", impl.EcOk},
		{other, "/la", "/a", impl.EcOk},
		{other, "/la/", "/a", impl.EcOk},
		{other, "/a/up", "/a/b", impl.EcOk},
		{other, "/la/up/..", "/a", impl.EcOk},
		{other, "/a/in", "/a/b", impl.EcOk},
		{other, "/a/./b/../e", "/a/e", impl.EcOk},
		{other, "/shut", "/shut", impl.EcOk},
		{other, "/own", "/own", impl.EcOk},
		{root, "/ls", "/shut/x", impl.EcOk},
		{other, "/ls", "", impl.EcMay},
		{other, "/own/.", "", impl.EcMay},
		{other, "/f", "", impl.EcNoDir},
		{other, "/f/", "", impl.EcNoDir},
		{other, "/lf", "", impl.EcNoDir},
		{other, "/sl", "", impl.EcNoDir},
		{other, "/f/x", "", impl.EcNoDir},
		{other, "/in", "", impl.EcNone},
		{other, "/none", "", impl.EcNone},
		{other, "/no", "", impl.EcNone},
		{other, "/self", "", impl.EcLoop},
		{other, "/ping", "", impl.EcLoop},
		{other, "", "", impl.EcPath},
		{other, ".", "", impl.EcPath},
		{other, "a", "", impl.EcPath},
		{other, "/a b", "", impl.EcPath},
	}
	for _, c := range cases {
		if real, code, ok := impl.RealPath(lookFs(), c.cred, c.path); real != c.real || code != c.code || !ok {
			t.Errorf("%v, %q: %q, code %d, %t instead of %q, %d", c.cred, c.path, real, code, ok, c.real, c.code)
		}
	}
}

// By links a directory is found that lies deeper than a path can be long.
func TestRealPathOfAnyLength(t *testing.T) {
	f := chainFs(39, "abcdefgh")
	f.Nodes = append(f.Nodes, impl.Node{Kind: impl.KdLink, Data: strings.Repeat("abcdefgh/", 5)})
	f.Nodes[0].List = append(f.Nodes[0].List, impl.Entry{Name: "l", Node: 39})
	for deep := 5; deep <= 30; deep += 5 {
		f.Nodes[deep].List = append(f.Nodes[deep].List, impl.Entry{Name: "l", Node: 39})
	}
	f.Room = 60
	for hops := 1; hops <= 7; hops++ {
		path := strings.Repeat("/l", hops)
		if real, code, ok := impl.RealPath(f, root, path); real != strings.Repeat("/abcdefgh", 5*hops) || code != impl.EcOk || !ok {
			t.Errorf("%s: %q, %d, %t", path, real, code, ok)
		}
	}
}

func TestCodeText(t *testing.T) {
	texts := []string{"ok", "path", "none", "nodir", "may", "loop", "there", "isdir", "full", "busy", "fault"}
	for code := -20; code <= 40; code++ {
		text, ok := impl.CodeText(code)
		if within(code, 0, 10) {
			if text != texts[code] || !ok {
				t.Error(code, text, ok)
			}
		} else if text != "" || ok {
			t.Error(code, text, ok)
		}
	}
	for _, code := range []int{math.MinInt, math.MaxInt, math.MinInt32, 1 << 32, 256} {
		if text, ok := impl.CodeText(code); text != "" || ok {
			t.Error(code, text, ok)
		}
	}
}

// reading is a second one of the chapter: it goes into a link as into a path of
// its own, where the program puts the parts of the link among those to go.
type reading struct {
	f    impl.Fs
	c    impl.Cred
	dirs [][]int
	hops int
}

func newReading(f impl.Fs, c impl.Cred) *reading {
	_, dirs, _ := waysToNodes(f)
	dirs[0] = []int{0}
	return &reading{f: f, c: c, dirs: dirs}
}

func (r *reading) may(node int, want int) bool {
	n := r.f.Nodes[node]
	return mayByText(r.c, textOfMode(n.Mode), n.Uid, n.Gid, want)
}

func (r *reading) findFrom(dir int, text string, follow bool) (int, int) {
	if strings.HasPrefix(text, "/") {
		dir = 0
	}
	parts := partsByForm(text)
	for i, part := range parts {
		if r.f.Nodes[dir].Kind != impl.KdDir {
			return 0, 3
		}
		if !r.may(dir, 1) {
			return 0, 4
		}
		if part == "." {
			continue
		}
		if part == ".." {
			dir = r.dirs[dir][0]
			continue
		}
		at := slices.IndexFunc(r.f.Nodes[dir].List, func(e impl.Entry) bool { return e.Name == part })
		if at < 0 {
			return 0, 2
		}
		next := r.f.Nodes[dir].List[at].Node
		if r.f.Nodes[next].Kind == impl.KdLink && (follow || i < len(parts)-1) {
			if r.hops++; r.hops > 8 {
				return 0, 5
			}
			var code int
			if next, code = r.findFrom(dir, r.f.Nodes[next].Data, true); code != 0 {
				return 0, code
			}
		}
		dir = next
	}
	return dir, 0
}

func (r *reading) findNode(path string, follow bool) (int, int) {
	if !isPathByForm(path) || path[0] != '/' {
		return 0, 1
	}
	r.hops = 0
	node, code := r.findFrom(0, path, follow || path[len(path)-1] == '/')
	if code == 0 && path[len(path)-1] == '/' && r.f.Nodes[node].Kind != impl.KdDir {
		return 0, 3
	}
	return node, code
}

func (r *reading) findDir(path string, want int) (int, int) {
	node, code := r.findNode(path, true)
	switch {
	case code != 0:
		return 0, code
	case r.f.Nodes[node].Kind != impl.KdDir:
		return 0, 3
	case !r.may(node, want):
		return 0, 4
	}
	return node, 0
}

func (r *reading) findPlace(path string) (int, string, int) {
	_, hasBase := impl.BaseOf(path)
	if !isPathByForm(path) || path[0] != '/' || path[len(path)-1] == '/' || !hasBase {
		return 0, "", 1
	}
	parts := partsByForm(path)
	last := parts[len(parts)-1]
	if last == "." || last == ".." {
		return 0, "", 1
	}
	ahead := strings.TrimRight(strings.TrimSuffix(path, last), "/")
	if ahead == "" {
		ahead = "/"
	}
	node, code := r.findDir(ahead, 1)
	if code != 0 {
		return 0, "", code
	}
	return node, last, 0
}

type lookAnswers struct {
	node, nodeCode, linked, linkedCode int
	dir, dirCode                       int
	name                               string
	to, names, real                    string
	toCode, namesCode, realCode        int
	ok                                 [6]bool
}

func (r *reading) answers(path string) lookAnswers {
	a := lookAnswers{ok: [6]bool{true, true, true, true, true, true}}
	a.node, a.nodeCode = r.findNode(path, false)
	a.linked, a.linkedCode = r.findNode(path, true)
	a.dir, a.name, a.dirCode = r.findPlace(path)
	a.toCode = a.nodeCode
	if a.toCode == 0 && r.f.Nodes[a.node].Kind != impl.KdLink {
		a.toCode = 2
	}
	if a.toCode == 0 {
		a.to = r.f.Nodes[a.node].Data
	}
	var dir int
	if dir, a.namesCode = r.findDir(path, 4); a.namesCode == 0 {
		for _, e := range r.f.Nodes[dir].List {
			a.names += e.Name + "/"
		}
	}
	if dir, a.realCode = r.findDir(path, 0); a.realCode == 0 {
		ways, _, _ := waysToNodes(r.f)
		ways[0] = []string{"/"}
		a.real = ways[dir][0]
	}
	return a
}

// lookAnswersOf calls every function of chapter 4 that takes a path. A panic
// fails the test by itself.
func lookAnswersOf(f impl.Fs, c impl.Cred, path string) lookAnswers {
	var a lookAnswers
	a.node, a.nodeCode, a.ok[0] = impl.FindNode(f, c, path, false)
	a.linked, a.linkedCode, a.ok[1] = impl.FindNode(f, c, path, true)
	a.dir, a.name, a.dirCode, a.ok[2] = impl.FindPlace(f, c, path)
	a.to, a.toCode, a.ok[3] = impl.ReadLink(f, c, path)
	names, code, ok := impl.ListDir(f, c, path)
	for _, name := range names {
		a.names += name + "/"
	}
	a.namesCode, a.ok[4] = code, ok
	a.real, a.realCode, a.ok[5] = impl.RealPath(f, c, path)
	return a
}

// somePaths has all paths of up to three of these parts, and each with a slash
// behind it.
func somePaths(parts []string) []string {
	all, from := []string{"/"}, 0
	for range 3 {
		till := len(all)
		for _, path := range all[from:till] {
			for _, part := range parts {
				all = append(all, strings.TrimSuffix(path, "/")+"/"+part)
			}
		}
		from = till
	}
	for _, path := range all[:len(all):len(all)] {
		all = append(all, path+"/")
	}
	return all
}

// tangledFs is a grown file system whose links lead to somewhere in it, and
// whose directories are not open to all.
func tangledFs(seed int) (impl.Fs, func(int) int) {
	f := grownFs(seed)
	next := func(n int) int { seed = (seed*1103515245 + 12345) % (1 << 31); return (seed >> 8) % n }
	ways, _, _ := waysToNodes(f)
	for i := range f.Nodes {
		n := &f.Nodes[i]
		if n.Kind == impl.KdFree {
			continue
		}
		n.Mode = []int{0o777, 0o755, 0o755, 0o711, 0o750, 0o700, 0o744, 0o057, 0o000}[next(9)]
		n.Uid, n.Gid = []int{0, 1, 3}[next(3)], []int{0, 2, 5}[next(3)]
		if n.Kind == impl.KdLink {
			n.Data = tangledPath(ways, next)
			for len(n.Data) > 20 || n.Data == "" {
				n.Data = []string{".", "..", "/", "../..", "./", "none", "/none/x"}[next(7)]
			}
		}
	}
	return f, next
}

// tangledPath puts together some ways that are there, and parts that may be.
func tangledPath(ways [][]string, next func(int) int) string {
	path := ""
	for range 1 + next(3) {
		way := ways[next(len(ways))]
		switch {
		case len(way) > 0 && next(3) > 0:
			path += way[next(len(way))]
		default:
			path += []string{"/.", "/..", "/none", "/", "/../..", "//"}[next(6)]
		}
	}
	switch next(8) {
	case 0:
		return strings.TrimLeft(path, "/")
	case 1:
		return path + "/"
	}
	return path
}

func TestEveryLookIsAsReadAgain(t *testing.T) {
	codes := [6]int{}
	check := func(f impl.Fs, path string) {
		for _, c := range someCreds {
			want := newReading(f, c).answers(path)
			if got := lookAnswersOf(f, c, path); got != want {
				t.Fatalf("%v, %q: %+v instead of %+v in %v", c, path, got, want, f)
			}
			codes[want.linkedCode]++
		}
	}
	parts := []string{".", "..", "a", "f", "b", "up", "in", "la", "lr", "self", "shut", "x", "own"}
	for _, path := range somePaths(parts) {
		check(lookFs(), path)
	}
	for seed := range 150 {
		f, next := tangledFs(seed*104729 + 17)
		ways, _, _ := waysToNodes(f)
		for range 40 {
			check(f, tangledPath(ways, next))
		}
	}
	for code, times := range codes {
		if times < 200 {
			t.Errorf("code %d was met only %d times", code, times)
		}
	}
}

// Promise 4: a privileged user resolves every path that any user resolves.
func TestUidZeroResolvesWhatAnyoneResolves(t *testing.T) {
	more := 0
	check := func(f impl.Fs, c impl.Cred, path string) {
		theirs := lookAnswersOf(f, c, path)
		for _, gid := range []int{0, 2, 99} {
			all := lookAnswersOf(f, impl.Cred{Uid: 0, Gid: gid}, path)
			if theirs.nodeCode == impl.EcOk && (all.nodeCode != impl.EcOk || all.node != theirs.node) ||
				theirs.linkedCode == impl.EcOk && (all.linkedCode != impl.EcOk || all.linked != theirs.linked) ||
				theirs.dirCode == impl.EcOk && (all.dirCode != impl.EcOk || all.dir != theirs.dir || all.name != theirs.name) ||
				theirs.toCode == impl.EcOk && (all.toCode != impl.EcOk || all.to != theirs.to) ||
				theirs.namesCode == impl.EcOk && (all.namesCode != impl.EcOk || all.names != theirs.names) ||
				theirs.realCode == impl.EcOk && (all.realCode != impl.EcOk || all.real != theirs.real) {
				t.Fatalf("%q is found by %v: %+v, by uid 0: %+v in %v", path, c, theirs, all, f)
			}
			if slices.Contains([]int{all.nodeCode, all.linkedCode, all.dirCode, all.toCode, all.namesCode, all.realCode}, impl.EcMay) {
				t.Fatalf("%q: uid 0 may not in %v", path, f)
			}
			if theirs.linkedCode != impl.EcOk && all.linkedCode == impl.EcOk {
				more++
			}
		}
	}
	for seed := range 100 {
		f, next := tangledFs(seed*7507 + 3)
		ways, _, _ := waysToNodes(f)
		for range 20 {
			path := tangledPath(ways, next)
			for _, c := range []impl.Cred{owner, mate, other, {Uid: 2, Gid: 0}} {
				check(f, c, path)
			}
		}
	}
	for _, path := range somePaths([]string{"..", "a", "f", "la", "shut", "x", "own", "ls", "blind"}) {
		check(lookFs(), owner, path)
	}
	if more < 500 {
		t.Errorf("uid 0 resolves only %d more", more)
	}
}

// Each directory that has a path which may be asked for is found by it, and so
// is each other node by its ways.
func TestWaysLeadToTheirNodes(t *testing.T) {
	for seed := range 200 {
		f, _ := tangledFs(seed*31 + 7)
		ways, _, _ := waysToNodes(f)
		for node, all := range ways {
			for _, way := range all {
				if len(way) <= impl.MaxPath {
					checkLooks(t, f, root, []look{{way, false, node, impl.EcOk}})
				}
			}
			if path, ok := impl.PathTo(f, node); ok && len(path) <= impl.MaxPath {
				if real, code, ok := impl.RealPath(f, root, path); real != path || code != impl.EcOk || !ok {
					t.Errorf("node %d by %q: %q, %d, %t", node, path, real, code, ok)
				}
			}
		}
	}
}

var lookPaths = []string{
	"/", "/a", "/a/", "/a/f", "/l", "/l/", "/l/f", "/a/z", "/a/z/..", "/g", "/g/x", "/.", "/none", "/none/x", "", "a", "A", "/A", "/\x00", "\xff", "/é",
	longPath(60), longPath(61), strings.Repeat("/", 60), strings.Repeat("/", 61), strings.Repeat("/a", 100000), strings.Repeat("\xff", 1000),
}

var oddCreds = []impl.Cred{
	root, owner, {Uid: 99, Gid: 99}, {Uid: 100}, {Gid: 100}, {Uid: -1}, {Gid: -1}, {Uid: math.MinInt, Gid: math.MaxInt}, {Uid: math.MaxInt}, {Uid: 1, Gid: math.MinInt},
}

// checkLookAnswers asks twice: the answers are those of the second reading where
// all is good, else zero values.
func checkLookAnswers(t *testing.T, f impl.Fs, paths []string) {
	t.Helper()
	good := isGoodByWays(f)
	for _, c := range oddCreds {
		takes := good && within(c.Uid, 0, 99) && within(c.Gid, 0, 99)
		for _, path := range paths {
			want := lookAnswers{}
			if takes {
				want = newReading(f, c).answers(path)
			}
			for range 2 {
				if got := lookAnswersOf(f, c, path); got != want {
					t.Fatalf("%v, %.70q: %+v instead of %+v in %.500v", c, path, got, want, f)
				}
			}
		}
	}
}

// Promise 19: every function answers at all arguments.
func TestLookFunctionsAnswerAtAllArguments(t *testing.T) {
	for _, f := range oddFs() {
		checkLookAnswers(t, f, lookPaths)
	}
	for _, f := range []impl.Fs{sampleFs(), lookFs(), hopsFs(), {}} {
		checkLookAnswers(t, f, oddTexts)
	}
	checkLookAnswers(t, sampleFs(), longPaths()[:2000])
}

// Promise 19: no function changes an argument.
func TestLookFunctionsLeaveTheirArguments(t *testing.T) {
	for i, f := range append(oddFs(), lookFs(), hopsFs()) {
		plain := copyOfFs(f)
		isAsItWas := markBehind(&f)
		for _, path := range append(lookPaths, "/mark", "/la/up/mark", "/l8/f", "/l9", "/self") {
			kept := strings.Clone(path)
			for _, c := range []impl.Cred{root, other} {
				if lookAnswersOf(f, c, path) != lookAnswersOf(plain, c, path) {
					t.Errorf("file system %d, %.70q: what is behind a list counts", i, path)
				}
			}
			if kept != path {
				t.Errorf("a path was changed: %.70q", kept)
			}
		}
		if !isAsItWas() {
			t.Errorf("file system %d was written to", i)
		}
	}
}
