package tests

import (
	"maps"
	"math"
	"slices"
	"strings"
	"testing"

	"loop.example/g00756/impl"
)

// A deed is a call of a function of chapter 5. What a link leads to is its old.
type deed struct {
	do   string
	old  string
	path string
	mode int
	data string
	time int
}

const (
	doDir    = "MakeDir"
	doFile   = "MakeFile"
	doLink   = "MakeLink"
	doName   = "AddName"
	doUnlink = "Unlink"
	doRmdir  = "RemoveDir"
	doMove   = "Rename"
)

var allDeeds = []string{doDir, doFile, doLink, doName, doUnlink, doRmdir, doMove}

func (d deed) on(f impl.Fs, c impl.Cred) (impl.Fs, int, bool) {
	switch d.do {
	case doDir:
		return impl.MakeDir(f, c, d.path, d.mode, d.time)
	case doFile:
		return impl.MakeFile(f, c, d.path, d.mode, d.data, d.time)
	case doLink:
		return impl.MakeLink(f, c, d.old, d.path, d.time)
	case doName:
		return impl.AddName(f, c, d.old, d.path, d.time)
	case doUnlink:
		return impl.Unlink(f, c, d.path, d.time)
	case doRmdir:
		return impl.RemoveDir(f, c, d.path, d.time)
	}
	return impl.Rename(f, c, d.old, d.path, d.time)
}

func mkdir(path string) deed { return deed{do: doDir, path: path, mode: 0o750, time: 70} }
func mkfile(path, data string) deed {
	return deed{do: doFile, path: path, mode: 0o640, data: data, time: 70}
}
func mklink(to, path string) deed   { return deed{do: doLink, old: to, path: path, time: 70} }
func addName(old, path string) deed { return deed{do: doName, old: old, path: path, time: 70} }
func unlink(path string) deed       { return deed{do: doUnlink, path: path, time: 70} }
func rmdir(path string) deed        { return deed{do: doRmdir, path: path, time: 70} }
func move(old, path string) deed    { return deed{do: doMove, old: old, path: path, time: 70} }
func makings(path string) []deed {
	return []deed{mkdir(path), mkfile(path, "data"), mklink("to", path)}
}
func comings(old, path string) []deed { return append(makings(path), addName(old, path)) }

// The nodes of makeFs.
const (
	mkRoot = iota
	mkFree
	mkOpen
	mkFile
	mkSole
	mkFull
	mkInFull
	mkEmpty
	mkLink
	mkToFull
	mkNowhere
	mkTop
	mkMid
	mkOwn
	mkOwnFile
	mkOwnDir
	mkDark
	mkDarkFile
	mkToOpen
	mkToRoot
)

// makeFs has a free node 1, and:
//
//	/w (777)           may be changed by all
//	/w/f (file, also /w/g)   /w/h (file)   /w/d (755)   /w/d/x (file)   /w/e (755, without entries)
//	/w/l -> f   /w/ld -> d   /w/no -> none   /w/p (777)   /w/p/q (777, without entries)
//	/r (755, of 1:2)   may be changed by 1 and 0 alone, entered by all
//	/r/f (file)   /r/e (755, without entries)
//	/dark (722, of 1:2)   may be written by all, but entered by 1 and 0 alone
//	/dark/f (file)
//	/lw -> w   /lr -> /
func makeFs() impl.Fs {
	d := newDraft()
	d.Nodes = append(d.Nodes, impl.Node{})
	open := d.dir(0, "w", 0o777)
	d.name(open, "g", d.file(open, "f"))
	d.file(open, "h")
	d.file(d.dir(open, "d", 0o755), "x")
	d.dir(open, "e", 0o755)
	d.link(open, "l", "f")
	d.link(open, "ld", "d")
	d.link(open, "no", "none")
	d.dir(d.dir(open, "p", 0o777), "q", 0o777)
	own := d.dir(0, "r", 0o755)
	d.file(own, "f")
	d.dir(own, "e", 0o755)
	d.file(d.dir(0, "dark", 0o722), "f")
	d.link(0, "lw", "w")
	d.link(0, "lr", "/")
	for i := range d.Nodes {
		if i != mkFree {
			d.Nodes[i].Time = 10 + i
		}
	}
	return d.Fs
}

func TestMakeSampleIsGood(t *testing.T) {
	f := makeFs()
	if !isGoodByWays(f) || len(f.Nodes) != mkToRoot+1 || f.Nodes[mkDarkFile].Data != "f" || f.Nodes[mkNowhere].Data != "none" {
		t.Error("the sample is not as said", f)
	}
}

// A call is one of a function that answers with a file system.
type call interface {
	on(f impl.Fs, c impl.Cred) (impl.Fs, int, bool)
}

// A making is a deed of somebody, its code, and what is then another way in the
// file system.
type making struct {
	cred impl.Cred
	deed call
	code int
	then func(f *impl.Fs)
}

func checkMakings(t *testing.T, f impl.Fs, l []making) {
	t.Helper()
	for _, m := range l {
		want := copyOfFs(f)
		if m.then != nil {
			m.then(&want)
		}
		got, code, ok := m.deed.on(f, m.cred)
		if code != m.code || !ok || !impl.SameFs(got, want) {
			t.Errorf("%v, %+v: code %d, %t instead of %d, with\n%v instead of\n%v", m.cred, m.deed, code, ok, m.code, got, want)
		}
		if !isGoodByWays(got) {
			t.Errorf("%v, %+v: the file system then is not good: %v", m.cred, m.deed, got)
		}
	}
}

// faults has each deed for each cred with the same code, by which all stays.
func faults[D call](code int, creds []impl.Cred, deeds ...D) []making {
	var all []making
	for _, c := range creds {
		for _, d := range deeds {
			all = append(all, making{c, d, code, nil})
		}
	}
	return all
}

// come and gone change a file system by hand.
func come(f *impl.Fs, dir int, name string, node int) {
	(&draft{*f}).name(dir, name, node)
	f.Nodes[dir].Time = 70
}

func gone(f *impl.Fs, dir int, name string) {
	f.Nodes[dir].List = slices.DeleteFunc(f.Nodes[dir].List, func(e impl.Entry) bool { return e.Name == name })
	f.Nodes[dir].Time = 70
}

func nodeIn(f impl.Fs, dir int, name string) (int, bool) {
	for _, e := range f.Nodes[dir].List {
		if e.Name == name {
			return e.Node, true
		}
	}
	return 0, false
}

func TestMakeNewNodes(t *testing.T) {
	for _, c := range someCreds {
		for _, at := range []struct {
			path string
			dir  int
			name string
		}{
			{"/w/new", mkOpen, "new"}, {"/w/a", mkOpen, "a"}, {"/w/z", mkOpen, "z"}, {"/w/..x", mkOpen, "..x"}, {"/w/12345678", mkOpen, "12345678"}, {"//w//new", mkOpen, "new"},
			{"/lw/new", mkOpen, "new"}, {"/lr/lw/new", mkOpen, "new"}, {"/w/./p/../new", mkOpen, "new"}, {"/w/p/q/new", mkMid, "new"}, {"/w/p/x", mkTop, "x"},
		} {
			as := func(n impl.Node) func(f *impl.Fs) {
				n.Uid, n.Gid, n.Time = c.Uid, c.Gid, 70
				return func(f *impl.Fs) { f.Nodes[mkFree] = n; come(f, at.dir, at.name, mkFree) }
			}
			checkMakings(t, makeFs(), []making{
				{c, mkdir(at.path), impl.EcOk, as(impl.Node{Kind: impl.KdDir, Mode: 0o750})},
				{c, mkfile(at.path, "data"), impl.EcOk, as(impl.Node{Kind: impl.KdFile, Mode: 0o640, Data: "data"})},
				{c, mkfile(at.path, ""), impl.EcOk, as(impl.Node{Kind: impl.KdFile, Mode: 0o640})},
				{c, mklink("../to", at.path), impl.EcOk, as(impl.Node{Kind: impl.KdLink, Mode: 511, Data: "../to"})},
			})
		}
	}
}

func TestMakeOfEveryModeAndTime(t *testing.T) {
	f := makeFs()
	for _, n := range append([]int{999999, 1000000, 1000001}, oddNumbers...) {
		for _, d := range makings("/w/new") {
			d.mode, d.time = 0o644, n
			g, code, ok := d.on(f, owner)
			if !within(n, 0, 1000000) {
				if ok || code != 0 || g.Nodes != nil || g.Room != 0 {
					t.Errorf("%+v: %v, %d, %t", d, g, code, ok)
				}
			} else if !ok || code != impl.EcOk || g.Nodes[mkFree].Time != n || g.Nodes[mkOpen].Time != n {
				t.Errorf("%+v: %v, %d, %t", d, g, code, ok)
			}
		}
		for _, d := range []deed{{do: doDir, path: "/w/new"}, {do: doFile, path: "/w/new"}} {
			d.mode = n
			g, code, ok := d.on(f, owner)
			if !within(n, 0, 511) {
				if ok || code != 0 || g.Nodes != nil || g.Room != 0 {
					t.Errorf("%+v: %v, %d, %t", d, g, code, ok)
				}
			} else if !ok || code != impl.EcOk || g.Nodes[mkFree].Mode != n {
				t.Errorf("%+v: %v, %d, %t", d, g, code, ok)
			}
		}
	}
}

// A mode or a time that is none counts ahead of all codes.
func TestMakeOfBadNumbersHasNoCode(t *testing.T) {
	bad := []deed{
		{do: doDir, path: "", mode: 512}, {do: doDir, path: "/w/f", mode: -1}, {do: doFile, path: "/w/f", mode: 512}, {do: doFile, path: "/none/x", mode: 512, data: strings.Repeat("x", 61)},
	}
	for _, do := range allDeeds {
		bad = append(bad, deed{do: do, time: -1}, deed{do: do, old: "/none/x", path: "/none/x", time: impl.MaxTime + 1}, deed{do: do, old: "A", path: "/dark/f", time: -1})
	}
	for _, d := range bad {
		if g, code, ok := d.on(makeFs(), other); ok || code != 0 || g.Nodes != nil || g.Room != 0 {
			t.Errorf("%+v: %v, %d, %t", d, g, code, ok)
		}
	}
}

func TestMakeOfNamesThatAreThere(t *testing.T) {
	for _, path := range []string{"/w/f", "/w/g", "/w/d", "/w/e", "/w/l", "/w/ld", "/w/no", "/w/p/q", "/w/d/x", "/lw/f", "/w/ld/x", "/r/f", "/r/e", "/w", "/lw", "/lr", "/lr/lr"} {
		checkMakings(t, makeFs(), faults(impl.EcThere, someCreds, comings("/w/h", path)...))
	}
	// By a name to itself, too.
	checkMakings(t, makeFs(), faults(impl.EcThere, someCreds, addName("/w/h", "/w/h"), addName("/w/f", "/w/g"), addName("/w/no", "/w/no")))
}

func TestMakeWhereTheDirectoryMayNotChange(t *testing.T) {
	f := makeFs()
	strangers := []impl.Cred{mate, other, {Uid: 99, Gid: 0}}
	// What may be entered alone: a name that is there is told first.
	checkMakings(t, f, faults(impl.EcMay, strangers, comings("/w/h", "/r/new")...))
	checkMakings(t, f, faults(impl.EcThere, strangers, comings("/w/h", "/r/f")...))
	checkMakings(t, f, faults(impl.EcMay, append(strangers, owner), comings("/w/h", "/new")...))
	// What may be written alone: the name is not even looked for.
	checkMakings(t, f, faults(impl.EcMay, strangers, comings("/w/h", "/dark/new")...))
	checkMakings(t, f, faults(impl.EcMay, strangers, comings("/w/h", "/dark/f")...))
	checkMakings(t, f, faults(impl.EcMay, strangers, unlink("/dark/f"), unlink("/dark/none"), rmdir("/dark/f"), move("/dark/f", "/w/n"), move("/w/h", "/dark/n"), move("/w/h", "/dark/f")))
	for _, d := range []deed{mkdir("/r/new"), mkdir("/dark/new"), addName("/w/h", "/dark/new"), unlink("/r/f"), unlink("/dark/f"), rmdir("/r/e"), move("/r/f", "/dark/f"), move("/dark/f", "/w/f")} {
		for _, c := range []impl.Cred{owner, root, {Uid: 0, Gid: 99}} {
			if _, code, ok := d.on(f, c); code != impl.EcOk || !ok {
				t.Errorf("%v, %+v: %d, %t", c, d, code, ok)
			}
		}
	}
}

// To change a directory both bits of one class are asked for.
func TestChangeOfDirectoriesOfEveryMode(t *testing.T) {
	f := makeFs()
	deeds := append(comings("/w/h", "/r/new"), unlink("/r/f"), rmdir("/r/e"), move("/r/f", "/r/n"), move("/r/f", "/w/n"), move("/w/h", "/r/n"), move("/w/h", "/r/f"), move("/r/e", "/w/e"))
	for mode := range 512 {
		f.Nodes[mkOwn].Mode = mode
		for i, c := range []impl.Cred{owner, mate, other, root} {
			want := impl.EcOk
			if c != root && mode>>(6-3*i)&3 != 3 {
				want = impl.EcMay
			}
			for _, d := range deeds {
				g, code, ok := d.on(f, c)
				if code != want || !ok || (want != impl.EcOk) != impl.SameFs(f, g) {
					t.Fatalf("mode %o, %v, %+v: %d, %t instead of %d", mode, c, d, code, ok, want)
				}
			}
		}
	}
}

// fullFs has n nodes, of which those at these numbers alone are free.
func fullFs(n int, free ...int) impl.Fs {
	f := filesFs(n-1, 0, 1000)
	f.Nodes[0].Mode = 0o777
	for _, i := range free {
		gone(&f, 0, f.Nodes[0].List[slices.IndexFunc(f.Nodes[0].List, func(e impl.Entry) bool { return e.Node == i })].Name)
		f.Nodes[i] = impl.Node{}
	}
	return f
}

func TestMakeTakesTheFirstFreeNode(t *testing.T) {
	for _, c := range []struct {
		f    impl.Fs
		node int
	}{
		{fullFs(1), 1}, {fullFs(2), 2}, {fullFs(39), 39}, {fullFs(39, 38), 38}, {fullFs(40, 39), 39}, {fullFs(40, 1), 1}, {fullFs(40, 30, 7), 7}, {fullFs(5, 4, 2), 2},
	} {
		for _, d := range makings("/new") {
			g, code, ok := d.on(c.f, other)
			if code != impl.EcOk || !ok || len(g.Nodes) != max(len(c.f.Nodes), c.node+1) || !isGoodByWays(g) {
				t.Fatalf("%+v: %d, %t, %v", d, code, ok, g)
			}
			if node, is := nodeIn(g, 0, "new"); node != c.node || !is {
				t.Errorf("%+v: node %d, %t instead of %d", d, node, is, c.node)
			}
		}
	}
}

func TestMakeWithoutAFreeNode(t *testing.T) {
	f := fullFs(40)
	checkMakings(t, f, faults(impl.EcFull, someCreds, makings("/new")...))
	checkMakings(t, f, faults(impl.EcThere, someCreds, makings("/a1")...))
	checkMakings(t, f, faults(impl.EcNoDir, someCreds, makings("/a1/x")...))
	checkMakings(t, f, []making{
		// Names alone need no node.
		{other, addName("/a1", "/new"), impl.EcOk, func(f *impl.Fs) { come(f, 0, "new", 1) }},
		{other, move("/a1", "/new"), impl.EcOk, func(f *impl.Fs) { gone(f, 0, "a1"); come(f, 0, "new", 1) }},
	})
	f.Nodes[0].Mode = 0o755
	checkMakings(t, f, faults(impl.EcMay, []impl.Cred{owner, mate, other}, makings("/new")...))
	// Where a node falls free it is there for the next one.
	g, _, _ := impl.Unlink(f, root, "/b7", 1)
	for _, d := range makings("/new") {
		h, code, ok := d.on(g, root)
		if node, _ := nodeIn(h, 0, "new"); node != 17 || code != impl.EcOk || !ok {
			t.Errorf("%+v: node %d, %d, %t", d, node, code, ok)
		}
	}
}

func TestMakeWithinTheRoom(t *testing.T) {
	f := makeFs()
	used := 0
	for _, n := range f.Nodes {
		used += len(n.Data)
	}
	long := strings.Repeat("x", 60)
	for _, c := range []struct {
		left int
		deed deed
		code int
	}{
		{0, mkdir("/w/new"), impl.EcOk}, {0, mkfile("/w/new", ""), impl.EcOk}, {0, mkfile("/w/new", "x"), impl.EcFull}, {0, mklink("x", "/w/new"), impl.EcFull},
		{1, mkfile("/w/new", "x"), impl.EcOk}, {1, mklink("x", "/w/new"), impl.EcOk}, {1, mkfile("/w/new", "xy"), impl.EcFull}, {1, mklink("xy", "/w/new"), impl.EcFull},
		{1, mkfile("/w/new", "é"), impl.EcFull}, {2, mkfile("/w/new", "é"), impl.EcOk},
		{60, mkfile("/w/new", long), impl.EcOk}, {59, mkfile("/w/new", long), impl.EcFull}, {60, mklink(longPath(60), "/w/new"), impl.EcOk}, {59, mklink(longPath(60), "/w/new"), impl.EcFull},
		{0, addName("/w/f", "/w/new"), impl.EcOk}, {0, move("/w/f", "/w/new"), impl.EcOk}, {0, unlink("/w/h"), impl.EcOk},
		// There is no room is told behind all else.
		{0, mkfile("/w/f", "x"), impl.EcThere}, {0, mkfile("/none/x", "x"), impl.EcNone}, {0, mkfile("/r/new", "x"), impl.EcMay}, {0, mklink("A", "/w/new"), impl.EcPath},
	} {
		f.Room = used + c.left
		g, code, ok := c.deed.on(f, other)
		if code != c.code || !ok || (code != impl.EcOk) != impl.SameFs(f, g) || !isGoodByWays(g) {
			t.Errorf("%d bytes are left, %+v: %d, %t instead of %d: %v", c.left, c.deed, code, ok, c.code, g)
		}
	}
}

func TestMakeOfDataAndLinks(t *testing.T) {
	f := makeFs()
	f.Room = 1000
	for _, data := range []string{"", "x", "\x00\xff\n é", strings.Repeat("x", 59), strings.Repeat("\xff", 60), strings.Repeat("é", 30)} {
		g, code, ok := impl.MakeFile(f, other, "/w/new", 0, data, 0)
		if code != impl.EcOk || !ok || g.Nodes[mkFree].Data != data {
			t.Errorf("%q: %v, %d, %t", data, g, code, ok)
		}
	}
	for _, to := range []string{"/", ".", "..", "a", "../none//.", "/w/new", "new", "///", longPath(60)} {
		g, code, ok := impl.MakeLink(f, other, to, "/w/new", 0)
		if code != impl.EcOk || !ok || g.Nodes[mkFree].Data != to {
			t.Errorf("%q: %v, %d, %t", to, g, code, ok)
		}
	}
	// These are told ahead of all that there is to say of the path.
	for _, path := range []string{"/w/new", "/w/f", "", "/", "/none/x", "/w/f/x", "/dark/x", "/r/new", "A"} {
		for _, data := range []string{strings.Repeat("x", 61), strings.Repeat("é", 31), strings.Repeat("x", 100000)} {
			checkMakings(t, f, faults(impl.EcPath, someCreds, mkfile(path, data)))
		}
		for _, to := range []string{"", "A", "a b", "123456789", "/a/\x00", "é", longPath(61), strings.Repeat("/", 61), "a\n", "\xff"} {
			checkMakings(t, f, faults(impl.EcPath, someCreds, mklink(to, path)))
		}
	}
}

// The code of a place is told ahead of all that is asked at it.
func TestMakeTellsTheCodeOfThePlace(t *testing.T) {
	hops := hopsFs()
	for path, code := range map[string]int{
		"": impl.EcPath, "/": impl.EcPath, "//": impl.EcPath, "w": impl.EcPath, ".": impl.EcPath, "/w/": impl.EcPath, "/w/.": impl.EcPath, "/w/..": impl.EcPath, "/w/f/": impl.EcPath,
		"/w/new/": impl.EcPath, "/W": impl.EcPath, "/w/a b": impl.EcPath, "/w/123456789": impl.EcPath, "/none/..": impl.EcPath, longPath(61): impl.EcPath, strings.Repeat("/w", 1000): impl.EcPath,
		"/none/x": impl.EcNone, "/w/none/x": impl.EcNone, "/w/no/x": impl.EcNone, "/w/f/x": impl.EcNoDir, "/w/l/x": impl.EcNoDir, "/w/d/x/y": impl.EcNoDir,
	} {
		checkMakings(t, makeFs(), faults(code, someCreds, append(comings("/w/h", path), unlink(path), rmdir(path), move(path, "/w/new"), move("/w/h", path))...))
	}
	checkMakings(t, makeFs(), faults(impl.EcPath, someCreds, addName("", "/w/new"), addName("w", "/w/new"), addName("A", "/w/new"), addName(longPath(61), "/w/new")))
	for path, code := range map[string]int{"/l9/new": impl.EcLoop, "/l8/new": impl.EcOk} {
		for _, d := range append(comings("/d/f", path), move("/d/f", path)) {
			if _, got, ok := d.on(hops, root); got != code || !ok {
				t.Errorf("%+v: %d, %t instead of %d", d, got, ok, code)
			}
		}
	}
	checkMakings(t, hops, faults(impl.EcLoop, someCreds, unlink("/l9/f"), rmdir("/l9/f"), move("/l9/f", "/d/n"), addName("/l9/f", "/d/n")))
}

func TestAddName(t *testing.T) {
	checkMakings(t, makeFs(), []making{
		{other, addName("/w/h", "/w/new"), impl.EcOk, func(f *impl.Fs) { come(f, mkOpen, "new", mkSole) }},
		{other, addName("/w/f", "/w/p/q/f"), impl.EcOk, func(f *impl.Fs) { come(f, mkMid, "f", mkFile) }},
		{other, addName("/lw/g", "/lw/p/a"), impl.EcOk, func(f *impl.Fs) { come(f, mkTop, "a", mkFile) }},
		{other, addName("/r/f", "/w/new"), impl.EcOk, func(f *impl.Fs) { come(f, mkOpen, "new", mkOwnFile) }},
		{owner, addName("/dark/f", "/r/new"), impl.EcOk, func(f *impl.Fs) { come(f, mkOwn, "new", mkDarkFile) }},
		// The link itself, wherever it leads; by a slash behind it what it leads to.
		{other, addName("/w/l", "/w/new"), impl.EcOk, func(f *impl.Fs) { come(f, mkOpen, "new", mkLink) }},
		{other, addName("/w/ld", "/w/new"), impl.EcOk, func(f *impl.Fs) { come(f, mkOpen, "new", mkToFull) }},
		{other, addName("/w/no", "/w/new"), impl.EcOk, func(f *impl.Fs) { come(f, mkOpen, "new", mkNowhere) }},
		{other, addName("/lw", "/w/new"), impl.EcOk, func(f *impl.Fs) { come(f, mkOpen, "new", mkToOpen) }},
		{other, addName("/w/ld/", "/w/new"), impl.EcIsDir, nil},
		{other, addName("/w/l/", "/w/new"), impl.EcNoDir, nil},
		{other, addName("/w/no/", "/w/new"), impl.EcNone, nil},
		{other, addName("/w/f/", "/w/new"), impl.EcNoDir, nil},
	})
	for _, dir := range []string{"/", "//", "/.", "/w", "/w/", "/w/e", "/w/d", "/w/p/..", "/lr/", "/r", "/w/p/q/../.."} {
		// That it is a directory is told ahead of all that is asked at the path.
		checkMakings(t, makeFs(), faults(impl.EcIsDir, someCreds, addName(dir, "/w/new"), addName(dir, ""), addName(dir, "/w/f"), addName(dir, "/none/x"), addName(dir, "/"), addName(dir, "/w/e/x")))
	}
	for old, code := range map[string]int{"/none": impl.EcNone, "/w/none": impl.EcNone, "/none/x": impl.EcNone, "/w/f/x": impl.EcNoDir, "w/f": impl.EcPath, "": impl.EcPath} {
		checkMakings(t, makeFs(), faults(code, someCreds, addName(old, "/w/new"), addName(old, "/w/f"), addName(old, ""), addName(old, "/none/x"), addName(old, "/new")))
	}
	checkMakings(t, makeFs(), faults(impl.EcMay, []impl.Cred{mate, other}, addName("/dark/f", "/w/new"), addName("/dark/f", "/w/f"), addName("/dark/f", ""), addName("/w/f", "/r/new")))
}

func TestUnlink(t *testing.T) {
	checkMakings(t, makeFs(), []making{
		{other, unlink("/w/f"), impl.EcOk, func(f *impl.Fs) { gone(f, mkOpen, "f") }},
		{other, unlink("/w/g"), impl.EcOk, func(f *impl.Fs) { gone(f, mkOpen, "g") }},
		{other, unlink("/w/h"), impl.EcOk, func(f *impl.Fs) { gone(f, mkOpen, "h"); f.Nodes[mkSole] = impl.Node{} }},
		{other, unlink("/w/l"), impl.EcOk, func(f *impl.Fs) { gone(f, mkOpen, "l"); f.Nodes[mkLink] = impl.Node{} }},
		{other, unlink("/w/ld"), impl.EcOk, func(f *impl.Fs) { gone(f, mkOpen, "ld"); f.Nodes[mkToFull] = impl.Node{} }},
		{other, unlink("/w/no"), impl.EcOk, func(f *impl.Fs) { gone(f, mkOpen, "no"); f.Nodes[mkNowhere] = impl.Node{} }},
		{owner, unlink("/w/ld/x"), impl.EcOk, func(f *impl.Fs) { gone(f, mkFull, "x"); f.Nodes[mkInFull] = impl.Node{} }},
		{owner, unlink("/r/f"), impl.EcOk, func(f *impl.Fs) { gone(f, mkOwn, "f"); f.Nodes[mkOwnFile] = impl.Node{} }},
		{root, unlink("/lr"), impl.EcOk, func(f *impl.Fs) { gone(f, mkRoot, "lr"); f.Nodes[mkToRoot] = impl.Node{} }},
		{owner, unlink("/lr"), impl.EcMay, nil},
		{other, unlink("/r/f"), impl.EcMay, nil},
		// What is there is told ahead of whether it may go.
		{other, unlink("/r/none"), impl.EcNone, nil},
		{other, unlink("/r/e"), impl.EcIsDir, nil},
	})
	checkMakings(t, makeFs(), faults(impl.EcIsDir, someCreds, unlink("/w"), unlink("/w/e"), unlink("/w/d"), unlink("/w/p/q"), unlink("/r/e"), unlink("/lr/w")))
	checkMakings(t, makeFs(), faults(impl.EcNone, someCreds, unlink("/none"), unlink("/w/none"), unlink("/w/e/x"), unlink("/r/none"), unlink("/w/ff"), unlink("/w/..f")))
	checkMakings(t, makeFs(), faults(impl.EcPath, someCreds, unlink("/"), unlink("/w/f/"), unlink("/w/f/."), unlink("/w/..")))
	// One name after the other: the node is freed by the last one alone.
	g, code, _ := impl.Unlink(makeFs(), other, "/w/g", 80)
	h, last, _ := impl.Unlink(g, other, "/w/f", 90)
	if code != impl.EcOk || last != impl.EcOk || g.Nodes[mkFile].Data != "f" || g.Nodes[mkOpen].Time != 80 || h.Nodes[mkOpen].Time != 90 || h.Nodes[mkFile].Kind != impl.KdFree || !isGoodByWays(h) {
		t.Error(code, last, g, h)
	}
	// The nodes are as many as they were, when the last one falls free, too.
	l := fullFs(5)
	if g, code, _ := impl.Unlink(l, root, "/a4", 1); code != impl.EcOk || len(g.Nodes) != 5 || g.Nodes[4].Kind != impl.KdFree {
		t.Error(code, g)
	}
}

func TestRemoveDir(t *testing.T) {
	checkMakings(t, makeFs(), []making{
		{other, rmdir("/w/e"), impl.EcOk, func(f *impl.Fs) { gone(f, mkOpen, "e"); f.Nodes[mkEmpty] = impl.Node{} }},
		{other, rmdir("/lw/e"), impl.EcOk, func(f *impl.Fs) { gone(f, mkOpen, "e"); f.Nodes[mkEmpty] = impl.Node{} }},
		{other, rmdir("/w/p/q"), impl.EcOk, func(f *impl.Fs) { gone(f, mkTop, "q"); f.Nodes[mkMid] = impl.Node{} }},
		{owner, rmdir("/r/e"), impl.EcOk, func(f *impl.Fs) { gone(f, mkOwn, "e"); f.Nodes[mkOwnDir] = impl.Node{} }},
		{other, rmdir("/r/e"), impl.EcMay, nil},
		// What it is, and what is in it, is told ahead of whether it may go.
		{other, rmdir("/r/none"), impl.EcNone, nil},
		{other, rmdir("/r/f"), impl.EcNoDir, nil},
		{other, rmdir("/r"), impl.EcBusy, nil},
	})
	checkMakings(t, makeFs(), faults(impl.EcNoDir, someCreds, rmdir("/w/f"), rmdir("/w/h"), rmdir("/w/l"), rmdir("/w/ld"), rmdir("/w/no"), rmdir("/r/f"), rmdir("/lw")))
	checkMakings(t, makeFs(), faults(impl.EcBusy, someCreds, rmdir("/w"), rmdir("/w/d"), rmdir("/w/p"), rmdir("/r"), rmdir("/dark"), rmdir("/lr/w")))
	checkMakings(t, makeFs(), faults(impl.EcNone, someCreds, rmdir("/none"), rmdir("/w/none"), rmdir("/w/e/e")))
	// Node 0 has no name by which it could go.
	for _, f := range []impl.Fs{makeFs(), {Nodes: []impl.Node{{Kind: impl.KdDir, Mode: 0o777}}}} {
		checkMakings(t, f, faults(impl.EcPath, someCreds, rmdir("/"), rmdir("//"), rmdir("/."), rmdir("/.."), rmdir("/w/.."), rmdir("/w/p/../.."), rmdir("/lr/"), rmdir("/lr/.")))
		checkMakings(t, f, faults(impl.EcPath, someCreds, unlink("/"), unlink("/.."), move("/", "/w/n"), move("/w/..", "/w/n"), move("/lr/.", "/w/n")))
	}
	checkMakings(t, makeFs(), faults(impl.EcPath, someCreds, move("/w/e", "/"), move("/w/e", "/w/..")))
	checkMakings(t, makeFs(), faults(impl.EcNoDir, someCreds, rmdir("/lr"), rmdir("/lr/lr")))
	// Who may not enter a directory may yet take it away, where it is empty.
	f := makeFs()
	f.Nodes[mkEmpty].Mode = 0
	if g, code, ok := impl.RemoveDir(f, other, "/w/e", 70); code != impl.EcOk || !ok || g.Nodes[mkEmpty].Kind != impl.KdFree {
		t.Error(g, code, ok)
	}
}

func moved(from int, was string, to int, name string, node int) func(f *impl.Fs) {
	return func(f *impl.Fs) {
		gone(f, from, was)
		gone(f, to, name)
		come(f, to, name, node)
	}
}

func movedOver(from int, was string, to int, name string, node int, over int) func(f *impl.Fs) {
	return func(f *impl.Fs) {
		moved(from, was, to, name, node)(f)
		f.Nodes[over] = impl.Node{}
	}
}

func TestRename(t *testing.T) {
	checkMakings(t, makeFs(), []making{
		{other, move("/w/h", "/w/a"), impl.EcOk, moved(mkOpen, "h", mkOpen, "a", mkSole)},
		{other, move("/w/h", "/w/z"), impl.EcOk, moved(mkOpen, "h", mkOpen, "z", mkSole)},
		{other, move("/w/f", "/w/n"), impl.EcOk, moved(mkOpen, "f", mkOpen, "n", mkFile)},
		{other, move("/w/h", "/w/p/q/h"), impl.EcOk, moved(mkOpen, "h", mkMid, "h", mkSole)},
		{other, move("/lw/h", "/lr/lw/p/n"), impl.EcOk, moved(mkOpen, "h", mkTop, "n", mkSole)},
		{other, move("/w/l", "/w/n"), impl.EcOk, moved(mkOpen, "l", mkOpen, "n", mkLink)},
		{other, move("/w/ld", "/w/p/n"), impl.EcOk, moved(mkOpen, "ld", mkTop, "n", mkToFull)},
		{other, move("/w/d", "/w/n"), impl.EcOk, moved(mkOpen, "d", mkOpen, "n", mkFull)},
		{other, move("/w/d", "/w/p/q/d"), impl.EcOk, moved(mkOpen, "d", mkMid, "d", mkFull)},
		{other, move("/w/p/q", "/w/q"), impl.EcOk, moved(mkTop, "q", mkOpen, "q", mkMid)},
		{other, move("/w/p/q", "/w/p/qq"), impl.EcOk, moved(mkTop, "q", mkTop, "qq", mkMid)},
		{owner, move("/r/f", "/w/n"), impl.EcOk, moved(mkOwn, "f", mkOpen, "n", mkOwnFile)},
		{owner, move("/w/h", "/r/n"), impl.EcOk, moved(mkOpen, "h", mkOwn, "n", mkSole)},
		{root, move("/w", "/v"), impl.EcOk, moved(mkRoot, "w", mkRoot, "v", mkOpen)},
		{root, move("/lw", "/w/p/n"), impl.EcOk, moved(mkRoot, "lw", mkTop, "n", mkToOpen)},
	})
	checkMakings(t, makeFs(), faults(impl.EcNone, someCreds, move("/none", "/w/n"), move("/w/none", "/w/f"), move("/r/none", "/w/n"), move("/w/none", "/w/none"), move("/w/none", ""),
		move("/w/none", "/dark/x"), move("/w/h", "/none/x"), move("/r/f", "/none/x"), move("/w/none", "/w/none/x")))
	checkMakings(t, makeFs(), faults(impl.EcPath, someCreds, move("/w/h", ""), move("/r/f", "/w/"), move("/w/h", "/w/h/"), move("/w/e/", "/w/n"), move("/w/e", "/w/n/"), move("", "/none/x")))
}

func TestRenameOver(t *testing.T) {
	checkMakings(t, makeFs(), []making{
		{other, move("/w/h", "/w/l"), impl.EcOk, movedOver(mkOpen, "h", mkOpen, "l", mkSole, mkLink)},
		{other, move("/w/l", "/w/h"), impl.EcOk, movedOver(mkOpen, "l", mkOpen, "h", mkLink, mkSole)},
		{other, move("/w/no", "/w/ld"), impl.EcOk, movedOver(mkOpen, "no", mkOpen, "ld", mkNowhere, mkToFull)},
		{owner, move("/w/h", "/w/d/x"), impl.EcOk, movedOver(mkOpen, "h", mkFull, "x", mkSole, mkInFull)},
		{owner, move("/w/d/x", "/w/h"), impl.EcOk, movedOver(mkFull, "x", mkOpen, "h", mkInFull, mkSole)},
		// A file of which another name is left is not freed.
		{other, move("/w/h", "/w/f"), impl.EcOk, moved(mkOpen, "h", mkOpen, "f", mkSole)},
		{other, move("/w/f", "/w/h"), impl.EcOk, movedOver(mkOpen, "f", mkOpen, "h", mkFile, mkSole)},
		{other, move("/w/d", "/w/e"), impl.EcOk, movedOver(mkOpen, "d", mkOpen, "e", mkFull, mkEmpty)},
		{other, move("/w/e", "/w/p/q"), impl.EcOk, movedOver(mkOpen, "e", mkTop, "q", mkEmpty, mkMid)},
		{other, move("/w/p", "/w/e"), impl.EcOk, movedOver(mkOpen, "p", mkOpen, "e", mkTop, mkEmpty)},
		{other, move("/w/p/q", "/w/e"), impl.EcOk, movedOver(mkTop, "q", mkOpen, "e", mkMid, mkEmpty)},
		{owner, move("/w/d", "/r/e"), impl.EcOk, movedOver(mkOpen, "d", mkOwn, "e", mkFull, mkOwnDir)},
	})
	checkMakings(t, makeFs(), faults(impl.EcIsDir, someCreds, move("/w/h", "/w/e"), move("/w/h", "/w/d"), move("/w/l", "/w/p"), move("/w/ld", "/w/d"), move("/w/f", "/w/p/q")))
	checkMakings(t, makeFs(), faults(impl.EcNoDir, someCreds, move("/w/e", "/w/h"), move("/w/d", "/w/f"), move("/w/d", "/w/l"), move("/w/d", "/w/ld"), move("/w/p/q", "/w/no")))
	checkMakings(t, makeFs(), faults(impl.EcBusy, someCreds, move("/w/e", "/w/d"), move("/w/d", "/w/p"), move("/w/p/q", "/w/p"), move("/w/e", "/w/p")))
	checkMakings(t, makeFs(), []making{
		{owner, move("/w/d/x", "/w/d"), impl.EcIsDir, nil},
		{root, move("/w/p/q", "/w"), impl.EcBusy, nil},
		{root, move("/r", "/w"), impl.EcBusy, nil},
		{root, move("/r", "/lw"), impl.EcNoDir, nil},
	})
}

func TestRenameWhereAllStays(t *testing.T) {
	stay := []deed{move("/w/h", "/w/h"), move("/w/f", "/w/f"), move("/w/f", "/w/g"), move("/w/g", "/w/f"), move("/w/e", "/w/e"), move("/w/d", "/w/d"), move("/w/p/q", "/w/p/q"),
		move("/w/l", "/w/l"), move("/w/no", "/lw/no"), move("/lw/d", "/w/p/../d"), move("/w/p", "//w//p")}
	// No Time changes either.
	checkMakings(t, makeFs(), faults(impl.EcOk, someCreds, stay...))
	f := makeFs()
	come(&f, mkMid, "f", mkFile)
	checkMakings(t, f, faults(impl.EcOk, someCreds, move("/w/f", "/w/p/q/f"), move("/w/p/q/f", "/w/g")))
	// Who may not change the directory is told so, though nothing would change.
	checkMakings(t, makeFs(), faults(impl.EcMay, []impl.Cred{mate, other}, move("/r/f", "/r/f"), move("/r/e", "/r/e"), move("/w", "/w"), move("/lr", "/lr")))
	checkMakings(t, makeFs(), faults(impl.EcOk, []impl.Cred{root, owner}, move("/r/f", "/r/f"), move("/r/e", "/r/e")))
}

func TestRenameIntoItself(t *testing.T) {
	checkMakings(t, makeFs(), faults(impl.EcPath, someCreds, move("/w/p", "/w/p/n"), move("/w/p", "/w/p/p"), move("/w/p", "/w/p/q/n"), move("/w/p", "/w/p/q"), move("/lw/p", "/w/p/./n"),
		move("/w/p", "/lr/w/p/q/n")))
	checkMakings(t, makeFs(), faults(impl.EcPath, []impl.Cred{root}, move("/w", "/w/n"), move("/w", "/w/f"), move("/w", "/w/d"), move("/w", "/w/p/q/n"), move("/w", "/lw/n"), move("/r", "/r/e"), move("/r", "/r/e/n")))
	// Whether the directories may change is told first; what is there by the name, later.
	checkMakings(t, makeFs(), faults(impl.EcMay, []impl.Cred{owner, mate, other}, move("/w", "/w/n"), move("/w", "/w/f"), move("/r", "/r/e/n")))
	// What is no directory has nothing within it; a name that begins alike is not within.
	checkMakings(t, makeFs(), []making{
		{other, move("/w/ld", "/w/p/n"), impl.EcOk, moved(mkOpen, "ld", mkTop, "n", mkToFull)},
		{other, move("/w/p", "/w/pp"), impl.EcOk, moved(mkOpen, "p", mkOpen, "pp", mkTop)},
		{owner, move("/w/ld", "/w/ld/n"), impl.EcOk, moved(mkOpen, "ld", mkFull, "n", mkToFull)},
	})
}

func TestRenameWhereOneDirectoryMayNotChange(t *testing.T) {
	strangers := []impl.Cred{mate, other, {Uid: 99, Gid: 0}}
	checkMakings(t, makeFs(), faults(impl.EcMay, strangers,
		move("/r/f", "/w/n"), move("/w/h", "/r/n"), move("/r/f", "/r/n"), move("/r/e", "/w/n"), move("/w/e", "/r/n"), move("/r/f", "/w/f"), move("/w/h", "/r/f"),
		// That is told ahead of what is there by the name.
		move("/r/f", "/w/e"), move("/r/e", "/w/f"), move("/r/e", "/w/d"), move("/w/h", "/r/e"), move("/w/e", "/r/f"), move("/w/d", "/r/e"), move("/lw", "/w/n")))
	checkMakings(t, makeFs(), faults(impl.EcNone, strangers, move("/r/none", "/w/n"), move("/r/none", "/r/n"), move("/r/f", "/none/n")))
	checkMakings(t, makeFs(), faults(impl.EcPath, strangers, move("/r/f", ""), move("/r/f", "/w/n/")))
}

// remade is a second reading of chapter 5: it keeps names in maps, has the codes
// as a list of questions, and lets a node fall free in the end, where no name is
// left that leads to it.
type remade struct {
	*reading
	names []map[string]int
}

func newRemade(f impl.Fs, c impl.Cred) *remade {
	r := &remade{newReading(copyOfFs(f), c), make([]map[string]int, len(f.Nodes))}
	for i, n := range f.Nodes {
		r.names[i] = map[string]int{}
		for _, e := range n.List {
			r.names[i][e.Name] = e.Node
		}
	}
	return r
}

func (r *remade) fs() impl.Fs {
	named := map[int]bool{0: true}
	for i := range r.f.Nodes {
		r.f.Nodes[i].List = nil
		for _, name := range slices.Sorted(maps.Keys(r.names[i])) {
			r.f.Nodes[i].List = append(r.f.Nodes[i].List, impl.Entry{Name: name, Node: r.names[i][name]})
			named[r.names[i][name]] = true
		}
	}
	for i := range r.f.Nodes {
		if !named[i] {
			r.f.Nodes[i] = impl.Node{}
		}
	}
	return r.f
}

// A question tells a code, or 0.
type question func() int

func firstOf(l ...question) int {
	for _, q := range l {
		if code := q(); code != 0 {
			return code
		}
	}
	return 0
}

func (r *remade) isDir(node int) bool { return r.f.Nodes[node].Kind == 2 }

func (r *remade) put(dir int, name string, node int, t int) {
	r.names[dir][name] = node
	r.f.Nodes[dir].Time = t
}

func (r *remade) cut(dir int, name string, t int) {
	delete(r.names[dir], name)
	r.f.Nodes[dir].Time = t
}

func codeIf(is bool, code int) int {
	if is {
		return code
	}
	return 0
}

// freeNode is -1 where there is none.
func (r *remade) freeNode() int {
	for i := range 40 {
		if i >= len(r.f.Nodes) || r.f.Nodes[i].Kind == 0 {
			return i
		}
	}
	return -1
}

func (r *remade) bytes() int {
	sum := 0
	for _, n := range r.f.Nodes {
		sum += len(n.Data)
	}
	return sum
}

func (r *remade) place(path string, dir *int, name *string) question {
	return func() (code int) { *dir, *name, code = r.findPlace(path); return code }
}

func (r *remade) there(dir *int, name *string) bool { _, is := r.names[*dir][*name]; return is }

func (r *remade) mayChange(dir *int) question {
	return func() int { return codeIf(!r.may(*dir, 2) || !r.may(*dir, 1), 4) }
}

func (r *remade) newNode(d deed, n impl.Node) int {
	var dir int
	var name string
	code := firstOf(
		func() int {
			return codeIf(d.do == doFile && len(d.data) > 60 || d.do == doLink && !isPathByForm(d.old), 1)
		},
		r.place(d.path, &dir, &name),
		func() int { return codeIf(r.there(&dir, &name), 6) },
		r.mayChange(&dir),
		func() int { return codeIf(r.freeNode() < 0 || r.bytes()+len(n.Data) > r.f.Room, 8) })
	if code != 0 {
		return code
	}
	node := r.freeNode()
	if node == len(r.f.Nodes) {
		r.f.Nodes, r.names = append(r.f.Nodes, impl.Node{}), append(r.names, map[string]int{})
	}
	n.Uid, n.Gid, n.Time = r.c.Uid, r.c.Gid, d.time
	r.f.Nodes[node] = n
	r.put(dir, name, node, d.time)
	return 0
}

func (r *remade) newName(d deed) int {
	var node, dir int
	var name string
	code := firstOf(
		func() (code int) { node, code = r.findNode(d.old, false); return code },
		func() int { return codeIf(r.isDir(node), 7) },
		r.place(d.path, &dir, &name),
		func() int { return codeIf(r.there(&dir, &name), 6) },
		r.mayChange(&dir))
	if code == 0 {
		r.put(dir, name, node, d.time)
	}
	return code
}

func (r *remade) lose(d deed) int {
	var dir int
	var name string
	node := func() int { return r.names[dir][name] }
	code := firstOf(
		r.place(d.path, &dir, &name),
		func() int { return codeIf(!r.there(&dir, &name), 2) },
		func() int { return codeIf(d.do == doUnlink && r.isDir(node()), 7) },
		func() int { return codeIf(d.do == doRmdir && !r.isDir(node()), 3) },
		func() int { return codeIf(d.do == doRmdir && len(r.names[node()]) > 0, 9) },
		r.mayChange(&dir))
	if code == 0 {
		r.cut(dir, name, d.time)
	}
	return code
}

// holds goes down from a directory, where the program climbs.
func (r *remade) holds(node int, dir int) bool {
	if node == dir {
		return true
	}
	for _, below := range r.names[node] {
		if r.isDir(below) && r.holds(below, dir) {
			return true
		}
	}
	return false
}

func (r *remade) rename(d deed) int {
	const stays = -1
	var from, dir int
	var was, name string
	node := func() int { return r.names[from][was] }
	over := func(is func(over int) bool, code int) question {
		return func() int { return codeIf(r.there(&dir, &name) && is(r.names[dir][name]), code) }
	}
	code := firstOf(
		r.place(d.old, &from, &was),
		func() int { return codeIf(!r.there(&from, &was), 2) },
		r.place(d.path, &dir, &name),
		r.mayChange(&from),
		r.mayChange(&dir),
		over(func(over int) bool { return over == node() }, stays),
		func() int { return codeIf(r.isDir(node()) && r.holds(node(), dir), 1) },
		over(func(over int) bool { return r.isDir(over) && !r.isDir(node()) }, 7),
		over(func(over int) bool { return !r.isDir(over) && r.isDir(node()) }, 3),
		over(func(over int) bool { return len(r.names[over]) > 0 }, 9))
	switch code {
	case stays:
		return 0
	case 0:
		node := node()
		r.cut(from, was, d.time)
		r.put(dir, name, node, d.time)
	}
	return code
}

func remadeBy(f impl.Fs, c impl.Cred, d deed) (impl.Fs, int) {
	r := newRemade(f, c)
	code := 0
	switch d.do {
	case doDir:
		code = r.newNode(d, impl.Node{Kind: 2, Mode: d.mode})
	case doFile:
		code = r.newNode(d, impl.Node{Kind: 1, Mode: d.mode, Data: d.data})
	case doLink:
		code = r.newNode(d, impl.Node{Kind: 3, Mode: 511, Data: d.old})
	case doName:
		code = r.newName(d)
	case doUnlink, doRmdir:
		code = r.lose(d)
	default:
		code = r.rename(d)
	}
	return r.fs(), code
}

// checkDeed holds an answer against the second reading, and against promise 5.
func checkDeed(t *testing.T, f impl.Fs, c impl.Cred, d deed) (impl.Fs, int) {
	t.Helper()
	want, wantCode := remadeBy(f, c, d)
	g, code, ok := d.on(f, c)
	if code != wantCode || !ok || !impl.SameFs(g, want) {
		t.Fatalf("%v, %+v: code %d, %t instead of %d in\n%v:\n%v instead of\n%v", c, d, code, ok, wantCode, f, g, want)
	}
	if !isGoodByWays(g) || !impl.GoodFs(g) {
		t.Fatalf("%v, %+v: not good then: %v of %v", c, d, g, f)
	}
	checkPromise(t, f, g, c, d, code)
	return g, code
}

// Promise 5: created names exist, a renamed inode keeps its identity, and failed
// operations change nothing.
func checkPromise(t *testing.T, f impl.Fs, g impl.Fs, c impl.Cred, d deed, code int) {
	t.Helper()
	if code != impl.EcOk {
		if !impl.SameFs(f, g) {
			t.Fatalf("%v, %+v: code %d, but a change: %v of %v", c, d, code, g, f)
		}
		return
	}
	dir, name, _, _ := impl.FindPlace(f, c, d.path)
	node, is := nodeIn(g, dir, name)
	switch d.do {
	case doUnlink, doRmdir:
		if is {
			t.Fatalf("%v, %+v: the name is still there in %v", c, d, g)
		}
	case doMove:
		from, was, _, _ := impl.FindPlace(f, c, d.old)
		old, _ := nodeIn(f, from, was)
		before, after := f.Nodes[old], g.Nodes[old]
		if from == old || dir == old || before.Kind == impl.KdDir {
			before.List, after.List = nil, nil
		}
		if !is || node != old || !impl.SameFs(impl.Fs{Nodes: []impl.Node{before}}, impl.Fs{Nodes: []impl.Node{after}}) {
			t.Fatalf("%v, %+v: node %d is %d, %t: %v, then %v", c, d, old, node, is, f, g)
		}
		left, isLeft := nodeIn(g, from, was)
		if over, had := nodeIn(f, dir, name); isLeft != (had && over == old) || isLeft && left != old {
			t.Fatalf("%v, %+v: the old name is there: %t, %d in %v", c, d, isLeft, left, g)
		}
	default:
		if found, code, ok := impl.FindNode(g, c, d.path, false); !is || found != node || code != impl.EcOk || !ok {
			t.Fatalf("%v, %+v: node %d is found as %d, %d, %t in %v", c, d, node, found, code, ok, g)
		}
	}
}

func TestEveryDeedInTheSampleIsAsReadAgain(t *testing.T) {
	paths := []string{
		"/w/f", "/w/g", "/w/h", "/w/d", "/w/d/x", "/w/e", "/w/e/n", "/w/l", "/w/ld", "/w/ld/x", "/w/no", "/w/no/x", "/w/p", "/w/p/q", "/w/p/q/n", "/w/p/n", "/w/n", "/w/a", "/w", "/w/",
		"/r", "/r/f", "/r/e", "/r/e/n", "/r/n", "/dark", "/dark/f", "/dark/n", "/lw", "/lw/f", "/lr", "/lr/w", "/lr/", "/n", "/", "/w/..", "/none/x", "/w/f/x", "", "w", "/W", "/w/p/../e",
	}
	f := makeFs()
	for _, c := range []impl.Cred{root, owner, mate, other} {
		for _, old := range paths {
			for _, path := range paths {
				checkDeed(t, f, c, move(old, path))
				checkDeed(t, f, c, addName(old, path))
				checkDeed(t, f, c, mklink(old, path))
			}
			for _, d := range []deed{mkdir(old), mkfile(old, "data"), unlink(old), rmdir(old)} {
				checkDeed(t, f, c, d)
			}
		}
	}
}

// someDeed is a deed that a row of numbers tells, of paths that are likely to be
// there.
func someDeed(f impl.Fs, next func(int) int) deed {
	ways, _, _ := waysToNodes(f)
	var all []string
	for _, l := range ways {
		all = append(all, l...)
	}
	path := func() string {
		way := ""
		if len(all) > 0 {
			way = all[next(len(all))]
		}
		switch next(9) {
		case 0:
			return tangledPath(append(ways, nil), next)
		case 1, 2, 3:
			return way + "/" + []string{"a", "b", "new", "..", "n.1"}[next(5)]
		}
		return way
	}
	d := deed{do: allDeeds[next(len(allDeeds))], old: path(), path: path(), mode: []int{0o777, 0o755, 0o722, 0o511, next(512)}[next(5)], time: next(1000001)}
	d.data = strings.Repeat("x", []int{0, 1, 5, 60, 61}[next(5)])
	if d.do == doLink && next(3) == 0 {
		d.old = []string{".", "..", "/", "none", "", "A", longPath(30)}[next(7)]
	}
	return d
}

// crowd leaves no node free: all that there may be are files without bytes.
func crowd(f *impl.Fs) {
	f.Nodes = append(f.Nodes, make([]impl.Node, 40-len(f.Nodes))...)
	for i, n := range f.Nodes {
		if n.Kind == impl.KdFree {
			f.Nodes[i].Kind = impl.KdFile
			come(f, 0, string([]byte{'0' + byte(i/10), '0' + byte(i%10)}), i)
		}
	}
}

func TestManyDeedsAreAsReadAgain(t *testing.T) {
	met := map[string]int{}
	for seed := range 400 {
		f, next := tangledFs(seed*48271 + 11)
		if next(4) == 0 {
			crowd(&f)
		}
		bytes, _ := impl.BytesIn(f)
		f.Room = min(1000, bytes+[]int{0, 60, 150, 1000}[next(4)])
		for range 40 {
			d := someDeed(f, next)
			c := someCreds[next(len(someCreds))]
			if next(2) == 0 {
				c = root
			}
			g, code := checkDeed(t, f, c, d)
			text, _ := impl.CodeText(code)
			met[d.do+" "+text]++
			f = g
		}
	}
	want := map[string]string{
		doDir: "ok path none nodir may there full", doFile: "ok path none nodir may there full", doLink: "ok path none nodir may there full", doName: "ok path none nodir may there isdir",
		doUnlink: "ok path none nodir may isdir", doRmdir: "ok path none nodir may busy", doMove: "ok path none nodir may isdir busy",
	}
	for do, codes := range want {
		for _, code := range strings.Fields(codes) {
			if met[do+" "+code] < 10 {
				t.Errorf("%s told %s only %d times", do, code, met[do+" "+code])
			}
		}
	}
}

// What is made, and taken away again, leaves the file system as it was, but for
// times and for nodes that are free at its end.
func TestWhatIsMadeCanBeTakenAway(t *testing.T) {
	for _, c := range someCreds {
		for _, d := range comings("/w/h", "/w/new") {
			g, _, _ := d.on(makeFs(), c)
			back := unlink("/w/new")
			if d.do == doDir {
				back = rmdir("/w/new")
			}
			checkMakings(t, g, []making{{c, back, impl.EcOk, func(g *impl.Fs) { *g = makeFs(); g.Nodes[mkOpen].Time = 70 }}})
		}
		g, _, _ := move("/w/d", "/w/p/n").on(makeFs(), c)
		checkMakings(t, g, []making{{c, move("/w/p/n", "/w/d"), impl.EcOk, func(g *impl.Fs) { *g = makeFs(); g.Nodes[mkOpen].Time, g.Nodes[mkTop].Time = 70, 70 }}})
	}
}

// checkAloof writes to all memory of an answer: no two of its lists may have any
// in common, nor may one show what lay behind a list of the argument.
func checkAloof(t *testing.T, d call, g impl.Fs) {
	t.Helper()
	nodes := g.Nodes[:cap(g.Nodes)]
	for i := range nodes {
		list := nodes[i].List[:cap(nodes[i].List)]
		for j := range list {
			if list[j].Name == "mark" || list[j].Node == 77 || list[j].Name == "written" {
				t.Fatalf("%+v: list %d has memory of another one: %v", d, i, list)
			}
			list[j] = impl.Entry{Name: "written", Node: i}
		}
		if nodes[i].Kind == 77 {
			t.Fatalf("%+v: node %d lay behind the nodes", d, i)
		}
	}
	for i := range nodes {
		nodes[i] = impl.Node{Kind: 78}
	}
}

// checkNewMemory hands a call lists that have more behind them, and empty ones that
// lie in one piece of memory.
func checkNewMemory(t *testing.T, f impl.Fs, c impl.Cred, d call) {
	t.Helper()
	block := make([]impl.Entry, 8)
	for i := range f.Nodes {
		if len(f.Nodes[i].List) == 0 {
			f.Nodes[i].List = block[:0]
		}
	}
	plain := copyOfFs(f)
	want, wantCode, _ := d.on(plain, c)
	isAsItWas := markBehind(&f)
	g, code, ok := d.on(f, c)
	if code != wantCode || !ok || !impl.SameFs(g, want) {
		t.Fatalf("%+v: what is behind a list counts: %d, %v", d, code, g)
	}
	checkAloof(t, d, g)
	if !isAsItWas() {
		t.Fatalf("%+v: the argument shares memory with the answer, or was written to", d)
	}
}

func TestMakeAnswersAreNewMemory(t *testing.T) {
	deeds := slices.Concat(comings("/w/h", "/w/new"), comings("/w/h", "/w/f"), comings("/w/h", "/w/e/n"), comings("/w/h", "/none/x"), makings("/new"),
		[]deed{unlink("/w/f"), unlink("/w/h"), unlink("/w/e"), unlink("/lr"), rmdir("/w/e"), rmdir("/w/d"), rmdir("/w/p/q"), move("/w/h", "/w/n"), move("/w/h", "/w/h"), move("/w/d", "/w/e"),
			move("/w/d", "/w/p/n"), move("/w/p", "/w/p/n"), move("/w/f", "/w/e"), mkfile("/w/n", strings.Repeat("x", 61)), move("", "")})
	for _, free := range []bool{true, false} {
		for _, d := range deeds {
			for _, c := range []impl.Cred{root, other} {
				f := makeFs()
				if !free {
					f.Nodes[mkFree] = impl.Node{Kind: impl.KdFile}
					come(&f, mkOwn, "more", mkFree)
				}
				checkNewMemory(t, f, c, d)
			}
		}
	}
}

var makePaths = []string{
	"/", "/a", "/a/", "/a/f", "/a/n", "/l", "/l/f", "/l/n", "/a/z", "/a/z/n", "/g", "/g/x", "/n", "/.", "/none/x", "", "a", "A", "/A", "/\x00", "\xff", "/é",
	longPath(60), longPath(61), strings.Repeat("/", 61), strings.Repeat("/a", 100000),
}

func oddDeeds() []deed {
	var all []deed
	for i, path := range makePaths {
		old := makePaths[(i*7+3)%len(makePaths)]
		for _, do := range allDeeds {
			all = append(all, deed{do: do, old: old, path: path, mode: 0o755, data: "x", time: 5})
		}
	}
	for _, do := range allDeeds {
		for _, n := range []int{math.MinInt, -1, 0, 511, 512, 1000000, 1000001, math.MaxInt} {
			all = append(all, deed{do: do, old: "/g", path: "/a/n", time: n}, deed{do: do, old: "/a/f", path: "/l", mode: n, data: strings.Repeat("\xff", 60)})
		}
	}
	return all
}

// checkOddDeeds asks twice: the answers are those of the second reading where all
// is good, else zero values.
func checkOddDeeds(t *testing.T, f impl.Fs, creds []impl.Cred, deeds []deed) {
	t.Helper()
	good := isGoodByWays(f)
	for _, c := range creds {
		for _, d := range deeds {
			takes := good && within(c.Uid, 0, 99) && within(c.Gid, 0, 99) && within(d.time, 0, 1000000) && (d.do != doDir && d.do != doFile || within(d.mode, 0, 511))
			var want impl.Fs
			code := 0
			if takes {
				want, code = remadeBy(f, c, d)
			}
			for range 2 {
				if g, gotCode, ok := d.on(f, c); gotCode != code || ok != takes || !impl.SameFs(g, want) {
					t.Fatalf("%v, %.200v: %.500v, %d, %t instead of %.500v, %d, %t", c, d, g, gotCode, ok, want, code, takes)
				}
			}
		}
	}
}

// Promise 19: every function answers at all arguments.
func TestMakeFunctionsAnswerAtAllArguments(t *testing.T) {
	deeds := oddDeeds()
	for _, f := range oddFs() {
		checkOddDeeds(t, f, []impl.Cred{root, other, {Uid: 100}, {Gid: -1}}, deeds)
	}
	for _, f := range []impl.Fs{sampleFs(), makeFs(), {}} {
		checkOddDeeds(t, f, oddCreds, deeds)
	}
	var odd []deed
	for i, text := range append(longPaths()[:1500], oddTexts...) {
		odd = append(odd, deed{do: allDeeds[i%7], old: text, path: "/a/n"}, deed{do: allDeeds[i%7], old: "/g", path: text}, deed{do: allDeeds[i%7], old: text, path: text, data: text})
	}
	checkOddDeeds(t, sampleFs(), []impl.Cred{root, owner}, odd)
}

// Promise 19: no function changes an argument.
func TestMakeFunctionsLeaveTheirArguments(t *testing.T) {
	deeds := oddDeeds()
	for i, f := range append(oddFs(), makeFs(), lookFs(), hopsFs()) {
		isAsItWas := markBehind(&f)
		for _, d := range deeds {
			kept := [3]string{strings.Clone(d.old), strings.Clone(d.path), strings.Clone(d.data)}
			for _, c := range []impl.Cred{root, owner} {
				d.on(f, c)
			}
			if kept != [3]string{d.old, d.path, d.data} {
				t.Errorf("a text was changed: %.70q", kept)
			}
		}
		if !isAsItWas() {
			t.Fatalf("file system %d was written to", i)
		}
	}
}
