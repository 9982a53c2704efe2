package tests

import (
	"cmp"
	"fmt"
	"maps"
	"math"
	"slices"
	"strings"
	"testing"

	"loop.example/g00756/impl"
)

// The nodes of rmFs.
const (
	rmRoot = iota
	rmFree
	rmOpen
	rmEmpty
	rmFile
	rmSole
	rmLink
	rmToAll
	rmAll
	rmA
	rmTwin
	rmB
	rmOwn
	rmOwnA
	rmOwnB
	rmInOwnB
	rmDirInOwnB
	rmOwnE
	rmBlind
	rmInBlind
	rmDeaf
	rmInDeaf
	rmShut
	rmInShut
	rmDeepInShut
	rmVoid
	rmVoidB
	rmVoidD
	rmVoidS
	rmClosed
	rmClosedE
	rmInClosedE
	rmClosedF
	rmToOpen
	rmToRoot
)

// rmFs has a free node 1, directories of 1:2, and:
//
//	/w (777)   may be changed by all
//	/w/e (755, without entries)   /w/f (file, also /w/g, /w/all/f and /k)   /w/h (file)
//	/w/l -> f (also /w/all/l)   /w/ld -> all
//	/w/all (777)   /w/all/a (777)   /w/all/a/t (file, also /w/all/b/t and /w/all/t)   /w/all/b (777)
//	/w/own (755)   /w/own/a (file)   /w/own/b (777)   /w/own/b/c (file)
//	/w/own/b/d (755, without entries)   /w/own/e (777, without entries)
//	/w/blind (733)   may be written and entered, but read by 1 alone   /w/blind/x (file)
//	/w/deaf (766)    may be read and written, but entered by 1 alone   /w/deaf/x (file)
//	/w/shut (700)    may be neither by others   /w/shut/x (777)   /w/shut/x/y (file)
//	/w/void (777)   /w/void/b (733)  /w/void/d (766)  /w/void/s (700), all without entries
//	/r (755)   /r/e (777)   /r/e/x (file)   /r/f (file)
//	/lw -> w   /lr -> /
func rmFs() impl.Fs {
	d := newDraft()
	d.Nodes = append(d.Nodes, impl.Node{})
	open := d.dir(0, "w", 0o777)
	d.dir(open, "e", 0o755)
	file := d.file(open, "f")
	d.name(open, "g", file)
	d.name(0, "k", file)
	d.file(open, "h")
	link := d.link(open, "l", "f")
	d.link(open, "ld", "all")
	all := d.dir(open, "all", 0o777)
	d.name(all, "f", file)
	d.name(all, "l", link)
	twin := d.file(d.dir(all, "a", 0o777), "t")
	d.name(d.dir(all, "b", 0o777), "t", twin)
	d.name(all, "t", twin)
	own := d.dir(open, "own", 0o755)
	d.file(own, "a")
	b := d.dir(own, "b", 0o777)
	d.file(b, "c")
	d.dir(b, "d", 0o755)
	d.dir(own, "e", 0o777)
	d.file(d.dir(open, "blind", 0o733), "x")
	d.file(d.dir(open, "deaf", 0o766), "x")
	d.file(d.dir(d.dir(open, "shut", 0o700), "x", 0o777), "y")
	void := d.dir(open, "void", 0o777)
	d.dir(void, "b", 0o733)
	d.dir(void, "d", 0o766)
	d.dir(void, "s", 0o700)
	closed := d.dir(0, "r", 0o755)
	d.file(d.dir(closed, "e", 0o777), "x")
	d.file(closed, "f")
	d.link(0, "lw", "w")
	d.link(0, "lr", "/")
	for i := range d.Nodes {
		if i != rmFree {
			d.Nodes[i].Time = 10 + i
		}
	}
	return d.Fs
}

func TestRmSampleIsGood(t *testing.T) {
	f := rmFs()
	if !isGoodByWays(f) || len(f.Nodes) != rmToRoot+1 || f.Nodes[rmToAll].Data != "all" || f.Nodes[rmDeepInShut].Data != "y" || f.Nodes[rmVoidS].Mode != 0o700 || f.Nodes[rmInClosedE].Data != "x" {
		t.Error("the sample is not as said", f)
	}
}

// A removal is a call of RemoveTree for one path, of RemoveAll else. The number of
// its faults stands where other calls have a code.
type removal struct {
	paths []string
	force bool
	time  int
}

func (r removal) on(f impl.Fs, c impl.Cred) (impl.Fs, int, bool) {
	g, faults, ok := r.told(f, c)
	return g, len(faults), ok
}

func (r removal) told(f impl.Fs, c impl.Cred) (impl.Fs, []impl.Fault, bool) {
	if len(r.paths) == 1 {
		return impl.RemoveTree(f, c, r.paths[0], r.force, r.time)
	}
	return impl.RemoveAll(f, c, r.paths, r.force, r.time)
}

// faultsText has of each fault `code:path`, with blanks between.
func faultsText(l []impl.Fault) string {
	var all []string
	for _, fault := range l {
		all = append(all, fmt.Sprint(fault.Code, ":", fault.Path))
	}
	return strings.Join(all, " ")
}

// lose takes away names by hand, at time 70.
func lose(t *testing.T, f *impl.Fs, ways ...string) {
	t.Helper()
	for _, way := range ways {
		cut := strings.LastIndexByte(way, '/')
		dir, _ := nodeByPath(*f, way[:cut])
		node, is := nodeIn(*f, dir, way[cut+1:])
		if !is || len(f.Nodes[node].List) > 0 {
			t.Fatalf("%q is not there, or not empty, in %v", way, *f)
		}
		gone(f, dir, way[cut+1:])
		if entriesOf(*f, node) == 0 {
			f.Nodes[node] = impl.Node{}
		}
	}
}

func checkRemoval(t *testing.T, f impl.Fs, creds []impl.Cred, r removal, faults string, ways ...string) {
	t.Helper()
	want := copyOfFs(f)
	lose(t, &want, ways...)
	for _, c := range creds {
		g, l, ok := r.told(f, c)
		if got := faultsText(l); got != faults || !ok || !impl.SameFs(g, want) {
			t.Errorf("%v, %+v: %q, %t instead of %q, with\n%v instead of\n%v", c, r, got, ok, faults, g, want)
		}
		if !isGoodByWays(g) {
			t.Errorf("%v, %+v: the file system then is not good: %v", c, r, g)
		}
	}
}

// checkRemove asks for one path that is there, with force and without, also by
// RemoveAll, with a path ahead that is passed over.
func checkRemove(t *testing.T, f impl.Fs, creds []impl.Cred, path string, faults string, ways ...string) {
	t.Helper()
	checkRemoval(t, f, creds, removal{[]string{path}, false, 70}, faults, ways...)
	checkRemoval(t, f, creds, removal{[]string{path}, true, 70}, faults, ways...)
	checkRemoval(t, f, creds, removal{[]string{"/not", path}, true, 70}, faults, ways...)
}

var (
	guests = []impl.Cred{mate, other, {Uid: 99, Gid: 0}}
	owners = []impl.Cred{owner, {Uid: 1, Gid: 77}}
	mighty = []impl.Cred{root, {Uid: 0, Gid: 99}}
	anyone = slices.Concat(guests, owners, mighty)
)

func TestRemoveTreeOfFilesAndLinks(t *testing.T) {
	f := rmFs()
	checkRemove(t, f, anyone, "/w/h", "", "/w/h")
	checkRemove(t, f, anyone, "/w/ld", "", "/w/ld")
	checkRemove(t, f, anyone, "/w/own/b/c", "", "/w/own/b/c")
	checkRemove(t, f, anyone, "/r/e/x", "", "/r/e/x")
	// What is left of a node with other names has its Time as it was.
	checkRemove(t, f, anyone, "/w/f", "", "/w/f")
	checkRemove(t, f, anyone, "/w/g", "", "/w/g")
	checkRemove(t, f, anyone, "/w/l", "", "/w/l")
	checkRemove(t, f, anyone, "/w/all/l", "", "/w/all/l")
	checkRemove(t, f, anyone, "/w/all/b/t", "", "/w/all/b/t")
	checkRemove(t, f, mighty, "/k", "", "/k")
	checkRemove(t, f, mighty, "/lr", "", "/lr")
	// Of a file and a link the mode is not asked for, only that of the directory.
	for mode := range 8 {
		f.Nodes[rmSole].Mode, f.Nodes[rmToAll].Mode = mode, mode
		checkRemove(t, f, guests, "/w/h", "", "/w/h")
		checkRemove(t, f, guests, "/w/ld", "", "/w/ld")
	}
}

func TestRemoveTreeOfDirectories(t *testing.T) {
	checkRemove(t, rmFs(), anyone, "/w/e", "", "/w/e")
	checkRemove(t, rmFs(), anyone, "/w/void", "", "/w/void/b", "/w/void/d", "/w/void/s", "/w/void")
	checkRemove(t, rmFs(), anyone, "/w/all/a", "", "/w/all/a/t", "/w/all/a")
	// Some names are the last ones of their nodes there, some have others elsewhere.
	checkRemove(t, rmFs(), anyone, "/w/all", "", "/w/all/a/t", "/w/all/a", "/w/all/b/t", "/w/all/b", "/w/all/f", "/w/all/l", "/w/all/t", "/w/all")
	checkRemove(t, rmFs(), mighty, "/r", "", "/r/e/x", "/r/e", "/r/f", "/r")
	checkRemove(t, rmFs(), slices.Concat(owners, mighty), "/w/own", "", "/w/own/a", "/w/own/b/c", "/w/own/b/d", "/w/own/b", "/w/own/e", "/w/own")
	checkRemove(t, rmFs(), slices.Concat(owners, mighty), "/w/blind", "", "/w/blind/x", "/w/blind")
	checkRemove(t, rmFs(), slices.Concat(owners, mighty), "/w/deaf", "", "/w/deaf/x", "/w/deaf")
	checkRemove(t, rmFs(), slices.Concat(owners, mighty), "/w/shut", "", "/w/shut/x/y", "/w/shut/x", "/w/shut")
}

// Whether a directory may be read and entered is asked only where it has entries.
func TestRemoveTreeOfDirectoriesThatMayNotBeLookedInto(t *testing.T) {
	checkRemove(t, rmFs(), guests, "/w/blind", "4:/w/blind")
	checkRemove(t, rmFs(), guests, "/w/deaf", "4:/w/deaf")
	checkRemove(t, rmFs(), guests, "/w/shut", "4:/w/shut")
	checkRemove(t, rmFs(), anyone, "/w/void/b", "", "/w/void/b")
	checkRemove(t, rmFs(), anyone, "/w/void/d", "", "/w/void/d")
	checkRemove(t, rmFs(), anyone, "/w/void/s", "", "/w/void/s")
	// What is in one that may be written and entered has names that may go.
	checkRemove(t, rmFs(), guests, "/w/blind/x", "", "/w/blind/x")
	checkRemove(t, rmFs(), guests, "/w/deaf/x", "4:/w/deaf/x")
	checkRemove(t, rmFs(), guests, "/w/shut/x", "4:/w/shut/x")
	checkRemove(t, rmFs(), guests, "/w/shut/x/y", "4:/w/shut/x/y")
	f := rmFs()
	lose(t, &f, "/w/blind/x", "/w/deaf/x", "/w/shut/x/y", "/w/shut/x")
	for _, path := range []string{"/w/blind", "/w/deaf", "/w/shut"} {
		checkRemove(t, f, anyone, path, "", path)
	}
}

// bitsFor has the bits of the owner, the group and the others, and behind these what
// Uid 0 may, which is all.
func bitsFor(mode int, class int) int {
	return [4]int{mode >> 6, mode >> 3 & 7, mode & 7, 7}[class]
}

// Of the directory to be taken away, its entries need one that may be read, entered
// and written, its own name one around it that may be written and entered.
func TestRemoveTreeOfDirectoriesOfEveryMode(t *testing.T) {
	d := newDraft()
	open := d.dir(0, "o", 0o777)
	in := d.dir(open, "d", 0)
	d.file(in, "f")
	d.dir(in, "e", 0)
	empty := d.dir(open, "e", 0)
	for mode := range 512 {
		d.Nodes[in].Mode, d.Nodes[in+2].Mode, d.Nodes[empty].Mode = mode, mode, mode
		for i, c := range []impl.Cred{owner, mate, other, root} {
			as := []impl.Cred{c}
			checkRemove(t, d.Fs, as, "/o/e", "", "/o/e")
			switch bits := bitsFor(mode, i); {
			case bits == 7:
				checkRemove(t, d.Fs, as, "/o/d", "", "/o/d/f", "/o/d/e", "/o/d")
			case bits == 5:
				checkRemove(t, d.Fs, as, "/o/d", "4:/o/d/e 4:/o/d/f")
			default:
				checkRemove(t, d.Fs, as, "/o/d", "4:/o/d")
			}
		}
	}
	for mode := range 512 {
		d.Nodes[open].Mode = mode
		d.Nodes[in].Mode, d.Nodes[in+2].Mode, d.Nodes[empty].Mode = 0o777, 0, 0
		for i, c := range []impl.Cred{owner, mate, other, root} {
			as := []impl.Cred{c}
			switch bits := bitsFor(mode, i); {
			case bits&3 == 3:
				checkRemove(t, d.Fs, as, "/o/d", "", "/o/d/f", "/o/d/e", "/o/d")
				checkRemove(t, d.Fs, as, "/o/e", "", "/o/e")
			case bits&1 == 1:
				checkRemove(t, d.Fs, as, "/o/d", "4:/o/d", "/o/d/f", "/o/d/e")
				checkRemove(t, d.Fs, as, "/o/e", "4:/o/e")
			default:
				checkRemove(t, d.Fs, as, "/o/d", "4:/o/d")
				checkRemove(t, d.Fs, as, "/o/e", "4:/o/e")
				checkRemoval(t, d.Fs, as, removal{[]string{"/o/none"}, true, 70}, "4:/o/none")
			}
		}
	}
}

// Where the name of a directory may not go, what is in it may have gone.
func TestRemoveTreeWhereSomeStays(t *testing.T) {
	checkRemove(t, rmFs(), guests, "/w/own", "4:/w/own/a 4:/w/own/b 4:/w/own/e", "/w/own/b/c", "/w/own/b/d")
	checkRemove(t, rmFs(), guests, "/w/own/b", "4:/w/own/b", "/w/own/b/c", "/w/own/b/d")
	checkRemove(t, rmFs(), guests, "/w/own/e", "4:/w/own/e")
	checkRemove(t, rmFs(), guests, "/w/own/a", "4:/w/own/a")
	checkRemove(t, rmFs(), guests, "/r", "4:/r/e 4:/r/f", "/r/e/x")
	checkRemove(t, rmFs(), owners, "/r", "4:/r", "/r/e/x", "/r/e", "/r/f")
	checkRemove(t, rmFs(), slices.Concat(guests, owners), "/k", "4:/k")
	checkRemove(t, rmFs(), slices.Concat(guests, owners), "/lw", "4:/lw")
	all := []string{"/w/all/a/t", "/w/all/a", "/w/all/b/t", "/w/all/b", "/w/all/f", "/w/all/l", "/w/all/t", "/w/all", "/w/e", "/w/f", "/w/g", "/w/h", "/w/l", "/w/ld",
		"/w/void/b", "/w/void/d", "/w/void/s", "/w/void", "/w/own/b/c", "/w/own/b/d"}
	checkRemove(t, rmFs(), guests, "/w", "4:/w/blind 4:/w/deaf 4:/w/own/a 4:/w/own/b 4:/w/own/e 4:/w/shut", all...)
	all = append(all, "/w/own/a", "/w/own/b", "/w/own/e", "/w/own", "/w/blind/x", "/w/blind", "/w/deaf/x", "/w/deaf", "/w/shut/x/y", "/w/shut/x", "/w/shut")
	checkRemove(t, rmFs(), owners, "/w", "4:/w", all...)
	checkRemove(t, rmFs(), mighty, "/w", "", append(all, "/w")...)
}

// steepFs has directories of 777, d ahead of a file f and behind a file a, each in
// the one ahead of it; the one at a depth may not be changed by strangers.
func steepFs(deep int, closed int) impl.Fs {
	d := newDraft()
	d.Nodes[0].Mode = 0o777
	dir := 0
	for i := range deep {
		if i > 0 {
			d.file(dir, "a")
			d.file(dir, "f")
		}
		dir = d.dir(dir, "d", 0o777)
		if i == closed {
			d.Nodes[dir].Mode = 0o755
		}
	}
	return d.Fs
}

func TestRemoveTreeWhereSomeStaysAtEveryDepth(t *testing.T) {
	const deep = 10
	for closed := range deep {
		f := steepFs(deep, closed)
		var ways, faults []string
		for i := deep; i > 0; i-- {
			dir := strings.Repeat("/d", i)
			if i < deep && i != closed+1 {
				ways = append(ways, dir+"/a", dir+"/f")
			}
			if i > closed+2 {
				ways = append(ways, dir)
			}
		}
		if dir := strings.Repeat("/d", closed+1); closed < deep-1 {
			faults = []string{"4:" + dir + "/a", "4:" + dir + "/d", "4:" + dir + "/f"}
		} else {
			ways = allNamesBelow("/d", deep)
		}
		checkRemove(t, f, guests, "/d", strings.Join(faults, " "), ways...)
		checkRemove(t, f, slices.Concat(owners, mighty), "/d", "", allNamesBelow("/d", deep)...)
	}
}

func allNamesBelow(name string, deep int) []string {
	var ways []string
	for i := deep; i > 0; i-- {
		dir := strings.Repeat(name, i)
		if i < deep {
			ways = append(ways, dir+"/a", dir+"/f")
		}
		ways = append(ways, dir)
	}
	return ways
}

// A fault keeps the path as it was asked for.
func TestRemoveTreeKeepsThePath(t *testing.T) {
	for _, path := range []string{"/w/own", "//w//own", "/w///own", "/w/./own", "/w/../w/own", "/w/own/../own", "/lw/own", "/lr/w/own", "/lr/lw/own", "/./lw/e/../own"} {
		checkRemove(t, rmFs(), guests, path, fmt.Sprintf("4:%[1]s/a 4:%[1]s/b 4:%[1]s/e", path), "/w/own/b/c", "/w/own/b/d")
	}
	for _, path := range []string{"/w/blind", "//w/blind", "/lw/blind", "/w/./blind"} {
		checkRemove(t, rmFs(), guests, path, "4:"+path)
	}
	for _, path := range []string{"//k", "/./k", "/w/../k", "/lr/k", "/lr//k"} {
		checkRemove(t, rmFs(), guests, path, "4:"+path)
		checkRemove(t, rmFs(), mighty, path, "", "/k")
	}
	for _, path := range []string{"//none", "/./none", "/lw/none", "/none/../x"} {
		checkRemoval(t, rmFs(), anyone, removal{[]string{path}, false, 70}, "2:"+path)
	}
}

func TestRemoveTreeThroughLinks(t *testing.T) {
	checkRemove(t, rmFs(), anyone, "/lw/h", "", "/w/h")
	checkRemove(t, rmFs(), anyone, "/lr/lw/void", "", "/w/void/b", "/w/void/d", "/w/void/s", "/w/void")
	checkRemove(t, rmFs(), anyone, "/lw/ld/a", "", "/w/all/a/t", "/w/all/a")
	checkRemove(t, rmFs(), anyone, "/w/ld/f", "", "/w/all/f")
	// One that a path ends in goes itself, and what it leads to stays.
	checkRemove(t, rmFs(), anyone, "/w/ld", "", "/w/ld")
	checkRemove(t, rmFs(), mighty, "/lr/lw", "", "/lw")
	checkRemove(t, rmFs(), mighty, "/lr/lr", "", "/lr")
	// One that is met below is not followed either.
	d := newDraft()
	d.dir(0, "keep", 0o777)
	dir := d.dir(0, "d", 0o777)
	d.file(1, "f")
	d.link(dir, "l", "../keep")
	d.link(dir, "no", "none")
	d.link(dir, "self", "self")
	d.link(dir, "up", "..")
	checkRemove(t, d.Fs, mighty, "/d", "", "/d/l", "/d/no", "/d/self", "/d/up", "/d")
}

// checkRefused asks for paths that have a code: a fault with it, and nothing goes.
// With force there is no fault for EcNone.
func checkRefused(t *testing.T, f impl.Fs, creds []impl.Cred, code int, paths ...string) {
	t.Helper()
	for _, path := range paths {
		told := path
		if path == "" {
			told = "."
		}
		want := fmt.Sprint(code, ":", told)
		checkRemoval(t, f, creds, removal{[]string{path}, false, 70}, want)
		checkRemoval(t, f, creds, removal{[]string{path, path}, false, 70}, want+" "+want)
		if code == impl.EcNone {
			want = ""
		}
		checkRemoval(t, f, creds, removal{[]string{path}, true, 70}, want)
	}
}

func TestRemoveTreeTellsTheCodeOfThePlace(t *testing.T) {
	checkRefused(t, lookFs(), someCreds, impl.EcPath, "", "/", "//", "/.", "/..", "/a/", "/a/.", "/a/..", "/a/b/", "/f/", "/la/", "/la/.", "/la/..", "/none/", "/none/.", "/none/..", "/self/", "/shut/.",
		".", "..", "a", "a/b", "./a", "f", "A", "/A", "/a b", "/a/\x00", "/\xff", "é", "/123456789", " /a", "/a\n", "/a/../.", longPath(61), strings.Repeat("/", 60), strings.Repeat("/", 61),
		"/12345678/12345678/12345678/12345678/12345678/12345678/123456", strings.Repeat("/a", 10000))
	checkRefused(t, lookFs(), someCreds, impl.EcNone, "/none", "/a/none", "/a/b/none", "/none/x", "/no/x", "/none/../x", "/in/x", "/la/none", "/lr/none", "/a/up/none", "/here/none", longPath(60))
	checkRefused(t, lookFs(), someCreds, impl.EcNoDir, "/f/x", "/f/none/x", "/lf/x", "/sl/x", "/a/b/g/x", "/a/f/x", "/f/../x")
	checkRefused(t, lookFs(), someCreds, impl.EcLoop, "/self/x", "/ping/x", "/pong/none/x", "/la/../self/x")
	checkRefused(t, lookFs(), []impl.Cred{owner, mate, other, {Uid: 99, Gid: 0}}, impl.EcMay, "/shut/x", "/shut/none", "/shut/x/none", "/ls/x", "/shut/../none/x")
	checkRefused(t, lookFs(), guests, impl.EcMay, "/own/f", "/own/none", "/own/f/x")
	checkRefused(t, hopsFs(), someCreds, impl.EcLoop, "/l9/f", "/l12/none", "/l8/h/f")
	checkRemove(t, hopsFs(), mighty, "/l8/f", "", "/d/f")
	checkRemove(t, hopsFs(), mighty, "/l7/h/f", "", "/d/f")
	// A name that is not there is told where the directory may not change, too.
	checkRefused(t, rmFs(), anyone, impl.EcNone, "/none", "/r/none", "/w/own/none", "/w/blind/none", "/r/e/none", "/w/none/none")
	checkRefused(t, rmFs(), guests, impl.EcMay, "/w/deaf/none", "/w/shut/none", "/w/shut/none/none")
}

func TestRemoveOfEveryTime(t *testing.T) {
	for _, n := range append([]int{999999, 1000000, 1000001, math.MinInt32, 1 << 32}, oddNumbers...) {
		for _, path := range []string{"/w/void", "/none", "", "/w/shut", "/w/h"} {
			for _, r := range []removal{{[]string{path}, true, n}, {[]string{path, path}, true, n}, {nil, true, n}} {
				g, faults, ok := r.told(rmFs(), other)
				if !within(n, 0, 1000000) {
					if ok || faults != nil || g.Nodes != nil || g.Room != 0 {
						t.Errorf("%+v: %v, %v, %t", r, g, faults, ok)
					}
					continue
				}
				want := 10 + rmOpen
				if len(r.paths) > 0 && (path == "/w/void" || path == "/w/h") {
					want = n
				}
				if !ok || g.Nodes[rmOpen].Time != want || g.Nodes[rmRoot].Time != 10 {
					t.Errorf("%+v: %v, %v, %t", r, g, faults, ok)
				}
			}
		}
	}
}

// The time of a directory changes just where a name of it goes.
func TestRemoveSetsTheTimesOfTheDirectories(t *testing.T) {
	f := rmFs()
	g, _, _ := impl.RemoveTree(f, other, "/w", false, 70)
	for node, n := range g.Nodes {
		want := 10 + node
		if slices.Contains([]int{rmOpen, rmOwnB}, node) {
			want = 70
		}
		if n.Kind != impl.KdFree && n.Time != want {
			t.Errorf("node %d: time %d instead of %d", node, n.Time, want)
		}
	}
	if g.Nodes[rmFile].Kind != impl.KdFile || g.Nodes[rmLink].Kind != impl.KdFree || g.Nodes[rmTwin].Kind != impl.KdFree {
		t.Error(g)
	}
}

func TestRemoveAll(t *testing.T) {
	check := func(creds []impl.Cred, force bool, paths []string, faults string, ways ...string) {
		t.Helper()
		checkRemoval(t, rmFs(), creds, removal{paths, force, 70}, faults, ways...)
	}
	both := func(creds []impl.Cred, paths []string, faults string, ways ...string) {
		t.Helper()
		check(creds, false, paths, faults, ways...)
		check(creds, true, paths, faults, ways...)
	}
	both(anyone, nil, "")
	both(anyone, []string{}, "")
	both(anyone, []string{"/w/h"}, "", "/w/h")
	both(anyone, []string{"/w/h", "/w/e"}, "", "/w/h", "/w/e")
	both(anyone, []string{"/w/void", "/w/f", "/w/all/a"}, "", "/w/void/b", "/w/void/d", "/w/void/s", "/w/void", "/w/f", "/w/all/a/t", "/w/all/a")
	// The same one twice, and by another path.
	check(anyone, false, []string{"/w/h", "/w/h"}, "2:/w/h", "/w/h")
	check(anyone, true, []string{"/w/h", "/w/h"}, "", "/w/h")
	check(anyone, false, []string{"/w/h", "/lw/h", "/w/e", "//w/h"}, "2:/lw/h 2://w/h", "/w/h", "/w/e")
	both(guests, []string{"/w/shut", "/w/shut"}, "4:/w/shut 4:/w/shut")
	both(guests, []string{"/w/own", "/w/own"}, "4:/w/own/a 4:/w/own/b 4:/w/own/e 4:/w/own/a 4:/w/own/b 4:/w/own/e", "/w/own/b/c", "/w/own/b/d")
	// One within another one, in both orders.
	both(anyone, []string{"/w/all/a", "/w/void/b", "/w/void"}, "", "/w/all/a/t", "/w/all/a", "/w/void/b", "/w/void/d", "/w/void/s", "/w/void")
	check(anyone, false, []string{"/w/void", "/w/void/b", "/w/void/b/c"}, "2:/w/void/b 2:/w/void/b/c", "/w/void/b", "/w/void/d", "/w/void/s", "/w/void")
	check(anyone, true, []string{"/w/void", "/w/void/b", "/w/void/b/c"}, "", "/w/void/b", "/w/void/d", "/w/void/s", "/w/void")
	both(guests, []string{"/w/own/b", "/w/own"}, "4:/w/own/b 4:/w/own/a 4:/w/own/b 4:/w/own/e", "/w/own/b/c", "/w/own/b/d")
	// What could not go by the first path goes when another one made it empty.
	both(guests, []string{"/w/blind", "/w/blind/x", "/w/blind"}, "4:/w/blind", "/w/blind/x", "/w/blind")
	// Several names of one file; where the last one goes, the node does.
	both(mighty, []string{"/w/f", "/w/g", "/k", "/w/all/f"}, "", "/w/f", "/w/g", "/k", "/w/all/f")
	both(mighty, []string{"/w/all", "/w/g", "/k"}, "", "/w/all/a/t", "/w/all/a", "/w/all/b/t", "/w/all/b", "/w/all/f", "/w/all/l", "/w/all/t", "/w/all", "/w/g", "/k")
	// A path may lead through what went ahead of it.
	check(mighty, false, []string{"/lw", "/lw/h", "/w/h"}, "2:/lw/h", "/lw", "/w/h")
	check(mighty, false, []string{"/lw/h", "/lw", "/lw/h"}, "2:/lw/h", "/w/h", "/lw")
	// All faults, in the order of the paths.
	check(guests, false, []string{"/w/shut", "/none", "", "/w/own", "/w/h/x", "/w/h", "/k", "/w/blind"},
		"4:/w/shut 2:/none 1:. 4:/w/own/a 4:/w/own/b 4:/w/own/e 3:/w/h/x 4:/k 4:/w/blind", "/w/own/b/c", "/w/own/b/d", "/w/h")
	check(guests, true, []string{"/w/shut", "/none", "", "/w/own", "/w/h/x", "/w/h", "/k", "/w/blind"},
		"4:/w/shut 1:. 4:/w/own/a 4:/w/own/b 4:/w/own/e 3:/w/h/x 4:/k 4:/w/blind", "/w/own/b/c", "/w/own/b/d", "/w/h")
}

func TestRemoveAllOfMaxPaths(t *testing.T) {
	ten := []string{"/w/e", "/w/f", "/w/g", "/w/h", "/w/l", "/w/ld", "/w/void/b", "/w/void/d", "/w/void/s", "/w/void"}
	for _, force := range []bool{false, true} {
		checkRemoval(t, rmFs(), anyone, removal{ten, force, 70}, "", ten...)
		for _, paths := range [][]string{append(ten[:10:10], "/w/own/b/c"), append(ten[:10:10], "/none"), append(ten[:10:10], ""), make([]string, 11), make([]string, 5000), slices.Repeat([]string{"/none"}, 11)} {
			if g, faults, ok := impl.RemoveAll(rmFs(), root, paths, force, 70); g.Nodes != nil || g.Room != 0 || faults != nil || ok {
				t.Errorf("%d paths: %v, %v, %t", len(paths), g, faults, ok)
			}
		}
	}
	checkRemoval(t, rmFs(), anyone, removal{make([]string, 10), true, 70}, strings.TrimSpace(strings.Repeat("1:. ", 10)))
	checkRemoval(t, rmFs(), anyone, removal{slices.Repeat([]string{"/w/h"}, 10), false, 70}, strings.TrimSpace(strings.Repeat("2:/w/h ", 9)), "/w/h")
}

// A leaving is what stays of a node, its ways with blanks between.
type leaving struct {
	node int
	left string
}

func checkLeft(t *testing.T, f impl.Fs, creds []impl.Cred, l ...leaving) {
	t.Helper()
	for _, c := range creds {
		for _, want := range l {
			if can, ok := impl.CanRemove(f, c, want.node); can != (want.left == "") || !ok {
				t.Errorf("%v, node %d: can %t, %t in %.500v", c, want.node, can, ok, f)
			}
			if left, ok := impl.LeftAfter(f, c, want.node); strings.Join(left, " ") != want.left || !ok {
				t.Errorf("%v, node %d: %q, %t instead of %q in %.500v", c, want.node, left, ok, want.left, f)
			}
		}
	}
}

func TestCanRemoveAndLeftAfter(t *testing.T) {
	for node := range rmFs().Nodes {
		if node != rmRoot && node != rmFree {
			checkLeft(t, rmFs(), mighty, leaving{node, ""})
		}
	}
	checkLeft(t, rmFs(), anyone,
		leaving{rmEmpty, ""}, leaving{rmSole, ""}, leaving{rmToAll, ""}, leaving{rmAll, ""}, leaving{rmA, ""}, leaving{rmB, ""}, leaving{rmInOwnB, ""}, leaving{rmDirInOwnB, ""},
		leaving{rmVoid, ""}, leaving{rmVoidB, ""}, leaving{rmVoidD, ""}, leaving{rmVoidS, ""}, leaving{rmInClosedE, ""}, leaving{rmInBlind, ""},
		// Of several names the first one is asked for; where it goes nothing is left by it.
		leaving{rmTwin, ""}, leaving{rmLink, ""},
		// The cred need not come to the directory of the name by any path.
		leaving{rmDeepInShut, ""})
	checkLeft(t, rmFs(), guests,
		leaving{rmOwn, ". a b e"}, leaving{rmOwnA, "."}, leaving{rmOwnB, "."}, leaving{rmOwnE, "."}, leaving{rmBlind, ". x"}, leaving{rmDeaf, ". x"}, leaving{rmInDeaf, "."},
		leaving{rmShut, ". x x/y"}, leaving{rmInShut, "."}, leaving{rmClosed, ". e f"}, leaving{rmClosedE, "."}, leaving{rmClosedF, "."},
		leaving{rmOpen, ". blind blind/x deaf deaf/x own own/a own/b own/e shut shut/x shut/x/y"})
	checkLeft(t, rmFs(), owners, leaving{rmOwn, ""}, leaving{rmBlind, ""}, leaving{rmDeaf, ""}, leaving{rmShut, ""}, leaving{rmInDeaf, ""}, leaving{rmInShut, ""}, leaving{rmClosedE, ""},
		leaving{rmClosedF, ""}, leaving{rmOpen, "."}, leaving{rmClosed, "."})
	// The first name of the file is in node 0, though others could go.
	checkLeft(t, rmFs(), slices.Concat(guests, owners), leaving{rmFile, "."}, leaving{rmToOpen, "."}, leaving{rmToRoot, "."})
}

// The first name is the one that is met first in WalkPre of node 0: neither the
// least name, nor the one nearest to node 0, nor that in the directory with the
// least number.
func TestCanRemoveGoesByTheFirstName(t *testing.T) {
	d := newDraft()
	const late, early, deep = 1, 2, 3
	d.dir(0, "m", 0o777)
	d.dir(0, "b", 0o777)
	d.dir(early, "z", 0o777)
	f := d.file(deep, "y")
	d.name(late, "a", f)
	d.name(0, "n", f)
	l := d.link(deep, "x", "y")
	d.name(early, "zz", l)
	d.name(late, "c", l)
	for _, closed := range []int{late, early} {
		g := copyOfFs(d.Fs)
		g.Nodes[closed].Mode = 0o555
		checkLeft(t, g, guests, leaving{f, ""}, leaving{l, ""})
	}
	d.Nodes[deep].Mode = 0o555
	checkLeft(t, d.Fs, guests, leaving{f, "."}, leaving{l, "."}, leaving{deep, ". x y"}, leaving{early, ". z z/x z/y"})
	d.name(early, "a", f)
	checkLeft(t, d.Fs, guests, leaving{f, ""}, leaving{l, "."}, leaving{early, ". z z/x z/y"})
	d.name(0, "a", l)
	checkLeft(t, d.Fs, guests, leaving{f, ""}, leaving{l, "."})
	d.Nodes[0].Mode = 0o777
	checkLeft(t, d.Fs, guests, leaving{f, ""}, leaving{l, ""})
}

func TestCanRemoveOfNodesThatHaveNoName(t *testing.T) {
	for _, node := range []int{rmRoot, rmFree, -1, rmToRoot + 1, 39, 40, math.MinInt, math.MaxInt} {
		for _, c := range anyone {
			if can, ok := impl.CanRemove(rmFs(), c, node); can || ok {
				t.Errorf("%v, node %d: %t, %t", c, node, can, ok)
			}
			if left, ok := impl.LeftAfter(rmFs(), c, node); left != nil || ok {
				t.Errorf("%v, node %d: %q, %t", c, node, left, ok)
			}
		}
	}
}

// Paths of entries may be longer than one that may be asked for.
func TestRemoveOfDeepDirectories(t *testing.T) {
	f := chainFs(40, "abcdefgh")
	for i := range f.Nodes {
		f.Nodes[i].Mode = 0o777
	}
	var ways []string
	for deep := 39; deep > 0; deep-- {
		ways = append(ways, strings.Repeat("/abcdefgh", deep))
	}
	checkRemove(t, f, someCreds, ways[38], "", ways...)
	checkRemove(t, f, someCreds, ways[33], "", ways[:34]...)
	checkRefused(t, f, someCreds, impl.EcPath, ways[32])
	checkLeft(t, f, someCreds, leaving{39, ""}, leaving{1, ""})
	f.Nodes[37].Mode = 0o555
	checkRemove(t, f, guests, ways[38], "4:"+ways[1], ways[0])
	checkLeft(t, f, guests, leaving{39, ""}, leaving{38, "."}, leaving{37, ". abcdefgh"}, leaving{36, ". abcdefgh abcdefgh/abcdefgh"})
	f.Nodes[38].Mode = 0o733
	checkRemove(t, f, guests, ways[38], "4:"+ways[1])
	checkLeft(t, f, guests, leaving{39, ""}, leaving{38, ". abcdefgh"})
}

// manyNames has a directory of 777, with 20000 names of two files that rise.
func manyNames() impl.Fs {
	d := newDraft()
	d.dir(0, "d", 0o777)
	d.Nodes = append(d.Nodes, impl.Node{Kind: impl.KdFile, Data: "x"}, impl.Node{Kind: impl.KdFile, Data: "y"})
	for i := range 20000 {
		name := string([]byte{'a' + byte(i/1000), '0' + byte(i/100%10), '0' + byte(i/10%10), '0' + byte(i%10)})
		d.Nodes[1].List = append(d.Nodes[1].List, impl.Entry{Name: name, Node: 2 + i%2})
	}
	return d.Fs
}

func TestRemoveOfManyNames(t *testing.T) {
	f := manyNames()
	g, faults, ok := impl.RemoveTree(f, root, "/d", false, 5)
	if want := (impl.Fs{Room: 1000, Nodes: []impl.Node{{Kind: impl.KdDir, Mode: 0o755, Time: 5}, {}, {}, {}}}); !impl.SameFs(g, want) || len(faults) != 0 || !ok {
		t.Errorf("%.500v, %d faults, %t", g, len(faults), ok)
	}
	g, faults, ok = impl.RemoveTree(f, other, "/d", false, 5)
	if len(g.Nodes[1].List) != 0 || g.Nodes[1].Time != 5 || g.Nodes[2].Kind != 0 || g.Nodes[3].Kind != 0 || faultsText(faults) != "4:/d" || !ok {
		t.Errorf("%.500v, %d faults, %t", g, len(faults), ok)
	}
	checkLeft(t, f, []impl.Cred{root}, leaving{1, ""}, leaving{2, ""})
	checkLeft(t, f, []impl.Cred{other}, leaving{1, "."}, leaving{3, ""})
	f.Nodes[1].Mode = 0o755
	g, faults, ok = impl.RemoveTree(f, other, "/d", false, 5)
	if !impl.SameFs(f, g) || len(faults) != 20000 || faults[0] != (impl.Fault{Path: "/d/a000", Code: 4}) || faults[19999] != (impl.Fault{Path: "/d/t999", Code: 4}) || !ok {
		t.Errorf("%.500v, %d faults, %t", g, len(faults), ok)
	}
	if left, ok := impl.LeftAfter(f, other, 1); len(left) != 20001 || !ok {
		t.Error(len(left), ok)
	}
}

func checkSorted(t *testing.T, l []impl.Fault, want string) {
	t.Helper()
	kept := slices.Clone(l)
	got, ok := impl.SortFaults(l)
	if faultsText(got) != want || !ok {
		t.Errorf("%.300v: %.300v, %t instead of %.300q", l, got, ok, want)
	}
	if !slices.Equal(l, kept) {
		t.Errorf("the argument is %.300v now, was %.300v", l, kept)
	}
	if again, ok := impl.SortFaults(got); !slices.Equal(again, got) || !ok {
		t.Errorf("sorted again: %.300v, %t instead of %.300v", again, ok, got)
	}
}

func TestSortFaults(t *testing.T) {
	a, b := aFault("/a", 4), aFault("/b", 4)
	checkSorted(t, nil, "")
	checkSorted(t, []impl.Fault{}, "")
	checkSorted(t, []impl.Fault{b}, "4:/b")
	checkSorted(t, []impl.Fault{a, b}, "4:/a 4:/b")
	checkSorted(t, []impl.Fault{b, a}, "4:/a 4:/b")
	checkSorted(t, []impl.Fault{b, b, b}, "4:/b")
	checkSorted(t, []impl.Fault{b, a, b, a, a}, "4:/a 4:/b")
	checkSorted(t, []impl.Fault{aFault("/a", 10), aFault("/a", 2), aFault("/a", 9), aFault("/a", 2)}, "2:/a 9:/a 10:/a")
	checkSorted(t, []impl.Fault{aFault("/b", 1), aFault("/a", 10), aFault("/b", 2), aFault("/a", 9), aFault("/b", 1)}, "9:/a 10:/a 1:/b 2:/b")
	// Paths are compared by their bytes, not part by part, nor by their lengths.
	checkSorted(t, []impl.Fault{aFault("/a/b", 1), aFault("/a.b", 1), aFault("/a", 1), aFault("/a-", 1), aFault("/aa", 1), aFault("/a/", 1), aFault("/_", 1), aFault("/0", 1), aFault(".", 1), aFault("/", 1)},
		"1:. 1:/ 1:/0 1:/_ 1:/a 1:/a- 1:/a.b 1:/a/ 1:/a/b 1:/aa")
	// Faults of all kinds are taken.
	checkSorted(t, []impl.Fault{aFault("\xff", 1), aFault("é", 1), aFault("Z", -1), aFault("", 0), aFault("Z", math.MaxInt), aFault("Z", math.MinInt), aFault("\x00", 11)},
		fmt.Sprintf("0: 11:\x00 %d:Z -1:Z %d:Z 1:é 1:\xff", math.MinInt, math.MaxInt))
}

func TestSortFaultsOfMax(t *testing.T) {
	for _, n := range []int{99, 100, 101, 102, 1000} {
		var mixed, alike []impl.Fault
		var want []string
		for i := range n {
			mixed = append(mixed, aFault(fmt.Sprintf("/%04d", i*7%n/2), 1+i*7%n%2))
			want = append(want, fmt.Sprintf("%d:/%04d", 1+i%2, i/2))
			alike = append(alike, aFault("/a", 4))
		}
		if n <= 100 {
			checkSorted(t, mixed, strings.Join(want, " "))
			checkSorted(t, alike, "4:/a")
			continue
		}
		for _, l := range [][]impl.Fault{mixed, alike} {
			if got, ok := impl.SortFaults(l); got != nil || ok {
				t.Errorf("%d faults: %v, %t", n, got, ok)
			}
		}
	}
}

func TestEverySortIsAsReadAgain(t *testing.T) {
	seed := 17
	next := func(n int) int { seed = (seed*1103515245 + 12345) % (1 << 31); return (seed >> 8) % n }
	for range 3000 {
		var l []impl.Fault
		set := map[impl.Fault]bool{}
		for range next(101) {
			fault := aFault([]string{"/", "/a", "/b", "/a/b", "/a/", ".", "", "/ab", "/b/a"}[next(9)], next(7))
			l = append(l, fault)
			set[fault] = true
		}
		want := slices.SortedFunc(maps.Keys(set), func(a, b impl.Fault) int {
			if a.Path != b.Path {
				return cmp.Compare(a.Path, b.Path)
			}
			return a.Code - b.Code
		})
		checkSorted(t, l, faultsText(want))
	}
}

// A name that is taken away, of a node, in a directory.
type taken struct {
	node, dir int
	name      string
}

// takeAgain is a second reading of what is taken away: it goes through all names
// below in the order of WalkPost, keeps the ways that stay, and asks of each node
// whether one that stays is right below it.
func (r *remade) takeAgain(top taken, path string, t int) ([]impl.Fault, bool) {
	seen := r.seenFrom(top.node)
	slices.SortFunc(seen, byPost)
	nodes, stays, above := map[string]int{}, map[string]bool{}, map[string]bool{}
	for _, m := range seen {
		nodes[wayOf(m)] = m.node
	}
	var faults []impl.Fault
	for _, m := range seen {
		at, told := taken{m.node, top.dir, top.name}, path
		dir := ""
		if last := len(m.names) - 1; last >= 0 {
			dir = wayOf(met{names: m.names[:last]})
			at.dir, at.name, told = nodes[dir], m.names[last], path+"/"+wayOf(m)
		}
		isSealed := r.isDir(m.node) && len(r.f.Nodes[m.node].List) > 0 && !r.may(m.node, 5)
		hasMore := above[wayOf(m)]
		switch {
		case isSealed, !hasMore && (!r.may(at.dir, 2) || !r.may(at.dir, 1)):
			faults = append(faults, impl.Fault{Path: told, Code: 4})
			fallthrough
		case hasMore:
			stays[wayOf(m)], above[dir] = true, true
		default:
			r.cut(at.dir, at.name, t)
		}
	}
	return faults, !stays["."]
}

func removeAgain(f impl.Fs, c impl.Cred, path string, force bool, t int) (impl.Fs, []impl.Fault) {
	r := newRemade(f, c)
	var at taken
	code := firstOf(r.place(path, &at.dir, &at.name), func() int { return codeIf(!r.there(&at.dir, &at.name), 2) })
	switch {
	case code == 2 && force:
		return r.fs(), nil
	case code != 0 && path == "":
		return r.fs(), []impl.Fault{{Path: ".", Code: code}}
	case code != 0:
		return r.fs(), []impl.Fault{{Path: path, Code: code}}
	}
	at.node = r.names[at.dir][at.name]
	faults, _ := r.takeAgain(at, path, t)
	return r.fs(), faults
}

func removeAllAgain(f impl.Fs, c impl.Cred, d removal) (impl.Fs, []impl.Fault) {
	f = copyOfFs(f)
	var all []impl.Fault
	for _, path := range d.paths {
		var faults []impl.Fault
		f, faults = removeAgain(f, c, path, d.force, d.time)
		all = append(all, faults...)
	}
	return f, all
}

// leftAgain takes a node that is used, but not 0.
func leftAgain(f impl.Fs, c impl.Cred, node int) (faults []impl.Fault, left string) {
	all := metBelow(f, 0)
	first := all[slices.IndexFunc(all, func(m met) bool { return m.node == node })]
	last := len(first.names) - 1
	dir := all[slices.IndexFunc(all, func(m met) bool { return slices.Equal(m.names, first.names[:last]) })].node
	r := newRemade(f, c)
	faults, went := r.takeAgain(taken{node, dir, first.names[last]}, "", 0)
	if !went {
		left = waysOf(metBelow(r.fs(), node))
	}
	return faults, left
}

// checkRemovedAgain holds an answer against the second reading.
func checkRemovedAgain(t *testing.T, f impl.Fs, c impl.Cred, d removal) (impl.Fs, []impl.Fault) {
	t.Helper()
	want, wantFaults := removeAllAgain(f, c, d)
	g, faults, ok := d.told(f, c)
	if !slices.Equal(faults, wantFaults) || !ok || !impl.SameFs(g, want) {
		t.Fatalf("%v, %+v: %v, %t instead of %v in\n%v:\n%v instead of\n%v", c, d, faults, ok, wantFaults, f, g, want)
	}
	if !isGoodByWays(g) || !impl.GoodFs(g) {
		t.Fatalf("%v, %+v: not good then: %v of %v", c, d, g, f)
	}
	return g, faults
}

// looseFs is a tangled file system of which more may be changed by all.
func looseFs(seed int) (impl.Fs, func(int) int) {
	f, next := tangledFs(seed)
	tight := next(3)
	for i := range f.Nodes {
		if f.Nodes[i].Kind == impl.KdDir && next(4) > tight {
			f.Nodes[i].Mode = []int{0o777, 0o777, 0o777, 0o775, 0o733, 0o766, 0o755}[next(7)]
		}
	}
	return f, next
}

func TestEveryRemovalInTheSamplesIsAsReadAgain(t *testing.T) {
	for _, f := range []impl.Fs{rmFs(), duFs(), makeFs(), lookFs(), walkFs(), sampleFs()} {
		ways, _, _ := waysToNodes(f)
		for _, path := range append(slices.Concat(ways...), "/", "", ".", "/none", "/none/x", "/a/", "/w/.", "/lw/own", "/lw/", "/la/b", "/la/none", "/self/x") {
			for _, c := range someCreds {
				checkRemovedAgain(t, f, c, removal{[]string{path}, false, 70})
				checkRemovedAgain(t, f, c, removal{[]string{path}, true, 70})
			}
		}
	}
}

func TestManyRemovalsAreAsReadAgain(t *testing.T) {
	clean, some, none, codes := 0, 0, 0, [11]int{}
	for seed := range 300 {
		f, next := looseFs(seed*6786797 + 3)
		ways, _, _ := waysToNodes(f)
		all := slices.Concat(ways...)
		for range 30 {
			var paths []string
			for range []int{1, 1, 1, 2, 3, next(11)}[next(6)] {
				if next(4) > 0 && len(all) > 0 {
					paths = append(paths, all[next(len(all))])
				} else {
					paths = append(paths, tangledPath(ways, next))
				}
			}
			c := someCreds[next(len(someCreds))]
			g, faults := checkRemovedAgain(t, f, c, removal{paths, next(2) == 0, next(1000001)})
			for _, fault := range faults {
				codes[fault.Code]++
			}
			switch same := impl.SameFs(f, g); {
			case len(faults) == 0:
				clean++
			case same:
				none++
			default:
				some++
			}
			// At times on goes what is left.
			if next(20) == 0 {
				f = g
				ways, _, _ = waysToNodes(f)
				all = slices.Concat(ways...)
			}
		}
	}
	if clean < 500 || some < 500 || none < 500 || codes[1] < 100 || codes[2] < 100 || codes[3] < 20 || codes[4] < 1000 || codes[5] < 5 {
		t.Error("hardly a tree was met", clean, some, none, codes)
	}
}

// eachNamed hands out each node that has a name of many good file systems, and some
// creds.
func eachNamed(use func(f impl.Fs, c impl.Cred, node int)) {
	each := func(f impl.Fs) {
		for node, n := range f.Nodes {
			if node == 0 || n.Kind == impl.KdFree {
				continue
			}
			for _, c := range someCreds {
				use(f, c, node)
			}
		}
	}
	for _, f := range []impl.Fs{rmFs(), duFs(), makeFs(), lookFs(), walkFs(), hopsFs(), attrFs(), sampleFs(), chainFs(40, "abcdefgh"), filesFs(16, 60, 1000)} {
		each(f)
	}
	for seed := range 120 {
		f, _ := looseFs(seed*8602813 + 29)
		each(f)
		g, _ := tangledFs(seed*15485867 + 5)
		each(g)
	}
}

func TestEveryLeavingIsAsReadAgain(t *testing.T) {
	all, some := 0, 0
	eachNamed(func(f impl.Fs, c impl.Cred, node int) {
		faults, want := leftAgain(f, c, node)
		if can, ok := impl.CanRemove(f, c, node); can != (len(faults) == 0) || !ok {
			t.Fatalf("%v, node %d: %t, %t, but %v in %v", c, node, can, ok, faults, f)
		}
		left, ok := impl.LeftAfter(f, c, node)
		if strings.Join(left, " ") != want || !ok {
			t.Fatalf("%v, node %d: %q, %t instead of %q in %v", c, node, left, ok, want, f)
		}
		was, _ := impl.WalkPre(f, node)
		switch len(left) {
		case 0, len(was):
			all++
		default:
			some++
		}
	})
	if all < 5000 || some < 200 {
		t.Error("hardly a tree was met", all, some)
	}
}

// Promise 9: nothing remains exactly if everything can be removed.
func TestNothingRemainsExactlyIfEverythingCanBeRemoved(t *testing.T) {
	can, cannot, byPath := 0, 0, 0
	eachNamed(func(f impl.Fs, c impl.Cred, node int) {
		is, isOk := impl.CanRemove(f, c, node)
		left, leftOk := impl.LeftAfter(f, c, node)
		if !isOk || !leftOk || is != (len(left) == 0) {
			t.Fatalf("%v, node %d: can %t, %t, but %q, %t is left in %v", c, node, is, isOk, left, leftOk, f)
		}
		if c.Uid == 0 && !is {
			t.Fatalf("%v, node %d: Uid 0 may not in %v", c, node, f)
		}
		if is {
			can++
		} else {
			cannot++
		}
		first := metBelow(f, 0)
		path := "/" + wayOf(first[slices.IndexFunc(first, func(m met) bool { return m.node == node })])
		dir, name, code, _ := impl.FindPlace(f, c, path)
		if code != impl.EcOk {
			return
		}
		byPath++
		g, faults, ok := impl.RemoveTree(f, c, path, false, 5)
		_, isThere := nodeIn(g, dir, name)
		if !ok || is != (len(faults) == 0) || is == isThere {
			t.Fatalf("%v, %q: can %t, but %v, %t, and there is %t in %v", c, path, is, faults, ok, isThere, g)
		}
		if isThere {
			if ways, _ := impl.WalkPre(g, node); !slices.Equal(ways, left) {
				t.Fatalf("%v, %q: %q is left, %q was told in %v", c, path, ways, left, f)
			}
		}
		checkOnlyBelow(t, f, g, path)
	})
	if can < 2000 || cannot < 2000 || byPath < 2000 {
		t.Error("hardly a tree was met", can, cannot, byPath)
	}
}

// checkOnlyBelow asks that all ways but those to a path and below it are as they
// were, and that no way is new.
func checkOnlyBelow(t *testing.T, f impl.Fs, g impl.Fs, path string) {
	t.Helper()
	was, _ := impl.WalkPre(f, 0)
	is, _ := impl.WalkPre(g, 0)
	isIn := func(way string) bool { return "/"+way == path || strings.HasPrefix("/"+way, path+"/") }
	left := map[string]bool{}
	for _, way := range is {
		left[way] = true
	}
	for _, way := range was {
		if !left[way] && !isIn(way) {
			t.Fatalf("%q: %q went, too, in %v", path, way, f)
		}
		delete(left, way)
	}
	if len(left) > 0 {
		t.Fatalf("%q: %v came in %v", path, left, f)
	}
}

// Who may all, and removes each entry of node 0, leaves node 0 alone.
func TestUidZeroRemovesAll(t *testing.T) {
	for seed := range 200 {
		f, _ := tangledFs(seed*9410839 + 2)
		names := []string{}
		for _, e := range f.Nodes[0].List {
			names = append(names, "/"+e.Name)
		}
		for at := 0; at < len(names); at += 10 {
			g, faults, ok := impl.RemoveAll(f, impl.Cred{Uid: 0, Gid: 7}, names[at:min(at+10, len(names))], false, 5)
			if len(faults) > 0 || !ok {
				t.Fatal(faults, ok, f)
			}
			f = g
		}
		want := impl.Fs{Room: f.Room, Nodes: make([]impl.Node, len(f.Nodes))}
		want.Nodes[0] = f.Nodes[0]
		want.Nodes[0].List = nil
		if !impl.SameFs(f, want) {
			t.Fatal(f)
		}
	}
}

// checkRmAnswers asks twice: the answers are those of the second reading where all
// is good, else zero values.
func checkRmAnswers(t *testing.T, f impl.Fs, creds []impl.Cred, paths []string) {
	t.Helper()
	good := isGoodByWays(f)
	for _, c := range creds {
		takes := good && within(c.Uid, 0, 99) && within(c.Gid, 0, 99)
		for i, path := range paths {
			for _, d := range []removal{{[]string{path}, i%2 == 0, 5}, {paths[max(0, i-9) : i+1], i%3 == 0, 1000000}, {[]string{path, path}, true, -1}, {[]string{path}, false, 1000001}} {
				var want impl.Fs
				var wantFaults []impl.Fault
				isTaken := takes && within(d.time, 0, 1000000)
				if isTaken {
					want, wantFaults = removeAllAgain(f, c, d)
				}
				for range 2 {
					if g, faults, ok := d.told(f, c); !slices.Equal(faults, wantFaults) || ok != isTaken || !impl.SameFs(g, want) {
						t.Fatalf("%v, %.200v: %.500v, %.200v, %t instead of %.500v, %.200v", c, d, g, faults, ok, want, wantFaults)
					}
				}
			}
		}
		for _, many := range [][]string{nil, {}, slices.Repeat([]string{"/"}, 10), slices.Repeat([]string{"/"}, 11), slices.Repeat([]string{""}, 100000)} {
			isTaken := takes && len(many) <= 10
			g, faults, ok := impl.RemoveAll(f, c, many, true, 0)
			if ok != isTaken || isTaken && (!impl.SameFs(f, g) || len(faults) != len(many)) || !isTaken && (faults != nil || g.Nodes != nil || g.Room != 0) {
				t.Fatalf("%v, %d paths: %.500v, %.200v, %t", c, len(many), g, faults, ok)
			}
		}
	}
}

func checkLeftAnswers(t *testing.T, f impl.Fs, creds []impl.Cred) {
	t.Helper()
	for _, c := range creds {
		for _, node := range oddNodes {
			takes := within(c.Uid, 0, 99) && within(c.Gid, 0, 99) && node != 0 && isUsed(f, node)
			isFree, want := false, ""
			if takes {
				var faults []impl.Fault
				faults, want = leftAgain(f, c, node)
				isFree = len(faults) == 0
			}
			for range 2 {
				can, ok := impl.CanRemove(f, c, node)
				left, leftOk := impl.LeftAfter(f, c, node)
				if can != isFree || ok != takes || strings.Join(left, " ") != want || leftOk != takes {
					t.Fatalf("%v, node %d: %t, %t and %q, %t in %.500v", c, node, can, ok, left, leftOk, f)
				}
			}
		}
	}
}

// Promise 19: every function answers at all arguments.
func TestRmFunctionsAnswerAtAllArguments(t *testing.T) {
	for _, f := range append(oddFs(), rmFs(), makeFs(), fullFs(40, 39), fullFs(40, 5)) {
		creds := []impl.Cred{root, other, {Uid: 100}, {Gid: -1}}
		checkRmAnswers(t, f, creds, lookPaths)
		checkLeftAnswers(t, f, creds)
	}
	for _, f := range []impl.Fs{sampleFs(), rmFs(), lookFs(), {}} {
		checkRmAnswers(t, f, oddCreds, append(lookPaths, oddTexts...))
		checkLeftAnswers(t, f, oddCreds)
	}
	checkRmAnswers(t, sampleFs(), []impl.Cred{root, owner}, longPaths()[:1000])
	for _, path := range oddTexts {
		for _, code := range oddNumbers {
			fault := aFault(path, code)
			if l, ok := impl.SortFaults([]impl.Fault{fault, fault}); !slices.Equal(l, []impl.Fault{fault}) || !ok {
				t.Errorf("%.70q, %d: %.200v, %t", path, code, l, ok)
			}
		}
	}
}

// Promise 19: no function changes an argument.
func TestRmFunctionsLeaveTheirArguments(t *testing.T) {
	for i, f := range append(oddFs(), rmFs(), makeFs(), lookFs(), fullFs(40, 5)) {
		plain := copyOfFs(f)
		isAsItWas := markBehind(&f)
		for at, path := range append(lookPaths, "/mark", "/w", "/w/all", "/w/own", "/r", "/lw/void", "/la/b", "/a/b") {
			kept := strings.Clone(path)
			paths := []string{path, "/mark", path, "/a", "/w/void", "/w"}
			few := paths[:1+at%5]
			keptPaths := slices.Clone(paths)
			for _, c := range []impl.Cred{root, other} {
				for _, d := range []removal{{few, false, 5}, {few, true, 5}, {[]string{path}, false, 5}} {
					g, faults, ok := d.told(f, c)
					want, wantFaults, wantOk := d.told(plain, c)
					if !impl.SameFs(g, want) || !slices.Equal(faults, wantFaults) || ok != wantOk {
						t.Errorf("file system %d, %.200q: what is behind a list counts", i, few)
					}
				}
			}
			if kept != path || !slices.Equal(paths, keptPaths) {
				t.Errorf("a path was changed: %.70q", kept)
			}
		}
		for node := -1; node <= 41; node++ {
			for _, c := range []impl.Cred{root, other} {
				can, ok := impl.CanRemove(f, c, node)
				left, leftOk := impl.LeftAfter(f, c, node)
				wantCan, wantOk := impl.CanRemove(plain, c, node)
				wantLeft, wantLeftOk := impl.LeftAfter(plain, c, node)
				if can != wantCan || ok != wantOk || !slices.Equal(left, wantLeft) || leftOk != wantLeftOk {
					t.Errorf("file system %d, node %d: what is behind a list counts", i, node)
				}
			}
		}
		if !isAsItWas() {
			t.Fatalf("file system %d was written to", i)
		}
	}
}

// What is written into an answer is seen in no other one, and in no argument.
func TestRmAnswersAreNewMemory(t *testing.T) {
	for _, paths := range [][]string{
		nil, {"/w/h"}, {"/w/f"}, {"/w/e"}, {"/w/all"}, {"/w/own"}, {"/w"}, {"/r"}, {"/none"}, {""}, {"/w/shut"}, {"/w/void", "/w/all", "/w/own"}, {"/w/f", "/w/g", "/k"}, {"/w/blind", "/w/blind/x", "/w/blind"},
	} {
		for _, c := range []impl.Cred{root, owner, other} {
			for _, force := range []bool{false, true} {
				checkNewMemory(t, rmFs(), c, removal{paths, force, 70})
				_, want := removeAllAgain(rmFs(), c, removal{paths, force, 70})
				_, faults, _ := removal{paths, force, 70}.told(rmFs(), c)
				fill(faults, aFault("written", 77))
				if _, again, _ := (removal{paths, force, 70}).told(rmFs(), c); !slices.Equal(again, want) {
					t.Errorf("%v, %q: %v instead of %v", c, paths, again, want)
				}
			}
		}
	}
	f := rmFs()
	isAsItWas := markBehind(&f)
	for node := range f.Nodes {
		left, _ := impl.LeftAfter(f, other, node)
		want := slices.Clone(left)
		fill(left, "written")
		if again, _ := impl.LeftAfter(f, other, node); !slices.Equal(again, want) {
			t.Errorf("node %d: %q instead of %q", node, again, want)
		}
	}
	if !isAsItWas() {
		t.Fatal("an answer has memory of the argument", f)
	}
}

func TestSortedFaultsAreNewMemory(t *testing.T) {
	for n := range 5 {
		l := []impl.Fault{aFault("/c", 3), aFault("/a", 1), aFault("/c", 3), aFault("/b", 2), aFault("behind", 77), aFault("behind", 77)}
		kept := slices.Clone(l)
		got, ok := impl.SortFaults(l[:n])
		if !slices.Equal(l, kept) || !ok || slices.Contains(got[:cap(got)], aFault("behind", 77)) {
			t.Errorf("%v of %v, %t", got[:cap(got)], l, ok)
		}
		fill(got, aFault("written", 77))
		if !slices.Equal(l, kept) {
			t.Errorf("the answer has memory of the argument, which is %v now", l)
		}
	}
}

// Nothing is kept from call to call: neither what went, nor what stayed.
func TestRemovingKeepsNothing(t *testing.T) {
	f := rmFs()
	before, faults := checkRemovedAgain(t, f, other, removal{[]string{"/w"}, false, 70})
	checkRemovedAgain(t, f, root, removal{[]string{"/w", "/r"}, false, 70})
	checkRemovedAgain(t, before, root, removal{[]string{"/w"}, false, 5})
	checkLeft(t, f, []impl.Cred{other}, leaving{rmOwn, ". a b e"})
	after, again := checkRemovedAgain(t, f, other, removal{[]string{"/w"}, false, 70})
	if !impl.SameFs(before, after) || !slices.Equal(faults, again) {
		t.Error(before, after, faults, again)
	}
	f.Nodes[rmOwn].Mode = 0o777
	checkLeft(t, f, []impl.Cred{other}, leaving{rmOwn, ""})
}
