package tests

import (
	"fmt"
	"math"
	pathpkg "path"
	"regexp"
	"slices"
	"strings"
	"testing"

	"loop.example/g00756/impl"
)

// The nodes of ownFs.
const (
	owRoot = iota
	owFree
	owTop
	owFile
	owAlien
	owEmpty
	owLink
	owAlienLink
	owSub
	owTwice
	owBlind
	owInBlind
	owDeaf
	owInDeaf
	owShut
	owInShut
	owVoid
	owVoidB
	owVoidD
	owVoidS
	owHall
	owInHall
	owToTop
	owToRoot
)

// ownFs has node 0 of 0:0, a free node 1, and, of 1:2 where nothing else is said:
//
//	/t (755)
//	/t/a (file, also /t/s/a and /k)   /t/b (file of 4:5, 600)   /t/e (700, without entries)
//	/t/l -> a (also /t/s/m)   /t/n -> none (of 4:5)
//	/t/s (755)   /t/s/c (file of 4:5, also /t/z)
//	/blind (733)   may be written and entered, but read by 1 alone   /blind/x (file)
//	/deaf (766)    may be read and written, but entered by 1 alone   /deaf/x (file)
//	/shut (700)    may be neither by others   /shut/x (file)
//	/void (755)   /void/b (733)  /void/d (766)  /void/s (700), all without entries
//	/hall (700, of 4:5)   /hall/x (file)
//	/lt -> t   /lr -> /   both of 0:0
func ownFs() impl.Fs {
	d := newDraft()
	d.Nodes = append(d.Nodes, impl.Node{})
	file := func(dir int, name string, uid, gid int) int {
		return d.add(dir, name, impl.Node{Kind: impl.KdFile, Mode: 0o640, Uid: uid, Gid: gid, Data: name})
	}
	top := d.dir(0, "t", 0o755)
	a := file(top, "a", 1, 2)
	file(top, "b", 4, 5)
	d.dir(top, "e", 0o700)
	link := d.add(top, "l", impl.Node{Kind: impl.KdLink, Uid: 1, Gid: 2, Data: "a"})
	d.add(top, "n", impl.Node{Kind: impl.KdLink, Mode: 0o777, Uid: 4, Gid: 5, Data: "none"})
	sub := d.dir(top, "s", 0o755)
	d.name(top, "z", file(sub, "c", 4, 5))
	d.name(0, "k", a)
	d.name(sub, "a", a)
	d.name(sub, "m", link)
	file(d.dir(0, "blind", 0o733), "x", 1, 2)
	file(d.dir(0, "deaf", 0o766), "x", 1, 2)
	file(d.dir(0, "shut", 0o700), "x", 1, 2)
	void := d.dir(0, "void", 0o755)
	d.dir(void, "b", 0o733)
	d.dir(void, "d", 0o766)
	d.dir(void, "s", 0o700)
	file(d.add(0, "hall", impl.Node{Kind: impl.KdDir, Mode: 0o700, Uid: 4, Gid: 5}), "x", 1, 2)
	d.link(0, "lt", "t")
	d.link(0, "lr", "/")
	for i := range d.Nodes {
		if i != owFree {
			d.Nodes[i].Time = 10 + i
		}
	}
	return d.Fs
}

var (
	inTop = []int{owTop, owFile, owAlien, owEmpty, owLink, owAlienLink, owSub, owTwice}
	inAll = append(inTop[:8:8], owRoot, owBlind, owInBlind, owDeaf, owInDeaf, owShut, owInShut, owVoid, owVoidB, owVoidD, owVoidS, owHall, owInHall, owToTop, owToRoot)
)

func TestOwnSampleIsGood(t *testing.T) {
	f := ownFs()
	if !isGoodByWays(f) || len(f.Nodes) != owToRoot+1 || len(inAll) != owToRoot || f.Nodes[owTwice].Data != "c" || f.Nodes[owAlienLink].Data != "none" || f.Nodes[owVoidS].Mode != 0o700 || f.Nodes[owInHall].Uid != 1 || f.Nodes[owToTop].Data != "t" {
		t.Error("the sample is not as said", f)
	}
}

// A chown is a call of OwnTree, a chmod one of ModeTree. The number of their faults
// stands where other calls have a code.
type chown struct {
	path     string
	uid, gid int
}

type chmod struct {
	path, how string
}

func (d chown) told(f impl.Fs, c impl.Cred) (impl.Fs, []impl.Fault, bool) {
	return impl.OwnTree(f, c, d.path, d.uid, d.gid)
}

func (d chmod) told(f impl.Fs, c impl.Cred) (impl.Fs, []impl.Fault, bool) {
	return impl.ModeTree(f, c, d.path, d.how)
}

func (d chown) on(f impl.Fs, c impl.Cred) (impl.Fs, int, bool) {
	g, faults, ok := d.told(f, c)
	return g, len(faults), ok
}

func (d chmod) on(f impl.Fs, c impl.Cred) (impl.Fs, int, bool) {
	g, faults, ok := d.told(f, c)
	return g, len(faults), ok
}

// change does by hand to a node what may be done to it.
func (d chown) change(n *impl.Node) {
	if d.uid != -1 {
		n.Uid = d.uid
	}
	if d.gid != -1 {
		n.Gid = d.gid
	}
}

func (d chmod) change(n *impl.Node) {
	text, _ := changeByText(textOfMode(n.Mode), d.how)
	n.Mode = modeOfText(text)
}

func modeOfText(text string) int {
	mode := 0
	for _, sign := range text {
		mode *= 2
		if sign != '-' {
			mode++
		}
	}
	return mode
}

// takes tells whether the rest of the arguments is as said.
func (d chown) takes() bool { return within(d.uid, -1, 99) && within(d.gid, -1, 99) }

func (d chmod) takes() bool { _, is := changeByText("---------", d.how); return is }

// mayBy tells whether a cred may do so to a node; skips, whether it stays without a
// fault.
func (d chown) mayBy(c impl.Cred, n impl.Node) bool {
	isSame := d.uid == -1 || d.uid == n.Uid
	return c.Uid == 0 || c.Uid == n.Uid && isSame && (d.gid == -1 || d.gid == n.Gid || d.gid == c.Gid)
}

func (d chmod) mayBy(c impl.Cred, n impl.Node) bool { return c.Uid == 0 || c.Uid == n.Uid }

func (d chown) skips(impl.Node) bool { return false }

func (d chmod) skips(n impl.Node) bool { return n.Kind == 3 }

func (d chown) from() string { return d.path }

func (d chmod) from() string { return d.path }

// A treeChange is a chown or a chmod.
type treeChange interface {
	call
	told(f impl.Fs, c impl.Cred) (impl.Fs, []impl.Fault, bool)
	change(n *impl.Node)
	takes() bool
	mayBy(c impl.Cred, n impl.Node) bool
	skips(n impl.Node) bool
	from() string
}

// checkTree asks for a change that these nodes have then, beside these faults.
func checkTree(t *testing.T, f impl.Fs, creds []impl.Cred, d treeChange, faults string, nodes ...int) {
	t.Helper()
	want := copyOfFs(f)
	for _, node := range nodes {
		d.change(&want.Nodes[node])
	}
	for _, c := range creds {
		g, l, ok := d.told(f, c)
		if got := faultsText(l); got != faults || !ok || !impl.SameFs(g, want) {
			t.Errorf("%v, %+v: %q, %t instead of %q, with\n%v instead of\n%v", c, d, got, ok, faults, g, want)
		}
		if !isGoodByWays(g) {
			t.Errorf("%v, %+v: the file system then is not good: %v", c, d, g)
		}
	}
}

// notLinks leaves out what ModeTree passes over.
func notLinks(f impl.Fs, nodes []int) []int {
	return slices.DeleteFunc(slices.Clone(nodes), func(node int) bool { return f.Nodes[node].Kind == impl.KdLink })
}

// treesOf has what lies below paths in ownFs, for those who may look into all.
func treesOf() map[string][]int {
	sub := []int{owSub, owFile, owTwice, owLink}
	return map[string][]int{
		"/t/a": {owFile}, "/k": {owFile}, "/t/s/a": {owFile}, "/t/b": {owAlien}, "/t/z": {owTwice}, "/lt/s/c": {owTwice}, "/lr/lt/b": {owAlien}, "//t//a": {owFile}, "/t/./s/../a": {owFile},
		// A link that a path ends in is met itself, wherever it leads to.
		"/t/l": {owLink}, "/t/s/m": {owLink}, "/t/n": {owAlienLink}, "/lt": {owToTop}, "/lr": {owToRoot}, "/lr/lt": {owToTop}, "/lt/n": {owAlienLink},
		"/t/e": {owEmpty}, "/t/e/": {owEmpty}, "/lt/e/.": {owEmpty}, "/void": {owVoid, owVoidB, owVoidD, owVoidS}, "/void/s": {owVoidS}, "/hall": {owHall, owInHall}, "/shut": {owShut, owInShut},
		"/t/s": sub, "/t/s/": sub, "/lt/s": sub, "/t/e/../s": sub, "/t/s/.": sub,
		"/t": inTop, "/t/": inTop, "/t//": inTop, "//t": inTop, "/./t": inTop, "/t/.": inTop, "/t/s/..": inTop, "/lt/": inTop, "/lt/.": inTop, "/lt/s/..": inTop, "/lr/t": inTop, "/lr/lt/": inTop,
		"/": inAll, "//": inAll, "/.": inAll, "/..": inAll, "/t/..": inAll, "/lr/": inAll, "/lr/.": inAll, "/lr/lr/": inAll, "/t/s/../..": inAll, strings.Repeat("/", 60): inAll,
	}
}

func TestOwnTreeByUidZero(t *testing.T) {
	ids := []int{-1, 0, 1, 4, 42, 99}
	for path, nodes := range treesOf() {
		for _, uid := range ids {
			for _, gid := range ids {
				checkTree(t, ownFs(), mighty, chown{path, uid, gid}, "", nodes...)
			}
		}
	}
}

// Of a node all stays but the owner and the group; none of the bits goes.
func TestOwnTreeLeavesTheBits(t *testing.T) {
	for mode := range 512 {
		f := ownFs()
		for _, node := range inAll {
			f.Nodes[node].Mode = mode
		}
		checkTree(t, f, mighty, chown{"/", 7, 8}, "", inAll...)
		checkTree(t, f, mighty, chown{"/t/a", -1, 8}, "", owFile)
		checkTree(t, f, mighty, chown{"/k", 7, -1}, "", owFile)
	}
}

const (
	faultsOfTopForOwners = "4:/t/b 4:/t/n 4:/t/s/c 4:/t/z"
	faultsOfTopForOther  = "4:/t 4:/t/a 4:/t/e 4:/t/e 4:/t/l 4:/t/s 4:/t/s/a 4:/t/s/m"
	// Of /t/e is told that it may not be given, and then that it may not be looked into.
	faultsOfTopForStrangers = "4:/t 4:/t/a 4:/t/b 4:/t/e 4:/t/e 4:/t/l 4:/t/n 4:/t/s 4:/t/s/a 4:/t/s/c 4:/t/s/m 4:/t/z"
)

var ofOne = []int{owTop, owFile, owEmpty, owLink, owSub}

func TestOwnTreeByTheOwner(t *testing.T) {
	away := []impl.Cred{{Uid: 1, Gid: 77}}
	for path, nodes := range treesOf() {
		if len(nodes) == 1 && slices.Contains(ofOne, nodes[0]) {
			// To the group of the cred, the node's, and another one.
			checkTree(t, ownFs(), away, chown{path, -1, 77}, "", nodes...)
			checkTree(t, ownFs(), away, chown{path, 1, 77}, "", nodes...)
			checkTree(t, ownFs(), owners, chown{path, -1, 2}, "")
			checkTree(t, ownFs(), owners, chown{path, 1, -1}, "")
			checkTree(t, ownFs(), owners, chown{path, -1, -1}, "")
			checkTree(t, ownFs(), owners, chown{path, -1, 76}, "4:"+path)
			checkTree(t, ownFs(), owners[:1], chown{path, -1, 77}, "4:"+path)
			// To another owner never, not even with its own group.
			for _, uid := range []int{0, 2, 4, 99} {
				checkTree(t, ownFs(), owners, chown{path, uid, -1}, "4:"+path)
				checkTree(t, ownFs(), owners, chown{path, uid, 2}, "4:"+path)
			}
		}
	}
	checkTree(t, ownFs(), away, chown{"/t", -1, 77}, faultsOfTopForOwners, ofOne...)
	checkTree(t, ownFs(), away, chown{"/t", 1, 77}, faultsOfTopForOwners, ofOne...)
	checkTree(t, ownFs(), owners, chown{"/t", -1, -1}, faultsOfTopForOwners)
	checkTree(t, ownFs(), owners, chown{"/t", 1, 2}, faultsOfTopForOwners)
	checkTree(t, ownFs(), owners, chown{"/t", 4, -1}, strings.Replace(faultsOfTopForStrangers, "4:/t/e 4:/t/e", "4:/t/e", 1))
	checkTree(t, ownFs(), away, chown{"/", -1, 77},
		"4:/ 4:/hall 4:/hall 4:/lr 4:/lt "+faultsOfTopForOwners, append(ofOne[:5:5], owBlind, owInBlind, owDeaf, owInDeaf, owShut, owInShut, owVoid, owVoidB, owVoidD, owVoidS)...)
	// What is below a directory of others is given, where it may be looked into.
	f := ownFs()
	f.Nodes[owHall].Mode = 0o705
	checkTree(t, f, away, chown{"/hall", -1, 77}, "4:/hall", owInHall)
	f.Nodes[owHall].Mode = 0o770
	checkTree(t, f, away, chown{"/hall", -1, 77}, "4:/hall 4:/hall")
}

// To be of the group that a node has, or is to have, is not enough.
func TestOwnTreeByOthers(t *testing.T) {
	for _, c := range []impl.Cred{mate, {Uid: 99, Gid: 0}, {Uid: 2, Gid: 1}} {
		for _, ids := range [][2]int{{-1, -1}, {c.Uid, -1}, {-1, c.Gid}, {c.Uid, c.Gid}, {1, 2}, {0, 0}, {99, 99}} {
			checkTree(t, ownFs(), []impl.Cred{c}, chown{"/t", ids[0], ids[1]}, faultsOfTopForStrangers)
			checkTree(t, ownFs(), []impl.Cred{c}, chown{"/k", ids[0], ids[1]}, "4:/k")
			checkTree(t, ownFs(), []impl.Cred{c}, chown{"/lt", ids[0], ids[1]}, "4:/lt")
		}
	}
	away := []impl.Cred{{Uid: 4, Gid: 77}}
	checkTree(t, ownFs(), away, chown{"/t", -1, 77}, faultsOfTopForOther, owAlien, owAlienLink, owTwice)
	checkTree(t, ownFs(), away, chown{"/t", 4, 77}, faultsOfTopForOther, owAlien, owAlienLink, owTwice)
	checkTree(t, ownFs(), away, chown{"/t/s", -1, 77}, "4:/t/s 4:/t/s/a 4:/t/s/m", owTwice)
	checkTree(t, ownFs(), away, chown{"/hall", -1, 77}, "4:/hall/x", owHall)
	checkTree(t, ownFs(), []impl.Cred{other}, chown{"/t/z", -1, 5}, "", owTwice)
	checkTree(t, ownFs(), []impl.Cred{other}, chown{"/t/z", -1, 6}, "4:/t/z")
}

// One node, for each cred, each owner, and each to whom it is to be given, of few
// ids: as SetOwner has it.
func TestOwnTreeOfOneNodeIsSetOwner(t *testing.T) {
	ids := []int{0, 1, 2, 99}
	given := append([]int{-1}, ids...)
	for _, kind := range []impl.Node{{Kind: impl.KdDir, Mode: 0o707}, {Kind: impl.KdFile, Data: "x"}, {Kind: impl.KdLink, Data: "/"}} {
		d := newDraft()
		node := d.add(0, "x", kind)
		for code := range 4 * 4 * 4 * 4 {
			c, n := impl.Cred{Uid: ids[code%4], Gid: ids[code/4%4]}, &d.Nodes[node]
			n.Uid, n.Gid, n.Mode = ids[code/16%4], ids[code/64], 0o777
			for _, uid := range given {
				for _, gid := range given {
					want, wantCode, _ := impl.SetOwner(d.Fs, c, "/x", uid, gid, false)
					faults := ""
					if wantCode != impl.EcOk {
						faults = fmt.Sprint(wantCode, ":/x")
					}
					if g, l, ok := impl.OwnTree(d.Fs, c, "/x", uid, gid); faultsText(l) != faults || !ok || !impl.SameFs(g, want) {
						t.Fatalf("%v, of %d:%d to %d:%d: %v, %t instead of %q, with %v", c, n.Uid, n.Gid, uid, gid, l, ok, faults, g)
					}
				}
			}
		}
	}
}

// A file with several names is met by each of them: by each it is given, or by none.
func TestChangesOfFilesWithSeveralNames(t *testing.T) {
	d := newDraft()
	d.Nodes[0].Mode = 0o777
	a := d.add(d.dir(0, "a", 0o777), "f", impl.Node{Kind: impl.KdFile, Mode: 0o600, Uid: 1, Gid: 2})
	d.name(1, "g", a)
	d.name(d.dir(1, "h", 0o777), "f", a)
	d.name(0, "out", a)
	d.name(1, "k", d.add(1, "i", impl.Node{Kind: impl.KdLink, Uid: 4, Gid: 5, Data: "f"}))
	away := []impl.Cred{{Uid: 1, Gid: 77}}
	const all = "4:/a 4:/a/f 4:/a/g 4:/a/h 4:/a/h/f 4:/a/i 4:/a/k"
	checkTree(t, d.Fs, mighty, chown{"/a", 4, 5}, "", 1, 2, 3, 4)
	checkTree(t, d.Fs, mighty, chmod{"/a", "a+x"}, "", 1, 2, 3)
	// Once given to the group of the cred, it may be given to that again.
	checkTree(t, d.Fs, away, chown{"/a", -1, 77}, "4:/a/i 4:/a/k", 1, 2, 3)
	checkTree(t, d.Fs, away, chown{"/a", -1, 76}, all)
	checkTree(t, d.Fs, away, chown{"/a", 4, 77}, all)
	checkTree(t, d.Fs, away, chmod{"/a", "a+x"}, "", 1, 2, 3)
	checkTree(t, d.Fs, away, chmod{"/a", "u-rwx"}, "", 1, 2, 3)
	checkTree(t, d.Fs, []impl.Cred{other}, chown{"/a", 4, 5}, "4:/a 4:/a/f 4:/a/g 4:/a/h 4:/a/h/f")
	checkTree(t, d.Fs, []impl.Cred{other}, chmod{"/a", "a=r"}, "4:/a 4:/a/f 4:/a/g 4:/a/h 4:/a/h/f")
	// What was given away may not be taken back, not even to the group that it had.
	g, _, _ := impl.OwnTree(d.Fs, away[0], "/a", -1, 77)
	checkTree(t, g, away, chown{"/a", -1, 77}, "4:/a/i 4:/a/k")
	checkTree(t, g, away, chown{"/a", -1, 2}, all)
	g, _, _ = impl.OwnTree(d.Fs, root, "/a/h/f", 4, -1)
	checkTree(t, g, owners, chown{"/a", 1, 2}, "4:/a/f 4:/a/g 4:/a/h/f 4:/a/i 4:/a/k")
	checkTree(t, g, owners, chmod{"/a", "a+x"}, "4:/a/f 4:/a/g 4:/a/h/f", 1, 3)
	checkFound(t, d.Fs, anyone, finding{"/a", "?", "", "/a /a/f /a/g /a/h /a/h/f /a/i /a/k"}, finding{"/", "f", "", "/a/f /a/h/f"}, finding{"/", "out", "", "/out"})
	checkOwned(t, d.Fs, 0, 1, "a a/f a/g a/h a/h/f out")
}

// A directory that may not be looked into is given, where it may be, but nothing in
// it is. It is a fault even where nothing is in it.
func TestChangesOfDirectoriesThatMayNotBeLookedInto(t *testing.T) {
	for mode := range 512 {
		f := ownFs()
		for _, node := range []int{owShut, owVoidS} {
			f.Nodes[node].Mode = mode
		}
		for i, c := range []impl.Cred{owner, mate, other, root} {
			as, isOwn, mayLook := []impl.Cred{c}, i == 0 || i == 3, bitsFor(mode, i)&5 == 5
			full, empty := []string{}, []string{}
			if !isOwn {
				full, empty = append(full, "4:/shut"), append(empty, "4:/void/s")
			}
			switch {
			case !mayLook:
				full, empty = append(full, "4:/shut"), append(empty, "4:/void/s")
			case !isOwn:
				full = append(full, "4:/shut/x")
			}
			var nodes, alone []int
			if isOwn {
				nodes, alone = []int{owShut}, []int{owVoidS}
				if mayLook {
					nodes = append(nodes, owInShut)
				}
			}
			told, toldAlone := strings.Join(full, " "), strings.Join(empty, " ")
			gid := c.Gid
			checkTree(t, f, as, chown{"/shut", -1, gid}, told, nodes...)
			checkTree(t, f, as, chown{"/void/s", -1, gid}, toldAlone, alone...)
			for _, how := range []string{"u-rwx", "a+rwx", "u=", "a-x", "u+rx"} {
				checkTree(t, f, as, chmod{"/shut", how}, told, nodes...)
				checkTree(t, f, as, chmod{"/void/s", how}, toldAlone, alone...)
			}
			ways, faults := "/shut/x", ""
			if !mayLook {
				ways, faults = "", "4:/shut"
			}
			checkFound(t, f, as, finding{"/shut", "x", faults, ways}, finding{"/shut", "sh*", faults, "/shut"})
		}
	}
	checkTree(t, ownFs(), guests, chown{"/void", -1, -1}, "4:/void 4:/void/b 4:/void/b 4:/void/d 4:/void/d 4:/void/s 4:/void/s")
	checkTree(t, ownFs(), guests, chown{"/blind", -1, -1}, "4:/blind 4:/blind")
	checkTree(t, ownFs(), guests, chown{"/deaf/", -1, -1}, "4:/deaf/ 4:/deaf/")
	checkTree(t, ownFs(), guests, chown{"/blind/x", -1, -1}, "4:/blind/x")
	checkTree(t, ownFs(), guests, chmod{"/void", "a+rwx"}, "4:/void 4:/void/b 4:/void/b 4:/void/d 4:/void/d 4:/void/s 4:/void/s")
}

// Whether a directory may be looked into is asked of what it was ahead of all.
func TestChangesNeitherOpenNorShutTheWay(t *testing.T) {
	// What the change shuts is gone through still.
	for _, how := range []string{"a-x", "u-r", "u-rx", "a=", "u=w", "a-rwx", "u-x"} {
		checkTree(t, ownFs(), owners, chmod{"/t", how}, "4:/t/b 4:/t/s/c 4:/t/z", owTop, owFile, owEmpty, owSub)
		checkTree(t, ownFs(), owners, chmod{"/t/s/..", how}, "4:/t/s/../b 4:/t/s/../s/c 4:/t/s/../z", owTop, owFile, owEmpty, owSub)
		checkTree(t, ownFs(), mighty, chmod{"/", how}, "", notLinks(ownFs(), inAll)...)
	}
	// What the change opens is not gone through, but is where it is asked for again.
	for _, how := range []string{"u+rx", "u=rwx", "a+rwx"} {
		for _, mode := range []int{0, 0o077, 0o200, 0o400, 0o100, 0o600, 0o300} {
			f := ownFs()
			f.Nodes[owShut].Mode = mode
			checkTree(t, f, owners, chmod{"/shut", how}, "4:/shut", owShut)
			g, _, _ := impl.ModeTree(f, owner, "/shut", how)
			checkTree(t, g, owners, chmod{"/shut", how}, "", owShut, owInShut)
		}
	}
	d := openChainFs(40)
	for i := range d.Nodes {
		d.Nodes[i].Uid = 1
	}
	all := nodesFrom(0, 40)
	checkTree(t, d, owners, chmod{"/", "a="}, "", all...)
	d.Nodes[30].Mode = 0o077
	checkTree(t, d, owners, chmod{"/", "a=rwx"}, "4:"+strings.Repeat("/abcdefgh", 30), all[:31]...)
	// Nor does one who is given a directory look into it then, nor one of its group.
	f := ownFs()
	f.Nodes[owShut].Mode, f.Nodes[owShut].Gid = 0o070, 9
	checkTree(t, f, owners, chown{"/shut", -1, -1}, "4:/shut", owShut)
	checkTree(t, f, []impl.Cred{{Uid: 1, Gid: 9}}, chown{"/shut", 1, 9}, "4:/shut", owShut)
}

func nodesFrom(first int, till int) []int {
	var all []int
	for node := first; node < till; node++ {
		all = append(all, node)
	}
	return all
}

// The path of a fault, and one that is found, goes on from the path that was asked
// for.
func TestGoingThroughKeepsThePath(t *testing.T) {
	for path, nodes := range treesOf() {
		if len(nodes) != len(inTop) {
			continue
		}
		// All slashes but the last one stay.
		in := strings.TrimSuffix(path, "/")
		checkTree(t, ownFs(), []impl.Cred{mate}, chown{path, -1, -1}, strings.ReplaceAll(strings.ReplaceAll(faultsOfTopForStrangers, "/t/", in+"/"), "4:/t ", "4:"+path+" "))
		checkTree(t, ownFs(), []impl.Cred{mate}, chmod{path, "a+x"},
			fmt.Sprintf("4:%[2]s 4:%[1]s/a 4:%[1]s/b 4:%[1]s/e 4:%[1]s/e 4:%[1]s/s 4:%[1]s/s/a 4:%[1]s/s/c 4:%[1]s/z", in, path))
		checkFound(t, ownFs(), owners, finding{path, "*", "", fmt.Sprintf("%[2]s %[1]s/a %[1]s/b %[1]s/e %[1]s/l %[1]s/n %[1]s/s %[1]s/s/a %[1]s/s/c %[1]s/s/m %[1]s/z", in, path)})
	}
	for _, path := range []string{"/shut", "/shut/", "/shut//", "//shut", "/t/../shut", "/lr/shut/"} {
		checkTree(t, ownFs(), guests, chown{path, -1, -1}, "4:"+path+" 4:"+path)
		checkTree(t, ownFs(), guests, chmod{path, "a+x"}, "4:"+path+" 4:"+path)
		checkFound(t, ownFs(), guests, finding{path, "shut", "4:" + path, path}, finding{path, "x", "4:" + path, ""})
	}
}

// checkNoTree asks for paths that have a code: a fault with it alone, and all stays.
func checkNoTree(t *testing.T, f impl.Fs, creds []impl.Cred, code int, paths ...string) {
	t.Helper()
	for _, path := range paths {
		told := path
		if path == "" {
			told = "."
		}
		want := fmt.Sprint(code, ":", told)
		for _, d := range []treeChange{chown{path, -1, -1}, chown{path, 7, 8}, chown{path, 1, 2}, chmod{path, "a+rwx"}, chmod{path, "u="}, chmod{path, "g-"}} {
			checkTree(t, f, creds, d, want)
		}
		checkFound(t, f, creds, finding{path, "*", want, ""}, finding{path, "a", want, ""})
	}
}

func TestGoingThroughTellsTheCodeOfThePath(t *testing.T) {
	f := lookFs()
	checkNoTree(t, f, someCreds, impl.EcPath, "", "a", ".", "..", "a/b", "./a", "A", "/A", "/\x00", "\xff", "/é", "/a b", "/a\n", "/123456789", longPath(61), strings.Repeat("/", 61), strings.Repeat("/a", 10000))
	checkNoTree(t, f, someCreds, impl.EcNone, "/none", "/none/", "/none/x", "/a/none", "/no/", "/no/x", "/none/..", "/la/none", longPath(60))
	checkNoTree(t, f, someCreds, impl.EcNoDir, "/f/", "/f/x", "/f/.", "/f/..", "/lf/", "/sl/", "/a/f/..", "/a/b/g/")
	checkNoTree(t, f, someCreds, impl.EcLoop, "/self/", "/self/x", "/ping/x", "/pong/.")
	checkNoTree(t, f, []impl.Cred{owner, mate, other}, impl.EcMay, "/shut/x", "/shut/none", "/shut/.", "/shut/..", "/ls/")
	checkNoTree(t, f, guests, impl.EcMay, "/own/f", "/own/none", "/own/.")
	checkNoTree(t, hopsFs(), someCreds, impl.EcLoop, "/l9/f", "/l9/", "/l8/h/")
	// Without follow a link that leads nowhere is one that is there.
	for path, node := range map[string]int{"/no": ndNowhere, "/self": ndSelf, "/ls": ndToShut, "/a/up": ndUp, "/sl": ndSlash} {
		checkTree(t, f, mighty, chown{path, 7, 8}, "", node)
		checkTree(t, f, someCreds, chmod{path, "a+rwx"}, "")
		checkFound(t, f, someCreds, finding{path, "*", "", path})
	}
	checkTree(t, hopsFs(), mighty, chown{"/l9", 7, 8}, "", 13)
	checkTree(t, hopsFs(), mighty, chown{"/l8/f", 7, 8}, "", 2)
}

func TestModeTree(t *testing.T) {
	for path, nodes := range treesOf() {
		for _, how := range []string{"a+rwx", "u=", "go-r", "o=x", "ug+", "a-wx", "ugoa=rwx"} {
			checkTree(t, ownFs(), mighty, chmod{path, how}, "", notLinks(ownFs(), nodes)...)
		}
	}
	for _, how := range []string{"a+rwx", "u=rwx", "go-r", "o+x", "a-w", "u+", "g=", "u-x"} {
		checkTree(t, ownFs(), owners, chmod{"/t", how}, "4:/t/b 4:/t/s/c 4:/t/z", owTop, owFile, owEmpty, owSub)
		checkTree(t, ownFs(), owners, chmod{"/t/b", how}, "4:/t/b")
		checkTree(t, ownFs(), owners, chmod{"/k", how}, "", owFile)
		checkTree(t, ownFs(), owners, chmod{"/hall", how}, "4:/hall 4:/hall")
		checkTree(t, ownFs(), owners, chmod{"/shut", how}, "", owShut, owInShut)
		checkTree(t, ownFs(), []impl.Cred{other}, chmod{"/t", how}, "4:/t 4:/t/a 4:/t/e 4:/t/e 4:/t/s 4:/t/s/a", owAlien, owTwice)
		checkTree(t, ownFs(), []impl.Cred{other}, chmod{"/hall", how}, "4:/hall/x", owHall)
		checkTree(t, ownFs(), []impl.Cred{mate, {Uid: 99, Gid: 0}}, chmod{"/t", how}, "4:/t 4:/t/a 4:/t/b 4:/t/e 4:/t/e 4:/t/s 4:/t/s/a 4:/t/s/c 4:/t/z")
		// Links stay, without a fault, for those who own them and for those who do not.
		for _, link := range []string{"/t/l", "/t/n", "/lt", "/lr", "/t/s/m", "/lt/n"} {
			checkTree(t, ownFs(), anyone, chmod{link, how}, "")
		}
		f := ownFs()
		for _, node := range []int{owLink, owAlienLink} {
			f.Nodes[node].Mode = 0o421
		}
		checkTree(t, f, mighty, chmod{"/t", how}, "", owTop, owFile, owAlien, owEmpty, owSub, owTwice)
	}
}

// Every text that ChangeMode takes, at a few modes each.
func TestModeTreeOfEveryText(t *testing.T) {
	f := ownFs()
	at := 0
	for who := 1; who < 16; who++ {
		for what := 0; what < 8; what++ {
			for _, sign := range "+-=" {
				how := lettersOf("ugoa", who) + string(sign) + lettersOf("rwx", what)
				for _, node := range inAll {
					f.Nodes[node].Mode = at % 512
					at += 37
				}
				checkTree(t, f, mighty, chmod{"/", how}, "", notLinks(f, inAll)...)
			}
		}
	}
	for mode := range 512 {
		f.Nodes[owFile].Mode = mode
		for _, how := range []string{"u+x", "g-w", "o=r", "a+r", "ug=wx", "a=", "o-"} {
			checkTree(t, f, owners, chmod{"/k", how}, "", owFile)
		}
	}
}

func TestModeTreeRefusesOtherTexts(t *testing.T) {
	bad := append([]string{"u+x,g+x", "u+x ", " u+x", "ux", "+x", "uu+x", "u+xx", "u=+", "755", "u+s", "a+X", "=", "ugo", "u+x\n"}, oddTexts...)
	for _, how := range bad {
		if (chmod{"/", how}).takes() {
			continue
		}
		for _, path := range []string{"/", "/t", "/t/l", "/none", "", "/k"} {
			for _, c := range anyone {
				if g, faults, ok := impl.ModeTree(ownFs(), c, path, how); g.Nodes != nil || g.Room != 0 || faults != nil || ok {
					t.Errorf("%v, %q, %.70q: %v, %v, %t", c, path, how, g, faults, ok)
				}
			}
		}
	}
}

// Numbers beyond their limits count ahead of all codes.
func TestOwnTreeOfEveryNumber(t *testing.T) {
	numbers := append([]int{math.MinInt32, 1 << 32, 100, 256, -2, 97, 98}, oddNumbers...)
	for _, path := range []string{"/t/s", "/k", "/none", "", "/lt", "/hall"} {
		for _, n := range numbers {
			for _, m := range []int{-1, 0, 99, n, 100, -2} {
				for _, d := range []chown{{path, n, m}, {path, m, n}} {
					for _, c := range []impl.Cred{root, other} {
						g, faults, ok := d.told(ownFs(), c)
						if d.takes() {
							if want, wantFaults := treeAgain(ownFs(), c, d); !ok || !impl.SameFs(g, want) || !slices.Equal(faults, wantFaults) {
								t.Errorf("%v, %+v: %v, %v, %t", c, d, g, faults, ok)
							}
						} else if ok || faults != nil || g.Nodes != nil || g.Room != 0 {
							t.Errorf("%v, %+v: %v, %v, %t", c, d, g, faults, ok)
						}
					}
				}
			}
		}
	}
}

func checkForm(t *testing.T, form string, want bool, names ...string) {
	t.Helper()
	for _, name := range names {
		if is, ok := impl.IsForm(form, name); is != want || !ok {
			t.Errorf("%q of %q: %t, %t", name, form, is, ok)
		}
	}
}

func TestIsForm(t *testing.T) {
	checkForm(t, "a", true, "a")
	checkForm(t, "a", false, "b", "aa", "ab", "ba", "-")
	checkForm(t, "abcdefgh", true, "abcdefgh")
	checkForm(t, "abcdefgh", false, "abcdefg", "a", "abcdefgi", "bbcdefgh")
	checkForm(t, "?", true, "a", "z", "0", "9", "_", "-")
	checkForm(t, "?", false, "ab", "..a", "aa")
	checkForm(t, "??", true, "ab", ".a", "a.", "--")
	checkForm(t, "??", false, "a", "abc")
	checkForm(t, "????????", true, "abcdefgh")
	checkForm(t, "????????", false, "abcdefg", "a")
	checkForm(t, "*", true, "a", "abcdefgh", "...", ".a", "-")
	checkForm(t, "**", true, "a", "abcdefgh")
	// At the front, at the end, in the middle, and several of them.
	checkForm(t, "*b", true, "b", "ab", "bb", "abb", "aaaaaaab", "bab")
	checkForm(t, "*b", false, "a", "ba", "bba", "bbbbbbba")
	checkForm(t, "b*", true, "b", "ba", "bb", "bbb", "baaaaaaa")
	checkForm(t, "b*", false, "a", "ab", "abb")
	checkForm(t, "a*b", true, "ab", "aab", "abb", "a-b", "a......b", "abab")
	checkForm(t, "a*b", false, "a", "b", "ba", "aba", "bab")
	checkForm(t, "a*a", true, "aa", "aaa", "aba")
	checkForm(t, "a*a", false, "a", "ab")
	checkForm(t, "*a*", true, "a", "ba", "ab", "bab", "bbbbabbb")
	checkForm(t, "*a*", false, "b", "bbbbbbbb")
	checkForm(t, "*ab*ab", true, "abab", "aabab", "ababab", "ab-ab", "xabxabab")
	checkForm(t, "*ab*ab", false, "ab", "aba", "ababa", "abba", "aab")
	checkForm(t, "a*b*c", true, "abc", "aabbcc", "abbbc", "abcbc", "acbc")
	checkForm(t, "a*b*c", false, "ac", "acb", "ab", "bc", "abca")
	// Next to one another, and next to `?`.
	checkForm(t, "a**b", true, "ab", "a-b")
	checkForm(t, "a***", true, "a", "ab")
	checkForm(t, "***a", true, "a", "ba")
	checkForm(t, "?*", true, "a", "ab", "abcdefgh")
	checkForm(t, "*?", true, "a", "ab", "abcdefgh")
	checkForm(t, "*?*", true, "a", "ab", "abcdefgh")
	checkForm(t, "?*?", true, "ab", "abc", "abcdefgh")
	checkForm(t, "?*?", false, "a")
	checkForm(t, "*??*", false, "a")
	checkForm(t, "*?*?*?*?*?*?*?*", false, "a", "abcdef")
	checkForm(t, "*?*?*?*?*?*?*?*", true, "abcdefg", "abcdefgh")
	checkForm(t, "a?*b", true, "aab", "abb", "axxb")
	checkForm(t, "a?*b", false, "ab", "aba")
	// A sign of a name stands for itself alone.
	checkForm(t, ".", false, "a", "-")
	checkForm(t, "a.b", false, "acb", "a-b", "aab")
	checkForm(t, "a.b", true, "a.b")
	checkForm(t, "a-z", false, "a", "b", "m", "z", "a.z")
	checkForm(t, "_-._", true, "_-._")
	checkForm(t, "..", false, "a", "...")
	checkForm(t, "-*", true, "-", "-a")
}

func TestIsFormOfTheLimits(t *testing.T) {
	stars := strings.Repeat("*", 20)
	checkForm(t, stars, true, "a", "abcdefgh")
	checkForm(t, strings.Repeat("?", 20), false, "abcdefgh")
	checkForm(t, strings.Repeat("a", 20), false, "aaaaaaaa")
	checkForm(t, stars[:12]+"aaaaaaaa", true, "aaaaaaaa")
	checkForm(t, stars[:12]+"????????", true, "aaaaaaaa")
	checkForm(t, stars[:11]+"?????????", false, "aaaaaaaa")
	checkForm(t, stars[:19]+"b", false, "aaaaaaaa")
	checkForm(t, strings.Repeat("*a", 10), false, "aaaaaaaa")
	checkForm(t, strings.Repeat("*a", 8)+"*b*", false, "aaaaaaaa")
	checkForm(t, "*a*b*c*d*e*f*g*h****", true, "abcdefgh")
	for _, form := range []string{"", stars + "*", strings.Repeat("a", 21), strings.Repeat("?", 21), strings.Repeat("*", 100000), "A", "aB", "a b", " ", "a/b", "/", "[a]", "a+", "\\*", "é", "é*", "*\xff", "\x00", "a\n", "*\n", "^", "a$", "{", "?!", "`", "@", "{a", "/*", ":", "~"} {
		for _, name := range []string{"a", "b", "ab", "abcdefgh", "", ".", "aB"} {
			if is, ok := impl.IsForm(form, name); is || ok {
				t.Errorf("%q of %.70q: %t, %t", name, form, is, ok)
			}
		}
		for _, path := range []string{"/", "/t", "/none", ""} {
			if l, faults, ok := impl.FindNamed(ownFs(), root, path, form); l != nil || faults != nil || ok {
				t.Errorf("%q, %.70q: %q, %v, %t", path, form, l, faults, ok)
			}
		}
	}
	for _, name := range []string{"", ".", "..", "abcdefghi", "A", "a b", "a/b", "/", "/a", "*", "?", "a*", "é", "\xff", "a\n", "\x00", strings.Repeat("a", 100000)} {
		for _, form := range []string{"a", "*", "?", "??", "*a", ".", "..", "a*", stars, "", "é"} {
			if is, ok := impl.IsForm(form, name); is || ok {
				t.Errorf("%.70q of %q: %t, %t", name, form, is, ok)
			}
		}
	}
}

var formSigns = regexp.MustCompile(`\A[-a-z0-9._*?]{1,20}\z`)

// formAgain has a form as an expression of Go's own.
func formAgain(form string) *regexp.Regexp {
	text := strings.NewReplacer(`\*`, `.*`, `\?`, `.`).Replace(regexp.QuoteMeta(form))
	return regexp.MustCompile(`(?s)\A` + text + `\z`)
}

// textsOf has all texts of so many of these signs at most, but the empty one.
func textsOf(signs string, most int) []string {
	all, from := []string{""}, 0
	for range most {
		till := len(all)
		for _, text := range all[from:till] {
			for _, sign := range signs {
				all = append(all, text+string(sign))
			}
		}
		from = till
	}
	return all[1:]
}

func TestEveryShortFormIsAsReadAgain(t *testing.T) {
	names := textsOf("ab", 5)
	is, not := 0, 0
	for _, form := range textsOf("ab*?", 5) {
		want := formAgain(form)
		for _, name := range names {
			if want.MatchString(name) {
				is++
			} else {
				not++
			}
			checkForm(t, form, want.MatchString(name), name)
		}
	}
	if is < 10000 || not < 10000 {
		t.Error("hardly a form was met", is, not)
	}
	for _, form := range textsOf("a.*?-A/", 3) {
		for _, name := range textsOf("a.-A/", 3) {
			wantOk := formSigns.MatchString(form) && isNameByForm(name)
			want := wantOk && formAgain(form).MatchString(name)
			if got, ok := impl.IsForm(form, name); got != want || ok != wantOk {
				t.Fatalf("%q of %q: %t, %t", name, form, got, ok)
			}
		}
	}
}

func TestManyLongFormsAreAsReadAgain(t *testing.T) {
	seed, hits := 7, 0
	next := func(n int) int { seed = (seed*1103515245 + 12345) % (1 << 31); return (seed >> 8) % n }
	for range 20000 {
		name := ""
		for range 1 + next(8) {
			name += string("aab"[next(3)])
		}
		// A name, some of its signs changed, and stars put in.
		form := ""
		for _, sign := range name {
			switch next(8) {
			case 0:
				form += "?"
			case 1:
				form += "*"
			case 2:
				form += "*" + string(sign)
			case 3:
				form += string("ab*?"[next(4)])
			default:
				form += string(sign)
			}
		}
		want := formAgain(form).MatchString(name)
		if want {
			hits++
		}
		checkForm(t, form, want, name)
	}
	if hits < 5000 {
		t.Error("hardly a name was of its form", hits)
	}
}

// A finding is a path, a form, the faults, and the paths that are found, with blanks
// between.
type finding struct {
	path, form, faults, paths string
}

func checkFound(t *testing.T, f impl.Fs, creds []impl.Cred, l ...finding) {
	t.Helper()
	kept := copyOfFs(f)
	for _, c := range creds {
		for _, want := range l {
			got, faults, ok := impl.FindNamed(f, c, want.path, want.form)
			if strings.Join(got, " ") != want.paths || faultsText(faults) != want.faults || !ok {
				t.Errorf("%v, %.70q, %q: %q, %q, %t instead of %q, %q", c, want.path, want.form, got, faultsText(faults), ok, want.paths, want.faults)
			}
		}
	}
	if !impl.SameFs(f, kept) {
		t.Error("the argument was changed", f)
	}
}

func TestFindNamed(t *testing.T) {
	f := ownFs()
	const all = "/blind /blind/x /deaf /deaf/x /hall /hall/x /k /lr /lt /shut /shut/x /t /t/a /t/b /t/e /t/l /t/n /t/s /t/s/a /t/s/c /t/s/m /t/z /void /void/b /void/d /void/s"
	checkFound(t, f, mighty,
		// Node 0 has no name of its own.
		finding{"/", "*", "", all},
		finding{"//", "**", "", strings.ReplaceAll(" "+all, " /", " //")[1:]},
		finding{"/", "?", "", "/blind/x /deaf/x /hall/x /k /shut/x /t /t/a /t/b /t/e /t/l /t/n /t/s /t/s/a /t/s/c /t/s/m /t/z /void/b /void/d /void/s"},
		finding{"/", "??", "", "/lr /lt"},
		finding{"/", "x", "", "/blind/x /deaf/x /hall/x /shut/x"},
		finding{"/", "a", "", "/t/a /t/s/a"},
		finding{"/", "l?", "", "/lr /lt"},
		finding{"/", "l*", "", "/lr /lt /t/l"},
		finding{"/", "*t", "", "/lt /shut /t"},
		finding{"/", "*a*", "", "/deaf /hall /t/a /t/s/a"},
		finding{"/", "*l*", "", "/blind /hall /lr /lt /t/l"},
		finding{"/", "none", "", ""},
		finding{"/", ".", "", ""},
		finding{"/", "..", "", ""},
		finding{"/", "a?", "", ""},
		// From a directory on, a file, and a link, which is not followed.
		finding{"/t", "*", "", "/t /t/a /t/b /t/e /t/l /t/n /t/s /t/s/a /t/s/c /t/s/m /t/z"},
		finding{"/t/s", "*", "", "/t/s /t/s/a /t/s/c /t/s/m"},
		finding{"/t/s", "a", "", "/t/s/a"},
		finding{"/t/e", "*", "", "/t/e"}, finding{"/t/e", "t", "", ""},
		finding{"/t/a", "?", "", "/t/a"}, finding{"/t/a", "k", "", ""}, finding{"/k", "k", "", "/k"}, finding{"/k", "a", "", ""},
		finding{"/lt", "*", "", "/lt"}, finding{"/lt", "lt", "", "/lt"}, finding{"/lt", "t", "", ""}, finding{"/lt", "a", "", ""},
		finding{"/lr", "*", "", "/lr"}, finding{"/t/n", "n", "", "/t/n"})
	checkFound(t, f, slices.Concat(owners, guests), finding{"/lt", "l*", "", "/lt"}, finding{"/k", "?", "", "/k"}, finding{"/t/s", "*", "", "/t/s /t/s/a /t/s/c /t/s/m"})
	// Those who may not look into a directory find it, but nothing in it.
	checkFound(t, f, owners, finding{"/", "*", "4:/hall", strings.Replace(all, " /hall/x", "", 1)})
	checkFound(t, f, guests[:1], finding{"/", "x", "4:/blind 4:/deaf 4:/hall 4:/shut 4:/t/e 4:/void/b 4:/void/d 4:/void/s", ""},
		finding{"/", "*e*", "4:/blind 4:/deaf 4:/hall 4:/shut 4:/t/e 4:/void/b 4:/void/d 4:/void/s", "/deaf /t/e"},
		finding{"/void", "?", "4:/void/b 4:/void/d 4:/void/s", "/void/b /void/d /void/s"}, finding{"/shut", "*", "4:/shut", "/shut"})
	checkFound(t, f, []impl.Cred{other}, finding{"/", "x", "4:/blind 4:/deaf 4:/shut 4:/t/e 4:/void/b 4:/void/d 4:/void/s", "/hall/x"})
}

// The name of the node that was asked for is that of the path when it is clean,
// whatever leads there.
func TestFindNamedOfTheLastNameOfThePath(t *testing.T) {
	f := ownFs()
	for path, base := range map[string]string{
		"/t/": "t", "/t//": "t", "//t": "t", "/t/.": "t", "/t/./": "t", "/t/s/..": "t", "/t/s/../": "t", "/lr/t/": "t", "/lt/": "lt", "/lt/.": "lt", "/lt/s/..": "lt", "/lt/s/../.": "lt", "/lr/lt/": "lt",
		"/void/../t": "t", "/void/b/../../t/": "t", "/t/s/../s/..": "t",
	} {
		in := strings.TrimSuffix(path, "/")
		checkFound(t, f, mighty, finding{path, base, "", path}, finding{path, base + "*", "", path}, finding{path, "c", "", in + "/s/c"}, finding{path, "tt", "", ""})
	}
	for _, path := range []string{"/", "//", "/.", "/..", "/t/..", "/t/../", "/t/s/../..", "/lr/..", "/lr/../.", "/../..", "/lt/..", strings.Repeat("/", 60)} {
		in := strings.TrimSuffix(path, "/")
		// Of none of these is there a name, though /lt/.. is asked for by one.
		checkFound(t, f, mighty, finding{path, "?t*", "", in + "/lt"}, finding{path, "t", "", in + "/t"}, finding{path, "..", "", ""}, finding{path, ".", "", ""}, finding{path, "*k", "", in + "/k"})
	}
	checkFound(t, f, mighty, finding{"/lr/", "lr", "", "/lr/ /lr/lr"}, finding{"/lr/.", "l*", "", "/lr/. /lr/./lr /lr/./lt /lr/./t/l"})
	// By a link to a directory that is deeper, `..` leads elsewhere than the text says.
	d := newDraft()
	d.link(0, "l", "a/b/c")
	d.dir(d.dir(d.dir(0, "a", 0o755), "b", 0o755), "c", 0o755)
	checkFound(t, d.Fs, mighty, finding{"/l/..", "*", "", "/l/../c"}, finding{"/a/l/..", "*", "2:/a/l/..", ""}, finding{"/a/../l/../.", "b", "", ""}, finding{"/a/b/../../l/", "l", "", "/a/b/../../l/"})
	d.name(2, "l", 1)
	d.Nodes[1].Data = "/a/b/c"
	checkFound(t, d.Fs, mighty, finding{"/a/l/..", "a", "", "/a/l/.."}, finding{"/a/l/..", "?", "", "/a/l/.. /a/l/../c"})
}

// Paths of entries may be longer than one that may be asked for, and are found then,
// too.
func TestGoingThroughDeepDirectories(t *testing.T) {
	f, name := chainFs(40, "abcdefgh"), "/abcdefgh"
	var ways []string
	for deep := range 39 {
		ways = append(ways, strings.Repeat(name, deep+1))
	}
	all := nodesFrom(0, 40)
	six := strings.Repeat(name, 6)
	checkFound(t, f, mighty, finding{"/", "*", "", strings.Join(ways, " ")}, finding{"/", "a*h", "", strings.Join(ways, " ")}, finding{six, "????????", "", strings.Join(ways[5:], " ")}, finding{"/", "a", "", ""})
	slashes := strings.Repeat("/", 51) + "abcdefgh"
	checkFound(t, f, mighty, finding{slashes, "abcdefgh", "", slashes + " " + slashes + strings.Join(ways[:38], " "+slashes)})
	checkTree(t, f, mighty, chown{"/", 7, 8}, "", all...)
	checkTree(t, f, mighty, chmod{six, "a+rwx"}, "", all[6:]...)
	checkTree(t, f, anyone[:5], chown{"/", -1, -1}, "4:/ 4:/")
	f = openChainFs(40)
	f.Nodes[30].Mode = 0o722
	var faults []string
	for _, way := range append([]string{"/"}, ways[:30]...) {
		faults = append(faults, "4:"+way)
	}
	checkTree(t, f, guests, chmod{"/", "a+x"}, strings.Join(append(faults, faults[30]), " "))
	checkTree(t, f, guests, chown{six, 1, -1}, strings.Join(append(faults[6:31:31], faults[30]), " "))
	checkFound(t, f, guests, finding{"/", "*", faults[30], strings.Join(ways[:30], " ")})
	for i := 20; i < 40; i++ {
		f.Nodes[i].Uid = 4
	}
	checkTree(t, f, []impl.Cred{other}, chmod{"/", "a+x"}, strings.Join(faults[:20], " "), all[20:]...)
	checkOwned(t, f, 0, 4, strings.ReplaceAll(" "+strings.Join(ways[19:], " "), " /", " ")[1:])
}

func checkOwned(t *testing.T, f impl.Fs, node, uid int, want string) {
	t.Helper()
	ways, ok := impl.OwnedBy(f, node, uid)
	if strings.Join(ways, " ") != want || !ok {
		t.Errorf("node %d, uid %d: %q, %t instead of %q", node, uid, ways, ok, want)
	}
}

func TestOwnedBy(t *testing.T) {
	f := ownFs()
	checkOwned(t, f, owRoot, 0, ". lr lt")
	checkOwned(t, f, owRoot, 1, "blind blind/x deaf deaf/x hall/x k shut shut/x t t/a t/e t/l t/s t/s/a t/s/m void void/b void/d void/s")
	checkOwned(t, f, owRoot, 4, "hall t/b t/n t/s/c t/z")
	checkOwned(t, f, owTop, 1, ". a e l s s/a s/m")
	checkOwned(t, f, owTop, 4, "b n s/c z")
	checkOwned(t, f, owTop, 0, "")
	checkOwned(t, f, owSub, 1, ". a m")
	checkOwned(t, f, owSub, 4, "c")
	checkOwned(t, f, owHall, 1, "x")
	checkOwned(t, f, owHall, 4, ".")
	// A file with several names is itself alone here, and so is a link.
	checkOwned(t, f, owFile, 1, ".")
	checkOwned(t, f, owFile, 4, "")
	checkOwned(t, f, owTwice, 4, ".")
	checkOwned(t, f, owLink, 1, ".")
	checkOwned(t, f, owAlienLink, 1, "")
	checkOwned(t, f, owToTop, 0, ".")
	checkOwned(t, f, owEmpty, 1, ".")
	checkOwned(t, f, owEmpty, 0, "")
	// Of one that none has, or none can have, there are none.
	for _, uid := range append([]int{2, 5, 3, 50}, oddNumbers...) {
		if uid != 0 && uid != 1 {
			checkOwned(t, f, owRoot, uid, "")
			checkOwned(t, f, owTop, uid, "")
			checkOwned(t, f, owFile, uid, "")
		}
	}
	// The group does not count.
	for i := range f.Nodes {
		if i != owFree {
			f.Nodes[i].Gid = 9
		}
	}
	checkOwned(t, f, owRoot, 9, "")
	for _, uid := range []int{0, 9, 99} {
		g, _, _ := impl.OwnTree(f, root, "/t", uid, -1)
		checkOwned(t, g, owTop, uid, ". a b e l n s s/a s/c s/m z")
	}
}

// treeAgain and foundAgain are a second reading of the chapter: they go through the
// list of all that is met in the file system as it was.
func treeAgain(f impl.Fs, c impl.Cred, d treeChange) (impl.Fs, []impl.Fault) {
	r, g := newReading(f, c), copyOfFs(f)
	top, code := r.findNode(d.from(), false)
	if code != 0 {
		return g, codeAlone(d.from(), code)
	}
	var all []impl.Fault
	for _, m := range r.seenFrom(top) {
		n := &g.Nodes[m.node]
		path := pathBelow(d.from(), m)
		switch {
		case d.skips(*n):
		case d.mayBy(c, *n):
			d.change(n)
		default:
			all = append(all, impl.Fault{Path: path, Code: 4})
		}
		all = append(all, r.lookFault(m.node, path)...)
	}
	return g, all
}

func codeAlone(path string, code int) []impl.Fault {
	if path == "" {
		path = "."
	}
	return []impl.Fault{{Path: path, Code: code}}
}

func (r *reading) lookFault(node int, path string) []impl.Fault {
	if r.f.Nodes[node].Kind == 2 && (!r.may(node, 4) || !r.may(node, 1)) {
		return []impl.Fault{{Path: path, Code: 4}}
	}
	return nil
}

// foundAgain takes a form that is one. It has paths cleaned by Go's own means.
func foundAgain(f impl.Fs, c impl.Cred, path string, form string) ([]string, []impl.Fault) {
	r := newReading(f, c)
	top, code := r.findNode(path, false)
	if code != 0 {
		return nil, codeAlone(path, code)
	}
	expr := formAgain(form)
	var found []string
	var all []impl.Fault
	for _, m := range r.seenFrom(top) {
		told := pathBelow(path, m)
		if base := pathpkg.Base(pathpkg.Clean(told)); base != "/" && expr.MatchString(base) {
			found = append(found, told)
		}
		all = append(all, r.lookFault(m.node, told)...)
	}
	return found, all
}

func ownedAgain(f impl.Fs, node int, uid int) string {
	return waysOf(slices.DeleteFunc(metBelow(f, node), func(m met) bool { return f.Nodes[m.node].Uid != uid }))
}

// checkTreeAgain holds an answer against the second reading.
func checkTreeAgain(t *testing.T, f impl.Fs, c impl.Cred, d treeChange) (impl.Fs, []impl.Fault) {
	t.Helper()
	want, wantFaults := treeAgain(f, c, d)
	g, faults, ok := d.told(f, c)
	if !slices.Equal(faults, wantFaults) || !ok || !impl.SameFs(g, want) {
		t.Fatalf("%v, %+v: %v, %t instead of %v in\n%v:\n%v instead of\n%v", c, d, faults, ok, wantFaults, f, g, want)
	}
	if !isGoodByWays(g) || !impl.GoodFs(g) {
		t.Fatalf("%v, %+v: not good then: %v of %v", c, d, g, f)
	}
	return g, faults
}

func checkFoundAgain(t *testing.T, f impl.Fs, c impl.Cred, path string, form string) []string {
	t.Helper()
	want, wantFaults := foundAgain(f, c, path, form)
	got, faults, ok := impl.FindNamed(f, c, path, form)
	if !slices.Equal(got, want) || !slices.Equal(faults, wantFaults) || !ok {
		t.Fatalf("%v, %q, %q: %q, %v, %t instead of %q, %v in %v", c, path, form, got, faults, ok, want, wantFaults, f)
	}
	return got
}

var (
	someTexts = []string{"a+rwx", "u+rx", "u=", "a-x", "go=r", "u-r", "ug+w", "o+", "a=rx", "u=rwx", "g-rwx"}
	someForms = []string{"*", "?", "??", "a*", "*a*", "f", "l*", "x", "*.*", "?*?", "s*t", "*b", "*0", "t"}
	someIds   = []int{-1, 0, 1, 2, 3, 5, 99}
	ownCreds  = append(someCreds[:6:6], impl.Cred{Uid: 1, Gid: 77}, impl.Cred{Uid: 1, Gid: 5}, impl.Cred{Uid: 3, Gid: 0})
)

func TestEveryChangeInTheSamplesIsAsReadAgain(t *testing.T) {
	for _, f := range []impl.Fs{ownFs(), cpFs(), rmFs(), duFs(), makeFs(), attrFs(), lookFs(), walkFs(), sampleFs()} {
		ways, _, _ := waysToNodes(f)
		paths := append(slices.Concat(ways...), "/", "", ".", "/.", "/none", "/t/", "/lt/", "/lt/s/..", "/lr/", "/lw/.", "/la/", "/la/..", "/self/x", "/k/", "/w/..", "/shut/.")
		for i, path := range paths {
			for j, c := range ownCreds {
				for k, uid := range someIds {
					checkTreeAgain(t, f, c, chown{path, uid, someIds[(i+j+k)%len(someIds)]})
				}
				for k := range 3 {
					checkTreeAgain(t, f, c, chmod{path, someTexts[(i+j*2+k*5)%len(someTexts)]})
					checkFoundAgain(t, f, c, path, someForms[(i+j*3+k*5)%len(someForms)])
				}
			}
		}
	}
}

func someTreeChange(path string, c impl.Cred, next func(int) int) treeChange {
	if next(2) == 0 {
		return chmod{path, someTexts[next(len(someTexts))]}
	}
	d := chown{path, someIds[next(len(someIds))], someIds[next(len(someIds))]}
	switch next(3) {
	case 0:
		d.uid, d.gid = -1, c.Gid
	case 1:
		d.uid = c.Uid
	}
	return d
}

// somePathIn is a path that is likely to be there.
func somePathIn(ways [][]string, next func(int) int) string {
	all := slices.Concat(ways...)
	switch way := next(5); {
	case way == 0 || len(all) == 0:
		return tangledPath(ways, next)
	case way == 1:
		return "/"
	}
	return all[next(len(all))]
}

func TestManyChangesAreAsReadAgain(t *testing.T) {
	clean, some, none, codes, found := 0, 0, 0, [11]int{}, 0
	for seed := range 400 {
		f, next := looseFs(seed*2654435 + 17)
		for range 30 {
			ways, _, _ := waysToNodes(f)
			c := ownCreds[next(len(ownCreds))]
			path := somePathIn(ways, next)
			g, faults := checkTreeAgain(t, f, c, someTreeChange(path, c, next))
			for _, fault := range faults {
				codes[fault.Code]++
			}
			switch same := impl.SameFs(f, g); {
			case same:
				none++
			case len(faults) == 0:
				clean++
			default:
				some++
			}
			if len(checkFoundAgain(t, f, c, path, someForms[next(len(someForms))])) > 0 {
				found++
			}
			// At times on goes what came of it.
			if next(8) == 0 {
				f = g
			}
		}
	}
	if clean < 500 || some < 500 || none < 500 || found < 1000 || codes[1] < 100 || codes[2] < 100 || codes[3] < 20 || codes[4] < 1000 || codes[5] < 5 {
		t.Error("hardly a tree was met", clean, some, none, found, codes)
	}
}

func TestEveryOwnedByIsAsReadAgain(t *testing.T) {
	all, some := 0, 0
	eachWalkable(func(f impl.Fs, node int) {
		for _, uid := range []int{0, 1, 3, 4, 99} {
			want := ownedAgain(f, node, uid)
			checkOwned(t, f, node, uid, want)
			if want == waysOf(metBelow(f, node)) {
				all++
			} else if want != "" {
				some++
			}
		}
		if t.Failed() {
			t.FailNow()
		}
	})
	if all < 1000 || some < 500 {
		t.Error("hardly a tree was met", all, some)
	}
}

// opened tells whether a directory that was met, but not looked into, may be looked
// into in another file system.
func opened(f, g impl.Fs, c impl.Cred, path string) bool {
	was, is := newReading(f, c), newReading(g, c)
	top, code := was.findNode(path, false)
	if code != 0 {
		return false
	}
	return slices.ContainsFunc(was.seenFrom(top), func(m met) bool {
		return was.lookFault(m.node, path) != nil && is.lookFault(m.node, path) == nil
	})
}

// Promise 11: repeated recursive changes have the effect of one. The document has one
// case that is not so: a change of modes that opens a directory to its owner does not
// go into it, and tells a fault; the same change then goes on into it.
func TestChangesThatAreRepeatedHaveTheEffectOfOne(t *testing.T) {
	clean, faulty, shut, open := 0, 0, 0, 0
	check := func(f impl.Fs, c impl.Cred, d treeChange) {
		g, faults, ok := d.told(f, c)
		h, again, againOk := d.told(g, c)
		if !ok || !againOk {
			t.Fatal(c, d, ok, againOk, f)
		}
		_, isOwn := d.(chown)
		hasOpened := opened(f, g, c, d.from())
		if hasOpened && (isOwn || c.Uid == 0 || len(faults) == 0) {
			t.Fatalf("%v, %+v opens a directory: %v, %v, %v", c, d, f, g, faults)
		}
		if !hasOpened && !impl.SameFs(g, h) {
			t.Fatalf("%v, %+v: %v, then\n%v, then\n%v", c, d, f, g, h)
		}
		// OwnTree opens and shuts nothing, and who may give a node so may give it so again;
		// Uid 0 may all. So the faults are the same, too.
		if (isOwn || c.Uid == 0) && !slices.Equal(faults, again) {
			t.Fatalf("%v, %+v: %v, then %v in %v", c, d, faults, again, f)
		}
		for range 40 {
			if impl.SameFs(g, h) {
				break
			}
			g = h
			h, _, _ = d.told(g, c)
		}
		if !impl.SameFs(g, h) {
			t.Fatalf("%v, %+v comes to no end: %v, then %v", c, d, g, h)
		}
		switch {
		case hasOpened:
			open++
		case !slices.Equal(faults, again):
			shut++
		case len(faults) == 0:
			clean++
		default:
			faulty++
		}
	}
	for seed := range 150 {
		f, next := looseFs(seed*1664525 + 7)
		if next(3) == 0 {
			f, next = tangledFs(seed*1664525 + 9)
		}
		for range 20 {
			ways, _, _ := waysToNodes(f)
			c := ownCreds[next(len(ownCreds))]
			check(f, c, someTreeChange(somePathIn(ways, next), c, next))
		}
	}
	for path := range treesOf() {
		for _, c := range anyone {
			for i, how := range someTexts {
				check(ownFs(), c, chmod{path, how})
				check(ownFs(), c, chown{path, someIds[i%len(someIds)], c.Gid})
				check(ownFs(), c, chown{path, -1, someIds[i%len(someIds)]})
			}
		}
	}
	for mode := range 512 {
		f := ownFs()
		f.Nodes[owShut].Mode, f.Nodes[owEmpty].Mode, f.Nodes[owSub].Mode = mode, mode, mode
		check(f, owner, chmod{"/", someTexts[mode%len(someTexts)]})
		check(f, owner, chmod{"/t/", someTexts[mode*5%len(someTexts)]})
		check(f, owner, chown{"/", -1, 2})
	}
	if clean < 1000 || faulty < 1000 || shut < 50 || open < 50 {
		t.Error("hardly a change was met", clean, faulty, shut, open)
	}
}

// The effect of a change by Uid 0: all that is below has it, and nothing else is
// another.
func TestUidZeroChangesAllThatIsBelow(t *testing.T) {
	for seed := range 100 {
		f, next := tangledFs(seed*22695477 + 1)
		ways, _, _ := waysToNodes(f)
		ways[0] = []string{"/"}
		for node, all := range ways {
			if len(all) == 0 || len(all[0]) > 60 {
				continue
			}
			uid, gid := next(100), next(100)
			g, faults, ok := impl.OwnTree(f, impl.Cred{Uid: 0, Gid: next(100)}, all[0], uid, gid)
			below, _ := impl.NodesBelow(f, node)
			owned, _ := impl.OwnedBy(g, node, uid)
			pre, _ := impl.WalkPre(f, node)
			if len(faults) > 0 || !ok || !slices.Equal(owned, pre) {
				t.Fatalf("node %d: %v, %t, %q are owned of %q in %v", node, faults, ok, owned, pre, f)
			}
			for i := range f.Nodes {
				want := f.Nodes[i]
				if slices.Contains(below, i) {
					want.Uid, want.Gid = uid, gid
				}
				if !impl.SameFs(impl.Fs{Nodes: g.Nodes[i : i+1]}, impl.Fs{Nodes: []impl.Node{want}}) {
					t.Fatalf("node %d, below %d: %v instead of %v", i, node, g.Nodes[i], want)
				}
			}
		}
	}
}

// manyNames is gone through by all names of the two files in it.
func TestGoingThroughManyNames(t *testing.T) {
	f := manyNames()
	g, faults, ok := impl.OwnTree(f, root, "/d", 7, 8)
	if len(faults) != 0 || !ok || g.Nodes[2].Uid != 7 || g.Nodes[3].Gid != 8 || len(g.Nodes[1].List) != 20000 {
		t.Errorf("%.500v, %d faults, %t", g, len(faults), ok)
	}
	f.Nodes[2].Uid = 4
	g, faults, ok = impl.ModeTree(f, other, "/d", "a+r")
	if len(faults) != 10001 || faults[0] != aFault("/d", 4) || faults[1] != aFault("/d/a001", 4) || faults[10000] != aFault("/d/t999", 4) || !ok || g.Nodes[2].Mode != 0o444 || g.Nodes[3].Mode != 0 {
		t.Errorf("%.500v, %d faults, %t", g, len(faults), ok)
	}
	l, faults, ok := impl.FindNamed(f, other, "/d", "*1*")
	var want []string
	for _, e := range f.Nodes[1].List {
		if strings.Contains(e.Name, "1") {
			want = append(want, "/d/"+e.Name)
		}
	}
	if !slices.Equal(l, want) || len(faults) != 0 || !ok {
		t.Errorf("%d are found instead of %d, %d faults, %t", len(l), len(want), len(faults), ok)
	}
	if ways, ok := impl.OwnedBy(f, 1, 4); len(ways) != 10000 || ways[9999] != "t998" || !ok {
		t.Error(len(ways), ok)
	}
}

// checkOwnAnswers asks twice: the answers are those of the second reading where all
// is good, else zero values.
func checkOwnAnswers(t *testing.T, f impl.Fs, creds []impl.Cred, changes []treeChange) {
	t.Helper()
	good := isGoodByWays(f)
	for _, c := range creds {
		goodCred := within(c.Uid, 0, 99) && within(c.Gid, 0, 99)
		for _, d := range changes {
			takes := good && goodCred && d.takes()
			var want impl.Fs
			var wantFaults []impl.Fault
			if takes {
				want, wantFaults = treeAgain(f, c, d)
			}
			for range 2 {
				if g, faults, ok := d.told(f, c); !slices.Equal(faults, wantFaults) || ok != takes || !impl.SameFs(g, want) {
					t.Fatalf("%v, %.200v: %.500v, %.200v, %t instead of %.500v, %.200v", c, d, g, faults, ok, want, wantFaults)
				}
			}
		}
	}
}

func checkFoundAnswers(t *testing.T, f impl.Fs, creds []impl.Cred, paths []string, forms []string) {
	t.Helper()
	good := isGoodByWays(f)
	for _, c := range creds {
		goodCred := within(c.Uid, 0, 99) && within(c.Gid, 0, 99)
		for _, path := range paths {
			for _, form := range forms {
				takes := good && goodCred && formSigns.MatchString(form)
				var want []string
				var wantFaults []impl.Fault
				if takes {
					want, wantFaults = foundAgain(f, c, path, form)
				}
				for range 2 {
					if l, faults, ok := impl.FindNamed(f, c, path, form); !slices.Equal(l, want) || !slices.Equal(faults, wantFaults) || ok != takes {
						t.Fatalf("%v, %.70q, %.70q: %.500q, %.200v, %t instead of %.500q, %.200v", c, path, form, l, faults, ok, want, wantFaults)
					}
				}
			}
		}
	}
}

func changesAt(path string, i int) []treeChange {
	n := oddNumbers[i%len(oddNumbers)]
	return []treeChange{chown{path, -1, 2}, chown{path, 7, 8}, chown{path, n, -1}, chown{path, 1, n}, chown{path, n, n}, chmod{path, "a+rx"}, chmod{path, "u="}, chmod{path, oddTexts[i%len(oddTexts)]}}
}

// Promise 19: every function answers at all arguments.
func TestOwnFunctionsAnswerAtAllArguments(t *testing.T) {
	var changes, odd []treeChange
	for i, path := range lookPaths {
		changes = append(changes, changesAt(path, i)...)
	}
	for i, text := range oddTexts {
		odd = append(append(odd, changesAt(text, i)...), chmod{"/", text}, chmod{"/t", text}, chmod{"/none", text})
	}
	creds := []impl.Cred{root, other, {Uid: 100}, {Gid: -1}}
	for _, f := range append(oddFs(), ownFs(), makeFs(), fullFs(40, 39), fullFs(40, 5)) {
		checkOwnAnswers(t, f, creds, changes)
		checkFoundAnswers(t, f, creds, lookPaths, []string{"*", "?", "a*", "", strings.Repeat("*", 21)})
		checkOwnedAnswers(t, f)
	}
	for _, f := range []impl.Fs{sampleFs(), ownFs(), lookFs(), {}} {
		checkOwnAnswers(t, f, oddCreds, slices.Concat(changes, odd))
		checkFoundAnswers(t, f, oddCreds, append(lookPaths, oddTexts...), []string{"*", "f", "?x"})
		checkFoundAnswers(t, f, []impl.Cred{root, other}, []string{"/", "/a", "/none", ""}, oddTexts)
	}
	for i, path := range longPaths()[:1500] {
		checkOwnAnswers(t, sampleFs(), []impl.Cred{root, owner}, changesAt(path, i))
		checkFoundAnswers(t, sampleFs(), []impl.Cred{root, owner}, []string{path}, []string{"*", "a"})
	}
	for _, form := range append(oddTexts, someForms...) {
		for _, name := range append(oddTexts, "a", "f", "abcdefgh", "lt") {
			wantOk := formSigns.MatchString(form) && isNameByForm(name)
			want := wantOk && formAgain(form).MatchString(name)
			if is, ok := impl.IsForm(form, name); is != want || ok != wantOk {
				t.Fatalf("%.70q of %.70q: %t, %t", name, form, is, ok)
			}
		}
	}
}

func checkOwnedAnswers(t *testing.T, f impl.Fs) {
	t.Helper()
	for _, node := range oddNodes {
		used := isUsed(f, node)
		for _, uid := range append([]int{3, 5, 42}, oddNumbers...) {
			want := ""
			if used {
				want = ownedAgain(f, node, uid)
			}
			for range 2 {
				if ways, ok := impl.OwnedBy(f, node, uid); strings.Join(ways, " ") != want || ok != used {
					t.Fatalf("node %d, uid %d: %q, %t instead of %q, %t in %.500v", node, uid, ways, ok, want, used, f)
				}
			}
		}
	}
}

// Promise 19: no function changes an argument.
func TestOwnFunctionsLeaveTheirArguments(t *testing.T) {
	for i, f := range append(oddFs(), ownFs(), makeFs(), lookFs(), fullFs(40, 5)) {
		plain := copyOfFs(f)
		isAsItWas := markBehind(&f)
		for at, path := range append(lookPaths, "/mark", "/t", "/t/s", "/t/z", "/lt/", "/shut", "/w", "/a/b", "/void") {
			kept := strings.Clone(path)
			form := strings.Clone(someForms[at%len(someForms)])
			for _, c := range []impl.Cred{root, owner, other} {
				for _, d := range changesAt(path, at) {
					g, faults, ok := d.told(f, c)
					want, wantFaults, wantOk := d.told(plain, c)
					if !impl.SameFs(g, want) || !slices.Equal(faults, wantFaults) || ok != wantOk {
						t.Errorf("file system %d, %.200v: what is behind a list counts", i, d)
					}
				}
				l, faults, ok := impl.FindNamed(f, c, path, form)
				want, wantFaults, wantOk := impl.FindNamed(plain, c, path, form)
				if !slices.Equal(l, want) || !slices.Equal(faults, wantFaults) || ok != wantOk || slices.ContainsFunc(l, func(s string) bool { return strings.HasSuffix(s, "mark") && path != "/mark" }) {
					t.Errorf("file system %d, %.70q: what is behind a list counts", i, path)
				}
			}
			if kept != path || form != someForms[at%len(someForms)] {
				t.Errorf("a text was changed: %.70q, %q", kept, form)
			}
		}
		for node := -1; node <= 41; node++ {
			for _, uid := range []int{0, 1, 4} {
				ways, ok := impl.OwnedBy(f, node, uid)
				if want, wantOk := impl.OwnedBy(plain, node, uid); !slices.Equal(ways, want) || ok != wantOk {
					t.Errorf("file system %d, node %d: what is behind a list counts", i, node)
				}
			}
		}
		if !isAsItWas() {
			t.Fatalf("file system %d was written to", i)
		}
	}
}

// What is written into an answer is seen in no other one, and in no argument.
func TestOwnAnswersAreNewMemory(t *testing.T) {
	for path := range treesOf() {
		for _, c := range []impl.Cred{root, owner, other} {
			for _, d := range []treeChange{chown{path, -1, -1}, chown{path, -1, c.Gid}, chown{path, 7, 8}, chmod{path, "a+x"}, chmod{path, "u="}} {
				checkNewMemory(t, ownFs(), c, d)
				_, want := treeAgain(ownFs(), c, d)
				_, faults, _ := d.told(ownFs(), c)
				fill(faults, aFault("written", 77))
				if _, again, _ := d.told(ownFs(), c); !slices.Equal(again, want) {
					t.Errorf("%v, %+v: %v instead of %v", c, d, again, want)
				}
			}
			f := ownFs()
			isAsItWas := markBehind(&f)
			l, faults, _ := impl.FindNamed(f, c, path, "*")
			fill(l, "written")
			if want, wantFaults := foundAgain(ownFs(), c, path, "*"); !slices.Equal(faults, wantFaults) || !slices.Equal(checkFoundAgain(t, f, c, path, "*"), want) {
				t.Errorf("%v, %q: %v", c, path, faults)
			}
			fill(faults, aFault("written", 77))
			checkFoundAgain(t, f, c, path, "*")
			for node := range f.Nodes {
				ways, _ := impl.OwnedBy(f, node, 1)
				fill(ways, "written")
				if node != owFree {
					checkOwned(t, f, node, 1, ownedAgain(ownFs(), node, 1))
				}
			}
			if !isAsItWas() {
				t.Fatal("an answer has memory of the argument", f)
			}
		}
	}
	for _, path := range []string{"/none", "", "/k/"} {
		checkNewMemory(t, ownFs(), other, chown{path, -1, -1})
		checkNewMemory(t, ownFs(), root, chmod{path, "a+x"})
	}
}

// Nothing is kept from call to call: neither what was given, nor what was met.
func TestGoingThroughKeepsNothing(t *testing.T) {
	f := ownFs()
	first, faults := checkTreeAgain(t, f, other, chown{"/", -1, 5})
	checkFoundAgain(t, f, other, "/", "*")
	checkTreeAgain(t, first, root, chown{"/t", 4, 5})
	checkTreeAgain(t, first, root, chmod{"/", "a="})
	checkTreeAgain(t, f, owner, chmod{"/shut", "a+rwx"})
	checkFoundAgain(t, first, root, "/t", "?")
	after, again := checkTreeAgain(t, f, other, chown{"/", -1, 5})
	if !impl.SameFs(first, after) || !slices.Equal(faults, again) || !impl.SameFs(f, ownFs()) {
		t.Error(first, after, faults, again)
	}
	f.Nodes[owHall].Uid, f.Nodes[owShut].Mode = 7, 0o705
	checkTreeAgain(t, f, other, chown{"/", -1, 5})
	checkFound(t, f, []impl.Cred{other}, finding{"/", "x", "4:/blind 4:/deaf 4:/hall 4:/t/e 4:/void/b 4:/void/d 4:/void/s", "/shut/x"})
}
