package tests

import (
	"fmt"
	"math"
	"slices"
	"strconv"
	"strings"
	"testing"

	"loop.example/g00756/impl"
)

// The nodes of cpFs.
const (
	cpRoot = iota
	cpFree
	cpTop
	cpFile
	cpEmpty
	cpLink
	cpSub
	cpDark
	cpOpen
	cpSole
	cpOwn
	cpInOwn
	cpBlind
	cpInBlind
	cpDeaf
	cpInDeaf
	cpShut
	cpInShut
	cpVoid
	cpVoidB
	cpVoidD
	cpVoidS
	cpToTop
	cpToOpen
	cpToRoot
)

// cpFs has directories of 1:2, a free node 1, and:
//
//	/t (751 and readable by all)   the tree that is copied most
//	/t/a (file, also /t/s/a and /k)   /t/e (750, without entries; others may not look into it)
//	/t/l -> a (of mode 0, also /t/s/m)   /t/s (755)   /t/s/b (file of 1:2, 600, also /t/z)
//	/w (777)   may be changed by all   /w/x (file)
//	/r (755)   may be changed by 1 and 0 alone   /r/f (file)
//	/blind (733)   may be written and entered, but read by 1 alone   /blind/x (file)
//	/deaf (766)    may be read and written, but entered by 1 alone   /deaf/x (file)
//	/shut (700)    may be neither by others   /shut/x (file)
//	/void (755)   /void/b (733)  /void/d (766)  /void/s (700), all without entries
//	/lt -> t   /lw -> w   /lr -> /
func cpFs() impl.Fs {
	d := newDraft()
	d.Nodes = append(d.Nodes, impl.Node{})
	top := d.dir(0, "t", 0o755)
	file := d.add(top, "a", impl.Node{Kind: impl.KdFile, Mode: 0o644, Uid: 6, Gid: 7, Data: "first"})
	d.dir(top, "e", 0o750)
	link := d.add(top, "l", impl.Node{Kind: impl.KdLink, Uid: 8, Gid: 9, Data: "a"})
	sub := d.dir(top, "s", 0o755)
	dark := d.add(sub, "b", impl.Node{Kind: impl.KdFile, Mode: 0o600, Uid: 1, Gid: 2, Data: "dark"})
	d.name(0, "k", file)
	d.name(sub, "a", file)
	d.name(sub, "m", link)
	d.name(top, "z", dark)
	d.file(d.dir(0, "w", 0o777), "x")
	d.file(d.dir(0, "r", 0o755), "f")
	d.file(d.dir(0, "blind", 0o733), "x")
	d.file(d.dir(0, "deaf", 0o766), "x")
	d.file(d.dir(0, "shut", 0o700), "x")
	void := d.dir(0, "void", 0o755)
	d.dir(void, "b", 0o733)
	d.dir(void, "d", 0o766)
	d.dir(void, "s", 0o700)
	d.link(0, "lt", "t")
	d.link(0, "lw", "w")
	d.link(0, "lr", "/")
	for i := range d.Nodes {
		if i != cpFree {
			d.Nodes[i].Time = 10 + i
		}
	}
	return d.Fs
}

func TestCpSampleIsGood(t *testing.T) {
	f := cpFs()
	if !isGoodByWays(f) || len(f.Nodes) != cpToRoot+1 || f.Nodes[cpDark].Data != "dark" || f.Nodes[cpInShut].Data != "x" || f.Nodes[cpVoidS].Mode != 0o700 || f.Nodes[cpToTop].Data != "t" {
		t.Error("the sample is not as said", f)
	}
}

// A copying is a call of CopyTree. The number of its faults stands where other calls
// have a code.
type copying struct {
	src, dst string
	keep     bool
	time     int
}

func (d copying) on(f impl.Fs, c impl.Cred) (impl.Fs, int, bool) {
	g, faults, ok := d.told(f, c)
	return g, len(faults), ok
}

func (d copying) told(f impl.Fs, c impl.Cred) (impl.Fs, []impl.Fault, bool) {
	return impl.CopyTree(f, c, d.src, d.dst, d.keep, d.time)
}

// copied has a node as a cred copies it.
func copied(n impl.Node, c impl.Cred, d copying) impl.Node {
	n.List = nil
	if !d.keep {
		n.Time = d.time
	}
	if !d.keep || c.Uid != 0 {
		n.Uid, n.Gid = c.Uid, c.Gid
	}
	return n
}

// grow makes copies by hand, each told as the way that it comes to, `=`, and the
// number of the node that it is a copy of.
func grow(t *testing.T, f *impl.Fs, c impl.Cred, d copying, made ...string) {
	t.Helper()
	copies := map[int]int{}
	for _, m := range made {
		way, number, _ := strings.Cut(m, "=")
		of, err := strconv.Atoi(number)
		cut := strings.LastIndexByte(way, '/')
		dir, is := nodeByPath(*f, way[:cut])
		if !is || err != nil {
			t.Fatalf("%q can not be made in %v", m, *f)
		}
		node, had := copies[of]
		if !had {
			node = slices.IndexFunc(f.Nodes, func(n impl.Node) bool { return n.Kind == impl.KdFree })
			if node < 0 {
				node = len(f.Nodes)
				f.Nodes = append(f.Nodes, impl.Node{})
			}
			f.Nodes[node] = copied(f.Nodes[of], c, d)
			copies[of] = node
		}
		(&draft{*f}).name(dir, way[cut+1:], node)
	}
}

// A cpCase is a copy by paths: the number of the directory of dst, the faults, and
// what is made, in order.
type cpCase struct {
	src, dst string
	dir      int
	faults   string
	made     string
}

func checkCopies(t *testing.T, f impl.Fs, creds []impl.Cred, cases ...cpCase) {
	t.Helper()
	for _, c := range creds {
		for _, is := range cases {
			if code, path, ok := impl.CopyCode(f, c, is.src, is.dst); code != impl.EcOk || path != "" || !ok {
				t.Errorf("%v, %q to %q: code %d of %q, %t", c, is.src, is.dst, code, path, ok)
			}
			for _, d := range []copying{{is.src, is.dst, false, 70}, {is.src, is.dst, true, 70}, {is.src, is.dst, true, 0}, {is.src, is.dst, false, 1000000}} {
				want := copyOfFs(f)
				grow(t, &want, c, d, strings.Fields(is.made)...)
				want.Nodes[is.dir].Time = d.time
				g, faults, ok := d.told(f, c)
				if got := faultsText(faults); got != is.faults || !ok || !impl.SameFs(g, want) {
					t.Errorf("%v, %+v: %q, %t instead of %q, with\n%v instead of\n%v", c, d, got, ok, is.faults, g, want)
				}
				if !isGoodByWays(g) {
					t.Errorf("%v, %+v: the file system then is not good: %v", c, d, g)
				}
			}
		}
	}
}

// checkNoCopies asks for copies that have a code: a fault of it alone, and all stays.
func checkNoCopies(t *testing.T, f impl.Fs, creds []impl.Cred, code int, told string, pairs ...[2]string) {
	t.Helper()
	for _, c := range creds {
		for _, p := range pairs {
			path := told
			if told == "src" {
				path = p[0]
			} else if told == "dst" {
				path = p[1]
			}
			if got, at, ok := impl.CopyCode(f, c, p[0], p[1]); got != code || at != path || !ok {
				t.Errorf("%v, %.70q to %.70q: code %d of %.70q, %t instead of %d of %.70q", c, p[0], p[1], got, at, ok, code, path)
			}
			for _, keep := range []bool{false, true} {
				g, faults, ok := impl.CopyTree(f, c, p[0], p[1], keep, 70)
				if !slices.Equal(faults, []impl.Fault{{Path: path, Code: code}}) || !ok || !impl.SameFs(f, g) {
					t.Errorf("%v, %.70q to %.70q, %t: %.200v, %t, with\n%v of\n%v", c, p[0], p[1], keep, faults, ok, g, f)
				}
			}
		}
	}
}

// toEach has pairs of one path with each of others behind it, fromEach the other way
// round.
func toEach(src string, dsts ...string) [][2]string {
	var all [][2]string
	for _, dst := range dsts {
		all = append(all, [2]string{src, dst})
	}
	return all
}

func fromEach(dst string, srcs ...string) [][2]string {
	var all [][2]string
	for _, src := range srcs {
		all = append(all, [2]string{src, dst})
	}
	return all
}

func TestCopyTreeOfFilesAndLinks(t *testing.T) {
	checkCopies(t, cpFs(), anyone,
		cpCase{"/w/x", "/w/n", cpOpen, "", "/w/n=9"},
		cpCase{"/r/f", "/w/n", cpOpen, "", "/w/n=11"},
		// One with other names gets none of them.
		cpCase{"/t/a", "/w/n", cpOpen, "", "/w/n=3"},
		cpCase{"/k", "/w/a", cpOpen, "", "/w/a=3"},
		// A link is copied itself, where it leads, whatever its mode is.
		cpCase{"/t/l", "/w/n", cpOpen, "", "/w/n=5"},
		cpCase{"/t/s/m", "/w/n", cpOpen, "", "/w/n=5"},
		cpCase{"/lt", "/w/n", cpOpen, "", "/w/n=22"},
		cpCase{"/lr", "/w/n", cpOpen, "", "/w/n=24"},
		cpCase{"/lr/lw", "/lr/lw/n", cpOpen, "", "/w/n=23"},
		// The names of a directory rise, wherever the new one comes.
		cpCase{"/w/x", "/w/-", cpOpen, "", "/w/-=9"},
		cpCase{"/w/x", "/w/x.", cpOpen, "", "/w/x.=9"},
		// The directory of what is copied need not be one that may be read or changed.
		cpCase{"/blind/x", "/w/n", cpOpen, "", "/w/n=13"},
		cpCase{"/blind/x", "/blind/n", cpBlind, "", "/blind/n=13"})
	checkCopies(t, cpFs(), slices.Concat(owners, mighty),
		cpCase{"/t/z", "/t/n", cpTop, "", "/t/n=7"},
		cpCase{"/t/s/b", "/shut/n", cpShut, "", "/shut/n=7"},
		cpCase{"/t/a", "/t/s/n", cpSub, "", "/t/s/n=3"})
	checkCopies(t, cpFs(), mighty,
		cpCase{"/t/a", "/n", cpRoot, "", "/n=3"},
		cpCase{"/lr", "/n", cpRoot, "", "/n=24"})
}

func TestCopyTreeOfFilesThatMayNotBeRead(t *testing.T) {
	checkCopies(t, cpFs(), guests, cpCase{"/t/z", "/w/n", cpOpen, "4:/t/z", ""}, cpCase{"//t/./s/b", "/lw/n", cpOpen, "4://t/./s/b", ""})
	// Of a file the bit to read is asked for, of a link none is.
	for mode := range 512 {
		f := cpFs()
		f.Nodes[cpDark].Mode, f.Nodes[cpLink].Mode = mode, mode
		f.Nodes[cpLink].Uid, f.Nodes[cpLink].Gid = 1, 2
		for i, c := range []impl.Cred{owner, mate, other, root} {
			as := []impl.Cred{c}
			checkCopies(t, f, as, cpCase{"/t/l", "/w/n", cpOpen, "", "/w/n=5"})
			if bitsFor(mode, i)&4 == 0 {
				checkCopies(t, f, as, cpCase{"/t/z", "/w/n", cpOpen, "4:/t/z", ""})
			} else {
				checkCopies(t, f, as, cpCase{"/t/z", "/w/n", cpOpen, "", "/w/n=7"})
			}
		}
	}
}

const cpAllOfTop = "/w/n=2 /w/n/a=3 /w/n/e=4 /w/n/l=5 /w/n/s=6 /w/n/s/a=3 /w/n/s/b=7 /w/n/s/m=5 /w/n/z=7"

func TestCopyTreeOfDirectories(t *testing.T) {
	checkCopies(t, cpFs(), slices.Concat(owners, mighty),
		cpCase{"/t", "/w/n", cpOpen, "", cpAllOfTop},
		cpCase{"/t/e", "/w/n", cpOpen, "", "/w/n=4"},
		cpCase{"/t/s", "/w/n", cpOpen, "", "/w/n=6 /w/n/a=3 /w/n/b=7 /w/n/m=5"},
		// Into the directory that it is in, and to one beside it that begins alike.
		cpCase{"/t/s", "/t/n", cpTop, "", "/t/n=6 /t/n/a=3 /t/n/b=7 /t/n/m=5"},
		cpCase{"/t/s", "/t/sa", cpTop, "", "/t/sa=6 /t/sa/a=3 /t/sa/b=7 /t/sa/m=5"},
		cpCase{"/t/e", "/t/s/e", cpSub, "", "/t/s/e=4"},
		cpCase{"/void", "/w/n", cpOpen, "", "/w/n=18 /w/n/b=19 /w/n/d=20 /w/n/s=21"},
		cpCase{"/blind", "/w/n", cpOpen, "", "/w/n=12 /w/n/x=13"},
		cpCase{"/deaf", "/w/n", cpOpen, "", "/w/n=14 /w/n/x=15"},
		cpCase{"/shut", "/w/n", cpOpen, "", "/w/n=16 /w/n/x=17"})
	checkCopies(t, cpFs(), anyone,
		cpCase{"/r", "/w/n", cpOpen, "", "/w/n=10 /w/n/f=11"})
	checkCopies(t, cpFs(), mighty,
		cpCase{"/w", "/n", cpRoot, "", "/n=8 /n/x=9"},
		cpCase{"/w", "/wa", cpRoot, "", "/wa=8 /wa/x=9"},
		cpCase{"/w", "/v", cpRoot, "", "/v=8 /v/x=9"},
		cpCase{"/t", "/ta", cpRoot, "", strings.ReplaceAll(cpAllOfTop, "/w/n", "/ta")})
	// Those who may look into a part of it alone copy that.
	checkCopies(t, cpFs(), []impl.Cred{other, {Uid: 99, Gid: 0}},
		cpCase{"/t", "/w/n", cpOpen, "4:/t/e 4:/t/s/b 4:/t/z", "/w/n=2 /w/n/a=3 /w/n/e=4 /w/n/l=5 /w/n/s=6 /w/n/s/a=3 /w/n/s/m=5"})
	checkCopies(t, cpFs(), []impl.Cred{mate},
		cpCase{"/t", "/w/n", cpOpen, "4:/t/s/b 4:/t/z", "/w/n=2 /w/n/a=3 /w/n/e=4 /w/n/l=5 /w/n/s=6 /w/n/s/a=3 /w/n/s/m=5"})
}

// A directory that may not be looked into is copied, though nothing in it is. It is
// a fault even where nothing is in it.
func TestCopyTreeOfDirectoriesThatMayNotBeLookedInto(t *testing.T) {
	checkCopies(t, cpFs(), guests,
		cpCase{"/blind", "/w/n", cpOpen, "4:/blind", "/w/n=12"},
		cpCase{"/deaf", "/w/n", cpOpen, "4:/deaf", "/w/n=14"},
		cpCase{"/shut", "/w/n", cpOpen, "4:/shut", "/w/n=16"},
		cpCase{"/void/b", "/w/n", cpOpen, "4:/void/b", "/w/n=19"},
		cpCase{"/void/d", "/w/n", cpOpen, "4:/void/d", "/w/n=20"},
		cpCase{"/void/s", "/w/n", cpOpen, "4:/void/s", "/w/n=21"},
		cpCase{"/void", "/w/n", cpOpen, "4:/void/b 4:/void/d 4:/void/s", "/w/n=18 /w/n/b=19 /w/n/d=20 /w/n/s=21"})
	for mode := range 512 {
		f := cpFs()
		f.Nodes[cpShut].Mode, f.Nodes[cpVoidS].Mode = mode, mode
		for i, c := range []impl.Cred{owner, mate, other, root} {
			as := []impl.Cred{c}
			if bitsFor(mode, i)&5 == 5 {
				checkCopies(t, f, as, cpCase{"/shut", "/w/n", cpOpen, "", "/w/n=16 /w/n/x=17"}, cpCase{"/void/s", "/w/n", cpOpen, "", "/w/n=21"})
			} else {
				checkCopies(t, f, as, cpCase{"/shut", "/w/n", cpOpen, "4:/shut", "/w/n=16"}, cpCase{"/void/s", "/w/n", cpOpen, "4:/void/s", "/w/n=21"})
			}
		}
	}
}

// What the owner of the copy may do in it is not asked for: only what the cred may
// at the node itself.
func TestCopyTreeIntoCopiesThatMayNotBeChanged(t *testing.T) {
	f := cpFs()
	for _, node := range []int{cpTop, cpSub, cpEmpty} {
		f.Nodes[node].Mode = 0o575
	}
	checkCopies(t, f, []impl.Cred{owner, mate}, cpCase{"/t/e", "/w/n", cpOpen, "", "/w/n=4"})
	checkCopies(t, f, []impl.Cred{owner}, cpCase{"/t", "/w/n", cpOpen, "", cpAllOfTop})
	// One that the others may look into is copied for one who may not look into it
	// then, as its owner: that is no fault.
	f.Nodes[cpSub].Mode, f.Nodes[cpFile].Mode = 0o005, 0o004
	checkCopies(t, f, []impl.Cred{other}, cpCase{"/t/s", "/w/n", cpOpen, "4:/t/s/b", "/w/n=6 /w/n/a=3 /w/n/m=5"})
	f.Nodes[cpSub].Mode = 0o700
	checkCopies(t, f, []impl.Cred{other}, cpCase{"/t/s", "/w/n", cpOpen, "4:/t/s", "/w/n=6"})
}

// The path of a fault goes on from the path that was asked for, on both sides.
func TestCopyTreeKeepsThePaths(t *testing.T) {
	const made = "/w/n=2 /w/n/a=3 /w/n/e=4 /w/n/l=5 /w/n/s=6 /w/n/s/a=3 /w/n/s/m=5"
	for _, src := range []string{"/t", "//t", "/t/", "/t//", "/./t", "/t/.", "/t/s/..", "/lr/t", "/lt/", "/lr/lt/", "/lt/.", "/w/../lt/s/.."} {
		// All slashes but the last one stay.
		in := strings.TrimSuffix(src, "/")
		checkCopies(t, cpFs(), []impl.Cred{other}, cpCase{src, "/w/n", cpOpen, fmt.Sprintf("4:%[1]s/e 4:%[1]s/s/b 4:%[1]s/z", in), made})
	}
	for _, src := range []string{"/shut", "/shut/", "/shut//", "//shut"} {
		checkCopies(t, cpFs(), guests, cpCase{src, "/w/n", cpOpen, "4:" + src, "/w/n=16"})
	}
	full := cpFs()
	full.Room, _ = impl.BytesIn(full)
	for _, dst := range []string{"/w/n", "//w/n", "/w//n", "/lw/n", "/lr/lw/n", "/w/./n", "/t/../w/n"} {
		checkCopies(t, full, mighty, cpCase{"/t", dst, cpOpen, fmt.Sprintf("8:%[1]s/a 8:%[1]s/l 8:%[1]s/s/a 8:%[1]s/s/b 8:%[1]s/s/m 8:%[1]s/z", dst), "/w/n=2 /w/n/e=4 /w/n/s=6"},
			cpCase{"/k", dst, cpOpen, "8:" + dst, ""})
	}
}

// chainMade has copies of so many directories of a chain, from one of these on.
func chainMade(dst string, first int, count int) string {
	var made []string
	for deep := range count {
		made = append(made, fmt.Sprint(dst, strings.Repeat("/abcdefgh", deep), "=", first+deep))
	}
	return strings.Join(made, " ")
}

func openChainFs(n int) impl.Fs {
	f := chainFs(n, "abcdefgh")
	for i := range f.Nodes {
		f.Nodes[i].Mode = 0o777
	}
	return f
}

// Paths of entries may be longer than one that may be asked for.
func TestCopyTreeOfDeepDirectories(t *testing.T) {
	f, way := openChainFs(20), strings.Repeat("/abcdefgh", 6)
	checkCopies(t, f, someCreds,
		cpCase{"/abcdefgh", "/b", 0, "", chainMade("/b", 1, 19)},
		cpCase{way, way[:45] + "/b", 5, "", chainMade(way[:45]+"/b", 6, 14)})
	f.Nodes[19].Mode = 0
	checkCopies(t, f, guests, cpCase{"/abcdefgh", "/b", 0, "4:" + strings.Repeat("/abcdefgh", 19), chainMade("/b", 1, 19)})
	checkCopies(t, openChainFs(22), someCreds, cpCase{"/abcdefgh", "/b", 0, "8:/b" + strings.Repeat("/abcdefgh", 18), chainMade("/b", 1, 18)})
}

func TestCopyCodeOfPathsToCopy(t *testing.T) {
	f := lookFs()
	for _, dst := range []string{"", "/", "n", "/none/n", "/f/n", "/self/n", "/a", "/a/f", "/a/n/", "/.", "/n", "/a/b/n"} {
		checkNoCopies(t, f, someCreds, impl.EcPath, ".", toEach("", dst)...)
		checkNoCopies(t, f, someCreds, impl.EcPath, "src", fromEach(dst, "a", ".", "..", "a/b", "./a", "A", "/A", "/\x00", "\xff", "/é", "/a b", "/123456789", longPath(61), strings.Repeat("/", 61), strings.Repeat("/a", 10000))...)
		checkNoCopies(t, f, someCreds, impl.EcNone, "src", fromEach(dst, "/none", "/none/", "/none/x", "/a/none", "/no/", "/no/x", "/none/..", longPath(60))...)
		checkNoCopies(t, f, someCreds, impl.EcNoDir, "src", fromEach(dst, "/f/", "/f/x", "/f/.", "/lf/", "/sl/", "/a/f/..")...)
		checkNoCopies(t, f, someCreds, impl.EcLoop, "src", fromEach(dst, "/self/", "/self/x", "/ping/x")...)
		checkNoCopies(t, f, []impl.Cred{owner, mate, other}, impl.EcMay, "src", fromEach(dst, "/shut/x", "/shut/none", "/shut/.", "/ls/")...)
		checkNoCopies(t, f, guests, impl.EcMay, "src", fromEach(dst, "/own/f", "/own/none")...)
	}
	checkNoCopies(t, hopsFs(), someCreds, impl.EcLoop, "src", fromEach("/l9/n", "/l9/f", "/l9/", "/l8/h/")...)
	checkNoCopies(t, hopsFs(), someCreds, impl.EcLoop, "dst", toEach("/l9", "/l9/n", "/l8/h/n")...)
	checkCopies(t, hopsFs(), mighty, cpCase{"/l8/f", "/l8/n", 1, "", "/d/n=2"}, cpCase{"/l7/h/f", "/l7/h/n", 1, "", "/d/n=2"}, cpCase{"/l9", "/l8/n", 1, "", "/d/n=13"})
}

func TestCopyCodeOfPathsToCopyTo(t *testing.T) {
	f := lookFs()
	for _, src := range []string{"/", "/a", "/a/", "/f", "/la", "/self", "/a/b/g", "/no"} {
		checkNoCopies(t, f, someCreds, impl.EcPath, ".", toEach(src, "")...)
		checkNoCopies(t, f, someCreds, impl.EcPath, "dst", toEach(src, "/", "//", "/.", "/..", "/a/.", "/a/..", "/a/b/..", "/n/", "/n/.", "/n/..", "/a/", "/a/n/", "/f/", "/none/n/", "n", ".", "..", "a/n", "A", "/A", "/\x00", "/é",
			"/123456789", "/n ", longPath(61), strings.Repeat("/", 60), strings.Repeat("/a", 10000))...)
		checkNoCopies(t, f, someCreds, impl.EcNone, "dst", toEach(src, "/none/n", "/a/none/n", "/no/n", "/none/../n", longPath(60))...)
		checkNoCopies(t, f, someCreds, impl.EcNoDir, "dst", toEach(src, "/f/n", "/lf/n", "/a/f/n", "/f/../n", "/sl/n")...)
		checkNoCopies(t, f, someCreds, impl.EcLoop, "dst", toEach(src, "/self/n", "/ping/n")...)
		checkNoCopies(t, f, []impl.Cred{owner, mate, other}, impl.EcMay, "dst", toEach(src, "/shut/n", "/shut/x", "/shut/x/n", "/ls/n")...)
		checkNoCopies(t, f, guests, impl.EcMay, "dst", toEach(src, "/own/n", "/own/f")...)
		// A name that is there is told ahead of a directory that may not be changed, and
		// ahead of one that is within src.
		checkNoCopies(t, f, someCreds, impl.EcThere, "dst", toEach(src, "/a", "/f", "/la", "/no", "/self", "/a/b", "/a/f", "/la/e", "/a/up/g", "/here/a", "//a", "/a/../f")...)
	}
	// A name that is free, and a directory that may not be changed.
	checkNoCopies(t, cpFs(), guests, impl.EcMay, "dst", slices.Concat(toEach("/w/x", "/n", "/r/n", "/t/n", "/t/s/n", "/lr/n"), toEach("/t", "/t/n", "/t/s/n", "/n"), toEach("/", "/n", "/t/n"), toEach("/t/z", "/n"), toEach("/shut", "/n"))...)
	checkNoCopies(t, cpFs(), owners, impl.EcMay, "dst", slices.Concat(toEach("/w/x", "/n", "/lr/n"), toEach("/", "/n"))...)
	// Both bits are asked for.
	for mode := range 512 {
		g := cpFs()
		g.Nodes[cpOwn].Mode, g.Nodes[cpOpen].Mode = mode, 0o777
		for i, c := range []impl.Cred{owner, mate, other, root} {
			if bitsFor(mode, i)&3 == 3 {
				checkCopies(t, g, []impl.Cred{c}, cpCase{"/w/x", "/r/n", cpOwn, "", "/r/n=9"})
			} else {
				checkNoCopies(t, g, []impl.Cred{c}, impl.EcMay, "dst", [2]string{"/w/x", "/r/n"})
			}
		}
	}
}

func TestCopyCodeOfDirectoriesIntoThemselves(t *testing.T) {
	f := cpFs()
	checkNoCopies(t, f, slices.Concat(owners, mighty), impl.EcPath, "dst", slices.Concat(
		toEach("/t", "/t/n", "/t/s/n", "/t/e/n", "/lt/n", "/lt/s/n", "//t/./n", "/t/../t/s/n", "/lr/t/n", "/w/../t/n"),
		toEach("/t/", "/t/n", "/lt/n"), toEach("/lt/", "/t/n", "/lt/s/n"), toEach("/t/s", "/t/s/n"), toEach("/t/s/..", "/t/n"), toEach("/t/e", "/lt/e/n"))...)
	checkNoCopies(t, f, mighty, impl.EcPath, "dst", slices.Concat(toEach("/", "/n", "/t/n", "/w/n", "/t/s/n", "/lr/n"), toEach("/lr/", "/n", "/t/n"), toEach("//", "/n"), toEach("/t/..", "/w/n"), toEach("/.", "/n"))...)
	checkNoCopies(t, f, anyone, impl.EcPath, "dst", slices.Concat(toEach("/", "/w/n", "/lw/n"), toEach("/w", "/w/n", "/lw/n"), toEach("/w/", "/w/n"), toEach("/lr/.", "/w/n"))...)
	// That holds where it would not fit, or may not be looked into, too.
	g := cpFs()
	crowd(&g)
	g.Nodes[cpOpen].Mode = 0o333
	checkNoCopies(t, g, anyone, impl.EcPath, "dst", toEach("/w", "/w/n")...)
	// A link to a directory goes into it, and a file into any.
	checkCopies(t, f, slices.Concat(owners, mighty), cpCase{"/lt", "/t/n", cpTop, "", "/t/n=22"}, cpCase{"/lt", "/lt/s/n", cpSub, "", "/t/s/n=22"}, cpCase{"/t/a", "/t/a.", cpTop, "", "/t/a.=3"})
	checkCopies(t, f, anyone, cpCase{"/lw", "/w/lw", cpOpen, "", "/w/lw=23"}, cpCase{"/lw", "/lw/n", cpOpen, "", "/w/n=23"}, cpCase{"/w/x", "/lw/n", cpOpen, "", "/w/n=9"})
	// Nothing is within a directory whose name begins as its own does.
	d := newDraft()
	d.Nodes[0].Mode = 0o777
	a := d.dir(0, "a", 0o777)
	ab := d.dir(0, "ab", 0o777)
	d.dir(a, "b", 0o777)
	checkCopies(t, d.Fs, anyone, cpCase{"/a", "/ab/n", ab, "", "/ab/n=1 /ab/n/b=3"}, cpCase{"/ab", "/a/n", a, "", "/a/n=2"}, cpCase{"/ab", "/a/b/n", 3, "", "/a/b/n=2"}, cpCase{"/a/b", "/a/bc", a, "", "/a/bc=3"})
}

// leave leaves just so many nodes free, if there are as many, which lie between
// others.
func leave(f *impl.Fs, count int) {
	var free []int
	for i := range 40 {
		if node := i * 7 % 40; node >= len(f.Nodes) || f.Nodes[node].Kind == impl.KdFree {
			free = append(free, node)
		}
	}
	crowd(f)
	for _, node := range free[:min(count, len(free))] {
		gone(f, 0, fmt.Sprintf("%02d", node))
		f.Nodes[node] = impl.Node{}
	}
}

func TestCopyTreeWhereNodesRunOut(t *testing.T) {
	all := strings.Fields(cpAllOfTop)
	for free, want := range []struct{ faults, made string }{
		{"8:/w/n", ""},
		{"8:/w/n/a 8:/w/n/e 8:/w/n/l 8:/w/n/s 8:/w/n/z", all[0]},
		{"8:/w/n/e 8:/w/n/l 8:/w/n/s 8:/w/n/z", strings.Join(all[:2], " ")},
		{"8:/w/n/l 8:/w/n/s 8:/w/n/z", strings.Join(all[:3], " ")},
		{"8:/w/n/s 8:/w/n/z", strings.Join(all[:4], " ")},
		// What was copied already needs no node, also behind one that did not fit.
		{"8:/w/n/s/b 8:/w/n/z", "/w/n=2 /w/n/a=3 /w/n/e=4 /w/n/l=5 /w/n/s=6 /w/n/s/a=3 /w/n/s/m=5"},
		{"", cpAllOfTop},
		{"", cpAllOfTop},
	} {
		f := cpFs()
		leave(&f, free)
		checkCopies(t, f, slices.Concat(owners, mighty), cpCase{"/t", "/w/n", cpOpen, want.faults, want.made})
		if node, ok := impl.FreeNode(f); (node > 0) != (free > 0) || ok != (free > 0) {
			t.Error(free, node, ok)
		}
	}
	f := cpFs()
	leave(&f, 0)
	for _, src := range []string{"/w/x", "/t/l", "/t", "/void/s", "/lw"} {
		checkCopies(t, f, mighty, cpCase{src, "/w/n", cpOpen, "8:/w/n", ""}, cpCase{src, "/r/n", cpOwn, "8:/r/n", ""})
	}
	// A directory that is not copied is not looked into, nor told as one that may not be.
	checkCopies(t, f, guests, cpCase{"/shut", "/w/n", cpOpen, "8:/w/n", ""}, cpCase{"/void", "/w/n", cpOpen, "8:/w/n", ""}, cpCase{"/t", "/w/n", cpOpen, "8:/w/n", ""})
	// That a file may not be read is told ahead of that it does not fit.
	checkCopies(t, f, guests, cpCase{"/t/z", "/w/n", cpOpen, "4:/t/z", ""})
	f = cpFs()
	leave(&f, 1)
	checkCopies(t, f, []impl.Cred{other}, cpCase{"/t", "/w/n", cpOpen, "8:/w/n/a 8:/w/n/e 8:/w/n/l 8:/w/n/s 4:/t/z", "/w/n=2"}, cpCase{"/void", "/w/n", cpOpen, "8:/w/n/b 8:/w/n/d 8:/w/n/s", "/w/n=18"})
	f = cpFs()
	leave(&f, 2)
	checkCopies(t, f, []impl.Cred{other}, cpCase{"/void", "/w/n", cpOpen, "4:/void/b 8:/w/n/d 8:/w/n/s", "/w/n=18 /w/n/b=19"})
	f = cpFs()
	leave(&f, 5)
	checkCopies(t, f, []impl.Cred{other}, cpCase{"/t", "/w/n", cpOpen, "4:/t/e 4:/t/s/b 4:/t/z", "/w/n=2 /w/n/a=3 /w/n/e=4 /w/n/l=5 /w/n/s=6 /w/n/s/a=3 /w/n/s/m=5"})
}

func TestCopyTreeWhereBytesRunOut(t *testing.T) {
	const none = "8:/w/n/a 8:/w/n/l 8:/w/n/s/a 8:/w/n/s/b 8:/w/n/s/m 8:/w/n/z"
	const few = "8:/w/n/a 8:/w/n/s/a 8:/w/n/s/b 8:/w/n/z"
	const dirs, links = "/w/n=2 /w/n/e=4 /w/n/s=6", "/w/n=2 /w/n/e=4 /w/n/l=5 /w/n/s=6 /w/n/s/m=5"
	const files = "/w/n=2 /w/n/a=3 /w/n/e=4 /w/n/s=6 /w/n/s/a=3"
	const both = "/w/n=2 /w/n/a=3 /w/n/e=4 /w/n/l=5 /w/n/s=6 /w/n/s/a=3 /w/n/s/m=5"
	for left, want := range []struct{ faults, made string }{
		{none, dirs}, {few, links}, {few, links}, {few, links}, {few, links},
		{"8:/w/n/l 8:/w/n/s/b 8:/w/n/s/m 8:/w/n/z", files},
		{"8:/w/n/s/b 8:/w/n/z", both}, {"8:/w/n/s/b 8:/w/n/z", both}, {"8:/w/n/s/b 8:/w/n/z", both}, {"8:/w/n/s/b 8:/w/n/z", both},
		{"", cpAllOfTop}, {"", cpAllOfTop},
	} {
		f := cpFs()
		bytes, _ := impl.BytesIn(f)
		f.Room = bytes + left
		checkCopies(t, f, slices.Concat(owners, mighty), cpCase{"/t", "/w/n", cpOpen, want.faults, want.made})
		faults, made := "", "/w/n=3"
		if left < 5 {
			faults, made = "8:/w/n", ""
		}
		checkCopies(t, f, anyone, cpCase{"/t/a", "/w/n", cpOpen, faults, made}, cpCase{"/k", "/w/n", cpOpen, faults, made})
	}
}

// A need is what a copy of a node takes.
type need struct {
	node, nodes, bytes int
}

func checkNeeds(t *testing.T, f impl.Fs, l ...need) {
	t.Helper()
	for _, want := range l {
		if nodes, bytes, ok := impl.CopyNeeds(f, want.node); nodes != want.nodes || bytes != want.bytes || !ok {
			t.Errorf("node %d: %d nodes, %d bytes, %t instead of %d, %d in %.500v", want.node, nodes, bytes, ok, want.nodes, want.bytes, f)
		}
	}
}

func checkFits(t *testing.T, f impl.Fs, node int, want bool) {
	t.Helper()
	if is, ok := impl.FitsCopy(f, node); is != want || !ok {
		t.Errorf("node %d: %t, %t instead of %t in %.500v", node, is, ok, want, f)
	}
}

func TestCopyNeeds(t *testing.T) {
	checkNeeds(t, cpFs(),
		need{cpRoot, 24, 18}, need{cpTop, 6, 10}, need{cpFile, 1, 5}, need{cpEmpty, 1, 0}, need{cpLink, 1, 1}, need{cpSub, 4, 10}, need{cpDark, 1, 4}, need{cpOpen, 2, 1}, need{cpSole, 1, 1},
		need{cpOwn, 2, 1}, need{cpInOwn, 1, 1}, need{cpVoid, 4, 0}, need{cpVoidS, 1, 0}, need{cpShut, 2, 1}, need{cpToTop, 1, 1}, need{cpToRoot, 1, 1})
	checkNeeds(t, duFs(), need{duTop, 8, 21}, need{duLink, 1, 10}, need{duLast, 1, 0})
	checkNeeds(t, chainFs(40, "abcdefgh"), need{0, 40, 0}, need{39, 1, 0}, need{20, 20, 0})
	checkNeeds(t, filesFs(16, 60, 1000), need{0, 17, 960}, need{16, 1, 60})
	checkNeeds(t, filesFs(39, 25, 975), need{0, 40, 975})
	f, _ := impl.NewFs(0)
	checkNeeds(t, f, need{0, 1, 0})
	// Each node is counted once, by how many names ever it is met.
	d := newDraft()
	in := d.dir(0, "d", 0)
	file, link := d.file(in, "file"), d.link(in, "link", "/long/way")
	for _, name := range []string{"a", "b", "g", "z"} {
		d.name(in, name, file)
		d.name(in, name+"l", link)
		d.name(0, name, file)
	}
	checkNeeds(t, d.Fs, need{0, 4, 13}, need{in, 3, 13}, need{file, 1, 4}, need{link, 1, 9})
}

func TestFitsCopyByNodes(t *testing.T) {
	for free := range 8 {
		f := cpFs()
		leave(&f, free)
		checkFits(t, f, cpTop, free >= 6)
		checkFits(t, f, cpSub, free >= 4)
		checkFits(t, f, cpOpen, free >= 2)
		checkFits(t, f, cpEmpty, free >= 1)
		checkFits(t, f, cpToTop, free >= 1)
		checkFits(t, f, cpRoot, false)
	}
	// Nodes that are not there yet count as free ones, with them and alone.
	for n := 1; n <= 40; n++ {
		checkFits(t, chainFs(n, "a"), 0, n <= 20)
		checkFits(t, chainFs(n, "a"), n-1, n < 40)
		checkFits(t, chainFs(n, "a"), n/2, n-n/2 <= 40-n)
		checkFits(t, fullFs(n), 0, n <= 20)
	}
	for n := 24; n <= 40; n++ {
		f := fullFs(n, 23, 7, 9, 11, 20)
		checkFits(t, f, 0, n-5 <= 40-n+5)
	}
	f := cpFs()
	f.Nodes = append(f.Nodes, make([]impl.Node, 14)...)
	checkFits(t, f, cpRoot, false)
	checkFits(t, f, cpTop, true)
	checkFits(t, f, cpFile, true)
}

func TestFitsCopyByBytes(t *testing.T) {
	for left := range 20 {
		f := cpFs()
		bytes, _ := impl.BytesIn(f)
		f.Room = bytes + left
		checkFits(t, f, cpTop, left >= 10)
		checkFits(t, f, cpSub, left >= 10)
		checkFits(t, f, cpFile, left >= 5)
		checkFits(t, f, cpDark, left >= 4)
		checkFits(t, f, cpLink, left >= 1)
		checkFits(t, f, cpEmpty, true)
		checkFits(t, f, cpVoid, true)
		checkFits(t, f, cpRoot, false)
	}
	for _, n := range []int{499, 500, 501} {
		f := filesFs(10, 50, 1000)
		f.Nodes[1].Data = strings.Repeat("\xff", 50+n-500)
		checkFits(t, f, 0, n <= 500)
	}
	// Both are asked for.
	f := filesFs(20, 25, 1000)
	checkFits(t, f, 0, false)
	f = filesFs(19, 25, 949)
	checkFits(t, f, 0, false)
	f = filesFs(19, 25, 950)
	checkFits(t, f, 0, true)
}

func checkBut(t *testing.T, a, b impl.Fs, want bool, paths ...string) {
	t.Helper()
	for _, path := range paths {
		if is, ok := impl.SameBut(a, b, path); is != want || !ok {
			t.Errorf("%q: %t, %t instead of %t of\n%v and\n%v", path, is, ok, want, a, b)
		}
		if is, ok := impl.SameBut(b, a, path); is != want || !ok {
			t.Errorf("%q, the other way round: %t, %t instead of %t of\n%v and\n%v", path, is, ok, want, a, b)
		}
	}
}

func TestSameBut(t *testing.T) {
	f := cpFs()
	checkBut(t, f, f, true, "/", "/t", "/t/s", "/none", "/t/none/x", "/k", "/..", longPath(60), "//t/../w/")
	change := func(node int, by func(n *impl.Node)) impl.Fs {
		g := cpFs()
		by(&g.Nodes[node])
		return g
	}
	older := func(n *impl.Node) { n.Time++ }
	// At the path, and below it.
	checkBut(t, f, change(cpTop, older), true, "/t", "/t/", "//t", "/./t", "/w/../t", "/t/s/..", "/", "/..", "/t/..", "/.")
	checkBut(t, f, change(cpEmpty, older), true, "/t/e", "/t", "/", "/t/s/../e/")
	checkBut(t, f, change(cpOpen, older), true, "/w")
	checkBut(t, f, change(cpSole, older), true, "/w", "/w/x", "/w/./x")
	// Above it, beside it, and where a name begins alike.
	checkBut(t, f, change(cpTop, older), false, "/t/e", "/t/s", "/t/a", "/w", "/k", "/t.", "/tt", "/tt/..t", "/lt", "/lt/s", "/none", "/t/none", "/t/x/..e", "/r")
	checkBut(t, f, change(cpEmpty, older), false, "/t/e/x", "/t/s", "/t/ee", "/e", "/w", "/t/e.", "/lt/e")
	checkBut(t, f, change(cpOpen, older), false, "/w/x", "/t", "/ww", "/lw")
	// Node 0 itself is within / alone.
	checkBut(t, f, change(cpRoot, older), false, "/t", "/w", "/none", longPath(59))
	checkBut(t, f, change(cpRoot, older), true, "/", "//", "/.", "/..", "/t/..", "/../..")
	// What the line of a node tells, of a node with one way.
	for _, by := range []func(n *impl.Node){
		older, func(n *impl.Node) { n.Mode++ }, func(n *impl.Node) { n.Uid++ }, func(n *impl.Node) { n.Gid++ }, func(n *impl.Node) { n.Data = "y" }, func(n *impl.Node) { n.Data = "" }, func(n *impl.Node) { n.Kind = impl.KdLink },
	} {
		checkBut(t, f, change(cpSole, by), true, "/w/x", "/w", "/")
		checkBut(t, f, change(cpSole, by), false, "/w/y", "/t", "/x")
	}
	// A node with several ways is another one in each.
	checkBut(t, f, change(cpFile, older), false, "/t", "/k", "/t/s", "/t/a", "/t/s/a")
	checkBut(t, f, change(cpDark, older), false, "/t/s", "/t/z")
	checkBut(t, f, change(cpDark, older), true, "/t", "/")
	// The numbers of the nodes, the room and what is free do not count.
	g := renumbered(cpFs(), 5)
	g.Room = 18
	checkBut(t, f, g, true, "/none", "/t", "/w/x")
}

func TestSameButOfOtherNames(t *testing.T) {
	f := cpFs()
	for _, c := range []struct {
		deed deed
		dir  int
		is   []string
		not  []string
	}{
		{mkdir("/w/n"), cpOpen, []string{"/w/n", "/w", "/"}, []string{"/w/nn", "/w/x", "/n", "/w/n/x"}},
		{mkfile("/t/e/n", "d"), cpEmpty, []string{"/t/e/n", "/t/e", "/t", "/"}, []string{"/t/e/n.", "/t/s", "/n"}},
		{addName("/t/a", "/w/n"), cpOpen, []string{"/w/n", "/w", "/"}, []string{"/t", "/t/a", "/k"}},
		{unlink("/w/x"), cpOpen, []string{"/w/x", "/w", "/"}, []string{"/w/n", "/t"}},
		{unlink("/k"), cpRoot, []string{"/k", "/"}, []string{"/t/a", "/t"}},
		{move("/t/s", "/t/n"), cpTop, []string{"/t", "/"}, []string{"/t/s", "/t/n"}},
		{move("/w/x", "/w/y"), cpOpen, []string{"/w", "/"}, []string{"/w/x", "/w/y"}},
	} {
		g, code, ok := c.deed.on(f, root)
		if code != impl.EcOk || !ok {
			t.Fatal(c, code, ok)
		}
		g.Nodes[c.dir].Time = f.Nodes[c.dir].Time
		checkBut(t, f, g, true, c.is...)
		checkBut(t, f, g, false, c.not...)
	}
	// Which names are of one node does not count, but for what each line tells.
	d, e := newDraft(), newDraft()
	d.name(0, "g", d.file(0, "f"))
	e.file(0, "f")
	e.add(0, "g", impl.Node{Kind: impl.KdFile, Mode: 0o644, Data: "f"})
	checkBut(t, d.Fs, e.Fs, true, "/none", "/f", "/g", "/")
}

// A line is that of a way, though what a file has may look like several of these.
func TestSameButOfLinesInFiles(t *testing.T) {
	d, e := newDraft(), newDraft()
	d.add(0, "a", impl.Node{Kind: impl.KdFile, Mode: 0o777, Data: "x\n-rwxrwxrwx 0 0 0 b y"})
	e.add(0, "a", impl.Node{Kind: impl.KdFile, Mode: 0o777, Data: "x"})
	e.add(0, "b", impl.Node{Kind: impl.KdFile, Mode: 0o777, Data: "y"})
	checkBut(t, d.Fs, e.Fs, true, "/none", "/")
	checkBut(t, d.Fs, e.Fs, false, "/a", "/b")
}

// IsWithin takes no path that is longer than MaxPath: such a way is within none.
func TestSameButOfLongWays(t *testing.T) {
	f := chainFs(9, "abcdefgh")
	way := strings.Repeat("/abcdefgh", 6)
	for node := range f.Nodes {
		g := copyOfFs(f)
		g.Nodes[node].Time = 5
		checkBut(t, f, g, node <= 6, "/", "//")
		checkBut(t, f, g, node == 6, way)
		checkBut(t, f, g, 1 <= node && node <= 6, "/abcdefgh")
	}
	// MaxPath itself is met exactly.
	d := newDraft()
	at := 0
	for range 6 {
		at = d.dir(at, "abcdefgh", 0)
	}
	just, over := d.file(at, "12345"), d.file(at, "123456")
	for node, want := range map[int]bool{just: true, over: false} {
		g := copyOfFs(d.Fs)
		g.Nodes[node].Time = 5
		checkBut(t, d.Fs, g, want, "/", "/abcdefgh", way)
		checkBut(t, d.Fs, g, want, way+"/12345")
		checkBut(t, d.Fs, g, false, way+"/1234", "/none")
	}
}

// copyCodeAgain and copyAgain are a second reading of the chapter: they go through
// the list of all that is met, and keep the copies of directories by their ways.
func (r *remade) copyCodeAgain(src, dst string, node *int, dir *int, name *string) (int, string) {
	path := dst
	code := firstOf(
		func() (code int) {
			if *node, code = r.findNode(src, false); code != 0 {
				path = src
			}
			return code
		},
		r.place(dst, dir, name),
		func() int { return codeIf(r.there(dir, name), 6) },
		r.mayChange(dir),
		func() int { return codeIf(r.isDir(*node) && r.holds(*node, *dir), 1) })
	switch {
	case code == 0:
		path = ""
	case path == "":
		path = "."
	}
	return code, path
}

func pathBelow(path string, m met) string {
	switch {
	case len(m.names) == 0:
		return path
	case path[len(path)-1] == '/':
		return path + wayOf(m)
	}
	return path + "/" + wayOf(m)
}

func copyAgain(f impl.Fs, c impl.Cred, d copying) (impl.Fs, []impl.Fault) {
	r := newRemade(f, c)
	var top, dir int
	var name string
	if code, path := r.copyCodeAgain(d.src, d.dst, &top, &dir, &name); code != 0 {
		return r.fs(), []impl.Fault{{Path: path, Code: code}}
	}
	var all []impl.Fault
	fault := func(path string, code int) { all = append(all, impl.Fault{Path: path, Code: code}) }
	copies, into := map[int]int{}, map[string]int{}
	for _, m := range r.seenFrom(top) {
		at, as, is := dir, name, true
		if last := len(m.names) - 1; last >= 0 {
			as = m.names[last]
			at, is = into[wayOf(met{names: m.names[:last]})]
		}
		n := r.f.Nodes[m.node]
		_, had := copies[m.node]
		switch {
		case !is:
			continue
		case !had && n.Kind == 1 && !r.may(m.node, 4):
			fault(pathBelow(d.src, m), 4)
			continue
		case !had && (r.freeNode() < 0 || r.bytes()+len(n.Data) > f.Room):
			fault(pathBelow(d.dst, m), 8)
			continue
		case !had:
			free := r.freeNode()
			if free == len(r.f.Nodes) {
				r.f.Nodes, r.names = append(r.f.Nodes, impl.Node{}), append(r.names, map[string]int{})
			}
			r.f.Nodes[free] = copied(n, c, d)
			copies[m.node] = free
		}
		if n.Kind == 2 && !r.may(m.node, 5) {
			fault(pathBelow(d.src, m), 4)
		}
		r.names[at][as], into[wayOf(m)] = copies[m.node], copies[m.node]
	}
	r.f.Nodes[dir].Time = d.time
	return r.fs(), all
}

// checkCopiedAgain holds an answer against the second reading.
func checkCopiedAgain(t *testing.T, f impl.Fs, c impl.Cred, d copying) (impl.Fs, []impl.Fault) {
	t.Helper()
	want, wantFaults := copyAgain(f, c, d)
	g, faults, ok := d.told(f, c)
	if !slices.Equal(faults, wantFaults) || !ok || !impl.SameFs(g, want) {
		t.Fatalf("%v, %+v: %v, %t instead of %v in\n%v:\n%v instead of\n%v", c, d, faults, ok, wantFaults, f, g, want)
	}
	if !isGoodByWays(g) || !impl.GoodFs(g) {
		t.Fatalf("%v, %+v: not good then: %v of %v", c, d, g, f)
	}
	checkCopyCode(t, f, c, d, faults)
	return g, faults
}

func checkCopyCode(t *testing.T, f impl.Fs, c impl.Cred, d copying, faults []impl.Fault) {
	t.Helper()
	var node, dir int
	var name string
	want, wantPath := newRemade(f, c).copyCodeAgain(d.src, d.dst, &node, &dir, &name)
	code, path, ok := impl.CopyCode(f, c, d.src, d.dst)
	if code != want || path != wantPath || !ok {
		t.Fatalf("%v, %+v: code %d of %q, %t instead of %d of %q in %v", c, d, code, path, ok, want, wantPath, f)
	}
	if code != impl.EcOk && !slices.Equal(faults, []impl.Fault{{Path: path, Code: code}}) {
		t.Fatalf("%v, %+v: code %d of %q, but %v in %v", c, d, code, path, faults, f)
	}
}

func TestEveryCopyInTheSamplesIsAsReadAgain(t *testing.T) {
	for _, f := range []impl.Fs{cpFs(), duFs(), makeFs(), lookFs(), walkFs(), sampleFs()} {
		ways, _, _ := waysToNodes(f)
		srcs := append(slices.Concat(ways...), "/", "", "/none", "/t/", "/lw/.", "/la/", "/self/x")
		dsts := []string{"/n", "/w/n", "/w/", "/lw/n", "/t/s/n", "/t/a", "/r/n", "/deaf/n", "", "/a/n", "/a/e/n", "/a/b", "/la/n", "/shut/n", "/lr/n", "/none/n"}
		for i, src := range srcs {
			for j, dst := range dsts {
				c := someCreds[(i+j)%len(someCreds)]
				checkCopiedAgain(t, f, c, copying{src, dst, i%2 == j%2, 70})
				checkCopiedAgain(t, f, root, copying{src, dst, i%2 != j%2, 70})
			}
		}
	}
}

// tightFs is a loose file system in which there is not always room.
func tightFs(seed int) (impl.Fs, func(int) int) {
	f, next := looseFs(seed)
	switch next(4) {
	case 0:
		leave(&f, next(8))
	case 1:
		leave(&f, 20)
	}
	bytes, _ := impl.BytesIn(f)
	f.Room = min(1000, bytes+[]int{next(10), next(40), next(200), 1000}[next(4)])
	return f, next
}

func someCopying(ways [][]string, next func(int) int) copying {
	all := slices.Concat(ways...)
	d := copying{tangledPath(ways, next), tangledPath(ways, next), next(2) == 0, next(1000001)}
	if next(5) > 0 && len(all) > 0 {
		d.src = all[next(len(all))]
	}
	if next(5) > 0 {
		d.dst = "/" + []string{"new", "a", "zz", "0"}[next(4)]
		if next(2) > 0 && len(all) > 0 {
			d.dst = all[next(len(all))] + d.dst
		}
	}
	return d
}

func usedIn(f impl.Fs) int {
	count := 0
	for _, n := range f.Nodes {
		if n.Kind != impl.KdFree {
			count++
		}
	}
	return count
}

func TestManyCopiesAreAsReadAgain(t *testing.T) {
	clean, some, codes := 0, 0, [2][11]int{}
	for seed := range 400 {
		f, next := tightFs(seed*2750159 + 13)
		for range 30 {
			ways, _, _ := waysToNodes(f)
			c := someCreds[next(len(someCreds))]
			if next(3) == 0 {
				c = root
			}
			d := someCopying(ways, next)
			g, faults := checkCopiedAgain(t, f, c, d)
			code, _, _ := impl.CopyCode(f, c, d.src, d.dst)
			for _, fault := range faults {
				codes[min(1, code)][fault.Code]++
			}
			if len(faults) == 0 {
				clean++
			} else if code == impl.EcOk && usedIn(g) > usedIn(f) {
				some++
			}
			// At times on goes what came of it.
			if next(10) == 0 {
				f = g
			}
		}
	}
	told := codes[1]
	if clean < 500 || some < 200 || codes[0][4] < 200 || codes[0][8] < 200 || told[1] < 200 || told[2] < 200 || told[3] < 100 || told[4] < 500 || told[5] < 5 || told[6] < 100 {
		t.Error("hardly a tree was met", clean, some, codes)
	}
}

// needsAgain goes through all nodes, and asks of each whether it is met.
func needsAgain(f impl.Fs, node int) need {
	all, want := metBelow(f, node), need{node: node}
	for i, n := range f.Nodes {
		if slices.ContainsFunc(all, func(m met) bool { return m.node == i }) {
			want.nodes++
			want.bytes += len(n.Data)
		}
	}
	return want
}

func fitsAgain(f impl.Fs, node int) bool {
	want := needsAgain(f, node)
	bytes := 0
	for _, n := range f.Nodes {
		bytes += len(n.Data)
	}
	return usedIn(f)+want.nodes <= 40 && bytes+want.bytes <= f.Room
}

func butAgain(f impl.Fs, path string) string {
	text := ""
	for _, m := range metBelow(f, 0) {
		way := "/" + wayOf(m)
		if _, is := withinByParts(path, way); is && len(way) <= 60 {
			continue
		}
		n := f.Nodes[m.node]
		text += fmt.Sprint("-dl"[n.Kind-1:n.Kind], textOfMode(n.Mode), " ", n.Uid, " ", n.Gid, " ", n.Time, " ", wayOf(m))
		if n.Kind != 2 {
			text += " " + n.Data
		}
		text += "\n"
	}
	return text
}

func TestEveryNeedIsAsReadAgain(t *testing.T) {
	fits, not := 0, 0
	each := func(f impl.Fs) {
		for node, n := range f.Nodes {
			if n.Kind == impl.KdFree {
				continue
			}
			checkNeeds(t, f, needsAgain(f, node))
			want := fitsAgain(f, node)
			checkFits(t, f, node, want)
			if want {
				fits++
			} else {
				not++
			}
			if t.Failed() {
				t.FailNow()
			}
		}
	}
	for _, f := range []impl.Fs{cpFs(), rmFs(), duFs(), makeFs(), lookFs(), walkFs(), hopsFs(), sampleFs(), chainFs(40, "a"), filesFs(16, 60, 1000)} {
		each(f)
	}
	for seed := range 300 {
		f, _ := tightFs(seed*6700417 + 1)
		each(f)
	}
	if fits < 1000 || not < 1000 {
		t.Error("hardly a tree was met", fits, not)
	}
}

func TestEverySameButIsAsReadAgain(t *testing.T) {
	same, not := 0, 0
	for seed := range 60 {
		f, next := tangledFs(seed*3628273 + 3)
		ways, _, _ := waysToNodes(f)
		g := copyOfFs(f)
		// What is another way is a node, or a name that went, or one that came.
		for range next(3) {
			if node := next(len(g.Nodes)); g.Nodes[node].Kind != impl.KdFree {
				g.Nodes[node].Time++
			}
		}
		if next(2) == 0 {
			g, _, _ = someDeed(f, next).on(g, root)
		}
		paths := append(slices.Concat(ways...), wholePaths()...)
		for range 40 {
			paths = append(paths, tangledPath(ways, next))
		}
		for _, path := range paths {
			if !isPathByForm(path) || path[0] != '/' {
				if is, ok := impl.SameBut(f, g, path); is || ok {
					t.Fatalf("%q: %t, %t", path, is, ok)
				}
				continue
			}
			want := butAgain(f, path) == butAgain(g, path)
			checkBut(t, f, g, want, path)
			if want {
				same++
			} else {
				not++
			}
		}
		if t.Failed() {
			t.FailNow()
		}
	}
	if same < 1000 || not < 1000 {
		t.Error("hardly a file system was met", same, not)
	}
}

// A target is a path at which a copy may come, and the number of its directory.
type target struct {
	dir int
	dst string
}

// targetsFor has those in all directories but the ones within a node.
func targetsFor(f impl.Fs, node int) []target {
	var all []target
	ways, _, _ := waysToNodes(f)
	ways[0] = []string{""}
	below := metBelow(f, node)
	for dir, n := range f.Nodes {
		isIn := slices.ContainsFunc(below, func(m met) bool { return m.node == dir })
		if n.Kind == impl.KdDir && !isIn && len(ways[dir][0]) <= 55 {
			all = append(all, target{dir, ways[dir][0] + "/copy"})
		}
	}
	return all
}

// Promise 10: if there is room, a preserving copy made by a privileged user is an
// equal tree, and removing it leaves nothing of it.
func TestCopiesAreEqualTreesAndLeaveNothing(t *testing.T) {
	fits, not := 0, 0
	check := func(f impl.Fs, c impl.Cred, node int, src string) {
		room, ok := impl.FitsCopy(f, node)
		if !ok {
			t.Fatalf("node %d of %v", node, f)
		}
		all := targetsFor(f, node)
		at := all[node*(c.Gid+3)%len(all)]
		// By this time the directory is then as it was.
		d := copying{src, at.dst, true, f.Nodes[at.dir].Time}
		g, faults, ok := d.told(f, c)
		if !ok || room != (len(faults) == 0) {
			t.Fatalf("%v, %+v: room %t, but %v, %t in %v", c, d, room, faults, ok, f)
		}
		if !room {
			not++
			return
		}
		fits++
		checkEqualTree(t, f, g, c, node, d)
		checkNothingIsLeft(t, f, g, c, d)
	}
	eachNamed(func(f impl.Fs, c impl.Cred, node int) {
		ways, _, _ := waysToNodes(f)
		if c.Uid == 0 && len(ways[node][0]) <= 60 {
			check(f, c, node, ways[node][0])
		}
	})
	for seed := range 200 {
		f, next := tightFs(seed*32452843 + 11)
		ways, _, _ := waysToNodes(f)
		for node, all := range ways {
			if len(all) == 0 {
				continue
			}
			if way := all[next(len(all))]; len(way) <= 60 {
				check(f, impl.Cred{Uid: 0, Gid: next(100)}, node, way)
			}
		}
	}
	if fits < 5000 || not < 1000 {
		t.Error("hardly a tree was met", fits, not)
	}
}

func checkEqualTree(t *testing.T, f impl.Fs, g impl.Fs, c impl.Cred, node int, d copying) {
	t.Helper()
	made, code, ok := impl.FindNode(g, c, d.dst, false)
	if code != impl.EcOk || !ok {
		t.Fatalf("%+v: code %d, %t in %v", d, code, ok, g)
	}
	want, got := walkAgain(f, node), walkAgain(g, made)
	if is, ok := impl.SameTree(f, node, g, made); !is || !ok || got.text != want.text || got.groups != want.groups {
		t.Fatalf("%+v: node %d is no copy of node %d, %t, %t:\n%v of\n%v", d, made, node, is, ok, g, f)
	}
	isLong := false
	for _, m := range metBelow(g, made) {
		isLong = isLong || len(pathBelow(d.dst, m)) > 60
		if m.node < len(f.Nodes) && f.Nodes[m.node].Kind != impl.KdFree {
			t.Fatalf("%+v: node %d is none of the copy:\n%v of\n%v", d, m.node, g, f)
		}
	}
	checkBut(t, f, g, !isLong, d.dst)
}

func checkNothingIsLeft(t *testing.T, f impl.Fs, g impl.Fs, c impl.Cred, d copying) {
	t.Helper()
	h, faults, ok := impl.RemoveTree(g, c, d.dst, false, d.time)
	if len(faults) > 0 || !ok {
		t.Fatalf("%+v: %v, %t of %v", d, faults, ok, g)
	}
	count := len(f.Nodes)
	if !impl.SameFs(f, impl.Fs{Room: h.Room, Nodes: h.Nodes[:count:count]}) || usedIn(h) != usedIn(f) {
		t.Fatalf("%+v: there is left of it:\n%v instead of\n%v", d, h, f)
	}
	checkBut(t, f, h, true, "/none", d.dst)
}

// manyNames is copied with all names of the two files in it.
func TestCopyTreeOfManyNames(t *testing.T) {
	f := manyNames()
	f.Nodes[2].Mode, f.Nodes[3].Mode = 0o400, 0o444
	g, faults, ok := impl.CopyTree(f, root, "/d", "/n", true, 5)
	made, _ := nodeIn(g, 0, "n")
	if is, sameOk := impl.SameTree(f, 1, g, 4); !is || !sameOk || made != 4 || len(g.Nodes) != 7 || len(faults) != 0 || !ok {
		t.Errorf("%t, %t, %d: %.500v, %d faults, %t", is, sameOk, made, g, len(faults), ok)
	}
	checkNeeds(t, f, need{0, 4, 2}, need{1, 3, 2})
	checkBut(t, f, g, false, "/d")
	g.Nodes[0].Time = f.Nodes[0].Time
	checkBut(t, f, g, true, "/n")
	f.Nodes[0].Mode = 0o777
	g, faults, ok = impl.CopyTree(f, other, "/d", "/n", false, 5)
	if len(g.Nodes) != 6 || len(g.Nodes[4].List) != 10000 || len(faults) != 10000 || faults[0] != aFault("/d/a000", 4) || faults[9999] != aFault("/d/t998", 4) || !ok || !impl.GoodFs(g) {
		t.Errorf("%.500v, %d faults, %t", g, len(faults), ok)
	}
	f.Room = 2
	g, faults, ok = impl.CopyTree(f, other, "/d", "/n", false, 5)
	if len(g.Nodes) != 5 || len(g.Nodes[4].List) != 0 || len(faults) != 20000 || faults[0] != aFault("/d/a000", 4) || faults[19999] != aFault("/n/t999", 8) || !ok || !impl.GoodFs(g) {
		t.Errorf("%.500v, %d faults, %t", g, len(faults), ok)
	}
}

func TestCopyTreeOfEveryTime(t *testing.T) {
	for _, n := range append([]int{999999, 1000000, 1000001, math.MinInt32, 1 << 32}, oddNumbers...) {
		for _, d := range []copying{{"/t", "/w/n", true, n}, {"/t", "/w/n", false, n}, {"/t/z", "/w/n", false, n}, {"/none", "/w/n", false, n}, {"", "", true, n}} {
			g, faults, ok := d.told(cpFs(), other)
			if !within(n, 0, 1000000) {
				if ok || faults != nil || g.Nodes != nil || g.Room != 0 {
					t.Errorf("%+v: %v, %v, %t", d, g, faults, ok)
				}
				continue
			}
			want, wantFaults := copyAgain(cpFs(), other, d)
			if !ok || !impl.SameFs(g, want) || !slices.Equal(faults, wantFaults) {
				t.Errorf("%+v: %v, %v, %t", d, g, faults, ok)
			}
		}
	}
}

// The time of the directory of dst is told by the document for all that CopyCode
// lets pass, even where nothing comes there.
func TestCopySetsTheTimesOfTheDirectories(t *testing.T) {
	for _, keep := range []bool{false, true} {
		g, faults, _ := impl.CopyTree(cpFs(), owner, "/t", "/w/n", keep, 70)
		for node, want := range map[int]int{cpRoot: 10, cpTop: 12, cpSub: 16, cpOpen: 70, cpEmpty: 14, cpFile: 13} {
			if g.Nodes[node].Time != want || len(faults) > 0 {
				t.Errorf("%t, node %d: time %d instead of %d, %v", keep, node, g.Nodes[node].Time, want, faults)
			}
		}
		for path, want := range map[string]int{"/w/n": 12, "/w/n/s": 16, "/w/n/e": 14, "/w/n/a": 13, "/w/n/l": 15, "/w/n/s/b": 17} {
			if !keep {
				want = 70
			}
			if node, _ := nodeByPath(g, path); g.Nodes[node].Time != want {
				t.Errorf("%t, %q: time %d instead of %d", keep, path, g.Nodes[node].Time, want)
			}
		}
		g, faults, _ = impl.CopyTree(cpFs(), other, "/t/z", "/w/n", keep, 70)
		if g.Nodes[cpOpen].Time != 70 || len(g.Nodes[cpOpen].List) != 1 || faultsText(faults) != "4:/t/z" {
			t.Error(g, faults)
		}
		g, faults, _ = impl.CopyTree(cpFs(), other, "/none", "/w/n", keep, 70)
		if g.Nodes[cpOpen].Time != 10+cpOpen || faultsText(faults) != "2:/none" {
			t.Error(g, faults)
		}
	}
}

// checkCpAnswers asks twice: the answers are those of the second reading where all
// is good, else zero values.
func checkCpAnswers(t *testing.T, f impl.Fs, creds []impl.Cred, paths []string) {
	t.Helper()
	good := isGoodByWays(f)
	for _, c := range creds {
		takes := good && within(c.Uid, 0, 99) && within(c.Gid, 0, 99)
		for i, path := range paths {
			next := paths[(i*7+3)%len(paths)]
			for _, d := range []copying{{path, "/a/n", i%2 == 0, 5}, {"/a", path, i%3 == 0, 1000000}, {path, next, i%2 == 1, 0}, {path, "/n", true, -1}, {"/g", path, false, 1000001}} {
				var want impl.Fs
				var wantFaults []impl.Fault
				wantCode, wantPath := 0, ""
				isTaken := takes && within(d.time, 0, 1000000)
				if isTaken {
					want, wantFaults = copyAgain(f, c, d)
				}
				if takes {
					var node, dir int
					var name string
					wantCode, wantPath = newRemade(f, c).copyCodeAgain(d.src, d.dst, &node, &dir, &name)
				}
				for range 2 {
					if g, faults, ok := d.told(f, c); !slices.Equal(faults, wantFaults) || ok != isTaken || !impl.SameFs(g, want) {
						t.Fatalf("%v, %.200v: %.500v, %.200v, %t instead of %.500v, %.200v", c, d, g, faults, ok, want, wantFaults)
					}
					if code, told, ok := impl.CopyCode(f, c, d.src, d.dst); code != wantCode || told != wantPath || ok != takes {
						t.Fatalf("%v, %.200v: code %d of %.70q, %t instead of %d of %.70q", c, d, code, told, ok, wantCode, wantPath)
					}
				}
			}
		}
	}
}

func checkNeedAnswers(t *testing.T, f impl.Fs) {
	t.Helper()
	for _, node := range oddNodes {
		used := isUsed(f, node)
		want, fits := need{node: node}, false
		if used {
			want, fits = needsAgain(f, node), fitsAgain(f, node)
		}
		for range 2 {
			nodes, bytes, ok := impl.CopyNeeds(f, node)
			is, isOk := impl.FitsCopy(f, node)
			if (need{node, nodes, bytes}) != want || ok != used || is != fits || isOk != used {
				t.Fatalf("node %d: %d, %d, %t and %t, %t instead of %+v, %t in %.500v", node, nodes, bytes, ok, is, isOk, want, fits, f)
			}
		}
	}
}

// Promise 19: every function answers at all arguments.
func TestCpFunctionsAnswerAtAllArguments(t *testing.T) {
	for _, f := range append(oddFs(), cpFs(), makeFs(), fullFs(40, 39), fullFs(40, 5)) {
		checkCpAnswers(t, f, []impl.Cred{root, other, {Uid: 100}, {Gid: -1}}, lookPaths)
		checkNeedAnswers(t, f)
	}
	for _, f := range []impl.Fs{sampleFs(), cpFs(), lookFs(), {}} {
		checkCpAnswers(t, f, oddCreds, append(lookPaths, oddTexts...))
	}
	checkCpAnswers(t, sampleFs(), []impl.Cred{root, owner}, longPaths()[:1000])
}

func TestSameButAnswersAtAllArguments(t *testing.T) {
	paths := append([]string{"/a", "/a/f", "/.", "/none", "a", ".", "..", "//", longPath(60), longPath(61), strings.Repeat("/", 60), strings.Repeat("/", 61), strings.Repeat("/a", 100000)}, oddTexts...)
	some := []impl.Fs{{}, sampleFs(), cpFs(), chainFs(40, "abcdefgh"), chainFs(41, "a"), fullFs(40, 39)}
	for i, f := range append(oddFs(), cpFs(), makeFs()) {
		good := isGoodByWays(f)
		for j, g := range some {
			both := good && isGoodByWays(g)
			for _, path := range paths {
				takes := both && isPathByForm(path) && path[0] == '/'
				want := takes && butAgain(f, path) == butAgain(g, path)
				is, ok := impl.SameBut(f, g, path)
				back, backOk := impl.SameBut(g, f, path)
				if is != want || ok != takes || back != want || backOk != takes {
					t.Fatalf("file systems %d and %d, %.70q: %t, %t and back %t, %t instead of %t, %t", i, j, path, is, ok, back, backOk, want, takes)
				}
			}
		}
	}
	// Not even of what is not good and itself.
	if is, ok := impl.SameBut(impl.Fs{}, impl.Fs{}, "/"); is || ok {
		t.Error(is, ok)
	}
}

// Promise 19: no function changes an argument.
func TestCpFunctionsLeaveTheirArguments(t *testing.T) {
	for i, f := range append(oddFs(), cpFs(), makeFs(), lookFs(), fullFs(40, 5)) {
		plain, same := copyOfFs(f), copyOfFs(f)
		isAsItWas, sameIs := markBehind(&f), markBehind(&same)
		for at, path := range append(lookPaths, "/mark", "/t", "/w", "/t/s", "/t/z", "/lw/n", "/a/b", "/shut") {
			kept := strings.Clone(path)
			for _, d := range []copying{{path, "/n", true, 5}, {path, "/w/n", false, 5}, {"/a", path, at%2 == 0, 5}, {path, "/a/mark", false, 5}} {
				for _, c := range []impl.Cred{root, other} {
					g, faults, ok := d.told(f, c)
					want, wantFaults, wantOk := d.told(plain, c)
					code, told, codeOk := impl.CopyCode(f, c, d.src, d.dst)
					wantCode, wantTold, _ := impl.CopyCode(plain, c, d.src, d.dst)
					if !impl.SameFs(g, want) || !slices.Equal(faults, wantFaults) || ok != wantOk || code != wantCode || told != wantTold || codeOk != wantOk {
						t.Errorf("file system %d, %.200v: what is behind a list counts", i, d)
					}
				}
			}
			is, ok := impl.SameBut(f, same, path)
			if want, wantOk := impl.SameBut(plain, plain, path); is != want || ok != wantOk {
				t.Errorf("file system %d, %.70q: what is behind a list counts", i, path)
			}
			if kept != path {
				t.Errorf("a path was changed: %.70q", kept)
			}
		}
		for node := -1; node <= 41; node++ {
			nodes, bytes, ok := impl.CopyNeeds(f, node)
			is, isOk := impl.FitsCopy(f, node)
			wantNodes, wantBytes, wantOk := impl.CopyNeeds(plain, node)
			if want, _ := impl.FitsCopy(plain, node); nodes != wantNodes || bytes != wantBytes || ok != wantOk || is != want || isOk != wantOk {
				t.Errorf("file system %d, node %d: what is behind a list counts", i, node)
			}
		}
		if !isAsItWas() || !sameIs() {
			t.Fatalf("file system %d was written to", i)
		}
	}
}

// What is written into an answer is seen in no other one, and in no argument. What
// could not be copied does not lie behind a list.
func TestCpAnswersAreNewMemory(t *testing.T) {
	for _, src := range []string{"/t", "/t/s", "/t/e", "/t/a", "/t/z", "/w", "/lw", "/shut", "/void", "/none", "", "/"} {
		for _, dst := range []string{"/n", "/w/n", "/t/n", "/t/s/n", "/void/b/n", "/w/x", ""} {
			for _, c := range []impl.Cred{root, owner, other} {
				for _, count := range []int{0, 3, 40} {
					f := cpFs()
					if count < 40 {
						leave(&f, count)
					}
					d := copying{src, dst, true, 70}
					checkNewMemory(t, f, c, d)
					checkNothingBehind(t, f, c, d)
					_, want := copyAgain(f, c, d)
					_, faults, _ := d.told(f, c)
					fill(faults, aFault("written", 77))
					if _, again, _ := d.told(f, c); !slices.Equal(again, want) {
						t.Errorf("%v, %+v: %v instead of %v", c, d, again, want)
					}
				}
			}
		}
	}
}

func checkNothingBehind(t *testing.T, f impl.Fs, c impl.Cred, d copying) {
	t.Helper()
	g, _, _ := d.told(f, c)
	for i, n := range g.Nodes {
		for _, e := range n.List[len(n.List):cap(n.List)] {
			if e != (impl.Entry{}) {
				t.Fatalf("%v, %+v: %v lies behind the list of node %d", c, d, e, i)
			}
		}
	}
}

// Nothing is kept from call to call: neither what was copied, nor what did not fit.
func TestCopyingKeepsNothing(t *testing.T) {
	f := cpFs()
	d := copying{"/t", "/w/n", true, 70}
	before, faults := checkCopiedAgain(t, f, other, d)
	checkCopiedAgain(t, f, root, copying{"/t/s", "/n", false, 5})
	checkCopiedAgain(t, before, root, copying{"/w", "/n", true, 5})
	checkCopiedAgain(t, before, root, copying{"/w/n", "/n", false, 5})
	full := cpFs()
	leave(&full, 2)
	checkCopiedAgain(t, full, other, d)
	after, again := checkCopiedAgain(t, f, other, d)
	if !impl.SameFs(before, after) || !slices.Equal(faults, again) {
		t.Error(before, after, faults, again)
	}
	f.Nodes[cpDark].Mode, f.Nodes[cpEmpty].Mode = 0o444, 0o555
	checkCopies(t, f, []impl.Cred{other}, cpCase{"/t", "/w/n", cpOpen, "", cpAllOfTop})
}
