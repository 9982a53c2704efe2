package tests

import (
	"fmt"
	"math"
	"slices"
	"strings"
	"sync"
	"testing"

	"loop.example/g00756/impl"
)

// The nodes of duFs.
const (
	duRoot = iota
	duFree
	duTop
	duEmpty
	duFive
	duLink
	duOwn
	duInOwn
	duSub
	duTwo
	duBlind
	duInBlind
	duDeaf
	duInDeaf
	duToTop
	duToFive
	duShut
	duInShut
	duLast
	duVoid
	duVoidB
	duVoidD
	duVoidS
)

// duFs has directories of 1:2 that Uid 1 may look into, as may 0. It has a free
// node 1, and, in the order of the entries:
//
//	/a (755)  /a/e (755, without entries)  /a/f (file of 5, also /a/h and /g)
//	/a/l -> ../shut/in (also /ll)   /a/own (700)  /a/own/p (file of 3)
//	/a/sub (755)  /a/sub/x (file of 3, also /a/x)
//	/blind (711)   may be entered by all, but read by 1 alone
//	/blind/k (file of 2, also /z)
//	/deaf (744)    may be read by all, but entered by 1 alone
//	/deaf/y (file of 4)
//	/la -> a   /lf -> a/f
//	/shut (700)   may be neither by others  /shut/in (755)  /shut/in/w (file of 0)
//	/void (755)   /void/b (711)  /void/d (744)  /void/s (700), all without entries
func duFs() impl.Fs {
	d := newDraft()
	d.Nodes = append(d.Nodes, impl.Node{})
	file := func(dir int, name, data string) int {
		return d.add(dir, name, impl.Node{Kind: impl.KdFile, Data: data})
	}
	top := d.dir(0, "a", 0o755)
	d.dir(top, "e", 0o755)
	five := file(top, "f", "12345")
	d.name(top, "h", five)
	d.name(0, "g", five)
	d.name(0, "ll", d.link(top, "l", "../shut/in"))
	file(d.dir(top, "own", 0o700), "p", "ppp")
	d.name(top, "x", file(d.dir(top, "sub", 0o755), "x", "two"))
	d.name(0, "z", file(d.dir(0, "blind", 0o711), "k", "kk"))
	file(d.dir(0, "deaf", 0o744), "y", "yyyy")
	d.link(0, "la", "a")
	d.link(0, "lf", "a/f")
	file(d.dir(d.dir(0, "shut", 0o700), "in", 0o755), "w", "")
	void := d.dir(0, "void", 0o755)
	d.dir(void, "b", 0o711)
	d.dir(void, "d", 0o744)
	d.dir(void, "s", 0o700)
	return d.Fs
}

func TestDuSampleIsGood(t *testing.T) {
	f := duFs()
	if !isGoodByWays(f) || len(f.Nodes) != duVoidS+1 || f.Nodes[duInBlind].Data != "kk" || f.Nodes[duToFive].Data != "a/f" || f.Nodes[duVoidD].Mode != 0o744 || f.Nodes[duLast].Kind != impl.KdFile {
		t.Error("the sample is not as said", f)
	}
}

func checkSize(t *testing.T, f impl.Fs, node int, want int) {
	t.Helper()
	if size, ok := impl.SizeBelow(f, node); size != want || !ok {
		t.Errorf("node %d: %d, %t instead of %d in %.500v", node, size, ok, want, f)
	}
}

func TestSizeBelow(t *testing.T) {
	for node, want := range map[int]int{
		duRoot: 53, duTop: 29, duEmpty: 1, duFive: 6, duLink: 11, duOwn: 5, duInOwn: 4, duSub: 5, duTwo: 4, duBlind: 4, duInBlind: 3, duDeaf: 6, duInDeaf: 5,
		duToTop: 2, duToFive: 4, duShut: 3, duInShut: 2, duLast: 1, duVoid: 4, duVoidB: 1, duVoidD: 1, duVoidS: 1,
	} {
		checkSize(t, duFs(), node, want)
	}
	g, _ := impl.NewFs(0)
	checkSize(t, g, 0, 1)
}

func TestSizeBelowOfFilesWithSeveralNames(t *testing.T) {
	d := newDraft()
	in := d.dir(0, "d", 0o755)
	f := d.file(in, "f")
	for _, name := range []string{"a", "e", "g", "z"} {
		d.name(0, name, f)
		d.name(in, name, f)
	}
	l := d.link(0, "l", "/long/way")
	d.name(in, "l", l)
	checkSize(t, d.Fs, 0, 2+2+10)
	checkSize(t, d.Fs, in, 1+2+10)
	checkSize(t, d.Fs, f, 2)
	checkSize(t, d.Fs, l, 10)
}

func TestSizeBelowAtTheLimits(t *testing.T) {
	for _, c := range []struct {
		f    impl.Fs
		want int
	}{
		{filesFs(39, 25, 975), 40 + 975}, {filesFs(16, 60, 1000), 17 + 960}, {filesFs(39, 0, 0), 40}, {filesFs(1, 60, 60), 62}, {chainFs(40, "abcdefgh"), 40}, {chainFs(1, "a"), 1},
	} {
		checkSize(t, c.f, 0, c.want)
	}
	full := filesFs(17, 58, 1000)
	full.Nodes[17].Data = strings.Repeat("x", 60)
	full.Nodes[16].Data = strings.Repeat("x", 60)
	full.Nodes[15].Data = strings.Repeat("x", 60)
	full.Nodes[14].Data = strings.Repeat("\n", 60)
	full.Nodes[13].Data = strings.Repeat("\xff", 60)
	full.Nodes[12].Data = strings.Repeat("é", 30)
	full.Nodes[11].Data = strings.Repeat("x", 60)
	checkSize(t, full, 0, 18+1000)
	f := chainFs(40, "a")
	for node := range 40 {
		checkSize(t, f, node, 40-node)
	}
}

// A duTold has what DuLines tells; lists are texts here, of which the nil one and
// the empty one are the same: of each line `size:path`, of each fault `code:path`,
// with blanks between.
type duTold struct {
	lines, faults string
	code          int
	ok            bool
}

func toldDu(lines []impl.Line, faults []impl.Fault, code int, ok bool) duTold {
	var l, m []string
	for _, line := range lines {
		l = append(l, fmt.Sprint(line.Size, ":", line.Path))
	}
	for _, fault := range faults {
		m = append(m, fmt.Sprint(fault.Code, ":", fault.Path))
	}
	return duTold{strings.Join(l, " "), strings.Join(m, " "), code, ok}
}

func duOf(f impl.Fs, c impl.Cred, path string, all bool) duTold {
	return toldDu(impl.DuLines(f, c, path, all))
}

// A duCase has the lines of a path, with all and without, and the faults, which
// are the same.
type duCase struct {
	path, lines, all, faults string
}

func checkDu(t *testing.T, f impl.Fs, creds []impl.Cred, cases ...duCase) {
	t.Helper()
	for _, c := range creds {
		for _, d := range cases {
			if got, want := duOf(f, c, d.path, false), (duTold{d.lines, d.faults, impl.EcOk, true}); got != want {
				t.Errorf("%v, %q:\n%+v instead of\n%+v", c, d.path, got, want)
			}
			if got, want := duOf(f, c, d.path, true), (duTold{d.all, d.faults, impl.EcOk, true}); got != want {
				t.Errorf("%v, %q, all:\n%+v instead of\n%+v", c, d.path, got, want)
			}
		}
	}
}

// alike has the same lines with all and without.
func alike(path, lines, faults string) duCase {
	return duCase{path, lines, lines, faults}
}

var (
	duAble   = []impl.Cred{root, owner, {Uid: 0, Gid: 99}, {Uid: 1, Gid: 50}}
	duUnable = []impl.Cred{mate, other, {Uid: 99, Gid: 0}, {Uid: 2, Gid: 1}}
)

func TestDuLinesOfAllForThoseWhoMay(t *testing.T) {
	checkDu(t, duFs(), duAble,
		duCase{"/",
			"1:/a/e 5:/a/own 5:/a/sub 29:/a 4:/blind 6:/deaf 2:/shut/in 3:/shut 1:/void/b 1:/void/d 1:/void/s 4:/void 53:/",
			"1:/a/e 6:/a/f 11:/a/l 4:/a/own/p 5:/a/own 4:/a/sub/x 5:/a/sub 29:/a 3:/blind/k 4:/blind 5:/deaf/y 6:/deaf 2:/la 4:/lf 1:/shut/in/w 2:/shut/in 3:/shut " +
				"1:/void/b 1:/void/d 1:/void/s 4:/void 53:/", ""},
		duCase{"/a", "1:/a/e 5:/a/own 5:/a/sub 29:/a", "1:/a/e 6:/a/f 11:/a/l 4:/a/own/p 5:/a/own 4:/a/sub/x 5:/a/sub 29:/a", ""},
		duCase{"/a/sub", "5:/a/sub", "4:/a/sub/x 5:/a/sub", ""},
		duCase{"/blind", "4:/blind", "3:/blind/k 4:/blind", ""},
		duCase{"/shut", "2:/shut/in 3:/shut", "1:/shut/in/w 2:/shut/in 3:/shut", ""},
		alike("/a/e", "1:/a/e", ""),
		alike("/void", "1:/void/b 1:/void/d 1:/void/s 4:/void", ""))
}

func TestDuLinesOfAllForOthers(t *testing.T) {
	checkDu(t, duFs(), duUnable,
		duCase{"/",
			"1:/a/e 1:/a/own 5:/a/sub 25:/a 1:/blind 1:/deaf 1:/shut 1:/void/b 1:/void/d 1:/void/s 4:/void 42:/",
			"1:/a/e 6:/a/f 11:/a/l 1:/a/own 4:/a/sub/x 5:/a/sub 25:/a 1:/blind 1:/deaf 2:/la 4:/lf 1:/shut 1:/void/b 1:/void/d 1:/void/s 4:/void 3:/z 42:/",
			"4:/a/own 4:/blind 4:/deaf 4:/shut 4:/void/b 4:/void/d 4:/void/s"},
		duCase{"/a", "1:/a/e 1:/a/own 5:/a/sub 25:/a", "1:/a/e 6:/a/f 11:/a/l 1:/a/own 4:/a/sub/x 5:/a/sub 25:/a", "4:/a/own"},
		alike("/blind", "1:/blind", "4:/blind"), alike("/deaf", "1:/deaf", "4:/deaf"), alike("/shut", "1:/shut", "4:/shut"), alike("/a/own", "1:/a/own", "4:/a/own"),
		alike("/void/b", "1:/void/b", "4:/void/b"), alike("/void/d", "1:/void/d", "4:/void/d"), alike("/void/s", "1:/void/s", "4:/void/s"),
		alike("/void", "1:/void/b 1:/void/d 1:/void/s 4:/void", "4:/void/b 4:/void/d 4:/void/s"),
		// What is in there may be asked for by its own path.
		alike("/blind/k", "3:/blind/k", ""))
	// The directory that the others may not enter, nor read, is the first of all.
	for _, mode := range []int{0o700, 0o711, 0o722, 0o733, 0o744, 0o766} {
		f := duFs()
		f.Nodes[0].Mode = mode
		checkDu(t, f, []impl.Cred{owner, mate, other}, alike("/", "1:/", "4:/"), alike("//", "1://", "4://"))
		checkDu(t, f, []impl.Cred{root}, duCase{"/shut", "2:/shut/in 3:/shut", "1:/shut/in/w 2:/shut/in 3:/shut", ""})
	}
}

func TestDuLinesOfFilesAndLinks(t *testing.T) {
	checkDu(t, duFs(), slices.Concat(duAble, duUnable),
		alike("/a/f", "6:/a/f", ""), alike("/a/h", "6:/a/h", ""), alike("/g", "6:/g", ""), alike("/a/sub/x", "4:/a/sub/x", ""), alike("/a/x", "4:/a/x", ""), alike("/z", "3:/z", ""),
		// Of a file and a link the mode is not asked for.
		alike("/ll", "11:/ll", ""), alike("/a/l", "11:/a/l", ""), alike("/la", "2:/la", ""), alike("/lf", "4:/lf", ""),
		alike("/la/f", "6:/la/f", ""), alike("/la/l", "11:/la/l", ""))
	checkDu(t, duFs(), duAble, alike("/shut/in/w", "1:/shut/in/w", ""), alike("/deaf/y", "5:/deaf/y", ""))
}

// The path is told as it was asked for.
func TestDuLinesKeepThePath(t *testing.T) {
	const names = "sub %ssub/x"
	for _, c := range []struct{ path, ahead string }{
		{"/a/sub/", "/a/sub/"}, {"/a/sub//", "/a/sub//"}, {"//a///sub", "//a///sub/"}, {"/a/./sub", "/a/./sub/"}, {"/a/../a/sub", "/a/../a/sub/"}, {"/a/sub/.", "/a/sub/./"},
		{"/a/e/../sub", "/a/e/../sub/"}, {"/../a/sub/../sub/", "/../a/sub/../sub/"}, {"/la/sub", "/la/sub/"}, {"/la/sub/", "/la/sub/"}, {"/la/../a/sub", "/la/../a/sub/"},
	} {
		checkDu(t, duFs(), slices.Concat(duAble, duUnable), duCase{c.path, "5:" + c.path, "4:" + c.ahead + "x 5:" + c.path, ""})
	}
	for _, c := range []struct{ path, ahead string }{{"/a/", "/a/"}, {"/la/", "/la/"}, {"/la//", "/la//"}, {"/a/sub/..", "/a/sub/../"}, {"/a/.//", "/a/.//"}} {
		own := c.ahead + "own"
		lines := fmt.Sprintf("1:%[1]se 1:%[1]sown 5:%[1]ssub 25:%[2]s", c.ahead, c.path)
		all := fmt.Sprintf("1:%[1]se 6:%[1]sf 11:%[1]sl 1:%[1]sown 4:%[1]ssub/x 5:%[1]ssub 25:%[2]s", c.ahead, c.path)
		checkDu(t, duFs(), duUnable, duCase{c.path, lines, all, "4:" + own})
	}
	checkDu(t, duFs(), duUnable, alike("/shut/", "1:/shut/", "4:/shut/"), alike("//shut//", "1://shut//", "4://shut//"), alike("/a/../shut", "1:/a/../shut", "4:/a/../shut"))
	for _, path := range []string{"/", "//", "///", strings.Repeat("/", 60), "/.", "/..", "/./", "/../..", "/a/..", "/la/../"} {
		f := impl.Fs{Room: 9, Nodes: []impl.Node{
			{Kind: impl.KdDir, Mode: 0o755, List: []impl.Entry{{Name: "a", Node: 1}, {Name: "la", Node: 2}}}, {Kind: impl.KdDir, Mode: 0o711}, {Kind: impl.KdLink, Data: "a"},
		}}
		ahead := path
		if !strings.HasSuffix(path, "/") {
			ahead += "/"
		}
		a := ahead + "a"
		checkDu(t, f, duUnable, duCase{path, "1:" + a + " 4:" + path, "1:" + a + " 2:" + ahead + "la 4:" + path, "4:" + a})
	}
}

func TestDuLinesOfPathsAtTheLimit(t *testing.T) {
	for _, name := range []string{"a", "abcdefgh"} {
		f := chainFs(40, name)
		for top := 0; ; top++ {
			path := strings.Repeat("/"+name, top)
			if top == 0 {
				path = "/"
			}
			if len(path) > 60 {
				break
			}
			var lines []string
			for node := 39; node > top; node-- {
				lines = append(lines, fmt.Sprint(40-node, ":", strings.Repeat("/"+name, node)))
			}
			want := strings.Join(append(lines, fmt.Sprint(40-top, ":", path)), " ")
			checkDu(t, f, []impl.Cred{root}, alike(path, want, ""))
		}
	}
	f := chainFs(40, "a")
	if got := duOf(f, root, longPath(61), true); got != (duTold{code: impl.EcPath, ok: true}) {
		t.Error(got)
	}
	path := longPath(58) + "//"
	var lines []string
	for deep := 10; deep > 0; deep-- {
		lines = append(lines, fmt.Sprint(11-deep, ":", path, strings.Repeat("a/", deep-1), "a"))
	}
	checkDu(t, f, []impl.Cred{root}, alike(path, strings.Join(lines, " ")+" 11:"+path, ""))
}

// Of a directory the bits to read and to enter count, both, of the one class that
// is the cred's.
func TestDuLinesOfDirectoriesOfEveryMode(t *testing.T) {
	d := newDraft()
	dir := d.dir(0, "d", 0)
	d.file(dir, "f")
	d.dir(0, "e", 0)
	for mode := range 512 {
		d.Nodes[dir].Mode, d.Nodes[dir+2].Mode = mode, mode
		for i, c := range []impl.Cred{owner, mate, other, root} {
			if c.Uid == 0 || mode>>(6-3*i)&5 == 5 {
				checkDu(t, d.Fs, []impl.Cred{c}, duCase{"/", "3:/d 1:/e 5:/", "2:/d/f 3:/d 1:/e 5:/", ""}, duCase{"/d", "3:/d", "2:/d/f 3:/d", ""}, alike("/e", "1:/e", ""))
				continue
			}
			checkDu(t, d.Fs, []impl.Cred{c}, alike("/", "1:/d 1:/e 3:/", "4:/d 4:/e"), alike("/d", "1:/d", "4:/d"), alike("/e", "1:/e", "4:/e"))
		}
	}
}

func TestDuLinesCountEachNodeWhereItComesFirst(t *testing.T) {
	d := newDraft()
	for _, name := range []string{"b", "d", "f"} {
		d.dir(0, name, 0o755)
	}
	const b, dd, ff = 1, 2, 3
	one := d.add(b, "m", impl.Node{Kind: impl.KdFile, Data: "1"})
	two := d.add(b, "n", impl.Node{Kind: impl.KdLink, Data: "22"})
	d.name(b, "o", one)
	d.name(dd, "m", one)
	d.name(dd, "a", two)
	d.name(ff, "m", two)
	three := d.add(ff, "z", impl.Node{Kind: impl.KdFile, Data: "333"})
	d.name(0, "g", three)
	d.name(0, "c", three)
	checkDu(t, d.Fs, []impl.Cred{root, other},
		duCase{"/", "6:/b 1:/d 1:/f 13:/", "2:/b/m 3:/b/n 6:/b 4:/c 1:/d 1:/f 13:/", ""},
		duCase{"/b", "6:/b", "2:/b/m 3:/b/n 6:/b", ""}, duCase{"/d", "6:/d", "3:/d/a 2:/d/m 6:/d", ""}, duCase{"/f", "8:/f", "3:/f/m 4:/f/z 8:/f", ""})
	// Where the first directory is not looked into, the next one counts it.
	d.Nodes[b].Mode = 0o711
	checkDu(t, d.Fs, []impl.Cred{other}, duCase{"/", "1:/b 6:/d 1:/f 13:/", "1:/b 4:/c 3:/d/a 2:/d/m 6:/d 1:/f 13:/", "4:/b"})
	d.Nodes[dd].Mode = 0o744
	checkDu(t, d.Fs, []impl.Cred{other}, duCase{"/", "1:/b 1:/d 4:/f 11:/", "1:/b 4:/c 1:/d 3:/f/m 4:/f 11:/", "4:/b 4:/d"})
}

func TestDuLinesOfManyNames(t *testing.T) {
	f := filesFs(2, 3, 6)
	f.Nodes[0].List = nil
	for i := range 20000 {
		name := string([]byte{'a' + byte(i/1000), '0' + byte(i/100%10), '0' + byte(i/10%10), '0' + byte(i%10)})
		f.Nodes[0].List = append(f.Nodes[0].List, impl.Entry{Name: name, Node: 2 - i%2})
	}
	checkDu(t, f, []impl.Cred{root}, duCase{"/", "9:/", "4:/a000 4:/a001 9:/", ""})
	checkSize(t, f, 0, 9)
}

func TestDuTellsTheCodeOfThePath(t *testing.T) {
	check := func(f impl.Fs, c impl.Cred, code int, paths ...string) {
		t.Helper()
		for _, path := range paths {
			for _, all := range []bool{false, true} {
				if got := duOf(f, c, path, all); got != (duTold{code: code, ok: true}) {
					t.Errorf("%v, %.70q, %t: %+v instead of code %d", c, path, all, got, code)
				}
			}
			if n, ok := impl.DuTotal(f, c, []string{path}); n != 0 || !ok {
				t.Errorf("%v, %.70q: %d, %t", c, path, n, ok)
			}
		}
	}
	for _, c := range someCreds {
		check(lookFs(), c, impl.EcPath, "", ".", "..", "a", "a/b", "./a", "la", "A", "/A", "/a b", "/a/\x00", "/\xff", "é", "/123456789", " /a", "/a\n", longPath(61), strings.Repeat("/", 61), strings.Repeat("/a", 100000))
		check(lookFs(), c, impl.EcNone, "/none", "/a/none", "/none/", "/none/..", "/no/", "/no/x", "/in/", longPath(60))
		check(lookFs(), c, impl.EcNoDir, "/f/", "/f/x", "/f/..", "/lf/", "/lf/x", "/sl/", "/a/b/g/x")
		check(lookFs(), c, impl.EcLoop, "/self/", "/self/x", "/ping/", "/pong/.")
	}
	for _, c := range []impl.Cred{owner, mate, other, {Uid: 99, Gid: 0}} {
		check(lookFs(), c, impl.EcMay, "/shut/x", "/shut/.", "/shut/none", "/ls/", "/ls/y")
	}
	check(hopsFs(), other, impl.EcLoop, "/l9/", "/l9/f", "/l12/none")
	checkDu(t, hopsFs(), []impl.Cred{root}, duCase{"/l8/", "8:/l8/", "2:/l8/f 2:/l8/h 3:/l8/w 8:/l8/", ""})
}

func checkTotal(t *testing.T, f impl.Fs, c impl.Cred, want int, paths ...string) {
	t.Helper()
	if n, ok := impl.DuTotal(f, c, paths); n != want || !ok {
		t.Errorf("%v, %.200q: %d, %t instead of %d", c, paths, n, ok, want)
	}
}

func TestDuTotal(t *testing.T) {
	for _, c := range duAble {
		check := func(want int, paths ...string) {
			t.Helper()
			checkTotal(t, duFs(), c, want, paths...)
		}
		check(0)
		check(53, "/")
		check(29, "/a")
		check(6, "/a/f")
		check(11, "/ll")
		check(1, "/a/e")
		check(33, "/a", "/blind")
		check(33, "/blind", "/a")
		check(7, "/void", "/shut")
		// The same one again, by the same path and by others.
		check(29, "/a", "/a")
		check(53, "/", "/", "//")
		check(29, "/a", "/la/", "/a/", "/a/.", "/void/../a", "/a/sub/..")
		check(2, "/la", "/la")
		check(31, "/la", "/la/")
		// One within another one, in both orders.
		check(53, "/", "/a")
		check(53, "/a", "/")
		check(29, "/a", "/a/sub")
		check(29, "/a/sub", "/a")
		check(29, "/a/sub/x", "/a/sub", "/a", "/a/e")
		check(53, "/shut/in", "/void/d", "/a/own", "/", "/deaf/y")
		// A file and a link by several names.
		check(6, "/a/f", "/a/h", "/g")
		check(6, "/g", "/a/f", "/g")
		check(29, "/g", "/a")
		check(29, "/a", "/g")
		check(11, "/a/x", "/g", "/a/sub")
		check(53, "/z", "/ll", "/g", "/")
		check(11, "/ll", "/a/l")
		check(33, "/a", "/z", "/blind", "/a/x")
	}
	for _, c := range duUnable {
		checkTotal(t, duFs(), c, 42, "/")
		checkTotal(t, duFs(), c, 25, "/a")
		checkTotal(t, duFs(), c, 25, "/a", "/a/own")
		checkTotal(t, duFs(), c, 25, "/a/own", "/a")
		checkTotal(t, duFs(), c, 4, "/blind", "/deaf", "/shut", "/void/s")
		checkTotal(t, duFs(), c, 2, "/blind", "/deaf", "/blind", "/deaf/")
		// In a directory that may not be looked into, but entered.
		checkTotal(t, duFs(), c, 42, "/blind/k", "/")
		checkTotal(t, duFs(), c, 42, "/", "/blind/k")
		checkTotal(t, duFs(), c, 4, "/blind", "/blind/k", "/z")
	}
}

func TestDuTotalLeavesOutWhatIsNotFound(t *testing.T) {
	for _, path := range []string{"", "a", ".", "/A", longPath(61), "/none", "/a/none/..", "/g/", "/g/x", "/lf/"} {
		for _, c := range duAble {
			checkTotal(t, duFs(), c, 0, path)
			checkTotal(t, duFs(), c, 29, path, "/a")
			checkTotal(t, duFs(), c, 29, "/a", path)
			checkTotal(t, duFs(), c, 33, "/a", path, path, "/blind", path)
		}
	}
	for _, c := range duUnable {
		checkTotal(t, duFs(), c, 0, "/shut/in", "/deaf/y", "/a/own/p", "/ll/")
		checkTotal(t, duFs(), c, 26, "/shut/in", "/a", "/deaf/y", "/shut")
	}
	checkTotal(t, lookFs(), other, 0, "/self/", "/ping/x", "/ls/")
}

func TestDuTotalOfMaxPaths(t *testing.T) {
	ten := []string{"/a/e", "/a/f", "/a/h", "/a/l", "/a/own", "/a/sub", "/blind", "/deaf", "/la", "/lf"}
	checkTotal(t, duFs(), root, 1+6+11+5+5+4+6+2+4, ten...)
	checkTotal(t, duFs(), root, 1+6+11+5+5+4+6+2+1, append(ten[:9:9], "/void/b")...)
	checkTotal(t, duFs(), root, 0, make([]string, 10)...)
	checkTotal(t, duFs(), root, 53, "/", "/", "/", "/", "/", "/", "/", "/", "/", "/")
	checkTotal(t, duFs(), root, 53, "/none", "/none", "/none", "/none", "/none", "/none", "/none", "/none", "/none", "/")
	for _, paths := range [][]string{append(ten[:10:10], "/lf"), append(ten[:10:10], "/none"), append(ten[:10:10], ""), make([]string, 11), make([]string, 5000), slices.Repeat([]string{"/"}, 11)} {
		if n, ok := impl.DuTotal(duFs(), root, paths); n != 0 || ok {
			t.Errorf("%d paths: %d, %t", len(paths), n, ok)
		}
	}
}

func aLine(size int, path string) impl.Line { return impl.Line{Size: size, Path: path} }

func aFault(path string, code int) impl.Fault { return impl.Fault{Path: path, Code: code} }

func TestLinesText(t *testing.T) {
	long := strings.Repeat("/abcdefgh", 500)
	for _, c := range []struct {
		lines []impl.Line
		text  string
	}{
		{nil, ""},
		{[]impl.Line{}, ""},
		{[]impl.Line{aLine(7, "/a")}, "7\t/a\n"},
		{[]impl.Line{aLine(7, "/a"), aLine(10, "/")}, "7\t/a\n10\t/\n"},
		{[]impl.Line{aLine(10, "/"), aLine(7, "/a"), aLine(10, "/")}, "10\t/\n7\t/a\n10\t/\n"},
		{[]impl.Line{aLine(0, "/"), aLine(1000000, "//"), aLine(999999, "a")}, "0\t/\n1000000\t//\n999999\ta\n"},
		{[]impl.Line{aLine(1, "."), aLine(2, ".."), aLine(3, "../a//b/"), aLine(4, "/a_b/.c-d/009")}, "1\t.\n2\t..\n3\t../a//b/\n4\t/a_b/.c-d/009\n"},
		{[]impl.Line{aLine(1, longPath(60)), aLine(2, longPath(61)), aLine(3, long), aLine(4, long+"/"), aLine(5, strings.Repeat("/", 9999))},
			"1\t" + longPath(60) + "\n2\t" + longPath(61) + "\n3\t" + long + "\n4\t" + long + "/\n5\t" + strings.Repeat("/", 9999) + "\n"},
		{slices.Repeat([]impl.Line{aLine(5, "/x")}, 100), strings.Repeat("5\t/x\n", 100)},
	} {
		if text, ok := impl.LinesText(c.lines); text != c.text || !ok {
			t.Errorf("%.200v: %.200q, %t instead of %.200q", c.lines, text, ok, c.text)
		}
	}
}

func TestFaultsText(t *testing.T) {
	long := strings.Repeat("abcdefgh/", 500)
	for _, c := range []struct {
		faults []impl.Fault
		text   string
	}{
		{nil, ""},
		{[]impl.Fault{}, ""},
		{[]impl.Fault{aFault("/a", impl.EcMay)}, "/a: may\n"},
		{[]impl.Fault{aFault("/b", impl.EcPath), aFault("/a", impl.EcNone), aFault(".", impl.EcNoDir), aFault("/", impl.EcMay), aFault("..", impl.EcLoop)}, "/b: path\n/a: none\n.: nodir\n/: may\n..: loop\n"},
		{[]impl.Fault{aFault("/b", impl.EcThere), aFault("/b", impl.EcIsDir), aFault("b/", impl.EcFull), aFault("//", impl.EcBusy), aFault("a/../b", impl.EcFault)}, "/b: there\n/b: isdir\nb/: full\n//: busy\na/../b: fault\n"},
		{[]impl.Fault{aFault(longPath(60), 1), aFault(longPath(61), 1), aFault(long, 10), aFault(strings.Repeat("/", 9999), 2)},
			longPath(60) + ": path\n" + longPath(61) + ": path\n" + long + ": fault\n" + strings.Repeat("/", 9999) + ": none\n"},
		{slices.Repeat([]impl.Fault{aFault("/x", impl.EcBusy)}, 100), strings.Repeat("/x: busy\n", 100)},
	} {
		if text, ok := impl.FaultsText(c.faults); text != c.text || !ok {
			t.Errorf("%.200v: %.200q, %t instead of %.200q", c.faults, text, ok, c.text)
		}
	}
}

// checkTexts asks for one line and one fault, alone, and as the first, a middle
// and the last one of some.
func checkTexts(t *testing.T, line impl.Line, fault impl.Fault) {
	t.Helper()
	codes := []string{"", "path", "none", "nodir", "may", "loop", "there", "isdir", "full", "busy", "fault"}
	lineOk := within(line.Size, 0, 1000000) && pathForm.MatchString(line.Path)
	faultOk := within(fault.Code, 1, 10) && pathForm.MatchString(fault.Path)
	wantLine, wantFault := "", ""
	if lineOk {
		wantLine = fmt.Sprintf("%d\t%s\n", line.Size, line.Path)
	}
	if faultOk {
		wantFault = fault.Path + ": " + codes[fault.Code] + "\n"
	}
	for behind := range 3 {
		for ahead := range 3 {
			lines := slices.Concat(slices.Repeat([]impl.Line{aLine(9, "/x")}, ahead), []impl.Line{line}, slices.Repeat([]impl.Line{aLine(9, "/x")}, behind))
			faults := slices.Concat(slices.Repeat([]impl.Fault{aFault("/x", 9)}, ahead), []impl.Fault{fault}, slices.Repeat([]impl.Fault{aFault("/x", 9)}, behind))
			want, wantF := "", ""
			if lineOk {
				want = strings.Repeat("9\t/x\n", ahead) + wantLine + strings.Repeat("9\t/x\n", behind)
			}
			if faultOk {
				wantF = strings.Repeat("/x: busy\n", ahead) + wantFault + strings.Repeat("/x: busy\n", behind)
			}
			if text, ok := impl.LinesText(lines); text != want || ok != lineOk {
				t.Fatalf("%.200v: %.200q, %t instead of %.200q", lines, text, ok, want)
			}
			if text, ok := impl.FaultsText(faults); text != wantF || ok != faultOk {
				t.Fatalf("%.200v: %.200q, %t instead of %.200q", faults, text, ok, wantF)
			}
		}
	}
}

func TestTextsTakeWhatIsSaidAlone(t *testing.T) {
	for _, n := range append([]int{2, 3, 4, 5, 6, 9, 10, 11, 12, 256, 999999, 1000000, 1000001, math.MaxInt32, 1 << 32, 1<<32 + 1, -1 << 32}, oddNumbers...) {
		for _, path := range []string{"/", "a", "", "/A", longPath(61)} {
			checkTexts(t, impl.Line{Size: n, Path: path}, impl.Fault{Path: path, Code: n})
		}
	}
	for i, path := range manyPaths() {
		checkTexts(t, impl.Line{Size: i, Path: path}, impl.Fault{Path: path, Code: 1 + i%10})
	}
	for _, path := range []string{"/a\t", "/a\n", "/a: may", "/a b", "\t", "a\x00", strings.Repeat("/abcdefgh", 20) + "i", strings.Repeat("/abcdefgh", 20) + "/é", "é" + longPath(100), longPath(100) + "\n"} {
		checkTexts(t, impl.Line{Size: 1, Path: path}, impl.Fault{Path: path, Code: 1})
	}
}

func TestTextsOfTooMany(t *testing.T) {
	for _, n := range []int{99, 100, 101, 102, 1000} {
		lines, faults := slices.Repeat([]impl.Line{aLine(5, "/x")}, n), slices.Repeat([]impl.Fault{aFault("/x", 9)}, n)
		want, wantF := strings.Repeat("5\t/x\n", n), strings.Repeat("/x: busy\n", n)
		if n > 100 {
			want, wantF = "", ""
		}
		if text, ok := impl.LinesText(lines); text != want || ok != (n <= 100) {
			t.Errorf("%d lines: %q, %t", n, text, ok)
		}
		if text, ok := impl.FaultsText(faults); text != wantF || ok != (n <= 100) {
			t.Errorf("%d faults: %q, %t", n, text, ok)
		}
	}
}

// duAgain is a second reading of the chapter: it cuts off what lies below the
// directories that may not be looked into, keeps the first of each node, and adds
// up, for each line, all that is kept below its names.
func duAgain(f impl.Fs, c impl.Cred, path string, all bool) duTold {
	r := newReading(f, c)
	asked, code := r.findNode(path, false)
	if code != 0 {
		return duTold{code: code, ok: true}
	}
	seen := r.seenFrom(asked)
	pathOf := func(m met) string {
		if len(m.names) == 0 {
			return path
		}
		if path[len(path)-1] != '/' {
			return path + "/" + wayOf(m)
		}
		return path + wayOf(m)
	}
	var faults []impl.Fault
	var kept []met
	counted := map[int]bool{}
	for _, m := range seen {
		if f.Nodes[m.node].Kind == 2 && !r.may(m.node, 5) {
			faults = append(faults, impl.Fault{Path: pathOf(m), Code: 4})
		}
		if !counted[m.node] {
			kept = append(kept, m)
		}
		counted[m.node] = true
	}
	slices.SortFunc(kept, byPost)
	var lines []impl.Line
	for _, m := range kept {
		if !all && len(m.names) > 0 && f.Nodes[m.node].Kind != 2 {
			continue
		}
		line := impl.Line{Path: pathOf(m)}
		for _, b := range kept {
			if isBelow(m, b) {
				line.Size += 1 + len(f.Nodes[b.node].Data)
			}
		}
		lines = append(lines, line)
	}
	return toldDu(lines, faults, 0, true)
}

// isBelow takes what is the same for below, too.
func isBelow(top, m met) bool {
	return len(m.names) >= len(top.names) && slices.Equal(m.names[:len(top.names)], top.names)
}

// seenFrom has all that is met from a node on but what is below a directory that
// may not be looked into.
func (r *reading) seenFrom(node int) []met {
	all := metBelow(r.f, node)
	return slices.DeleteFunc(slices.Clone(all), func(m met) bool {
		return slices.ContainsFunc(all, func(dir met) bool {
			return r.f.Nodes[dir.node].Kind == 2 && len(dir.names) < len(m.names) && isBelow(dir, m) && !r.may(dir.node, 5)
		})
	})
}

func totalAgain(f impl.Fs, c impl.Cred, paths []string) int {
	r, counted, sum := newReading(f, c), map[int]bool{}, 0
	for _, path := range paths {
		node, code := r.findNode(path, false)
		if code != 0 {
			continue
		}
		for _, m := range r.seenFrom(node) {
			counted[m.node] = true
		}
	}
	for node := range counted {
		sum += 1 + len(f.Nodes[node].Data)
	}
	return sum
}

func checkDuAgain(t *testing.T, f impl.Fs, c impl.Cred, path string) duTold {
	t.Helper()
	var want duTold
	for _, all := range []bool{false, true} {
		want = duAgain(f, c, path, all)
		if got := duOf(f, c, path, all); got != want {
			t.Fatalf("%v, %q, %t:\n%+v instead of\n%+v in %v", c, path, all, got, want, f)
		}
	}
	return want
}

func TestEveryDuIsAsReadAgain(t *testing.T) {
	codes, faults, lines := [6]int{}, 0, 0
	check := func(f impl.Fs, path string) {
		for _, c := range someCreds {
			told := checkDuAgain(t, f, c, path)
			codes[told.code]++
			if told.faults != "" {
				faults++
			}
			if strings.Count(told.lines, " ") > 3 {
				lines++
			}
		}
	}
	for _, path := range somePaths([]string{".", "..", "a", "sub", "x", "own", "la", "blind", "shut", "ll"}) {
		check(duFs(), path)
	}
	for _, path := range somePaths([]string{"..", "a", "f", "la", "self", "shut", "x"}) {
		check(lookFs(), path)
	}
	for seed := range 150 {
		f, next := tangledFs(seed*15485863 + 11)
		ways, _, _ := waysToNodes(f)
		for range 20 {
			check(f, tangledPath(ways, next))
		}
		check(f, "/")
	}
	for code, times := range codes {
		if times < 100 {
			t.Errorf("code %d was met only %d times", code, times)
		}
	}
	if faults < 500 || lines < 500 {
		t.Error("hardly a tree was met", faults, lines)
	}
}

func TestEveryTotalIsAsReadAgain(t *testing.T) {
	less := 0
	for seed := range 200 {
		f, next := tangledFs(seed*32452843 + 5)
		ways, _, _ := waysToNodes(f)
		for range 20 {
			var paths []string
			for range next(11) {
				paths = append(paths, tangledPath(ways, next))
			}
			for _, c := range someCreds {
				want, sum := totalAgain(f, c, paths), 0
				checkTotal(t, f, c, want, paths...)
				for _, path := range paths {
					if lines, _, _, _ := impl.DuLines(f, c, path, next(2) == 0); len(lines) > 0 {
						sum += lines[len(lines)-1].Size
					}
				}
				if want < sum {
					less++
				}
				if want > sum || len(paths) == 1 && want != sum {
					t.Fatalf("%v, %q: %d of lines that add up to %d", c, paths, want, sum)
				}
			}
		}
	}
	if less < 1000 {
		t.Error("hardly a node was met again", less)
	}
}

// Promise 8: a privileged user counts all bytes, each inode once.
func TestUidZeroCountsAllBytesEachNodeOnce(t *testing.T) {
	trees := 0
	eachWalkable(func(f impl.Fs, node int) {
		below, _ := impl.NodesBelow(f, node)
		want := len(below)
		for _, i := range below {
			want += len(f.Nodes[i].Data)
		}
		checkSize(t, f, node, want)
		if node == 0 {
			bytes, _ := impl.BytesIn(f)
			used := 0
			for _, n := range f.Nodes {
				if n.Kind != impl.KdFree {
					used++
				}
			}
			if want != used+bytes {
				t.Fatalf("%d of %d nodes with %d bytes in %v", want, used, bytes, f)
			}
		}
		ways, _, _ := waysToNodes(f)
		ways[0] = []string{"/"}
		for _, path := range ways[node] {
			if len(path) > 60 {
				continue
			}
			trees++
			for _, gid := range []int{0, 2, 99} {
				checkAllIsCounted(t, f, impl.Cred{Uid: 0, Gid: gid}, path, want, len(below))
			}
		}
	})
	if trees < 5000 {
		t.Error("hardly a tree was met", trees)
	}
}

// checkAllIsCounted asks for a line for each node, a last line of all bytes, no
// faults, and a total that stays the same when more is told that is in there.
func checkAllIsCounted(t *testing.T, f impl.Fs, c impl.Cred, path string, size int, nodes int) {
	t.Helper()
	all, faults, code, ok := impl.DuLines(f, c, path, true)
	some, _, _, _ := impl.DuLines(f, c, path, false)
	last := impl.Line{Size: size, Path: path}
	if len(faults) != 0 || code != impl.EcOk || !ok || len(all) != nodes || all[nodes-1] != last || some[len(some)-1] != last {
		t.Fatalf("%v, %q: %v, %v, %v, %d, %t of %d nodes with %d in %v", c, path, all, some, faults, code, ok, nodes, size, f)
	}
	paths, own, nodeOf := []string{path}, 0, map[int]bool{}
	for i, line := range all {
		if len(line.Path) > 60 {
			continue
		}
		node, _, _ := impl.FindNode(f, c, line.Path, false)
		if nodeOf[node] {
			t.Fatalf("%v, %q: node %d is counted twice in %v", c, path, node, f)
		}
		nodeOf[node] = true
		own += 1 + len(f.Nodes[node].Data)
		if i%5 == 0 && len(paths) < 9 {
			paths = append([]string{line.Path}, append(paths, line.Path)...)
		}
	}
	if len(nodeOf) == nodes && own != size {
		t.Fatalf("%v, %q: %d is told of nodes with %d in %v", c, path, size, own, f)
	}
	checkTotal(t, f, c, size, path)
	if len(paths) <= 10 {
		checkTotal(t, f, c, size, paths...)
	}
}

// Who may less never counts more, and is told of what is left out.
func TestOthersCountAtMostAsMuch(t *testing.T) {
	less := 0
	for seed := range 150 {
		f, _ := tangledFs(seed*49979687 + 9)
		want, _ := impl.SizeBelow(f, 0)
		for _, c := range []impl.Cred{owner, mate, other, {Uid: 99, Gid: 0}} {
			lines, faults, _, _ := impl.DuLines(f, c, "/", true)
			size := lines[len(lines)-1].Size
			if size > want || size < want && len(faults) == 0 {
				t.Fatalf("%v: %d of %d, %v in %v", c, size, want, faults, f)
			}
			if size < want {
				less++
			}
		}
	}
	if less < 100 {
		t.Error("hardly anything was left out", less)
	}
}

// Those who count at the same time do not add to the sums of each other.
func TestCountingByManyAtOnce(t *testing.T) {
	var all sync.WaitGroup
	f := duFs()
	for i := range 60 {
		all.Go(func() {
			for range 20 {
				checkSize(t, f, []int{duRoot, duTop, duShut}[i%3], []int{53, 29, 3}[i%3])
				checkTotal(t, f, other, 42, "/blind/k", "/")
				checkDu(t, f, []impl.Cred{root}, alike("/void", "1:/void/b 1:/void/d 1:/void/s 4:/void", ""))
			}
		})
	}
	all.Wait()
}

// checkDuAnswers asks twice: the answers are those of the second reading where
// all is good, else zero values.
func checkDuAnswers(t *testing.T, f impl.Fs, creds []impl.Cred, paths []string) {
	t.Helper()
	good := isGoodByWays(f)
	for _, c := range creds {
		takes := good && within(c.Uid, 0, 99) && within(c.Gid, 0, 99)
		for i, path := range paths {
			few := paths[max(0, i-9) : i+1]
			var want, wantAll duTold
			total := 0
			if takes {
				want, wantAll, total = duAgain(f, c, path, false), duAgain(f, c, path, true), totalAgain(f, c, few)
			}
			for range 2 {
				got, gotAll := duOf(f, c, path, false), duOf(f, c, path, true)
				if got != want || gotAll != wantAll {
					t.Fatalf("%v, %.70q: %+v and %+v instead of %+v and %+v in %.500v", c, path, got, gotAll, want, wantAll, f)
				}
				if n, ok := impl.DuTotal(f, c, few); n != total || ok != takes {
					t.Fatalf("%v, %.200q: %d, %t instead of %d in %.500v", c, few, n, ok, total, f)
				}
			}
		}
		for _, many := range [][]string{nil, {}, slices.Repeat([]string{"/"}, 10), slices.Repeat([]string{"/"}, 11), slices.Repeat([]string{""}, 100000)} {
			total := 0
			if takes && len(many) <= 10 {
				total = totalAgain(f, c, many)
			}
			if n, ok := impl.DuTotal(f, c, many); n != total || ok != (takes && len(many) <= 10) {
				t.Fatalf("%v, %d paths: %d, %t instead of %d in %.500v", c, len(many), n, ok, total, f)
			}
		}
	}
}

// Promise 19: every function answers at all arguments.
func TestDuFunctionsAnswerAtAllArguments(t *testing.T) {
	for i, f := range append(oddFs(), duFs(), makeFs(), fullFs(40, 39), fullFs(40, 5)) {
		for _, node := range oddNodes {
			want, used := 0, isUsed(f, node)
			if used {
				for _, m := range slices.CompactFunc(slices.SortedFunc(slices.Values(metBelow(f, node)), func(a, b met) int { return a.node - b.node }), func(a, b met) bool { return a.node == b.node }) {
					want += 1 + len(f.Nodes[m.node].Data)
				}
			}
			for range 2 {
				if size, ok := impl.SizeBelow(f, node); size != want || ok != used {
					t.Fatalf("file system %d, node %d: %d, %t instead of %d in %.500v", i, node, size, ok, want, f)
				}
			}
		}
		checkDuAnswers(t, f, []impl.Cred{root, other, {Uid: 100}, {Gid: -1}}, lookPaths)
	}
	for _, f := range []impl.Fs{sampleFs(), duFs(), lookFs(), {}} {
		checkDuAnswers(t, f, oddCreds, append(lookPaths, oddTexts...))
	}
	checkDuAnswers(t, sampleFs(), []impl.Cred{root, owner}, longPaths()[:2000])
}

// Promise 19: no function changes an argument.
func TestDuFunctionsLeaveTheirArguments(t *testing.T) {
	for i, f := range append(oddFs(), duFs(), lookFs(), hopsFs(), fullFs(40, 5)) {
		plain := copyOfFs(f)
		isAsItWas := markBehind(&f)
		for node := -1; node <= 41; node++ {
			size, ok := impl.SizeBelow(f, node)
			if want, wantOk := impl.SizeBelow(plain, node); size != want || ok != wantOk {
				t.Errorf("file system %d, node %d: what is behind a list counts", i, node)
			}
		}
		for at, path := range append(lookPaths, "/mark", "/blind/", "/la/sub/", "/l8/", "/self/") {
			kept := strings.Clone(path)
			paths := []string{path, "/", path, "/a", "/mark", "/blind"}
			few := paths[:1+at%5]
			keptPaths := slices.Clone(paths)
			for _, c := range []impl.Cred{root, other} {
				for _, all := range []bool{false, true} {
					if duOf(f, c, path, all) != duOf(plain, c, path, all) {
						t.Errorf("file system %d, %.70q: what is behind a list counts", i, path)
					}
				}
				n, ok := impl.DuTotal(f, c, few)
				if want, wantOk := impl.DuTotal(plain, c, slices.Clone(few)); n != want || ok != wantOk {
					t.Errorf("file system %d, %.200q: what is behind a list counts", i, few)
				}
			}
			if kept != path || !slices.Equal(paths, keptPaths) {
				t.Errorf("a path was changed: %.70q", kept)
			}
		}
		if !isAsItWas() {
			t.Fatalf("file system %d was written to", i)
		}
	}
}

func TestTextsLeaveTheirArguments(t *testing.T) {
	for _, bad := range []int{-1, 0, 1, 2} {
		lines := []impl.Line{aLine(3, "/c"), aLine(1, "/a"), aLine(2, "/b"), aLine(-1, "behind")}
		faults := []impl.Fault{aFault("/c", 3), aFault("/a", 1), aFault("/b", 2), aFault("", 0)}
		want, wantF := "3\t/c\n1\t/a\n2\t/b\n", "/c: nodir\n/a: path\n/b: none\n"
		if bad >= 0 {
			lines[bad].Path, faults[bad].Code, want, wantF = "", 11, "", ""
		}
		kept, keptF := slices.Clone(lines), slices.Clone(faults)
		for range 2 {
			if text, ok := impl.LinesText(lines[:3]); text != want || ok != (bad < 0) || !slices.Equal(lines, kept) {
				t.Errorf("%q, %t of %v, now %v", text, ok, kept, lines)
			}
			if text, ok := impl.FaultsText(faults[:3]); text != wantF || ok != (bad < 0) || !slices.Equal(faults, keptF) {
				t.Errorf("%q, %t of %v, now %v", text, ok, keptF, faults)
			}
		}
	}
}

// What is written into an answer is seen in no other one, and in no argument.
func TestDuAnswersAreNewMemory(t *testing.T) {
	for _, f := range []impl.Fs{duFs(), chainFs(40, "abcdefgh"), filesFs(20, 2, 40), lookFs()} {
		isAsItWas := markBehind(&f)
		for _, c := range []impl.Cred{root, other} {
			for _, path := range []string{"/", "/a", "/g", "/shut", "/none", ""} {
				for _, all := range []bool{false, true} {
					want := duAgain(f, c, path, all)
					lines, faults, code, ok := impl.DuLines(f, c, path, all)
					fill(lines, impl.Line{Size: 77, Path: "written"})
					if got := toldDu(nil, faults, code, ok); got.faults != want.faults {
						t.Errorf("%v, %q: the faults are %s instead of %s", c, path, got.faults, want.faults)
					}
					fill(faults, impl.Fault{Path: "written", Code: 77})
					if got := duOf(f, c, path, all); got != want {
						t.Errorf("%v, %q: %+v instead of %+v", c, path, got, want)
					}
				}
			}
		}
		if !isAsItWas() {
			t.Fatal("an answer has memory of the argument", f)
		}
	}
}

// Nothing is kept from call to call: neither what was counted, nor how much.
func TestCountingKeepsNothing(t *testing.T) {
	f := duFs()
	before := duOf(f, root, "/a", true)
	checkTotal(t, f, root, 29, "/a")
	checkTotal(t, f, root, 29, "/a")
	checkSize(t, f, duTop, 29)
	checkSize(t, f, duTop, 29)
	if after := duOf(f, root, "/a", true); after != before {
		t.Error(before, after)
	}
	g, code, ok := impl.WriteFile(f, root, "/g", "123456789", 5)
	if code != impl.EcOk || !ok {
		t.Fatal(code, ok)
	}
	checkSize(t, g, duTop, 33)
	checkTotal(t, g, root, 33, "/a")
	checkSize(t, f, duTop, 29)
	f.Nodes[duFive].Data = ""
	checkSize(t, f, duTop, 24)
	checkTotal(t, f, root, 24, "/a")
	checkDu(t, f, []impl.Cred{root}, alike("/g", "1:/g", ""))
}
