package tests

import (
	"fmt"
	"math"
	"slices"
	"strings"
	"sync"
	"testing"

	"loop.example/g00756/impl"
)

// An act is a call of a function of chapter 6 that answers with a file system.
type act struct {
	do     string
	path   string
	data   string
	mode   int
	uid    int
	gid    int
	time   int
	follow bool
}

const (
	doWrite = "WriteFile"
	doMode  = "SetMode"
	doOwner = "SetOwner"
	doTime  = "SetTime"
)

var allActs = []string{doWrite, doMode, doOwner, doTime}

func (a act) on(f impl.Fs, c impl.Cred) (impl.Fs, int, bool) {
	switch a.do {
	case doWrite:
		return impl.WriteFile(f, c, a.path, a.data, a.time)
	case doMode:
		return impl.SetMode(f, c, a.path, a.mode)
	case doOwner:
		return impl.SetOwner(f, c, a.path, a.uid, a.gid, a.follow)
	}
	return impl.SetTime(f, c, a.path, a.time)
}

// takes tells whether the numbers that the function has are as said.
func (a act) takes() bool {
	switch a.do {
	case doMode:
		return within(a.mode, 0, 511)
	case doOwner:
		return within(a.uid, -1, 99) && within(a.gid, -1, 99)
	}
	return within(a.time, 0, 1000000)
}

func write(path, data string) act       { return act{do: doWrite, path: path, data: data, time: 70} }
func setMode(path string, mode int) act { return act{do: doMode, path: path, mode: mode} }
func setTime(path string, time int) act { return act{do: doTime, path: path, time: time} }
func giveBy(path string, uid, gid int) act {
	return act{do: doOwner, path: path, uid: uid, gid: gid, follow: true}
}
func giveAt(path string, uid, gid int) act {
	return act{do: doOwner, path: path, uid: uid, gid: gid}
}

// actsAt has an act of each function that Uid 0 may do at any file.
func actsAt(path string) []act {
	return []act{write(path, "data"), setMode(path, 0o751), giveBy(path, 7, 8), giveAt(path, 7, 8), setTime(path, 70)}
}

// The nodes of attrFs.
const (
	atRoot = iota
	atFree
	atDir
	atFile
	atShut
	atOpen
	atIn
	atInFile
	atEmpty
	atToFile
	atToDir
	atToLink
	atToIn
	atNowhere
	atSelf
)

// attrFs has a free node 1, and:
//
//	/d (755, of 1:2)
//	/d/f (640, of 1:2, also /g) "hello"   /d/shut (000, of 1:2) "dark"   /d/open (666, of 4:5), without bytes
//	/in (700, of 1:2)   may be entered by 1 and 0 alone
//	/in/f (666, of 4:5) "in"
//	/e (777, of 4:5), without entries
//	/l (also /d/l) -> d/f   /ld -> /d   /ll -> l   /li -> in/f   /no -> none   /self -> self   all of 3:6
func attrFs() impl.Fs {
	d := newDraft()
	d.Nodes = append(d.Nodes, impl.Node{})
	file := func(dir int, name string, mode, uid, gid int, data string) int {
		return d.add(dir, name, impl.Node{Kind: impl.KdFile, Mode: mode, Uid: uid, Gid: gid, Data: data})
	}
	link := func(name, to string) int {
		return d.add(0, name, impl.Node{Kind: impl.KdLink, Mode: 0o777, Uid: 3, Gid: 6, Data: to})
	}
	dir := d.dir(0, "d", 0o755)
	d.name(0, "g", file(dir, "f", 0o640, 1, 2, "hello"))
	file(dir, "shut", 0, 1, 2, "dark")
	file(dir, "open", 0o666, 4, 5, "")
	file(d.dir(0, "in", 0o700), "f", 0o666, 4, 5, "in")
	d.add(0, "e", impl.Node{Kind: impl.KdDir, Mode: 0o777, Uid: 4, Gid: 5})
	d.name(dir, "l", link("l", "d/f"))
	link("ld", "/d")
	link("ll", "l")
	link("li", "in/f")
	link("no", "none")
	link("self", "self")
	for i := range d.Nodes {
		if i != atFree {
			d.Nodes[i].Time = 10 + i
		}
	}
	return d.Fs
}

func TestAttrSampleIsGood(t *testing.T) {
	f := attrFs()
	if !isGoodByWays(f) || len(f.Nodes) != atSelf+1 || f.Nodes[atInFile].Data != "in" || f.Nodes[atToIn].Data != "in/f" || f.Nodes[atEmpty].Uid != 4 {
		t.Error("the sample is not as said", f)
	}
}

// strangers own nothing in attrFs, and are in none of its groups.
var strangers = []impl.Cred{{Uid: 50, Gid: 50}, {Uid: 99, Gid: 0}}

// codedPaths has paths to which FindNode with follow tells a code to all.
func codedPaths() map[string]int {
	return map[string]int{
		"": impl.EcPath, ".": impl.EcPath, "d/f": impl.EcPath, "g": impl.EcPath, "../g": impl.EcPath, "/G": impl.EcPath, "/d/a b": impl.EcPath, "/123456789": impl.EcPath, "/\x00": impl.EcPath,
		"/g\n": impl.EcPath, "é": impl.EcPath, "\xff": impl.EcPath, longPath(61): impl.EcPath, strings.Repeat("/", 61): impl.EcPath, strings.Repeat("/d/..", 1000): impl.EcPath,
		"/none": impl.EcNone, "/d/none": impl.EcNone, "/none/x": impl.EcNone, "/e/f": impl.EcNone, "/no": impl.EcNone, "/d/l": impl.EcNone, "/ld/none": impl.EcNone, longPath(60): impl.EcNone,
		"/g/": impl.EcNoDir, "/g/x": impl.EcNoDir, "/d/f/..": impl.EcNoDir, "/l/": impl.EcNoDir, "/l/x": impl.EcNoDir, "/self": impl.EcLoop, "/self/x": impl.EcLoop, "/self/": impl.EcLoop,
	}
}

func checkRead(t *testing.T, f impl.Fs, creds []impl.Cred, want map[string]string, code int) {
	t.Helper()
	for _, c := range creds {
		for path, data := range want {
			if s, got, ok := impl.ReadFile(f, c, path); s != data || got != code || !ok {
				t.Errorf("%v, %.70q: %q, %d, %t instead of %q, %d", c, path, s, got, ok, data, code)
			}
		}
	}
}

func TestReadFile(t *testing.T) {
	f := attrFs()
	hello := map[string]string{"/d/f": "hello", "/g": "hello", "//g": "hello", "/d/../g": "hello", "/l": "hello", "/ll": "hello", "/ld/f": "hello", "/ld/../l": "hello"}
	checkRead(t, f, []impl.Cred{root, owner, mate, {Uid: 0, Gid: 99}}, hello, impl.EcOk)
	checkRead(t, f, someCreds, map[string]string{"/d/open": "", "/ld/open": ""}, impl.EcOk)
	checkRead(t, f, []impl.Cred{root, owner}, map[string]string{"/in/f": "in", "/li": "in"}, impl.EcOk)
	checkRead(t, f, []impl.Cred{root, {Uid: 0, Gid: 99}}, map[string]string{"/d/shut": "dark"}, impl.EcOk)
	// The owner's bits count for the owner, though the others' were more.
	f.Nodes[atShut].Mode = 0o077
	checkRead(t, f, append([]impl.Cred{mate, other}, strangers...), map[string]string{"/d/shut": "dark"}, impl.EcOk)
	checkRead(t, f, []impl.Cred{owner}, map[string]string{"/d/shut": ""}, impl.EcMay)
	checkRead(t, attrFs(), append([]impl.Cred{owner, mate, other}, strangers...), map[string]string{"/d/shut": "", "/ld/shut": ""}, impl.EcMay)
	checkRead(t, attrFs(), append([]impl.Cred{other}, strangers...), map[string]string{"/g": "", "/d/f": "", "/l": "", "/in/f": "", "/li": "", "/in/none": ""}, impl.EcMay)
	// The link's own mode does not count.
	f.Nodes[atToFile].Mode = 0
	checkRead(t, f, []impl.Cred{owner, mate}, map[string]string{"/l": "hello", "/ll": "hello"}, impl.EcOk)
}

func TestReadFileOfDirectories(t *testing.T) {
	f := attrFs()
	f.Nodes[atEmpty].Mode = 0
	// That it is a directory is told ahead of whether it may be read.
	checkRead(t, f, someCreds, map[string]string{"/": "", "//": "", "/.": "", "/d": "", "/d/": "", "/ld": "", "/ld/": "", "/in": "", "/in/": "", "/e": "", "/e/": "", "/d/..": ""}, impl.EcIsDir)
}

func TestAttrTellsTheCodeOfThePath(t *testing.T) {
	f := attrFs()
	for path, code := range codedPaths() {
		checkRead(t, f, someCreds, map[string]string{path: ""}, code)
		for _, c := range someCreds {
			if s, got, ok := impl.StatOf(f, c, path, true); s != (impl.Stat{}) || got != code || !ok {
				t.Errorf("StatOf %.70q: %v, %d, %t instead of %d", path, s, got, ok, code)
			}
		}
		checkMakings(t, f, faults(code, someCreds, write(path, "x"), setMode(path, 0), setMode(path, 511), giveBy(path, -1, -1), giveBy(path, 7, 8), setTime(path, 5)))
	}
	hops := hopsFs()
	checkRead(t, hops, someCreds, map[string]string{"/l8/f": "f", "/d/h/f": "f"}, impl.EcOk)
	checkRead(t, hops, someCreds, map[string]string{"/l9/f": "", "/l9": ""}, impl.EcLoop)
	checkMakings(t, hops, faults(impl.EcLoop, someCreds, actsAt("/l9/f")...))
	checkMakings(t, f, faults(impl.EcMay, []impl.Cred{mate, other, {Uid: 99}}, actsAt("/in/f")...))
	checkMakings(t, f, faults(impl.EcMay, []impl.Cred{mate, other, {Uid: 99}}, actsAt("/in/none")...))
}

func written(node int, data string) func(f *impl.Fs) {
	return func(f *impl.Fs) { f.Nodes[node].Data, f.Nodes[node].Time = data, 70 }
}

func TestWriteFile(t *testing.T) {
	for _, data := range []string{"", "x", "hello", "more than that", "\x00\xff\n é"} {
		for _, path := range []string{"/d/f", "/g", "/l", "/ll", "/ld/f", "//d/../g"} {
			for _, c := range []impl.Cred{root, owner, {Uid: 0, Gid: 99}, {Uid: 1, Gid: 77}} {
				checkMakings(t, attrFs(), []making{{c, write(path, data), impl.EcOk, written(atFile, data)}})
			}
			// By the group, and by all others, it may not be written.
			checkMakings(t, attrFs(), faults(impl.EcMay, append([]impl.Cred{mate, other}, strangers...), write(path, data)))
		}
		for _, c := range someCreds {
			checkMakings(t, attrFs(), []making{{c, write("/d/open", data), impl.EcOk, written(atOpen, data)}})
		}
		checkMakings(t, attrFs(), []making{
			{root, write("/d/shut", data), impl.EcOk, written(atShut, data)},
			{owner, write("/d/shut", data), impl.EcMay, nil},
			{owner, write("/in/f", data), impl.EcOk, written(atInFile, data)},
			{owner, write("/li", data), impl.EcOk, written(atInFile, data)},
			// Who owns a file may yet not come to it.
			{other, write("/in/f", data), impl.EcMay, nil},
			{other, write("/li", data), impl.EcMay, nil},
		})
	}
	dirs := []act{write("/", ""), write("/d", "x"), write("/d/", "x"), write("/ld", "x"), write("/ld/", ""), write("/e", "x"), write("/in", "x"), write("/d/.", "x"), write("/d/..", "x")}
	checkMakings(t, attrFs(), faults(impl.EcIsDir, someCreds, dirs...))
}

// To read asks for the first bit of a class, to write for the second one, each
// for that alone.
func TestReadAndWriteOfFilesOfEveryMode(t *testing.T) {
	f := attrFs()
	for mode := range 512 {
		f.Nodes[atFile].Mode = mode
		for i, c := range []impl.Cred{owner, mate, other, root} {
			want, data, wantWrite := impl.EcOk, "hello", impl.EcOk
			if c != root && mode>>(6-3*i)&4 == 0 {
				want, data = impl.EcMay, ""
			}
			if c != root && mode>>(6-3*i)&2 == 0 {
				wantWrite = impl.EcMay
			}
			if s, code, ok := impl.ReadFile(f, c, "/l"); s != data || code != want || !ok {
				t.Fatalf("mode %o, %v: read %q, %d, %t", mode, c, s, code, ok)
			}
			if g, code, ok := impl.WriteFile(f, c, "/l", "new", 70); code != wantWrite || !ok || (code == impl.EcOk) == impl.SameFs(f, g) {
				t.Fatalf("mode %o, %v: written %d, %t, %v", mode, c, code, ok, g)
			}
		}
	}
}

func TestWriteFileOfMaxData(t *testing.T) {
	for _, data := range []string{strings.Repeat("x", 59), strings.Repeat("\xff", 60), strings.Repeat("é", 30)} {
		checkMakings(t, attrFs(), []making{{owner, write("/g", data), impl.EcOk, written(atFile, data)}})
	}
	// More than that is told ahead of all that there is to say of the path.
	for _, data := range []string{strings.Repeat("x", 61), strings.Repeat("é", 31), strings.Repeat("x", 100000)} {
		for _, path := range []string{"/g", "/l", "/d/shut", "/d", "/", "/none", "/g/x", "/self", "/in/f", "", "A", longPath(61)} {
			checkMakings(t, attrFs(), faults(impl.EcPath, someCreds, write(path, data)))
		}
		full := attrFs()
		full.Room, _ = impl.BytesIn(full)
		checkMakings(t, full, faults(impl.EcPath, someCreds, write("/g", data)))
	}
}

func TestWriteFileWithinTheRoom(t *testing.T) {
	f := attrFs()
	used, _ := impl.BytesIn(f)
	for _, c := range []struct {
		left int
		path string
		data string
		code int
	}{
		// The bytes that were there make room.
		{0, "/g", "hallo", impl.EcOk}, {0, "/g", "hello!", impl.EcFull}, {1, "/g", "hello!", impl.EcOk}, {1, "/g", "hello!!", impl.EcFull}, {2, "/l", "helloé", impl.EcOk}, {1, "/l", "helloé", impl.EcFull},
		{55, "/g", strings.Repeat("x", 60), impl.EcOk}, {54, "/g", strings.Repeat("x", 60), impl.EcFull},
		{0, "/g", "hell", impl.EcOk}, {0, "/g", "", impl.EcOk}, {0, "/d/open", "", impl.EcOk}, {0, "/d/open", "x", impl.EcFull}, {1, "/d/open", "x", impl.EcOk}, {1, "/d/open", "xy", impl.EcFull},
		// That there is no room is told behind all else.
		{0, "/d", "x", impl.EcIsDir}, {0, "/d/shut", "longer", impl.EcMay}, {0, "/none", "x", impl.EcNone}, {0, "/self", "x", impl.EcLoop}, {0, "", "x", impl.EcPath},
	} {
		f.Room = used + c.left
		g, code, ok := impl.WriteFile(f, owner, c.path, c.data, 70)
		if code != c.code || !ok || (code != impl.EcOk) != impl.SameFs(f, g) || !isGoodByWays(g) {
			t.Errorf("%d bytes are left, %q, %q: %d, %t instead of %d: %v", c.left, c.path, c.data, code, ok, c.code, g)
		}
	}
	// Files of as many bytes as there may be, one of which gets shorter, then longer.
	f = filesFs(16, 60, 960)
	g, code, _ := impl.WriteFile(f, root, "/a1", "x", 1)
	h, again, _ := impl.WriteFile(g, root, "/b6", strings.Repeat("y", 60), 2)
	if code != impl.EcOk || again != impl.EcOk || !isGoodByWays(h) {
		t.Error(code, again, h)
	}
	if _, code, _ := impl.WriteFile(filesFs(16, 59, 944), root, "/a1", strings.Repeat("x", 60), 1); code != impl.EcFull {
		t.Error(code)
	}
}

func TestWhatIsWrittenByOneNameIsReadByAnother(t *testing.T) {
	f := attrFs()
	ways := []string{"/d/f", "/g", "/l", "/ll", "/ld/f", "/ld/../g"}
	for i, by := range ways {
		data := strings.Repeat("z", i)
		g, code, ok := impl.WriteFile(f, owner, by, data, 100+i)
		if code != impl.EcOk || !ok {
			t.Fatal(by, code, ok)
		}
		for _, way := range ways {
			s, readCode, _ := impl.ReadFile(g, mate, way)
			stat, statCode, _ := impl.StatOf(g, mate, way, true)
			if s != data || readCode != impl.EcOk || statCode != impl.EcOk || stat.Size != i || stat.Time != 100+i || stat.Node != atFile {
				t.Errorf("written by %s, read by %s: %q, %d, %+v, %d", by, way, s, readCode, stat, statCode)
			}
		}
		f = g
	}
}

// statOfAttr is the stat of a node of attrFs, written out.
func statOfAttr(node int) impl.Stat {
	return map[int]impl.Stat{
		atRoot:    {Node: 0, Kind: 2, Mode: 0o755, Time: 10, Size: 10},
		atDir:     {Node: 2, Kind: 2, Mode: 0o755, Uid: 1, Gid: 2, Time: 12, Size: 4, Links: 1},
		atFile:    {Node: 3, Kind: 1, Mode: 0o640, Uid: 1, Gid: 2, Time: 13, Size: 5, Links: 2},
		atShut:    {Node: 4, Kind: 1, Mode: 0, Uid: 1, Gid: 2, Time: 14, Size: 4, Links: 1},
		atOpen:    {Node: 5, Kind: 1, Mode: 0o666, Uid: 4, Gid: 5, Time: 15, Size: 0, Links: 1},
		atIn:      {Node: 6, Kind: 2, Mode: 0o700, Uid: 1, Gid: 2, Time: 16, Size: 1, Links: 1},
		atInFile:  {Node: 7, Kind: 1, Mode: 0o666, Uid: 4, Gid: 5, Time: 17, Size: 2, Links: 1},
		atEmpty:   {Node: 8, Kind: 2, Mode: 0o777, Uid: 4, Gid: 5, Time: 18, Size: 0, Links: 1},
		atToFile:  {Node: 9, Kind: 3, Mode: 0o777, Uid: 3, Gid: 6, Time: 19, Size: 3, Links: 2},
		atToDir:   {Node: 10, Kind: 3, Mode: 0o777, Uid: 3, Gid: 6, Time: 20, Size: 2, Links: 1},
		atToLink:  {Node: 11, Kind: 3, Mode: 0o777, Uid: 3, Gid: 6, Time: 21, Size: 1, Links: 1},
		atToIn:    {Node: 12, Kind: 3, Mode: 0o777, Uid: 3, Gid: 6, Time: 22, Size: 4, Links: 1},
		atNowhere: {Node: 13, Kind: 3, Mode: 0o777, Uid: 3, Gid: 6, Time: 23, Size: 4, Links: 1},
		atSelf:    {Node: 14, Kind: 3, Mode: 0o777, Uid: 3, Gid: 6, Time: 24, Size: 4, Links: 1},
	}[node]
}

func TestStatOf(t *testing.T) {
	f := attrFs()
	check := func(c impl.Cred, path string, follow bool, want impl.Stat, wantCode int) {
		t.Helper()
		if s, code, ok := impl.StatOf(f, c, path, follow); s != want || code != wantCode || !ok {
			t.Errorf("%v, %q, %t: %+v, %d, %t instead of %+v, %d", c, path, follow, s, code, ok, want, wantCode)
		}
	}
	for _, c := range someCreds {
		// What is no link at its end is the same with follow and without.
		for path, node := range map[string]int{
			"/": atRoot, "//": atRoot, "/d/..": atRoot, "/d": atDir, "/d/": atDir, "/ld/": atDir, "/ld/.": atDir, "/d/f": atFile, "/g": atFile, "/ld/f": atFile,
			"/d/shut": atShut, "/d/open": atOpen, "/in": atIn, "/in/": atIn, "/e": atEmpty,
		} {
			check(c, path, true, statOfAttr(node), impl.EcOk)
			check(c, path, false, statOfAttr(node), impl.EcOk)
		}
		for path, nodes := range map[string][2]int{"/l": {atToFile, atFile}, "/ll": {atToLink, atFile}, "/ld": {atToDir, atDir}, "/ld/../l": {atToFile, atFile}} {
			check(c, path, false, statOfAttr(nodes[0]), impl.EcOk)
			check(c, path, true, statOfAttr(nodes[1]), impl.EcOk)
		}
		for path, node := range map[string]int{"/d/l": atToFile, "/no": atNowhere, "/self": atSelf, "/li": atToIn} {
			check(c, path, false, statOfAttr(node), impl.EcOk)
		}
		check(c, "/d/l", true, impl.Stat{}, impl.EcNone)
		check(c, "/no", true, impl.Stat{}, impl.EcNone)
		check(c, "/self", true, impl.Stat{}, impl.EcLoop)
		check(c, "/l/", false, impl.Stat{}, impl.EcNoDir)
		check(c, "/no/", false, impl.Stat{}, impl.EcNone)
		check(c, "", false, impl.Stat{}, impl.EcPath)
		check(c, longPath(61), false, impl.Stat{}, impl.EcPath)
	}
	for _, c := range []impl.Cred{root, owner} {
		check(c, "/in/f", false, statOfAttr(atInFile), impl.EcOk)
		check(c, "/li", true, statOfAttr(atInFile), impl.EcOk)
	}
	check(other, "/in/f", false, impl.Stat{}, impl.EcMay)
	check(other, "/li", true, impl.Stat{}, impl.EcMay)
}

func TestStatOfNodesAtTheirLimits(t *testing.T) {
	f := filesFs(39, 0, 1000)
	if s, code, ok := impl.StatOf(f, root, "/", false); s != (impl.Stat{Kind: 2, Size: 39}) || code != impl.EcOk || !ok {
		t.Error(s, code, ok)
	}
	f = attrFs()
	n := &f.Nodes[atToFile]
	n.Mode, n.Uid, n.Gid, n.Time, n.Data = 511, 99, 98, 1000000, longPath(60)
	if s, code, ok := impl.StatOf(f, root, "/d/l", false); s != (impl.Stat{Node: atToFile, Kind: 3, Mode: 511, Uid: 99, Gid: 98, Time: 1000000, Size: 60, Links: 2}) || code != impl.EcOk || !ok {
		t.Error(s, code, ok)
	}
	n = &f.Nodes[atFile]
	n.Mode, n.Uid, n.Gid, n.Time, n.Data = 0, 0, 0, 0, strings.Repeat("\xff", 60)
	for i := range 40 {
		come(&f, atEmpty, fmt.Sprint("n", i), atFile)
	}
	if s, code, ok := impl.StatOf(f, root, "/e/n39", false); s != (impl.Stat{Node: atFile, Kind: 1, Size: 60, Links: 42}) || code != impl.EcOk || !ok {
		t.Error(s, code, ok)
	}
}

func TestSetMode(t *testing.T) {
	as := func(node int, mode int) func(f *impl.Fs) { return func(f *impl.Fs) { f.Nodes[node].Mode = mode } }
	for mode := range 512 {
		checkMakings(t, attrFs(), []making{{owner, setMode("/g", mode), impl.EcOk, as(atFile, mode)}, {root, setMode("/d", mode), impl.EcOk, as(atDir, mode)}})
	}
	for _, c := range []impl.Cred{root, owner, {Uid: 0, Gid: 99}, {Uid: 1, Gid: 77}} {
		for path, node := range map[string]int{"/d/f": atFile, "/l": atFile, "/ll": atFile, "/ld": atDir, "/ld/": atDir, "/d/shut": atShut, "/in": atIn, "/d/.": atDir} {
			checkMakings(t, attrFs(), []making{{c, setMode(path, 0), impl.EcOk, as(node, 0)}, {c, setMode(path, 511), impl.EcOk, as(node, 511)}})
		}
	}
	// To be of the group, or one who may write, is not enough.
	checkMakings(t, attrFs(), faults(impl.EcMay, append([]impl.Cred{mate, other}, strangers...), setMode("/g", 511), setMode("/l", 0), setMode("/d", 511), setMode("/ld", 0), setMode("/", 511), setMode("/d/shut", 511)))
	checkMakings(t, attrFs(), faults(impl.EcMay, append([]impl.Cred{owner, mate}, strangers...), setMode("/d/open", 0), setMode("/e", 0)))
	checkMakings(t, attrFs(), []making{
		{other, setMode("/d/open", 0), impl.EcOk, as(atOpen, 0)},
		{other, setMode("/e", 0), impl.EcOk, as(atEmpty, 0)},
		{root, setMode("/", 0), impl.EcOk, as(atRoot, 0)},
		{owner, setMode("/in/f", 0), impl.EcMay, nil},
		// Who owns the link owns not what it leads to.
		{mate, setMode("/ld", 0), impl.EcMay, nil},
		{mate, setMode("/no", 0), impl.EcNone, nil},
		{mate, setMode("/self", 0), impl.EcLoop, nil},
	})
}

func TestSetTime(t *testing.T) {
	as := func(node int, time int) func(f *impl.Fs) { return func(f *impl.Fs) { f.Nodes[node].Time = time } }
	for _, time := range []int{0, 1, 12, 13, 999999, 1000000} {
		for _, c := range []impl.Cred{root, owner, {Uid: 0, Gid: 99}, {Uid: 1, Gid: 77}} {
			for path, node := range map[string]int{"/g": atFile, "/d/f": atFile, "/l": atFile, "/ll": atFile, "/ld": atDir, "/ld/": atDir, "/d/shut": atShut, "/in": atIn} {
				checkMakings(t, attrFs(), []making{{c, setTime(path, time), impl.EcOk, as(node, time)}})
			}
		}
		checkMakings(t, attrFs(), faults(impl.EcMay, append([]impl.Cred{mate, other}, strangers...), setTime("/g", time), setTime("/l", time), setTime("/d", time), setTime("/ld", time), setTime("/", time)))
		checkMakings(t, attrFs(), faults(impl.EcMay, append([]impl.Cred{owner, mate}, strangers...), setTime("/d/open", time), setTime("/e", time)))
		checkMakings(t, attrFs(), []making{
			{other, setTime("/d/open", time), impl.EcOk, as(atOpen, time)},
			{root, setTime("/", time), impl.EcOk, as(atRoot, time)},
			{mate, setTime("/no", time), impl.EcNone, nil},
		})
	}
}

func owned(node, uid, gid int) func(f *impl.Fs) {
	return func(f *impl.Fs) { f.Nodes[node].Uid, f.Nodes[node].Gid = uid, gid }
}

func TestSetOwnerByUidZero(t *testing.T) {
	for _, c := range []impl.Cred{root, {Uid: 0, Gid: 99}} {
		for _, uid := range []int{-1, 0, 1, 4, 98, 99} {
			for _, gid := range []int{-1, 0, 2, 5, 98, 99} {
				to := func(node, wasUid, wasGid int) func(f *impl.Fs) {
					if uid != -1 {
						wasUid = uid
					}
					if gid != -1 {
						wasGid = gid
					}
					return owned(node, wasUid, wasGid)
				}
				checkMakings(t, attrFs(), []making{
					{c, giveBy("/g", uid, gid), impl.EcOk, to(atFile, 1, 2)}, {c, giveAt("/g", uid, gid), impl.EcOk, to(atFile, 1, 2)},
					{c, giveBy("/l", uid, gid), impl.EcOk, to(atFile, 1, 2)}, {c, giveAt("/l", uid, gid), impl.EcOk, to(atToFile, 3, 6)},
					{c, giveBy("/ll", uid, gid), impl.EcOk, to(atFile, 1, 2)}, {c, giveAt("/ll", uid, gid), impl.EcOk, to(atToLink, 3, 6)},
					{c, giveBy("/ld", uid, gid), impl.EcOk, to(atDir, 1, 2)}, {c, giveAt("/ld", uid, gid), impl.EcOk, to(atToDir, 3, 6)}, {c, giveAt("/ld/", uid, gid), impl.EcOk, to(atDir, 1, 2)},
					{c, giveBy("/no", uid, gid), impl.EcNone, nil}, {c, giveAt("/no", uid, gid), impl.EcOk, to(atNowhere, 3, 6)},
					{c, giveBy("/self", uid, gid), impl.EcLoop, nil}, {c, giveAt("/self", uid, gid), impl.EcOk, to(atSelf, 3, 6)},
					{c, giveBy("/", uid, gid), impl.EcOk, to(atRoot, 0, 0)}, {c, giveBy("/d/shut", uid, gid), impl.EcOk, to(atShut, 1, 2)},
				})
			}
		}
	}
}

func TestSetOwnerByTheOwner(t *testing.T) {
	away := impl.Cred{Uid: 1, Gid: 77}
	for _, give := range []func(string, int, int) act{giveBy, giveAt} {
		checkMakings(t, attrFs(), []making{
			// The node's group, the cred's, and another one.
			{away, give("/g", -1, -1), impl.EcOk, nil}, {away, give("/g", 1, -1), impl.EcOk, nil}, {away, give("/g", -1, 2), impl.EcOk, nil}, {away, give("/g", 1, 2), impl.EcOk, nil},
			{away, give("/g", -1, 77), impl.EcOk, owned(atFile, 1, 77)}, {away, give("/g", 1, 77), impl.EcOk, owned(atFile, 1, 77)},
			{away, give("/g", -1, 76), impl.EcMay, nil}, {away, give("/g", 1, 0), impl.EcMay, nil}, {away, give("/g", 1, 99), impl.EcMay, nil},
			{owner, give("/d", -1, 2), impl.EcOk, nil}, {owner, give("/d", -1, 77), impl.EcMay, nil},
			// To another owner never.
			{away, give("/g", 0, -1), impl.EcMay, nil}, {away, give("/g", 2, -1), impl.EcMay, nil}, {away, give("/g", 99, 77), impl.EcMay, nil}, {away, give("/g", 0, 2), impl.EcMay, nil}, {away, give("/g", 77, 1), impl.EcMay, nil},
		})
		// Who is not the owner may not even leave all as it is.
		for _, c := range append([]impl.Cred{mate, other, {Uid: 2, Gid: 1}}, strangers...) {
			checkMakings(t, attrFs(), faults(impl.EcMay, []impl.Cred{c}, give("/g", -1, -1), give("/g", 1, 2), give("/g", c.Uid, c.Gid), give("/g", c.Uid, -1), give("/g", -1, c.Gid), give("/d", -1, -1), give("/", -1, -1)))
		}
	}
	// A link is given by its own owner; what it leads to, by that one's.
	checkMakings(t, attrFs(), []making{
		{mate, giveAt("/l", -1, 2), impl.EcOk, owned(atToFile, 3, 2)}, {mate, giveAt("/d/l", 3, 6), impl.EcOk, nil}, {mate, giveAt("/l", -1, 5), impl.EcMay, nil},
		{mate, giveBy("/l", -1, 2), impl.EcMay, nil}, {mate, giveBy("/ld", -1, -1), impl.EcMay, nil}, {mate, giveAt("/ld/", -1, -1), impl.EcMay, nil},
		{away, giveBy("/l", -1, 77), impl.EcOk, owned(atFile, 1, 77)}, {away, giveAt("/l", -1, 77), impl.EcMay, nil}, {away, giveAt("/ld/", -1, 77), impl.EcOk, owned(atDir, 1, 77)},
		{mate, giveAt("/no", -1, 2), impl.EcOk, owned(atNowhere, 3, 2)}, {mate, giveBy("/no", -1, 2), impl.EcNone, nil},
		{other, giveBy("/in/f", -1, -1), impl.EcMay, nil}, {other, giveBy("/d/open", -1, 5), impl.EcOk, nil},
	})
}

// Every cred gives a node of every owner to every one, all of few ids.
func TestSetOwnerOfEveryKindOfIds(t *testing.T) {
	ids := []int{0, 1, 2, 99}
	given := append([]int{-1}, ids...)
	f := impl.Fs{Nodes: []impl.Node{{Kind: impl.KdDir, Mode: 0o777}}}
	for code := range 4 * 4 * 4 * 4 {
		c, n := impl.Cred{Uid: ids[code%4], Gid: ids[code/4%4]}, &f.Nodes[0]
		n.Uid, n.Gid = ids[code/16%4], ids[code/64]
		for _, uid := range given {
			for _, gid := range given {
				want := impl.EcMay
				if c.Uid == 0 || c.Uid == n.Uid && (uid == -1 || uid == n.Uid) && (gid == -1 || gid == n.Gid || gid == c.Gid) {
					want = impl.EcOk
				}
				g, got, ok := impl.SetOwner(f, c, "/", uid, gid, code%3 == 0)
				if got != want || !ok {
					t.Fatalf("%v, of %d:%d to %d:%d: %d, %t instead of %d", c, n.Uid, n.Gid, uid, gid, got, ok, want)
				}
				toUid, toGid := n.Uid, n.Gid
				if want == impl.EcOk && uid != -1 {
					toUid = uid
				}
				if want == impl.EcOk && gid != -1 {
					toGid = gid
				}
				if g.Nodes[0].Uid != toUid || g.Nodes[0].Gid != toGid {
					t.Fatalf("%v, of %d:%d to %d:%d: %v", c, n.Uid, n.Gid, uid, gid, g)
				}
			}
		}
	}
}

// Numbers beyond their limits count ahead of all codes.
func TestAttrOfEveryNumber(t *testing.T) {
	numbers := append([]int{999999, 1000000, 1000001, math.MinInt32, 1 << 32}, oddNumbers...)
	paths := []string{"/g", "/l", "/d", "/none", "/self", "/g/x", "/in/f", "", "A"}
	for _, n := range numbers {
		for _, path := range paths {
			for _, a := range []act{
				setMode(path, n), setTime(path, n), giveBy(path, n, -1), giveBy(path, -1, n), giveAt(path, n, n), giveAt(path, 5, n), giveBy(path, n, 5),
				{do: doWrite, path: path, time: n}, {do: doWrite, path: path, data: strings.Repeat("x", 61), time: n},
			} {
				for _, c := range []impl.Cred{root, owner, other} {
					g, code, ok := a.on(attrFs(), c)
					if ok != a.takes() || !ok && (code != 0 || g.Nodes != nil || g.Room != 0) {
						t.Fatalf("%v, %+v: %v, %d, %t", c, a, g, code, ok)
					}
				}
			}
		}
	}
	for _, time := range []int{0, 1, 999999, 1000000} {
		g, code, ok := impl.WriteFile(attrFs(), owner, "/l", "x", time)
		if code != impl.EcOk || !ok || g.Nodes[atFile].Time != time || g.Nodes[atToFile].Time != 19 || g.Nodes[atDir].Time != 12 || g.Nodes[atRoot].Time != 10 {
			t.Error(time, g, code, ok)
		}
	}
}

func TestStatText(t *testing.T) {
	for want, s := range map[string]impl.Stat{
		"-rw-r--r-- 2 0 0 5 20":                              {Node: 2, Kind: 1, Mode: 420, Time: 20, Size: 5, Links: 2},
		"drwxr-xr-x 1 3 4 7 20":                              {Node: 2, Kind: 2, Mode: 493, Uid: 3, Gid: 4, Time: 20, Size: 7, Links: 1},
		"lrwxrwxrwx 10 99 98 60 1000000":                     {Kind: 3, Mode: 511, Uid: 99, Gid: 98, Time: 1000000, Size: 60, Links: 10},
		"---------- 0 0 0 0 0":                               {Kind: 1},
		"d--------- 0 0 0 0 0":                               {Kind: 2, Node: 1000000},
		"l--------x 1000000 1000000 1000000 1000000 1000000": {Kind: 3, Mode: 1, Node: 1000000, Uid: 1000000, Gid: 1000000, Time: 1000000, Size: 1000000, Links: 1000000},
		"-r-------- 1 2 3 4 5":                               {Kind: 1, Mode: 256, Node: 9, Links: 1, Uid: 2, Gid: 3, Size: 4, Time: 5},
		"-rwxrwxrwx 100 101 102 103 104":                     {Kind: 1, Mode: 511, Links: 100, Uid: 101, Gid: 102, Size: 103, Time: 104},
		"d-w-r----x 10 200 3000 40000 500000":                {Kind: 2, Mode: 0o241, Links: 10, Uid: 200, Gid: 3000, Size: 40000, Time: 500000},
	} {
		if text, ok := impl.StatText(s); text != want || !ok {
			t.Errorf("%+v: %q, %t instead of %q", s, text, ok, want)
		}
	}
}

// textOfStat is a second reading of StatText.
func textOfStat(s impl.Stat) (string, bool) {
	for _, n := range []int{s.Node, s.Uid, s.Gid, s.Time, s.Size, s.Links} {
		if !within(n, 0, 1000000) {
			return "", false
		}
	}
	if !within(s.Kind, 1, 3) || !within(s.Mode, 0, 511) {
		return "", false
	}
	return fmt.Sprintf("%c%s %d %d %d %d %d", " -dl"[s.Kind], textOfMode(s.Mode), s.Links, s.Uid, s.Gid, s.Size, s.Time), true
}

func TestStatTextOfEveryNumber(t *testing.T) {
	numbers := append([]int{2, 3, 4, 5, 999999, 1000000, 1000001, 1000002, math.MinInt32, 1 << 32}, oddNumbers...)
	fields := []func(s *impl.Stat, n int){
		func(s *impl.Stat, n int) { s.Node = n }, func(s *impl.Stat, n int) { s.Kind = n }, func(s *impl.Stat, n int) { s.Mode = n }, func(s *impl.Stat, n int) { s.Uid = n },
		func(s *impl.Stat, n int) { s.Gid = n }, func(s *impl.Stat, n int) { s.Time = n }, func(s *impl.Stat, n int) { s.Size = n }, func(s *impl.Stat, n int) { s.Links = n },
	}
	check := func(s impl.Stat) {
		t.Helper()
		want, wantOk := textOfStat(s)
		for range 2 {
			if text, ok := impl.StatText(s); text != want || ok != wantOk {
				t.Fatalf("%+v: %q, %t instead of %q, %t", s, text, ok, want, wantOk)
			}
		}
	}
	for kind := range 5 {
		for mode := range 513 {
			check(impl.Stat{Node: 1, Kind: kind, Mode: mode, Uid: 2, Gid: 3, Time: 4, Size: 5, Links: 6})
		}
		for i, field := range fields {
			for _, n := range numbers {
				s := impl.Stat{Node: 1, Kind: kind, Mode: 420, Uid: 2, Gid: 3, Time: 4, Size: 5, Links: 6}
				field(&s, n)
				check(s)
				for _, m := range numbers {
					fields[(i+1)%8](&s, m)
					check(s)
				}
			}
		}
	}
	check(impl.Stat{})
}

// What is made once is there for all who ask at the same time.
func TestStatTextFromManyAtOnce(t *testing.T) {
	var all sync.WaitGroup
	texts := make([]string, 60)
	for i := range texts {
		all.Go(func() { texts[i], _ = impl.StatText(impl.Stat{Kind: 1 + i%3, Mode: i}) })
	}
	all.Wait()
	for i, text := range texts {
		if want, _ := textOfStat(impl.Stat{Kind: 1 + i%3, Mode: i}); text != want {
			t.Errorf("%d: %q instead of %q", i, text, want)
		}
	}
}

// A stat of what is there always has a text, whose parts are those of the stat.
func TestEveryStatOfANodeHasAText(t *testing.T) {
	for seed := range 100 {
		f, _ := tangledFs(seed*127 + 5)
		ways, _, _ := waysToNodes(f)
		for node, all := range ways {
			for _, way := range all {
				if len(way) > 60 {
					continue
				}
				s, code, ok := impl.StatOf(f, root, way, false)
				want := statByHand(f, node)
				if s != want || code != impl.EcOk || !ok {
					t.Fatalf("%q: %+v, %d, %t instead of %+v", way, s, code, ok, want)
				}
				wantText, _ := textOfStat(want)
				if text, ok := impl.StatText(s); text != wantText || !ok {
					t.Fatalf("%q: %q, %t instead of %q", way, text, ok, wantText)
				}
			}
		}
	}
}

// statByHand, readAgain, statAgain and actAgain are a second reading of chapter 6.
func statByHand(f impl.Fs, node int) impl.Stat {
	n := f.Nodes[node]
	size := len(n.Data)
	if n.Kind == 2 {
		size = len(n.List)
	}
	return impl.Stat{Node: node, Kind: n.Kind, Mode: n.Mode, Uid: n.Uid, Gid: n.Gid, Time: n.Time, Size: size, Links: entriesOf(f, node)}
}

func (r *reading) find(path string, follow bool, node *int) question {
	return func() (code int) { *node, code = r.findNode(path, follow); return code }
}

func (r *reading) isDirAt(node *int) question {
	return func() int { return codeIf(r.f.Nodes[*node].Kind == 2, 7) }
}

func (r *reading) mayAt(node *int, want int) question {
	return func() int { return codeIf(!r.may(*node, want), 4) }
}

func (r *reading) readAgain(path string) (string, int) {
	var node int
	if code := firstOf(r.find(path, true, &node), r.isDirAt(&node), r.mayAt(&node, 4)); code != 0 {
		return "", code
	}
	return r.f.Nodes[node].Data, 0
}

func (r *reading) statAgain(path string, follow bool) (impl.Stat, int) {
	node, code := r.findNode(path, follow)
	if code != 0 {
		return impl.Stat{}, code
	}
	return statByHand(r.f, node), 0
}

func (r *reading) writeAgain(a act) int {
	var node int
	code := firstOf(
		func() int { return codeIf(len(a.data) > 60, 1) },
		r.find(a.path, true, &node), r.isDirAt(&node), r.mayAt(&node, 2),
		func() int {
			sum := len(a.data)
			for i, n := range r.f.Nodes {
				if i != node {
					sum += len(n.Data)
				}
			}
			return codeIf(sum > r.f.Room, 8)
		})
	if code == 0 {
		r.f.Nodes[node].Data, r.f.Nodes[node].Time = a.data, a.time
	}
	return code
}

func (r *reading) giveAgain(a act) int {
	var node int
	code := firstOf(r.find(a.path, a.follow, &node), func() int {
		n := r.f.Nodes[node]
		mayGive := r.c.Uid == n.Uid && (a.uid == -1 || a.uid == n.Uid) && (a.gid == -1 || a.gid == n.Gid || a.gid == r.c.Gid)
		return codeIf(r.c.Uid != 0 && !mayGive, 4)
	})
	if code != 0 {
		return code
	}
	if a.uid != -1 {
		r.f.Nodes[node].Uid = a.uid
	}
	if a.gid != -1 {
		r.f.Nodes[node].Gid = a.gid
	}
	return 0
}

func (r *reading) setAgain(a act) int {
	var node int
	code := firstOf(r.find(a.path, true, &node), func() int { return codeIf(r.c.Uid != 0 && r.c.Uid != r.f.Nodes[node].Uid, 4) })
	switch {
	case code != 0:
	case a.do == doMode:
		r.f.Nodes[node].Mode = a.mode
	default:
		r.f.Nodes[node].Time = a.time
	}
	return code
}

func actAgain(f impl.Fs, c impl.Cred, a act) (impl.Fs, int) {
	r := newReading(copyOfFs(f), c)
	code := 0
	switch a.do {
	case doWrite:
		code = r.writeAgain(a)
	case doOwner:
		code = r.giveAgain(a)
	default:
		code = r.setAgain(a)
	}
	return r.f, code
}

// checkAct holds an answer against the second reading, and against promise 6.
func checkAct(t *testing.T, f impl.Fs, c impl.Cred, a act) (impl.Fs, int) {
	t.Helper()
	want, wantCode := actAgain(f, c, a)
	g, code, ok := a.on(f, c)
	if code != wantCode || !ok || !impl.SameFs(g, want) {
		t.Fatalf("%v, %+v: code %d, %t instead of %d in\n%v:\n%v instead of\n%v", c, a, code, ok, wantCode, f, g, want)
	}
	if !isGoodByWays(g) || !impl.GoodFs(g) {
		t.Fatalf("%v, %+v: not good then: %v of %v", c, a, g, f)
	}
	if code != impl.EcOk && !impl.SameFs(f, g) {
		t.Fatalf("%v, %+v: code %d, but a change: %v of %v", c, a, code, g, f)
	}
	if a.do == doWrite && code == impl.EcOk {
		checkWrite(t, f, g, c, a)
	}
	return g, code
}

// checkWrite is promise 6: a write is read back and changes nothing else.
func checkWrite(t *testing.T, f impl.Fs, g impl.Fs, c impl.Cred, a act) {
	t.Helper()
	node, _, _ := impl.FindNode(f, c, a.path, true)
	if data, code, ok := impl.ReadFile(g, root, a.path); data != a.data || code != impl.EcOk || !ok {
		t.Fatalf("%v, %+v: %q, %d, %t is read back in %v", c, a, data, code, ok, g)
	}
	_, before, _ := impl.ReadFile(f, c, a.path)
	if data, code, _ := impl.ReadFile(g, c, a.path); code != before || code == impl.EcOk && data != a.data {
		t.Fatalf("%v, %+v: %q, %d by who wrote it, %d before", c, a, data, code, before)
	}
	ways, _, _ := waysToNodes(f)
	for i, all := range ways {
		for _, way := range all {
			was, wasCode, _ := impl.StatOf(f, c, way, false)
			is, code, _ := impl.StatOf(g, c, way, false)
			if i == node && wasCode == impl.EcOk {
				was.Size, was.Time = len(a.data), a.time
			}
			if is != was || code != wasCode {
				t.Fatalf("%v, %+v: %q is %+v, %d, then %+v, %d", c, a, way, was, wasCode, is, code)
			}
			old, _, _ := impl.ReadFile(f, root, way)
			data, _, _ := impl.ReadFile(g, root, way)
			if at, code, _ := impl.FindNode(f, root, way, true); code == impl.EcOk && at == node {
				old = a.data
			}
			if data != old {
				t.Fatalf("%v, %+v: %q has %q, then %q", c, a, way, old, data)
			}
		}
	}
}

func checkReads(t *testing.T, f impl.Fs, c impl.Cred, path string) int {
	t.Helper()
	r := newReading(f, c)
	want, wantCode := r.readAgain(path)
	if data, code, ok := impl.ReadFile(f, c, path); data != want || code != wantCode || !ok {
		t.Fatalf("%v, %q: %q, %d, %t instead of %q, %d in %v", c, path, data, code, ok, want, wantCode, f)
	}
	for _, follow := range []bool{true, false} {
		stat, code := r.statAgain(path, follow)
		if got, gotCode, ok := impl.StatOf(f, c, path, follow); got != stat || gotCode != code || !ok {
			t.Fatalf("%v, %q, %t: %+v, %d, %t instead of %+v, %d in %v", c, path, follow, got, gotCode, ok, stat, code, f)
		}
	}
	return wantCode
}

func TestEveryActInTheSampleIsAsReadAgain(t *testing.T) {
	creds := append([]impl.Cred{root, owner, mate, other, {Uid: 1, Gid: 77}}, strangers...)
	for _, room := range []int{1000, 30} {
		f := attrFs()
		f.Room = room
		for _, path := range somePaths([]string{"..", "d", "f", "g", "shut", "open", "in", "e", "l", "ld", "ll"}) {
			for i, c := range creds {
				checkReads(t, f, c, path)
				if (len(path)+i)%3 == 0 {
					for _, a := range append(actsAt(path), giveBy(path, -1, 77), giveAt(path, 1, -1), write(path, strings.Repeat("x", 59))) {
						checkAct(t, f, c, a)
					}
				}
			}
		}
	}
}

// someAct is an act that a row of numbers tells, of paths that are likely to be
// there.
func someAct(f impl.Fs, next func(int) int) act {
	ways, _, _ := waysToNodes(f)
	path := tangledPath(ways, next)
	if way := ways[next(len(ways))]; len(way) > 0 && next(4) > 0 {
		path = way[next(len(way))]
	}
	a := act{do: allActs[next(len(allActs))], path: path, mode: []int{0o777, 0o755, 0o644, 0o722, next(512)}[next(5)], time: next(1000001), follow: next(2) == 0}
	a.data = strings.Repeat("x", []int{0, 1, 5, 20, 60, 61}[next(6)])
	a.uid, a.gid = []int{-1, 0, 1, 3, 4}[next(5)], []int{-1, 0, 2, 5, 99}[next(5)]
	return a
}

func TestManyActsAreAsReadAgain(t *testing.T) {
	met := map[string]int{}
	tell := func(do string, code int) {
		text, _ := impl.CodeText(code)
		met[do+" "+text]++
	}
	for seed := range 400 {
		f, next := tangledFs(seed*69621 + 5)
		bytes, _ := impl.BytesIn(f)
		f.Room = min(1000, bytes+[]int{0, 10, 60, 1000}[next(4)])
		for range 40 {
			c := someCreds[next(len(someCreds))]
			if next(3) == 0 {
				c = root
			}
			a := someAct(f, next)
			tell("ReadFile", checkReads(t, f, c, a.path))
			g, code := checkAct(t, f, c, a)
			tell(a.do, code)
			f = g
			// What chapter 5 does goes on between.
			if next(3) == 0 {
				f, _ = checkDeed(t, f, root, someDeed(f, next))
			}
		}
	}
	want := map[string]string{
		"ReadFile": "ok path none nodir may loop isdir", doWrite: "ok path none nodir may isdir full", doMode: "ok path none nodir may loop", doOwner: "ok path none nodir may", doTime: "ok path none nodir may loop",
	}
	for do, codes := range want {
		for _, code := range strings.Fields(codes) {
			if met[do+" "+code] < 10 {
				t.Errorf("%s told %s only %d times", do, code, met[do+" "+code])
			}
		}
	}
}

func TestAttrAnswersAreNewMemory(t *testing.T) {
	for _, path := range []string{"/g", "/l", "/d", "/", "/e", "/d/shut", "/none", "", "/self", "/in/f"} {
		for _, a := range append(actsAt(path), giveBy(path, -1, -1), write(path, ""), write(path, strings.Repeat("x", 60)), write(path, strings.Repeat("x", 61))) {
			for _, c := range []impl.Cred{root, owner, other} {
				f := attrFs()
				checkNewMemory(t, f, c, a)
				f = attrFs()
				f.Room, _ = impl.BytesIn(f)
				checkNewMemory(t, f, c, a)
			}
		}
	}
}

func oddActs() []act {
	var all []act
	for _, path := range lookPaths {
		for _, do := range allActs {
			all = append(all, act{do: do, path: path, data: "x", mode: 5, uid: 1, gid: -1, time: 5}, act{do: do, path: path, data: strings.Repeat("\xff", 60), uid: -1, gid: 2, follow: true})
		}
	}
	for _, do := range allActs {
		for _, n := range []int{math.MinInt, -2, -1, 0, 99, 100, 511, 512, 1000000, 1000001, math.MaxInt} {
			all = append(all, act{do: do, path: "/g", mode: n, uid: n, gid: n, time: n}, act{do: do, path: "/l", uid: n, time: n, mode: n, follow: true}, act{do: do, path: "/none", gid: n, time: n, mode: n})
		}
	}
	return all
}

// checkOddActs asks twice: the answers are those of the second reading where all
// is good, else zero values.
func checkOddActs(t *testing.T, f impl.Fs, creds []impl.Cred, acts []act) {
	t.Helper()
	good := isGoodByWays(f)
	for _, c := range creds {
		goodCred := within(c.Uid, 0, 99) && within(c.Gid, 0, 99)
		for _, a := range acts {
			takes := good && goodCred && a.takes()
			var want impl.Fs
			code := 0
			if takes {
				want, code = actAgain(f, c, a)
			}
			for range 2 {
				if g, gotCode, ok := a.on(f, c); gotCode != code || ok != takes || !impl.SameFs(g, want) {
					t.Fatalf("%v, %.200v: %.500v, %d, %t instead of %.500v, %d, %t", c, a, g, gotCode, ok, want, code, takes)
				}
			}
			if good && goodCred {
				checkReads(t, f, c, a.path)
				continue
			}
			if data, code, ok := impl.ReadFile(f, c, a.path); data != "" || code != 0 || ok {
				t.Fatalf("%v, %.70q: %q, %d, %t of what is not good", c, a.path, data, code, ok)
			}
			if s, code, ok := impl.StatOf(f, c, a.path, a.follow); s != (impl.Stat{}) || code != 0 || ok {
				t.Fatalf("%v, %.70q: %+v, %d, %t of what is not good", c, a.path, s, code, ok)
			}
		}
	}
}

// Promise 19: every function answers at all arguments.
func TestAttrFunctionsAnswerAtAllArguments(t *testing.T) {
	acts := oddActs()
	for _, f := range oddFs() {
		checkOddActs(t, f, []impl.Cred{root, other, {Uid: 100}, {Gid: -1}}, acts)
	}
	for _, f := range []impl.Fs{sampleFs(), attrFs(), {}} {
		checkOddActs(t, f, oddCreds, acts)
	}
	var odd []act
	for i, text := range append(longPaths()[:1500], oddTexts...) {
		odd = append(odd, act{do: allActs[i%4], path: text, follow: i%3 == 0}, act{do: doWrite, path: "/g", data: text})
	}
	checkOddActs(t, sampleFs(), []impl.Cred{root, owner}, odd)
}

// Promise 19: no function changes an argument.
func TestAttrFunctionsLeaveTheirArguments(t *testing.T) {
	acts := oddActs()
	for i, f := range append(oddFs(), attrFs(), lookFs(), hopsFs()) {
		plain := copyOfFs(f)
		isAsItWas := markBehind(&f)
		for _, a := range acts {
			kept := [2]string{strings.Clone(a.path), strings.Clone(a.data)}
			for _, c := range []impl.Cred{root, owner} {
				a.on(f, c)
				data, code, _ := impl.ReadFile(f, c, a.path)
				stat, statCode, _ := impl.StatOf(f, c, a.path, a.follow)
				wantData, wantCode, _ := impl.ReadFile(plain, c, a.path)
				wantStat, wantStatCode, _ := impl.StatOf(plain, c, a.path, a.follow)
				if data != wantData || code != wantCode || stat != wantStat || statCode != wantStatCode {
					t.Fatalf("file system %d, %.200v: what is behind a list counts", i, a)
				}
			}
			if kept != [2]string{a.path, a.data} {
				t.Errorf("a text was changed: %.70q", kept)
			}
		}
		if !isAsItWas() {
			t.Fatalf("file system %d was written to", i)
		}
	}
	// Nor does an answer keep to what was asked before it.
	f := attrFs()
	before, _, _ := impl.StatOf(f, owner, "/l", true)
	if g, code, _ := impl.WriteFile(f, owner, "/l", "other", 99); code != impl.EcOk || impl.SameFs(f, g) || !impl.SameFs(f, attrFs()) {
		t.Error(code, f, g)
	}
	if after, _, _ := impl.StatOf(f, owner, "/l", true); after != before || !slices.Equal(f.Nodes[atDir].List, attrFs().Nodes[atDir].List) {
		t.Error(before, after)
	}
}
