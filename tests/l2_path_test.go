package tests

import (
	"path"
	"regexp"
	"slices"
	"strings"
	"testing"

	"loop.example/g00756/impl"
)

var (
	nameForm = regexp.MustCompile(`\A[a-z0-9._-]{1,8}\z`)
	pathForm = regexp.MustCompile(`\A(/+|/*[a-z0-9._-]{1,8}(/+[a-z0-9._-]{1,8})*/*)\z`)
	partForm = regexp.MustCompile(`[^/]+`)
)

func isNameByForm(s string) bool { return nameForm.MatchString(s) && s != "." && s != ".." }

func isPathByForm(s string) bool { return len(s) <= 60 && pathForm.MatchString(s) }

// partsByForm does not go from slash to slash: it looks for what is between.
func partsByForm(s string) []string { return partForm.FindAllString(s, -1) }

// longPath is a whole path of n bytes, 2 at least, of one-letter names.
func longPath(n int) string { return strings.Repeat("/", n%2) + strings.Repeat("/a", n/2) }

// manyPaths has all texts of up to six of a few signs, and longer ones.
func manyPaths() []string {
	var all []string
	var add func(s string, more int)
	add = func(s string, more int) {
		all = append(all, s)
		if more > 0 {
			for _, sign := range []string{"a", "b", ".", "/", "é"} {
				add(s+sign, more-1)
			}
		}
	}
	add("", 6)
	return append(all, longPaths()...)
}

func longPaths() []string {
	var all []string
	pieces := []string{"/", "//", "/./", "/../", "a/", "/b", "/..", "../", "ab.c", "/12345678", "123456789", "/a_-.9/", "...", "A", "\xff", "a b"}
	for i, p := range pieces {
		for j, q := range pieces {
			for k, r := range pieces {
				all = append(all, p+q+r, strings.Repeat(p+q, 1+k)+r, strings.Repeat(p, 1+i)+strings.Repeat(q+r, 1+j))
			}
		}
	}
	for n := 2; n <= 70; n++ {
		all = append(all, longPath(n), longPath(n)[1:], strings.Repeat("/", n), strings.Repeat("a/../", n/5)+"b", strings.Repeat("../", n/3))
	}
	return append(all, oddTexts...)
}

func TestPathConstants(t *testing.T) {
	if impl.MaxName != 8 || impl.MaxPath != 60 {
		t.Error(impl.MaxName, impl.MaxPath)
	}
}

func TestGoodName(t *testing.T) {
	good := []string{"a", "z", "0", "9", "_", "-", "...", "....", ".a", "a.", "..a", "a..", ".-", "x.y", "12345678", "a.tar_gz", "........", "-rf"}
	bad := []string{
		"", ".", "..", "123456789", ".........", "A", "aB", "a/b", "/", "/a", "a/", "a b", " a", "a ", "a\n", "\x00", "a\x00",
		"~", "a*", "é", "aé", "š", "１", "\xff", "a\xff", "\xc3", "abcdefg\xc3", "abcdefgé", "世界", "\ufffd", strings.Repeat("a", 100000),
	}
	for _, s := range good {
		if !impl.GoodName(s) {
			t.Errorf("%q is a name", s)
		}
	}
	for _, s := range bad {
		if impl.GoodName(s) {
			t.Errorf("%q is no name", s)
		}
	}
}

func TestSignsOfNames(t *testing.T) {
	for sign := rune(0); sign <= 0x10ffff; sign++ {
		s := "a" + string(sign)
		if want := strings.ContainsRune("abcdefghijklmnopqrstuvwxyz0123456789._-", sign); impl.GoodName(s) != want {
			t.Fatalf("%q: want %v", s, want)
		}
	}
	for b := 0; b < 256; b++ {
		for _, s := range []string{string([]byte{byte(b)}), string([]byte{'a', byte(b)}), string([]byte{byte(b), 'a'}), string([]byte{'a', byte(b), 'a'})} {
			if impl.GoodName(s) != isNameByForm(s) {
				t.Errorf("GoodName %q", s)
			}
			for _, p := range []string{s, "/" + s, s + "/b", "/b/" + s} {
				if impl.GoodPath(p) != isPathByForm(p) {
					t.Errorf("GoodPath %q", p)
				}
			}
		}
	}
}

func TestGoodPath(t *testing.T) {
	good := []string{
		"/", "//", "///", ".", "..", "./", "../", "/.", "/..", "a", "/a", "a/", "//a//", "a/b", "a//b", "a/./b/../c", "...", "/.../..a",
		"12345678/12345678", strings.Repeat("/", 60), longPath(59), longPath(60), strings.Repeat("a/", 29) + "ab", strings.Repeat("../", 20),
	}
	bad := []string{
		"", "123456789", "/a/123456789", "a/123456789/b", "A", "/a/B", "a b", "/a /b", "/\x00", "a/\xff", "é/a", "a\\b", "/a\n", "/*", "\xff/",
		strings.Repeat("/", 61), longPath(61), strings.Repeat("a/", 30) + "a", strings.Repeat("../", 20) + ".", strings.Repeat("/a", 100000),
	}
	for _, s := range good {
		if !impl.GoodPath(s) {
			t.Errorf("%q is a path", s)
		}
	}
	for _, s := range bad {
		if impl.GoodPath(s) {
			t.Errorf("%q is no path", s)
		}
	}
}

func TestNamesAndPathsAreTakenByTheirForm(t *testing.T) {
	for _, s := range manyPaths() {
		if impl.GoodName(s) != isNameByForm(s) {
			t.Fatalf("GoodName %q", s)
		}
		if impl.GoodPath(s) != isPathByForm(s) {
			t.Fatalf("GoodPath %q", s)
		}
	}
}

func TestPartsOf(t *testing.T) {
	cases := map[string][]string{
		"/":             nil,
		"////":          nil,
		".":             {"."},
		"..":            {".."},
		"/..":           {".."},
		"a":             {"a"},
		"//a///b//":     {"a", "b"},
		"./a/../b/.":    {".", "a", "..", "b", "."},
		"/12345678/...": {"12345678", "..."},
	}
	for s, want := range cases {
		if got, ok := impl.PartsOf(s); !ok || !slices.Equal(got, want) {
			t.Errorf("%q: %q %v, want %q", s, got, ok, want)
		}
	}
	for _, s := range manyPaths() {
		got, ok := impl.PartsOf(s)
		if ok != isPathByForm(s) || !ok && got != nil || ok && !slices.Equal(got, partsByForm(s)) {
			t.Fatalf("%q: %q %v", s, got, ok)
		}
	}
}

func TestPartsAreNewMemory(t *testing.T) {
	first, _ := impl.PartsOf("/a/b/c")
	first[0], first[2] = "x", "y"
	if again, ok := impl.PartsOf("/a/b/c"); !ok || !slices.Equal(again, []string{"a", "b", "c"}) {
		t.Error(again, ok)
	}
}

func TestPathOf(t *testing.T) {
	two, three := slices.Repeat([]string{"ab"}, 20), slices.Repeat([]string{"abcde"}, 10)
	cases := []struct {
		names []string
		want  string
		ok    bool
	}{
		{nil, "/", true},
		{[]string{}, "/", true},
		{[]string{"a"}, "/a", true},
		{[]string{"a", "b"}, "/a/b", true},
		{[]string{"..."}, "/...", true},
		{[]string{"12345678"}, "/12345678", true},
		{slices.Repeat([]string{"a"}, 20), strings.Repeat("/a", 20), true},
		{slices.Repeat([]string{"a"}, 21), "", false},
		{two, strings.Repeat("/ab", 20), true},
		{append(slices.Clone(two[:19]), "abc"), "", false},
		{three, strings.Repeat("/abcde", 10), true},
		{append(slices.Clone(three), "a"), "", false},
		{[]string{""}, "", false},
		{[]string{"a", ""}, "", false},
		{[]string{"."}, "", false},
		{[]string{"a", ".."}, "", false},
		{[]string{"/"}, "", false},
		{[]string{"/a"}, "", false},
		{[]string{"a/b"}, "", false},
		{[]string{"123456789"}, "", false},
		{[]string{"a", "B", "c"}, "", false},
		{[]string{"a\xff"}, "", false},
		{[]string{"é", "a"}, "", false},
		{slices.Repeat([]string{"a"}, 100000), "", false},
	}
	for _, c := range cases {
		kept := slices.Clone(c.names)
		if got, ok := impl.PathOf(c.names); got != c.want || ok != c.ok {
			t.Errorf("%.30q: %q %v, want %q %v", c.names, got, ok, c.want, c.ok)
		}
		if !slices.Equal(kept, c.names) {
			t.Error("the names were changed", c.names)
		}
	}
}

func TestPathOfLeavesWhatIsBehindTheList(t *testing.T) {
	all := []string{"a", "b", "c", "!"}
	if s, ok := impl.PathOf(all[:2]); s != "/a/b" || !ok || all[2] != "c" || all[3] != "!" {
		t.Error(s, ok, all)
	}
}

func TestPathOfPutsPartsOfTogether(t *testing.T) {
	for _, s := range manyPaths() {
		parts, _ := impl.PartsOf(s)
		want := "/" + strings.Join(parts, "/")
		if len(parts) > 20 || len(want) > 60 || slices.Contains(parts, ".") || slices.Contains(parts, "..") {
			want = ""
		}
		if got, ok := impl.PathOf(parts); got != want || ok != (want != "") {
			t.Fatalf("%q: %q %v, want %q", parts, got, ok, want)
		}
	}
}

func TestCleanPath(t *testing.T) {
	cases := map[string]string{
		"/":                      "/",
		"////":                   "/",
		".":                      ".",
		"./":                     ".",
		"./././":                 ".",
		"/.":                     "/",
		"..":                     "..",
		"../":                    "..",
		"../..":                  "../..",
		"../../a":                "../../a",
		"../a/..":                "..",
		"/..":                    "/",
		"/../../..":              "/",
		"/../a":                  "/a",
		"/a/../../b":             "/b",
		"a":                      "a",
		"a/":                     "a",
		"./a":                    "a",
		"a/..":                   ".",
		"a/../..":                "..",
		"a/../../..":             "../..",
		"a/../../b/../c":         "../c",
		"a/b/../..":              ".",
		"/a/b/../..":             "/",
		"a//b///c":               "a/b/c",
		"//a//":                  "/a",
		"/a/./b/.":               "/a/b",
		".../a/..":               "...",
		"/..a/../.b":             "/.b",
		strings.Repeat("/", 60):  "/",
		longPath(60):             longPath(60),
		strings.Repeat("a/", 30): strings.Repeat("a/", 29) + "a",
	}
	for s, want := range cases {
		if got, ok := impl.CleanPath(s); got != want || !ok {
			t.Errorf("%q: %q %v, want %q", s, got, ok, want)
		}
	}
}

func TestCleanPathOfEveryShortText(t *testing.T) {
	for _, s := range manyPaths() {
		want := ""
		if isPathByForm(s) {
			want = path.Clean(s)
		}
		if got, ok := impl.CleanPath(s); got != want || ok != (want != "") {
			t.Fatalf("%q: %q %v, want %q", s, got, ok, want)
		}
	}
}

// Promise 2: cleaning is idempotent.
func TestCleaningAgainChangesNothing(t *testing.T) {
	for _, s := range manyPaths() {
		clean, ok := impl.CleanPath(s)
		if !ok {
			continue
		}
		if again, ok := impl.CleanPath(clean); again != clean || !ok {
			t.Fatalf("%q: %q, then %q %v", s, clean, again, ok)
		}
		if strings.HasPrefix(s, "/") != strings.HasPrefix(clean, "/") || len(clean) > len(s) {
			t.Fatalf("%q: %q", s, clean)
		}
	}
}

func TestJoinPath(t *testing.T) {
	cases := []struct{ dir, s, want string }{
		{"/a/b", "c", "/a/b/c"},
		{"/a/b", "../c", "/a/c"},
		{"/a/b", "/c/../d", "/d"},
		{"a", "//", "/"},
		{"/", "a", "/a"},
		{"/", "..", "/"},
		{"//", ".", "/"},
		{".", "..", ".."},
		{"..", "a", "../a"},
		{"a", "..", "."},
		{"a", "../..", ".."},
		{"a/", "b/", "a/b"},
		{".", ".", "."},
		{longPath(60), "/a", "/a"},
		{longPath(60), longPath(60), longPath(60)},
		{longPath(58), "a", longPath(60)},
		{longPath(58), "aa", ""},
		{longPath(58), "..", ""},
		{longPath(59), "a", ""},
		{longPath(60), ".", ""},
		{strings.Repeat("/", 58), "a", "/a"},
		{strings.Repeat("/", 59), "a", ""},
		{strings.Repeat("../", 19), "a", strings.Repeat("../", 19) + "a"},
		{strings.Repeat("../", 19), "a/", strings.Repeat("../", 19) + "a"},
		{strings.Repeat("../", 19), "a/.", ""},
		{"", "a", ""},
		{"a", "", ""},
		{"", "/a", ""},
		{"A", "/a", ""},
		{longPath(61), "/a", ""},
		{"/a", longPath(61), ""},
		{"/a", "b\xff", ""},
		{"12345678", "12345678", "12345678/12345678"},
		{"/a", "123456789", ""},
	}
	for _, c := range cases {
		if got, ok := impl.JoinPath(c.dir, c.s); got != c.want || ok != (c.want != "") {
			t.Errorf("%q %q: %q %v, want %q", c.dir, c.s, got, ok, c.want)
		}
	}
}

func TestBaseAndDir(t *testing.T) {
	cases := []struct{ s, base, dir string }{
		{"a", "a", "."},
		{"/a", "a", "/"},
		{"/a/", "a", "/"},
		{"a/b", "b", "a"},
		{"/a/b//", "b", "/a"},
		{"/a/b/..", "a", "/"},
		{"/a/../b/.", "b", "/"},
		{"../a", "a", ".."},
		{"../../a/b", "b", "../../a"},
		{"...", "...", "."},
		{"./a", "a", "."},
		{"/..a", "..a", "/"},
		{"/x/.../b.", "b.", "/x/..."},
		{longPath(60), "a", longPath(58)},
		{"/", "", ""},
		{"///", "", ""},
		{".", "", ""},
		{"..", "", ""},
		{"/..", "", ""},
		{"../..", "", ""},
		{"a/..", "", ""},
		{"/a/..", "", ""},
		{"a/../..", "", ""},
		{"", "", ""},
		{"A", "", ""},
		{"/a/123456789", "", ""},
		{longPath(61), "", ""},
		{"/a/\xff", "", ""},
	}
	for _, c := range cases {
		if got, ok := impl.BaseOf(c.s); got != c.base || ok != (c.base != "") {
			t.Errorf("BaseOf %q: %q %v", c.s, got, ok)
		}
		if got, ok := impl.DirOf(c.s); got != c.dir || ok != (c.dir != "") {
			t.Errorf("DirOf %q: %q %v", c.s, got, ok)
		}
	}
}

func TestBaseAndDirOfEveryShortText(t *testing.T) {
	for _, s := range manyPaths() {
		base, dir := "", ""
		if isPathByForm(s) && isNameByForm(path.Base(path.Clean(s))) {
			base, dir = path.Base(path.Clean(s)), path.Dir(path.Clean(s))
		}
		if got, ok := impl.BaseOf(s); got != base || ok != (base != "") {
			t.Fatalf("BaseOf %q: %q %v, want %q", s, got, ok, base)
		}
		if got, ok := impl.DirOf(s); got != dir || ok != (dir != "") {
			t.Fatalf("DirOf %q: %q %v, want %q", s, got, ok, dir)
		}
	}
}

func TestWithinAndFromTo(t *testing.T) {
	cases := []struct {
		dir, s string
		rest   string
	}{
		{"/", "/", "."},
		{"///", "/..", "."},
		{"/", "/a", "a"},
		{"/", "/a/b", "a/b"},
		{"/a", "/a", "."},
		{"/a/", "//a/.", "."},
		{"/a", "/a/b", "b"},
		{"/a", "/a/b/c", "b/c"},
		{"/a/b", "/a/b/c/", "c"},
		{"/a/../b", "/b//c/./d", "c/d"},
		{"/a/..", "/b", "b"},
		{"/a", "/a/a", "a"},
		{"/a", "/a/...", "..."},
		{"/a", "/", ""},
		{"/a", "/ab", ""},
		{"/ab", "/a", ""},
		{"/a", "/ab/c", ""},
		{"/a", "/a.b", ""},
		{"/a", "/b/a", ""},
		{"/a/b", "/a", ""},
		{"/a/b", "/a/c", ""},
		{"/a", "/a/..", ""},
		{"/a", "/a/../b", ""},
		{"/", longPath(60), longPath(60)[1:]},
		{longPath(60), longPath(60), "."},
	}
	for _, c := range cases {
		if is, ok := impl.IsWithin(c.dir, c.s); is != (c.rest != "") || !ok {
			t.Errorf("IsWithin %q %q: %v %v", c.dir, c.s, is, ok)
		}
		if got, ok := impl.FromTo(c.dir, c.s); got != c.rest || ok != (c.rest != "") {
			t.Errorf("FromTo %q %q: %q %v", c.dir, c.s, got, ok)
		}
	}
}

func TestWithinAndFromToAskForWholePaths(t *testing.T) {
	for _, s := range []string{"", "a", ".", "..", "a/b", "./a", "/A", "/123456789", "/a\xff", "/é", "/a b", longPath(61), longPath(59)[1:] + "/../"} {
		for _, other := range []string{"/", "/a", "a", s} {
			for _, pair := range [][2]string{{s, other}, {other, s}} {
				if is, ok := impl.IsWithin(pair[0], pair[1]); is || ok {
					t.Errorf("IsWithin %q: %v %v", pair, is, ok)
				}
				if got, ok := impl.FromTo(pair[0], pair[1]); got != "" || ok {
					t.Errorf("FromTo %q: %q %v", pair, got, ok)
				}
			}
		}
	}
}

// wholePaths has short whole paths, clean ones and others.
func wholePaths() []string {
	all := []string{"/", "//", "/.", "/..", "/a/..", longPath(60), longPath(58)}
	for _, p := range []string{"/a", "/b", "/ab", "/a.", "/..."} {
		all = append(all, p, p+"/")
		for _, q := range []string{"/a", "/ab", "//b/.", "/..", "/../a", "/a/a", "/a/b", "/ab/c", "/a/../b"} {
			all = append(all, p+q)
		}
	}
	return all
}

// withinByParts compares name by name, not text by text.
func withinByParts(dir, s string) ([]string, bool) {
	from, to := partsByForm(path.Clean(dir)), partsByForm(path.Clean(s))
	if len(from) > len(to) || !slices.Equal(from, to[:len(from)]) {
		return nil, false
	}
	return to[len(from):], true
}

// Promise 2: containment is transitive.
func TestContainmentIsTransitive(t *testing.T) {
	all := wholePaths()
	contains := map[[2]string]bool{}
	for _, a := range all {
		for _, b := range all {
			is, ok := impl.IsWithin(a, b)
			if _, want := withinByParts(a, b); is != want || !ok {
				t.Fatalf("IsWithin %q %q: %v %v", a, b, is, ok)
			}
			contains[[2]string{a, b}] = is
		}
	}
	for _, a := range all {
		for _, b := range all {
			for _, c := range all {
				if contains[[2]string{a, b}] && contains[[2]string{b, c}] && !contains[[2]string{a, c}] {
					t.Fatalf("%q has %q has %q", a, b, c)
				}
			}
		}
	}
}

func TestWhatIsFromToLeadsThere(t *testing.T) {
	for _, dir := range wholePaths() {
		for _, s := range wholePaths() {
			rest, ok := impl.FromTo(dir, s)
			parts, is := withinByParts(dir, s)
			want := strings.Join(parts, "/")
			if is && want == "" {
				want = "."
			}
			if rest != want || ok != is {
				t.Fatalf("%q %q: %q %v, want %q", dir, s, rest, ok, want)
			}
			if back, fits := impl.JoinPath(dir, rest); is && fits && back != path.Clean(s) {
				t.Fatalf("%q %q: %q leads to %q", dir, s, rest, back)
			}
		}
	}
}

type pathAnswers struct {
	name, path              bool
	parts                   string
	of, clean, joined       string
	base, dir, rest         string
	is                      bool
	partsOk, ofOk, cleanOk  bool
	joinedOk, baseOk, dirOk bool
	isOk, restOk            bool
}

// pathAnswersOf calls every function of chapter 2. A panic fails the test by
// itself.
func pathAnswersOf(a, b string) pathAnswers {
	var r pathAnswers
	names := []string{a, b}
	r.name, r.path = impl.GoodName(a), impl.GoodPath(a)
	parts, partsOk := impl.PartsOf(a)
	r.parts, r.partsOk = strings.Join(parts, "|"), partsOk
	r.of, r.ofOk = impl.PathOf(names)
	if names[0] != a || names[1] != b {
		panic("PathOf changed its argument")
	}
	r.clean, r.cleanOk = impl.CleanPath(a)
	r.joined, r.joinedOk = impl.JoinPath(a, b)
	r.base, r.baseOk = impl.BaseOf(a)
	r.dir, r.dirOk = impl.DirOf(a)
	r.is, r.isOk = impl.IsWithin(a, b)
	r.rest, r.restOk = impl.FromTo(a, b)
	return r
}

func (r pathAnswers) isZeroWhereFalse() bool {
	return (r.partsOk || r.parts == "") && r.ofOk == (r.of != "") && r.cleanOk == (r.clean != "") && r.joinedOk == (r.joined != "") &&
		r.baseOk == (r.base != "") && r.dirOk == (r.dir != "") && (r.isOk || !r.is) && r.restOk == (r.rest != "")
}

// Promise 19: every function answers at all arguments, and the same again; a
// false comes with zero values, and a good path has an answer.
func TestPathFunctionsAnswerAtAllArguments(t *testing.T) {
	texts := append(wholePaths(), oddTexts...)
	texts = append(texts, "", "..", ".", "a/..", "../..", "\xff/\xff", "/\xc3\xa9", "\xc3/\xa9", longPath(61), strings.Repeat("/", 100000), strings.Repeat("../", 100000))
	for _, a := range texts {
		for _, b := range texts {
			kept := [2]string{strings.Clone(a), strings.Clone(b)}
			first := pathAnswersOf(a, b)
			if again := pathAnswersOf(a, b); again != first {
				t.Fatalf("%.70q %.70q: %v, then %v", a, b, first, again)
			}
			if !first.isZeroWhereFalse() || first.path != first.partsOk || first.path != first.cleanOk || first.baseOk != first.dirOk {
				t.Fatalf("%.70q %.70q: %v", a, b, first)
			}
			if kept != [2]string{a, b} {
				t.Fatalf("an argument was changed: %.70q %.70q", a, b)
			}
		}
	}
}
