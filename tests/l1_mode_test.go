package tests

import (
	"math"
	"regexp"
	"strings"
	"testing"

	"loop.example/g00756/impl"
)

var oddNumbers = []int{math.MinInt, -512, -100, -8, -2, -1, 0, 1, 7, 8, 98, 99, 100, 510, 511, 512, 1023, math.MaxInt}

var oddTexts = []string{
	"", " ", "\x00", "\xff\xfe", "é", "世界", "---------", "rwxrwxrwx", "rwxrwxrw", "rwxrwxrwxr", "RWXRWXRWX",
	"wrxrwxrwx", "rrrwwwxxx", "rwxrwxrw\n", "rwx rwx rw", "rwxé-xrwx", "rwsr-xr-t", "0", "00", "000", "0000", "777", "778", "877",
	"+77", "-01", "0o7", " 77", "7 7", "77 ", "7\x007", "7/7", "u", "+", "=", "u+", "+x", "u+x", "ux", "xu", "u+x ", " u+x",
	"uu+x", "u+xx", "u++x", "u+-x", "u+x,g+x", "b+x", "u+s", "U+x", "u+X", "u+755", "é+x", "u+é", "\xffu+x", "u+x\xff",
	strings.Repeat("a", 100000), "a+" + strings.Repeat("r", 100000), strings.Repeat("rwx", 100000),
}

func within(n, low, high int) bool { return low <= n && n <= high }

func TestModeConstants(t *testing.T) {
	got := [4]int{impl.MaxId, impl.MayRead, impl.MayWrite, impl.MayEnter}
	if got != [4]int{99, 4, 2, 1} {
		t.Error(got)
	}
}

func TestGoodCred(t *testing.T) {
	for _, uid := range oddNumbers {
		for _, gid := range oddNumbers {
			want := within(uid, 0, 99) && within(gid, 0, 99)
			if impl.GoodCred(impl.Cred{Uid: uid, Gid: gid}) != want {
				t.Error(uid, gid, "want", want)
			}
		}
	}
}

func TestMayByClass(t *testing.T) {
	user := impl.Cred{Uid: 1, Gid: 2}
	cases := []struct {
		name string
		cred impl.Cred
		mode int
		uid  int
		gid  int
		want int
		is   bool
	}{
		{"owner has it", user, 0o700, 1, 2, 7, true},
		{"owner lacks one of two", user, 0o500, 1, 2, impl.MayRead | impl.MayWrite, false},
		{"owner with fewer bits than the group", user, 0o077, 1, 2, impl.MayRead, false},
		{"owner with fewer bits than the others", user, 0o007, 1, 3, impl.MayEnter, false},
		{"group has it", user, 0o070, 3, 2, 7, true},
		{"group with fewer bits than the owner", user, 0o700, 3, 2, impl.MayEnter, false},
		{"group with fewer bits than the others", user, 0o707, 3, 2, impl.MayRead, false},
		{"others have it", user, 0o007, 3, 3, 7, true},
		{"others with fewer bits", user, 0o770, 3, 3, impl.MayWrite, false},
		{"a group is no owner", user, 0o700, 2, 1, impl.MayRead, false},
		{"nothing is always allowed", user, 0, 1, 2, 0, true},
		{"uid 0 may all", impl.Cred{Uid: 0, Gid: 5}, 0, 1, 2, 7, true},
		{"uid 0 may all of its own", impl.Cred{}, 0, 0, 0, 7, true},
		{"gid 0 is nothing special", impl.Cred{Uid: 1, Gid: 0}, 0, 2, 2, impl.MayRead, false},
		{"greatest ids", impl.Cred{Uid: 99, Gid: 99}, 0o400, 99, 99, impl.MayRead, true},
	}
	for _, c := range cases {
		if is, ok := impl.May(c.cred, c.mode, c.uid, c.gid, c.want); is != c.is || !ok {
			t.Error(c.name, is, ok)
		}
	}
}

// mayByText decides over the nine signs of a mode, not over its bits.
func mayByText(c impl.Cred, text string, uid, gid, want int) bool {
	if c.Uid == 0 {
		return true
	}
	from := 6
	if c.Uid == uid {
		from = 0
	} else if c.Gid == gid {
		from = 3
	}
	for i, bit := range []int{impl.MayRead, impl.MayWrite, impl.MayEnter} {
		if want&bit != 0 && text[from+i] == '-' {
			return false
		}
	}
	return true
}

func TestMayOfEveryModeAndWant(t *testing.T) {
	creds := []impl.Cred{{Uid: 0, Gid: 0}, {Uid: 0, Gid: 7}, {Uid: 1, Gid: 0}, {Uid: 1, Gid: 2}, {Uid: 99, Gid: 99}}
	ids := []int{0, 1, 2, 99}
	for mode := 0; mode <= 511; mode++ {
		text := textOfMode(mode)
		for _, c := range creds {
			for _, uid := range ids {
				for _, gid := range ids {
					for want := 0; want <= 7; want++ {
						is, ok := impl.May(c, mode, uid, gid, want)
						if is != mayByText(c, text, uid, gid, want) || !ok {
							t.Fatal(c, mode, uid, gid, want, is, ok)
						}
					}
				}
			}
		}
	}
}

// Promise 1: more permissions allow at least as much.
func TestMayGrowsWithTheModeAndShrinksWithTheWant(t *testing.T) {
	owners := [][2]int{{1, 2}, {1, 3}, {3, 2}, {3, 3}, {0, 0}}
	for _, c := range []impl.Cred{{Uid: 1, Gid: 2}, {Uid: 0, Gid: 2}, {Uid: 99, Gid: 99}} {
		for _, o := range owners {
			for mode := 0; mode <= 511; mode++ {
				for want := 0; want <= 7; want++ {
					if is, _ := impl.May(c, mode, o[0], o[1], want); is {
						checkMayAtLeast(t, c, mode, o, want)
					}
				}
			}
		}
	}
}

func checkMayAtLeast(t *testing.T, c impl.Cred, mode int, o [2]int, want int) {
	t.Helper()
	for bit := 1; bit <= 256; bit *= 2 {
		if is, ok := impl.May(c, mode|bit, o[0], o[1], want); !is || !ok {
			t.Fatal("more bits allow less", c, mode, bit, o, want)
		}
	}
	for bit := 1; bit <= 4; bit *= 2 {
		if is, ok := impl.May(c, mode, o[0], o[1], want&^bit); !is || !ok {
			t.Fatal("a lesser want is refused", c, mode, o, want, bit)
		}
	}
}

func TestMayRefusesWhatIsOutOfRange(t *testing.T) {
	good := impl.Cred{Uid: 0, Gid: 0}
	for _, n := range oddNumbers {
		id := within(n, 0, 99)
		calls := []struct {
			name string
			cred impl.Cred
			mode int
			uid  int
			gid  int
			want int
			ok   bool
		}{
			{"cred's uid", impl.Cred{Uid: n, Gid: 0}, 511, 0, 0, 7, id},
			{"cred's gid", impl.Cred{Uid: 0, Gid: n}, 511, 0, 0, 7, id},
			{"mode", good, n, 0, 0, 7, within(n, 0, 511)},
			{"uid", good, 511, n, 0, 7, id},
			{"gid", good, 511, 0, n, 7, id},
			{"want", good, 511, 0, 0, n, within(n, 0, 7)},
		}
		for _, c := range calls {
			is, ok := impl.May(c.cred, c.mode, c.uid, c.gid, c.want)
			if ok != c.ok || !ok && is || ok && c.name != "cred's uid" && !is {
				t.Error(c.name, n, is, ok)
			}
		}
	}
}

func textOfMode(mode int) string {
	text := ""
	for i := 0; i < 9; i++ {
		if mode>>(8-i)%2 == 1 {
			text += "rwxrwxrwx"[i : i+1]
		} else {
			text += "-"
		}
	}
	return text
}

func octalOfMode(mode int) string {
	digits := "01234567"
	return string([]byte{digits[mode/64], digits[mode/8%8], digits[mode%8]})
}

// Promise 1: parsing inverts formatting of modes.
func TestEveryModeIsWrittenAndReadBack(t *testing.T) {
	for mode := 0; mode <= 511; mode++ {
		text, ok := impl.ModeText(mode)
		if text != textOfMode(mode) || !ok {
			t.Error("ModeText", mode, text, ok)
		}
		if back, ok := impl.ReadMode(text); back != mode || !ok {
			t.Error("ReadMode", text, back, ok)
		}
		octal, ok := impl.OctalText(mode)
		if octal != octalOfMode(mode) || !ok {
			t.Error("OctalText", mode, octal, ok)
		}
		if back, ok := impl.ReadOctal(octal); back != mode || !ok {
			t.Error("ReadOctal", octal, back, ok)
		}
	}
}

// checkReader changes one byte of each good text to every other byte, cuts it
// short and makes it longer: only what is the text of a mode may be read.
func checkReader(t *testing.T, read func(string) (int, bool), textOf func(int) string) {
	t.Helper()
	modes := map[string]int{}
	for mode := 0; mode <= 511; mode++ {
		modes[textOf(mode)] = mode
	}
	check := func(s string) {
		want, there := modes[s]
		if got, ok := read(s); got != want || ok != there {
			t.Fatalf("%q: %d %v, want %d %v", s, got, ok, want, there)
		}
	}
	for text := range modes {
		for i := range text {
			for b := 0; b < 256; b++ {
				check(text[:i] + string([]byte{byte(b)}) + text[i+1:])
			}
			check(text[:i])
			check(text[i+1:])
		}
		for _, more := range []string{"-", "r", "0", "7", "\n", " ", text} {
			check(text + more)
			check(more + text)
		}
	}
	for _, s := range oddTexts {
		check(s)
	}
}

func TestReadModeTakesTextsOfModesAlone(t *testing.T) {
	checkReader(t, impl.ReadMode, textOfMode)
}

func TestReadOctalTakesTextsOfModesAlone(t *testing.T) {
	checkReader(t, impl.ReadOctal, octalOfMode)
}

func TestModesOutOfRangeHaveNoText(t *testing.T) {
	for _, mode := range oddNumbers {
		good := within(mode, 0, 511)
		if text, ok := impl.ModeText(mode); ok != good || !ok && text != "" {
			t.Error("ModeText", mode, text, ok)
		}
		if text, ok := impl.OctalText(mode); ok != good || !ok && text != "" {
			t.Error("OctalText", mode, text, ok)
		}
	}
}

func TestWithMask(t *testing.T) {
	for mode := 0; mode <= 511; mode++ {
		for mask := 0; mask <= 511; mask++ {
			want := 0
			for bit := 1; bit <= 256; bit *= 2 {
				if mode&bit != 0 && mask&bit == 0 {
					want += bit
				}
			}
			if got, ok := impl.WithMask(mode, mask); got != want || !ok {
				t.Fatal(mode, mask, got, ok)
			}
		}
	}
	for _, mode := range oddNumbers {
		for _, mask := range oddNumbers {
			good := within(mode, 0, 511) && within(mask, 0, 511)
			if got, ok := impl.WithMask(mode, mask); ok != good || !ok && got != 0 {
				t.Error(mode, mask, got, ok)
			}
		}
	}
}

func TestChangeMode(t *testing.T) {
	cases := []struct {
		mode int
		how  string
		want int
	}{
		{0o644, "u+x", 0o744},
		{0o644, "g+w", 0o664},
		{0o644, "o-r", 0o640},
		{0o000, "a+r", 0o444},
		{0o777, "a-wx", 0o444},
		{0o777, "go=r", 0o744},
		{0o640, "u=x", 0o140},
		{0o123, "ugoa=rwx", 0o777},
		{0o777, "ugoa-rwx", 0o000},
		{0o421, "oagu+w", 0o623},
		{0o000, "ua+x", 0o111},
		{0o777, "u=", 0o077},
		{0o777, "go=", 0o700},
		{0o777, "a=", 0o000},
		{0o531, "a+", 0o531},
		{0o531, "ugo-", 0o531},
		{0o000, "u=xwr", 0o700},
		{0o444, "a+r", 0o444},
		{0o444, "a-w", 0o444},
	}
	for _, c := range cases {
		if got, ok := impl.ChangeMode(c.mode, c.how); got != c.want || !ok {
			t.Errorf("%o %s: %o %v, want %o", c.mode, c.how, got, ok, c.want)
		}
	}
}

func TestChangeModeRefusesOtherTexts(t *testing.T) {
	bad := []string{
		"", "u", "ux", "+", "=", "+x", "=rwx", "u+x ", " u+x", "u +x", "u+ x", "uu+x", "aa=", "gug+r", "u+xx", "g-rwr",
		"u++x", "u+-x", "u=+", "u+x=r", "u+x,g+x", "b+x", "u+s", "u+X", "U+x", "u+755", "x+u", "r+u", "u+u", "ur+x",
		"u+x\n", "u\x00+x", "é+x", "u+é", "u+x\xff", "\xffu+x", "ugoaugoa+rwx", "ugoa+rwxrwx",
	}
	for _, how := range bad {
		if got, ok := impl.ChangeMode(0o755, how); got != 0 || ok {
			t.Errorf("%q: %o %v", how, got, ok)
		}
	}
	for _, mode := range oddNumbers {
		good := within(mode, 0, 511)
		if got, ok := impl.ChangeMode(mode, "a+"); ok != good || !ok && got != 0 || ok && got != mode {
			t.Error(mode, got, ok)
		}
	}
}

var changeForm = regexp.MustCompile(`\A([ugoa]+)([-+=])([rwx]*)\z`)

// changeByText does what a change says to the nine signs of a mode, one sign
// at a time.
func changeByText(text string, how string) (string, bool) {
	part := changeForm.FindStringSubmatch(how)
	if part == nil {
		return "", false
	}
	for _, letter := range "ugoarwx" {
		if strings.Count(how, string(letter)) > 1 {
			return "", false
		}
	}
	signs := []byte(text)
	for i := range signs {
		meant := strings.ContainsAny(part[1], "ugo"[i/3:i/3+1]+"a")
		letter := "rwx"[i%3]
		named := strings.IndexByte(part[3], letter) >= 0
		switch {
		case !meant:
		case part[2] == "-" && named, part[2] == "=" && !named:
			signs[i] = '-'
		case named:
			signs[i] = letter
		}
	}
	return string(signs), true
}

func TestChangeModeOfEveryShortText(t *testing.T) {
	modes := []int{0, 511, 0o644, 0o153}
	var check func(how string, more int)
	check = func(how string, more int) {
		for _, mode := range modes {
			text, good := changeByText(textOfMode(mode), how)
			got, ok := impl.ChangeMode(mode, how)
			if ok != good || ok && textOfMode(got) != text || !ok && got != 0 {
				t.Fatalf("%o %q: %o %v, want %q %v", mode, how, got, ok, text, good)
			}
		}
		if more == 0 {
			return
		}
		for _, sign := range "ugoa+-=rwx," {
			check(how+string(sign), more-1)
		}
	}
	check("", 5)
}

func TestChangeModeOfEveryModeAndSubset(t *testing.T) {
	for who := 1; who < 16; who++ {
		for what := 0; what < 8; what++ {
			for _, sign := range "+-=" {
				how := lettersOf("ugoa", who) + string(sign) + lettersOf("rwx", what)
				for mode := 0; mode <= 511; mode++ {
					text, _ := changeByText(textOfMode(mode), how)
					if got, ok := impl.ChangeMode(mode, how); !ok || textOfMode(got) != text {
						t.Fatalf("%o %q: %o %v, want %q", mode, how, got, ok, text)
					}
				}
			}
		}
	}
}

func lettersOf(all string, set int) string {
	s := ""
	for i := range all {
		if set>>i%2 == 1 {
			s += all[i : i+1]
		}
	}
	return s
}

type modeAnswers struct {
	good            bool
	is, mayOk       bool
	text, octal     string
	textOk, octalOk bool
	mode, fromOctal int
	modeOk, readOk  bool
	masked, changed int
	maskOk, chOk    bool
}

// answersOf calls every function of chapter 1. A panic fails the test by
// itself.
func answersOf(c impl.Cred, a, b, d, e int, s string) modeAnswers {
	var r modeAnswers
	r.good = impl.GoodCred(c)
	r.is, r.mayOk = impl.May(c, a, b, d, e)
	r.text, r.textOk = impl.ModeText(a)
	r.octal, r.octalOk = impl.OctalText(a)
	r.mode, r.modeOk = impl.ReadMode(s)
	r.fromOctal, r.readOk = impl.ReadOctal(s)
	r.masked, r.maskOk = impl.WithMask(a, b)
	r.changed, r.chOk = impl.ChangeMode(a, s)
	return r
}

func (r modeAnswers) isZeroWhereFalse() bool {
	return (r.mayOk || !r.is) && (r.textOk || r.text == "") && (r.octalOk || r.octal == "") &&
		(r.modeOk || r.mode == 0) && (r.readOk || r.fromOctal == 0) && (r.maskOk || r.masked == 0) && (r.chOk || r.changed == 0)
}

// Promise 19: every function answers at all arguments, and the same again; a
// false comes with zero values; the arguments stay as they were.
func TestModeFunctionsAnswerAtAllArguments(t *testing.T) {
	for i, a := range oddNumbers {
		for j, b := range oddNumbers {
			for k, s := range oddTexts {
				d, e := oddNumbers[(i+k)%len(oddNumbers)], oddNumbers[(j+k)%len(oddNumbers)]
				c := impl.Cred{Uid: d, Gid: b}
				kept, keptText := c, strings.Clone(s)
				first := answersOf(c, a, b, d, e, s)
				if again := answersOf(c, a, b, d, e, s); again != first {
					t.Fatalf("%v %d %d %q: %v, then %v", c, a, b, s, first, again)
				}
				if !first.isZeroWhereFalse() {
					t.Fatalf("%v %d %d %q: %v", c, a, b, s, first)
				}
				if c != kept || s != keptText {
					t.Fatal("an argument was changed", c, kept)
				}
			}
		}
	}
}
