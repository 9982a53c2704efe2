package impl

import "strings"

const MaxId = 99

const MayRead = 4
const MayWrite = 2
const MayEnter = 1

const maxMode = 511
const maxTriple = MayRead | MayWrite | MayEnter

// How far above the lowest bit of a mode the three bits of each class lie.
const (
	othersShift = 3 * iota
	groupShift
	ownerShift
)

// The text of each value that three bits can have.
var tripleTexts = [maxTriple + 1]string{"---", "--x", "-w-", "-wx", "r--", "r-x", "rw-", "rwx"}

type Cred struct {
	Uid int
	Gid int
}

func GoodCred(c Cred) bool {
	return isId(c.Uid) && isId(c.Gid)
}

func May(c Cred, mode int, uid int, gid int, want int) (bool, bool) {
	if !GoodCred(c) || !isMode(mode) || !isId(uid) || !isId(gid) || !isTriple(want) {
		return false, false
	}
	if c.Uid == 0 {
		return true, true
	}
	return tripleFor(c, mode, uid, gid)&want == want, true
}

func ModeText(mode int) (string, bool) {
	if !isMode(mode) {
		return "", false
	}
	owner, group, others := triplesOf(mode)
	return tripleTexts[owner] + tripleTexts[group] + tripleTexts[others], true
}

func ReadMode(s string) (int, bool) {
	if len(s) != 9 {
		return 0, false
	}
	mode := 0
	for i := 0; i < 9; i += 3 {
		triple, ok := readTriple(s[i : i+3])
		if !ok {
			return 0, false
		}
		mode = mode<<3 | triple
	}
	return mode, true
}

func OctalText(mode int) (string, bool) {
	if !isMode(mode) {
		return "", false
	}
	owner, group, others := triplesOf(mode)
	return string([]byte{'0' + byte(owner), '0' + byte(group), '0' + byte(others)}), true
}

func ReadOctal(s string) (int, bool) {
	if len(s) != 3 {
		return 0, false
	}
	mode := 0
	for i := 0; i < 3; i++ {
		if s[i] < '0' || s[i] > '7' {
			return 0, false
		}
		mode = mode<<3 | int(s[i]-'0')
	}
	return mode, true
}

func WithMask(mode int, mask int) (int, bool) {
	if !isMode(mode) || !isMode(mask) {
		return 0, false
	}
	return mode &^ mask, true
}

func ChangeMode(mode int, how string) (int, bool) {
	at := strings.IndexAny(how, "+-=")
	// A text with its sign in front names nobody whose bits could change.
	if !isMode(mode) || at < 1 {
		return 0, false
	}
	who, whoOk := bitsOfLetters(how[:at], whoBits)
	what, whatOk := bitsOfLetters(how[at+1:], whatBits)
	if !whoOk || !whatOk {
		return 0, false
	}
	return applySign(mode, how[at], who, who&what), true
}

func isId(n int) bool {
	return n >= 0 && n <= MaxId
}

func isMode(n int) bool {
	return n >= 0 && n <= maxMode
}

func isTriple(n int) bool {
	return n >= 0 && n <= maxTriple
}

func triplesOf(mode int) (int, int, int) {
	return mode >> ownerShift & maxTriple, mode >> groupShift & maxTriple, mode >> othersShift & maxTriple
}

// tripleFor picks one class alone: an owner with fewer bits than the others
// does not fall back to theirs.
func tripleFor(c Cred, mode int, uid int, gid int) int {
	owner, group, others := triplesOf(mode)
	switch {
	case c.Uid == uid:
		return owner
	case c.Gid == gid:
		return group
	}
	return others
}

func readTriple(s string) (int, bool) {
	for triple, text := range tripleTexts {
		if text == s {
			return triple, true
		}
	}
	return 0, false
}

// bitsOfLetters joins the bits of all letters of s. It fails at a letter that
// stands for no bits or that was there already.
func bitsOfLetters(s string, bitsOf func(byte) int) (int, bool) {
	sum := 0
	for i := 0; i < len(s); i++ {
		bits := bitsOf(s[i])
		if bits == 0 || strings.IndexByte(s[:i], s[i]) >= 0 {
			return 0, false
		}
		sum |= bits
	}
	return sum, true
}

func whoBits(letter byte) int {
	switch letter {
	case 'u':
		return maxTriple << ownerShift
	case 'g':
		return maxTriple << groupShift
	case 'o':
		return maxTriple << othersShift
	case 'a':
		return maxMode
	}
	return 0
}

// whatBits has each permission in all three classes, so that the classes that
// are meant can be cut out of it.
func whatBits(letter byte) int {
	switch letter {
	case 'r':
		return MayRead<<ownerShift | MayRead<<groupShift | MayRead<<othersShift
	case 'w':
		return MayWrite<<ownerShift | MayWrite<<groupShift | MayWrite<<othersShift
	case 'x':
		return MayEnter<<ownerShift | MayEnter<<groupShift | MayEnter<<othersShift
	}
	return 0
}

func applySign(mode int, sign byte, who int, bits int) int {
	switch sign {
	case '+':
		return mode | bits
	case '-':
		return mode &^ bits
	}
	return mode&^who | bits
}
