package impl

const (
	MaxText = 65536
	MaxList = 4096
	MaxName = 40
)

const (
	OK = iota
	ErrBad
	ErrLong
	ErrForm
	ErrRange
	ErrNone
	ErrMany
	ErrFull
	ErrTwice
	ErrDir
	ErrNoDir
	ErrNotEmpty
	ErrName
	ErrLoop
	ErrPlace
	ErrBusy
	ErrIdle
	ErrOrder
	ErrLinks
	ErrRoot
)

var codeWords = [...]string{
	OK:          "ok",
	ErrBad:      "bad",
	ErrLong:     "long",
	ErrForm:     "form",
	ErrRange:    "range",
	ErrNone:     "none",
	ErrMany:     "many",
	ErrFull:     "full",
	ErrTwice:    "twice",
	ErrDir:      "dir",
	ErrNoDir:    "nodir",
	ErrNotEmpty: "notempty",
	ErrName:     "name",
	ErrLoop:     "loop",
	ErrPlace:    "place",
	ErrBusy:     "busy",
	ErrIdle:     "idle",
	ErrOrder:    "order",
	ErrLinks:    "links",
	ErrRoot:     "root",
}

func NameOK(t string) bool {
	if len(t) < 1 || len(t) > MaxName || !beginsName(t[0]) {
		return false
	}
	for i := 1; i < len(t); i++ {
		if !beginsName(t[i]) && !isDigit(t[i]) {
			return false
		}
	}
	return true
}

func beginsName(b byte) bool {
	return 'a' <= b && b <= 'z' || 'A' <= b && b <= 'Z' || b == '_'
}

func isDigit(b byte) bool {
	return '0' <= b && b <= '9'
}

func CodeWord(code int) string {
	if code < 0 || code >= len(codeWords) {
		return ""
	}
	return codeWords[code]
}

func CodeOf(word string) int {
	for code, w := range codeWords {
		if w == word {
			return code
		}
	}
	return -1
}
