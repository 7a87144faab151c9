package impl

const (
	PmSize   = 336
	LineSize = 8
	MaxWord  = 1 << 40

	maxPending = 400
)

type Store struct {
	At, Value int
	Flushed   bool
}

type Pm struct {
	Words   []int
	Pending []Store
}

func isWord(n int) bool {
	return 0 <= n && n < MaxWord
}

// every is true of a list without elements.
func every[T any](list []T, holds func(T) bool) bool {
	for _, x := range list {
		if !holds(x) {
			return false
		}
	}
	return true
}

func isPlace(at int) bool {
	return 0 <= at && at < PmSize
}

func isStore(s Store) bool {
	return isPlace(s.At) && isWord(s.Value)
}

func PmOK(p Pm) bool {
	return len(p.Words) == PmSize && len(p.Pending) <= maxPending && every(p.Words, isWord) && every(p.Pending, isStore)
}

func placeFault(p Pm, at int) int {
	if !PmOK(p) {
		return ErrBad
	}
	if !isPlace(at) {
		return ErrPlace
	}
	return OK
}

// copyPm appends to nil, so that an empty queue is nil whichever way it came.
func copyPm(p Pm) Pm {
	return Pm{
		Words:   append([]int(nil), p.Words...),
		Pending: append([]Store(nil), p.Pending...),
	}
}

func PmLoad(p Pm, at int) (int, int) {
	if code := placeFault(p, at); code != OK {
		return 0, code
	}
	for i := len(p.Pending) - 1; i >= 0; i-- {
		if p.Pending[i].At == at {
			return p.Pending[i].Value, OK
		}
	}
	return p.Words[at], OK
}

func PmStore(p Pm, at, v int) (Pm, int) {
	if code := placeFault(p, at); code != OK {
		return Pm{}, code
	}
	if !isWord(v) {
		return Pm{}, ErrRange
	}
	after := copyPm(p)
	if len(after.Pending) == maxPending {
		return after, ErrFull
	}
	after.Pending = append(after.Pending, Store{At: at, Value: v})
	return after, OK
}

func PmFlush(p Pm, at int) (Pm, int) {
	if code := placeFault(p, at); code != OK {
		return Pm{}, code
	}
	after := copyPm(p)
	for i := range after.Pending {
		if after.Pending[i].At/LineSize == at/LineSize {
			after.Pending[i].Flushed = true
		}
	}
	return after, OK
}

func PmFence(p Pm) (Pm, int) {
	if !PmOK(p) {
		return Pm{}, ErrBad
	}
	after := Pm{Words: append([]int(nil), p.Words...)}
	for queue := p.Pending; len(queue) > 0; queue = queue[1:] {
		if s := queue[0]; s.Flushed {
			after.Words[s.At] = s.Value
		} else {
			after.Pending = append(after.Pending, s)
		}
	}
	return after, OK
}

func isKeep(k int) bool {
	return 0 <= k && k <= maxPending
}

func keepAt(keeps []int, i int) int {
	if len(keeps) == 0 {
		return 0
	}
	return keeps[i%len(keeps)]
}

func PmCrash(p Pm, keeps []int) (Pm, int) {
	if len(keeps) > MaxList {
		return Pm{}, ErrLong
	}
	return crashPm(p, keeps)
}

// crashPm takes keeps however many they are: where they stand within another argument, they are bounded by what is said of that alone.
func crashPm(p Pm, keeps []int) (Pm, int) {
	places, code := PmUnsure(p)
	if code != OK {
		return Pm{}, code
	}
	// Also those that no word would ask for.
	if !every(keeps, isKeep) {
		return Pm{}, ErrRange
	}
	var left [PmSize]int
	for i, at := range places {
		left[at] = keepAt(keeps, i)
	}
	after := Pm{Words: append([]int(nil), p.Words...)}
	for queue := p.Pending; len(queue) > 0; queue = queue[1:] {
		if s := queue[0]; left[s.At] > 0 {
			after.Words[s.At] = s.Value
			left[s.At]--
		}
	}
	return after, OK
}

func PmUnsure(p Pm) ([]int, int) {
	if !PmOK(p) {
		return nil, ErrBad
	}
	var unsure [PmSize]bool
	for _, s := range p.Pending {
		unsure[s.At] = true
	}
	var places []int
	for at, is := range unsure {
		if is {
			places = append(places, at)
		}
	}
	return places, OK
}

func PmSeen(p Pm) ([]int, int) {
	if !PmOK(p) {
		return nil, ErrBad
	}
	seen := append([]int(nil), p.Words...)
	for _, s := range p.Pending {
		seen[s.At] = s.Value
	}
	return seen, OK
}
