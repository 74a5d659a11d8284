package slots_test

import (
	"fmt"
	"math/rand/v2"
	"testing"

	"siding/api"
	"siding/slots"
)

// P5.5

// rowOf are bytes that are saved one behind the other: each length is next to others in both slots.
func rowOf() []string {
	great := text(api.MaxData)
	return []string{"a", "bc", "", "", great, "d", great, great, "", "e", "fgh", great, "", "i"}
}

func TestSavingAndLoading(t *testing.T) {
	for _, first := range []int{1, 2, 3, 255, 256, api.MaxNum - 20, api.MaxNum - 13} {
		s := with(first, nil, nil)
		for i, data := range rowOf() {
			s = saved(t, s, data)
			wantLoad(t, fmt.Sprint(first, i), s, first+i, data, api.OK)
			want(t, "opened", open(t, s), api.OK, s, api.OK)
		}
	}
}

// The slot that a checkpoint is not in keeps the one before.
func TestSavingKeepsTheCheckpointBefore(t *testing.T) {
	s, before := made(t, 2000), ""
	for i, data := range rowOf() {
		s = saved(t, s, data)
		if i > 0 {
			torn := s
			torn.Dev[(s.Next-1)%2].Synced = nil
			wantLoad(t, fmt.Sprint(i), torn, s.Next-2, before, api.OK)
		}
		before = data
	}
}

// olds are slots as saving leaves them, of which the newest checkpoint is the one before Next.
func olds(t *testing.T) []api.Slots {
	t.Helper()
	s := made(t, 2000)
	l := []api.Slots{s}
	for _, data := range []string{"one", "two and some more", "", "four", text(50)} {
		s = saved(t, s, data)
		l = append(l, s)
	}
	torn := open(t, halved(t, s, "torn", 2, 7))
	again := saved(t, open(t, halved(t, torn, "lost", 1, 0)), "behind")
	return append(l, torn, again, with(api.MaxNum, encoded(6, "old"), encoded(api.MaxNum-1, "last but one")))
}

// A crash at any step leaves what was saved, or what there was before; and saving goes on behind that.
func TestCrashesAtAnyStep(t *testing.T) {
	for i, s := range olds(t) {
		num, old, e := newest(s)
		for _, data := range []string{"", "d", "some more bytes"} {
			for steps := range 4 {
				for keep := range tail(data, steps) + 1 {
					what := fmt.Sprint(i, data, steps, keep)
					got := open(t, halved(t, s, data, steps, keep))
					if steps == 3 || steps == 2 && keep == 12+len(data) {
						wantLoad(t, what, got, s.Next, data, api.OK)
						goesOn(t, what, got, s.Next+1)
					} else {
						wantLoad(t, what, got, num, old, e)
						goesOn(t, what, got, s.Next)
					}
				}
			}
		}
	}
}

// goesOn fails unless slots have the next number, and save and load with it, up to the greatest one.
func goesOn(t *testing.T, what string, s api.Slots, next int) {
	t.Helper()
	if s.Next != next {
		t.Fatal(what, s.Next, next)
	}
	for i := 0; i < 3 && s.Next <= api.MaxNum; i++ {
		s = saved(t, s, fmt.Sprint("next ", i))
		wantLoad(t, what, s, next+i, fmt.Sprint("next ", i), api.OK)
	}
}

// Whatever is lost, a crash behind another one loses no more.
func TestCrashesBehindCrashes(t *testing.T) {
	for i, s := range olds(t) {
		num, old, e := newest(s)
		for range 3 {
			for steps := range 3 {
				for keep := range tail("lost", steps) {
					s = open(t, halved(t, s, "lost", steps, keep))
					wantLoad(t, fmt.Sprint(i, steps, keep), s, num, old, e)
				}
			}
		}
	}
}

func TestOpeningChangesOnlyNext(t *testing.T) {
	for what, s := range validSlots() {
		got := open(t, s)
		got.Next = s.Next
		want(t, what, got, api.OK, s, api.OK)
	}
	for _, s := range olds(t) {
		want(t, "saved", open(t, s), api.OK, s, api.OK)
	}
}

// Loading and opening do not depend on each other: what is loaded before is loaded behind.
func TestOpeningKeepsWhatIsLoaded(t *testing.T) {
	for what, s := range validSlots() {
		num, data, e := newest(s)
		wantLoad(t, what, s, num, data, e)
		wantLoad(t, what, open(t, s), num, data, e)
		wantLoad(t, what, open(t, crashed(s)), num, data, e)
	}
}

// model is what slots have to load, if there is something, and the next number.
type model struct {
	e    api.Errno
	num  int
	data string
	next int
}

// step does something with slots and with their model, and returns the slots.
func (m *model) step(t *testing.T, r *rand.Rand, s api.Slots) api.Slots {
	t.Helper()
	data := text(r.IntN(6) * r.IntN(20))
	room := s.Dev[s.Next%2].Cap >= 12+len(data)
	switch r.IntN(4) {
	case 0:
		return open(t, s)
	case 1:
		if !room {
			_, num, e := slots.Save(s, []byte(data))
			if num != 0 || e != api.ErrFull {
				t.Error("save in a full slot", num, e)
			}
			return s
		}
		m.holds(data)
		return saved(t, s, data)
	default:
		steps := r.IntN(4)
		keep := r.IntN(tail(data, steps) + 1)
		if !room {
			_, e := slots.Half(s, []byte(data), steps, keep)
			if e != api.ErrFull {
				t.Error("half in a full slot", e)
			}
			return s
		}
		s = halved(t, s, data, steps, keep)
		if steps == 3 || keep == 12+len(data) {
			m.holds(data)
		}
		return open(t, s)
	}
}

func (m *model) holds(data string) {
	*m = model{num: m.next, data: data, next: m.next + 1}
}

// Whatever is done in any order, slots load what was saved last.
func TestAnyOrder(t *testing.T) {
	for seed := range uint64(400) {
		r := rand.New(rand.NewPCG(5, seed))
		s := made(t, 30+r.IntN(100))
		m := &model{e: api.ErrNone, next: 1}
		for range 60 {
			s = m.step(t, r, s)
			wantLoad(t, fmt.Sprint("seed ", seed), s, m.num, m.data, m.e)
			if s.Next != m.next || slots.Check(s) != api.OK {
				t.Error("seed", seed, s.Next, m.next)
			}
			if t.Failed() {
				return
			}
		}
	}
}

// Bytes of any kind load and open as a reading without the lower layers says.
func TestAnyBytes(t *testing.T) {
	r := rand.New(rand.NewPCG(5, 1000))
	some := func() []byte {
		b := append(encoded(r.IntN(6), text(r.IntN(4)*r.IntN(9))), encoded(r.IntN(6), "x")...)
		for range r.IntN(3) * r.IntN(2) {
			b[r.IntN(len(b))] ^= 1 << r.IntN(8)
		}
		return b[:len(b)-r.IntN(2)*r.IntN(len(b))]
	}
	for range 5000 {
		s := with(1+r.IntN(9), some(), some())
		num, data, e := newest(s)
		wantLoad(t, "any", s, num, data, e)
		want(t, "any", open(t, s), api.OK, opened(s), api.OK)
		want(t, "any, down", open(t, crashed(s)), api.OK, opened(s), api.OK)
	}
}

// The example of the chapter.
func TestExample(t *testing.T) {
	s := made(t, 100)
	wantLoad(t, "new", s, 0, "", api.ErrNone)
	s = saved(t, s, "a")
	wantLoad(t, "one", s, 1, "a", api.OK)
	s, num, e := slots.Save(s, []byte("bc"))
	if num != 2 || e != api.OK {
		t.Error(num, e)
	}
	lost := open(t, halved(t, s, "d", 2, 12))
	wantLoad(t, "12 bytes", lost, 2, "bc", api.OK)
	if lost.Next != 3 {
		t.Error(lost.Next)
	}
	wantLoad(t, "13 bytes", open(t, halved(t, s, "d", 2, 13)), 3, "d", api.OK)
}
