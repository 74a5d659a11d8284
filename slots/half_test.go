package slots_test

import (
	"fmt"
	"testing"

	"siding/api"
	"siding/slots"
)

// P5.3

// halves are slots and bytes that are saved by halves.
func halves() []saving {
	var l []saving
	for _, c := range savings() {
		if len(c.data) < 20 {
			l = append(l, c)
		}
	}
	exact := api.Slots{Dev: [2]api.Device{up(13, []byte("thirteen byte")), up(0, nil)}, Next: 2}
	return append(l, saving{what: "as much as there is room", s: exact, data: "a"})
}

// after is what is left of slots after so many steps and a crash that keeps so many bytes.
func after(s api.Slots, data string, steps, keep int) api.Slots {
	slot := s.Next % 2
	record := encoded(s.Next, data)
	s.Dev[slot].Synced = [][]byte{s.Dev[slot].Synced, nil, record[:keep], record}[steps]
	return crashed(s)
}

// tail is how many bytes a crash may keep after so many steps.
func tail(data string, steps int) int {
	if steps == 2 {
		return 12 + len(data)
	}
	return 0
}

func TestHalf(t *testing.T) {
	for _, c := range halves() {
		for steps := range 4 {
			for keep := range tail(c.data, steps) + 1 {
				what := fmt.Sprint(c.what, ", steps ", steps, ", keeps ", keep)
				got, e := slots.Half(c.s, []byte(c.data), steps, keep)
				want(t, what, got, e, after(c.s, c.data, steps, keep), api.OK)
				if e := slots.Check(got); e != api.ErrBad {
					t.Error(what, e)
				}
			}
		}
	}
}

func TestHalfOfTheGreatest(t *testing.T) {
	data := text(api.MaxData)
	for _, next := range []int{1, 2, api.MaxNum} {
		s := with(next, []byte(text(api.MaxDisk)), encoded(3, data))
		for steps := range 4 {
			most := tail(data, steps)
			for _, keep := range []int{0, most / 2, most} {
				got, e := slots.Half(s, []byte(data), steps, keep)
				want(t, fmt.Sprint(next, steps, keep), got, e, after(s, data, steps, keep), api.OK)
			}
			got, e := slots.Half(s, []byte(data), steps, most+1)
			want(t, fmt.Sprint(next, steps), got, e, api.Slots{}, api.ErrArg)
		}
	}
}

// Only after the second step the slot has a tail, of which a crash may keep something.
func TestHalfKeepsAtMostTheTail(t *testing.T) {
	for _, c := range halves() {
		for steps := range 4 {
			most := tail(c.data, steps)
			for _, keep := range append([]int{-1, most + 1, most + 2, api.MaxDisk}, extremes...) {
				got, e := slots.Half(c.s, []byte(c.data), steps, keep)
				want(t, fmt.Sprint(c.what, steps, keep), got, e, api.Slots{}, api.ErrArg)
			}
		}
	}
}

func TestHalfTakesAtMostThreeSteps(t *testing.T) {
	for _, c := range halves() {
		for _, steps := range append([]int{4, 5, 256, 258}, extremes...) {
			for _, keep := range []int{0, 1, 12, -1} {
				got, e := slots.Half(c.s, []byte(c.data), steps, keep)
				want(t, fmt.Sprint(c.what, steps, keep), got, e, api.Slots{}, api.ErrArg)
			}
		}
	}
}

// Save's errors come first, also where the steps would not be reached, or are not allowed.
func TestHalfErrors(t *testing.T) {
	for _, c := range hinderedSavings() {
		for _, steps := range append([]int{0, 1, 2, 3, 4}, extremes...) {
			for _, keep := range []int{0, 1, 12, 13, -1, 2 * api.MaxDisk} {
				got, e := slots.Half(c.s, make([]byte, c.n), steps, keep)
				want(t, fmt.Sprint(c.what, steps, keep), got, e, api.Slots{}, c.want)
			}
		}
	}
}

// Whether saving by halves is possible does not depend on the steps.
func TestHalfNeedsTheCapacity(t *testing.T) {
	for _, n := range []int{0, 1, 30} {
		for steps := range 4 {
			for next := 1; next <= 2; next++ {
				s := empty(0, next)
				s.Dev[next%2].Cap = 12 + n
				got, e := slots.Half(s, []byte(text(n)), steps, 0)
				want(t, fmt.Sprint(n, steps), got, e, after(s, text(n), steps, 0), api.OK)
				s.Dev[next%2].Cap--
				s.Dev[1-next%2].Cap = api.MaxDisk
				got, e = slots.Half(s, []byte(text(n)), steps, 0)
				want(t, fmt.Sprint(n, steps), got, e, api.Slots{}, api.ErrFull)
			}
		}
	}
}

// After all three steps the slots have what saving gives, but that they are down, and that Next stays.
func TestHalfOfAllStepsIsSaving(t *testing.T) {
	for _, c := range savings() {
		got := halved(t, c.s, c.data, 3, 0)
		whole := crashed(saved(t, c.s, c.data))
		whole.Next = c.s.Next
		want(t, c.what, got, api.OK, whole, api.OK)
		full := halved(t, c.s, c.data, 2, 12+len(c.data))
		want(t, c.what, full, api.OK, whole, api.OK)
	}
}
