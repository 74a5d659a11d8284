package journal_test

import (
	"fmt"
	"testing"

	"siding/api"
	"siding/journal"
)

// P6.1: Apply

// wantApply fails unless operations make this of cells.
func wantApply(t *testing.T, what string, cells state, l []api.Move, result state, err api.Errno) {
	t.Helper()
	got, e := journal.Apply(cells, l)
	if got != result || e != err {
		t.Errorf("%s: got %v, %d, want %v, %d", what, got, e, result, err)
	}
}

func TestApply(t *testing.T) {
	most, add := api.MaxCell, api.MaxAdd
	cells := stateOf(1, -2, 3, -4, 5, -6, 7, -8)
	wantApply(t, "none", cells, nil, cells, api.OK)
	wantApply(t, "one", cells, []api.Move{{Cell: 3, Add: 10}}, stateOf(1, -2, 3, 6, 5, -6, 7, -8), api.OK)
	wantApply(t, "some", cells, []api.Move{{Cell: 0, Add: 5}, {Cell: 7, Add: -2}, {Cell: 0, Add: 7}, {Cell: 4}}, stateOf(13, -2, 3, -4, 5, -6, 7, -10), api.OK)
	for i := range api.MaxCells {
		for _, n := range []int{0, 1, -1, add - 1, add, -add + 1, -add} {
			result := cells
			result[i] += n
			wantApply(t, fmt.Sprint(i, n), cells, []api.Move{{Cell: i, Add: n}}, result, api.OK)
			wantApply(t, fmt.Sprint(i, n), state{}, []api.Move{{Cell: i, Add: n}}, func() (s state) { s[i] = n; return }(), api.OK)
		}
		var end, before, low, above state
		end[i], before[i], low[i], above[i] = most, most-add, -most, -most+add
		wantApply(t, "the greatest", before, []api.Move{{Cell: i, Add: add}}, end, api.OK)
		wantApply(t, "away from it", end, []api.Move{{Cell: i, Add: -add}}, before, api.OK)
		wantApply(t, "the least", above, []api.Move{{Cell: i, Add: -add}}, low, api.OK)
		wantApply(t, "away from it", low, []api.Move{{Cell: i, Add: add}}, above, api.OK)
		wantApply(t, "no more", end, []api.Move{{Cell: i, Add: 0}}, end, api.OK)
	}
}

func TestApplyOfMany(t *testing.T) {
	var l []api.Move
	var result state
	for i := range 5000 {
		m := api.Move{Cell: i % 8, Add: i*i%2001 - 1000}
		l = append(l, m)
		result[m.Cell] += m.Add
	}
	wantApply(t, "many", state{}, l, result, api.OK)
}

// A state is checked first, then one operation after the other.
func TestApplyErrors(t *testing.T) {
	good, most := api.Move{Cell: 1, Add: 1}, stateOf(api.MaxCell, 0, -api.MaxCell)
	for _, cell := range append([]int{-1, -2, 8, 9}, extremes...) {
		bad := api.Move{Cell: cell, Add: 1}
		wantApply(t, fmt.Sprint("cell ", cell), state{}, []api.Move{bad}, state{}, api.ErrArg)
		wantApply(t, fmt.Sprint("cell ", cell), most, []api.Move{good, bad, good}, state{}, api.ErrArg)
	}
	for _, add := range append([]int{api.MaxAdd + 1, -api.MaxAdd - 1, api.MaxCell, -api.MaxCell}, extremes...) {
		for cell := range api.MaxCells {
			bad := api.Move{Cell: cell, Add: add}
			wantApply(t, fmt.Sprint("add ", add), state{}, []api.Move{bad}, state{}, api.ErrArg)
			wantApply(t, fmt.Sprint("add ", add), most, []api.Move{good, bad, good}, state{}, api.ErrArg)
		}
	}
	for _, add := range []int{1, 2, api.MaxAdd} {
		wantApply(t, "too great", most, []api.Move{{Cell: 0, Add: add}}, state{}, api.ErrRange)
		wantApply(t, "too little", most, []api.Move{good, {Cell: 2, Add: -add}, good}, state{}, api.ErrRange)
		wantApply(t, "and back", most, []api.Move{{Cell: 0, Add: add}, {Cell: 0, Add: -add}}, state{}, api.ErrRange)
	}
	bad, far := api.Move{Cell: 8}, api.Move{Cell: 0, Add: 1}
	wantApply(t, "not valid first", most, []api.Move{good, bad, far}, state{}, api.ErrArg)
	wantApply(t, "out of range first", most, []api.Move{good, far, bad}, state{}, api.ErrRange)
	wantApply(t, "both at once", most, []api.Move{{Cell: 0, Add: api.MaxAdd + 1}}, state{}, api.ErrArg)
}

func TestApplyToNoState(t *testing.T) {
	for i := range api.MaxCells {
		for _, n := range append([]int{api.MaxCell + 1, -api.MaxCell - 1}, extremes...) {
			var cells state
			cells[i] = n
			for _, l := range [][]api.Move{nil, {{Cell: i}}, {{Cell: i, Add: 1}}, {{Cell: i, Add: -1}}, {{Cell: 8}}} {
				wantApply(t, fmt.Sprint(i, n, l), cells, l, state{}, api.ErrBad)
			}
		}
	}
}
