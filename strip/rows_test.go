package strip

import "testing"

func TestP15_1RowsWithoutStrips(t *testing.T) {
	for _, height := range []int{1, 2, 4096} {
		end := int64(height) * one
		checkRows(t, edge(3, -one, 3, 0), height, 0, 0, false)
		checkRows(t, edge(3, 0, 3, -one), height, 0, 0, false)
		checkRows(t, edge(3, -bound, 3, -bound+1), height, 0, 0, false)
		checkRows(t, edge(3, end, 3, end+1), height, 0, 0, false)
		checkRows(t, edge(3, bound, 3, end), height, 0, 0, false)
		checkRows(t, edge(3, bound-1, 3, bound), height, 0, 0, false)
	}
	checkRows(t, edge(-bound, -bound, bound, bound), 0, 0, 0, false)
	checkRows(t, edge(0, 3*one, 0, 2*one), 0, 0, 0, false)
	checkRows(t, edge(0, 3*one, 0, 2*one), 2, 0, 0, false)
}

func TestP15_1RowsWithOneStrip(t *testing.T) {
	for _, height := range []int{1, 3, 4096} {
		last := height - 1
		top := int64(last) * one
		checkRows(t, edge(3, top, 3, top+1), height, last, last, true)
		checkRows(t, edge(3, top+1, 3, top), height, last, last, true)
		checkRows(t, edge(3, top, 3, top+one), height, last, last, true)
		checkRows(t, edge(3, top+one, 3, top), height, last, last, true)
		checkRows(t, edge(3, top+one-1, 9, top+one), height, last, last, true)
		checkRows(t, edge(3, top+one-1, 9, bound), height, last, last, true)
		checkRows(t, edge(-bound, -bound, bound, 1), height, 0, 0, true)
		checkRows(t, edge(-bound, one, bound, -bound), height, 0, 0, true)
	}
	checkRows(t, edge(0, one/2, 0, -5), 9, 0, 0, true)
	checkRows(t, edge(0, -bound, 0, bound), 1, 0, 0, true)
}

func TestP15_1RowsWithManyStrips(t *testing.T) {
	checkRows(t, edge(0, one-1, 0, one+1), 2, 0, 1, true)
	checkRows(t, edge(0, one+1, 0, one-1), 2, 0, 1, true)
	checkRows(t, edge(5, 2*one, -5, 7*one), 9, 2, 6, true)
	checkRows(t, edge(5, 7*one, -5, 2*one), 9, 2, 6, true)
	checkRows(t, edge(5, 2*one-1, -5, 7*one+1), 9, 1, 7, true)
	checkRows(t, edge(5, 7*one+1, -5, 2*one-1), 9, 1, 7, true)
	checkRows(t, edge(5, 2*one-1, -5, 7*one+1), 4, 1, 3, true)
	checkRows(t, edge(5, -1, -5, 7*one+1), 4, 0, 3, true)
	checkRows(t, edge(5, 7*one+1, -5, -1), 40, 0, 7, true)
	checkRows(t, edge(-bound, -bound, bound, bound), 4096, 0, 4095, true)
	checkRows(t, edge(-bound, bound, bound, -bound), 4096, 0, 4095, true)
	checkRows(t, edge(0, 1, 0, 4096*one-1), 4096, 0, 4095, true)
	checkRows(t, edge(0, one, 0, 4095*one), 4096, 1, 4094, true)
}

func TestP15_1RowsByTheWords(t *testing.T) {
	for _, height := range []int{0, 1, 2, 3, 4, 5, 9, 10, 4095, 4096} {
		for _, a := range heights() {
			for _, b := range heights() {
				if a != b {
					checkRowsByWords(t, edge(-3, a, 8, b), height)
				}
			}
		}
	}
}
