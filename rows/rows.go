// Package rows holds the rows of the table by which distances are computed; several layers share it.
package rows

// First returns the distances of no runes to the first 0 to n runes of a text.
func First(n int) []int {
	row := make([]int, n+1)
	for i := range row {
		row[i] = i
	}
	return row
}

// Advance turns the distances of some runes to the beginnings of a into those of the same runes followed by r.
func Advance(row []int, a []rune, r rune) {
	// The step to the next row overwrites the number left above, which the replacement needs.
	above := row[0]
	row[0]++
	for i, c := range a {
		step := above
		if c != r {
			step++
		}
		above = row[i+1]
		row[i+1] = min(step, above+1, row[i]+1)
	}
}
