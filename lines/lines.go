// Package lines splits texts into lines; scripts and the console's texts are split alike.
package lines

import "strings"

// End is what a line ends with.
const End = "\n"

// Split returns the lines of s. What ends the text is not followed by another line, and a text of nothing has no line.
func Split(s string) []string {
	if s == "" {
		return nil
	}
	return strings.Split(strings.TrimSuffix(s, End), End)
}
