package foreman

import (
	"iter"
	"strings"

	"skewbald/api"
)

// lineEnd stands behind each line of a file.
const lineEnd = "\n"

// checkFile returns the error of a file that is too long, or whose last line does not end.
func checkFile(file string) api.Errno {
	if len(file) > api.MaxText {
		return api.ErrLong
	}
	if file != "" && !strings.HasSuffix(file, lineEnd) {
		return api.ErrForm
	}
	return api.OK
}

// lines yields all lines of a file.
func lines(file string) iter.Seq[string] {
	return func(yield func(text string) bool) {
		for rest := file; rest != ""; {
			var text string
			text, rest, _ = strings.Cut(rest, lineEnd)
			if !yield(text) {
				return
			}
		}
	}
}

// fileOf returns the file of a journal.
func fileOf(journal []string) string {
	var file strings.Builder
	for _, text := range journal {
		file.WriteString(text)
		file.WriteString(lineEnd)
	}
	return file.String()
}
