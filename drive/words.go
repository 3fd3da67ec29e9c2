package drive

import (
	"slices"
	"strconv"
	"strings"
)

// read answers the word of a line, the NUMBERs that follow it, each behind a blank, and true; false, if anything else stands there.
func read(line string) (string, []uint32, bool) {
	word, rest, more := strings.Cut(line, " ")
	var numbers []uint32
	for more {
		var part string
		part, rest, more = strings.Cut(rest, " ")
		n, ok := number(part)
		if !ok {
			return "", nil, false
		}
		numbers = append(numbers, n)
	}
	return word, numbers, true
}

// number answers the NUMBER that part is, and true; else false. A 0 ahead of other digits is asked for here, since ParseUint lets it pass.
func number(part string) (uint32, bool) {
	n, wrong := strconv.ParseUint(part, 10, 32)
	if wrong != nil || part[0] == '0' && part != "0" {
		return 0, false
	}
	return uint32(n), true
}

// told are numbers, none of them below 0, as words of an answer.
func told[N ~int | ~uint32](numbers ...N) []string {
	var words []string
	for _, n := range numbers {
		words = append(words, strconv.FormatUint(uint64(n), 10))
	}
	return words
}

// joined is the answer of these words, one row of them behind the other.
func joined(words ...[]string) string {
	return strings.Join(slices.Concat(words...), " ")
}

// named is the answer of a word, and numbers behind it.
func named[N ~int | ~uint32](word string, numbers ...N) string {
	return joined([]string{word}, told(numbers...))
}
