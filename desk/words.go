package desk

import (
	"strconv"
	"strings"

	"marchpast/api"
	"marchpast/fault"
)

// maxNumber is the greatest one of six digits.
const maxNumber = 999999

// numberOf leaves, unless the word is a number without a sign.
func numberOf(word string) int {
	n := valueOf(word)
	if n < 0 {
		fault.Leave(api.ErrForm)
	}
	return n
}

// valueOf takes a word only if the number that it tells is told by the same word:
// so a 0 ahead, a plus and whatever else strconv lets pass is not taken.
func valueOf(word string) int {
	n, err := strconv.Atoi(word)
	if err != nil || strconv.Itoa(n) != word || n > maxNumber || n < -maxNumber {
		fault.Leave(api.ErrForm)
	}
	return n
}

func wordOf(kind int) string {
	if kind == api.StepRead {
		return readWord
	}
	return writeWord
}

// textOf has one blank between each two.
func textOf(numbers []int) string {
	var words []string
	for _, n := range numbers {
		words = append(words, strconv.Itoa(n))
	}
	return strings.Join(words, " ")
}
