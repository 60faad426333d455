package tests

import (
	"strings"
	"testing"

	"loop.example/g00654/impl"
)

var wildInts = []int{leastInt, leastInt + 1, -4294967297, -1, 0, 1, 2, 4, 8, 31, 32, 33, 64, 65, 4294967295, 4294967296, greatestInt - 7, greatestInt}

var wildTexts = []string{"", "a", "ok", "_a9", "00ff", "0", "\xff\x00\x80", "é", "abcdefghijabcdefghij", "abcdefghijabcdefghijk",
	strings.Repeat("0", impl.MaxText), strings.Repeat("0", impl.MaxText+1), strings.Repeat("a", 4*impl.MaxText)}

// answer is all that any of the calls may answer.
type answer struct {
	number int
	text   string
	yes    bool
	code   int
}

func numberAnswer(number, code int) answer { return answer{number: number, code: code} }

func textAnswer(text string, code int) answer { return answer{text: text, code: code} }

// bytesCalls hands out each call of chapters 1 and 2 with each of the wild arguments.
func bytesCalls() []func() answer {
	var calls []func() answer
	add := func(call func() answer) { calls = append(calls, call) }
	for _, text := range wildTexts {
		add(func() answer { return answer{yes: impl.NameOK(text)} })
		add(func() answer { return answer{number: impl.CodeOf(text)} })
		add(func() answer { return answer{number: impl.SumOf(text)} })
		add(func() answer { return answer{text: impl.HexOf(text)} })
		add(func() answer { return textAnswer(impl.BytesOf(text)) })
		for _, at := range wildInts {
			for _, n := range wildInts {
				add(func() answer { return numberAnswer(impl.TakeLittle(text, at, n)) })
			}
		}
	}
	for _, a := range wildInts {
		add(func() answer { return answer{text: impl.CodeWord(a)} })
		for _, b := range wildInts {
			add(func() answer { return numberAnswer(impl.SignOf(a, b)) })
			add(func() answer { return textAnswer(impl.PutLittle(a, b)) })
			for _, c := range wildInts {
				add(func() answer { return numberAnswer(impl.FieldOf(a, b, c)) })
				add(func() answer { return numberAnswer(impl.PutField(a, b, c, -1)) })
			}
		}
	}
	return calls
}

// A panic in a call fails the test by itself.
func TestAlikeArgumentsHaveAlikeAnswers(t *testing.T) {
	calls := bytesCalls()
	first := make([]answer, len(calls))
	for i, call := range calls {
		first[i] = call()
		if got := first[i]; got.code != impl.OK && (got.number != 0 || got.text != "") {
			t.Errorf("call %d answers something beside the code %d", i, got.code)
		}
	}
	for i := len(calls) - 1; i >= 0; i-- {
		if calls[i]() != first[i] {
			t.Errorf("call %d answers something else behind other calls", i)
		}
	}
}
