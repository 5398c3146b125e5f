package words_test

import (
	"fmt"
	"math"
	"math/big"
	"math/rand/v2"
	"regexp"
	"strings"
	"testing"

	"drover/api"
	"drover/words"
)

const mostSource = 1 << 15 // bytes of a program

// allKeys and allSigns are the chapter's.
var (
	allKeys  = strings.Fields("actor become call else false func if len let on return self send set spawn stop true while")
	allSigns = strings.Fields("&& || == != <= >= ++ < > + - * / % ! ( ) [ ] { } , ; =")
)

// answer is what Next answers.
type answer struct {
	word  api.Word
	fault api.Fault
}

// next is Next's answer.
func next(text string, at int) answer {
	w, f := words.Next(text, at)
	return answer{w, f}
}

// told is the answer of a token.
func told(kind api.WordKind, s string, n int64, line, at, end int) answer {
	return answer{word: api.Word{Kind: kind, S: s, N: n, Line: line, At: at, End: end}}
}

// fails is the answer of an error.
func fails(e api.Errno, line int) answer {
	return answer{fault: api.Fault{Err: e, Line: line}}
}

// wantNext tells what Next answered, if it was not that.
func wantNext(t *testing.T, text string, at int, wanted answer) {
	t.Helper()
	if got := next(text, at); got != wanted {
		t.Errorf("Next(%.80q, %d) = %.300s; want %.300s", text, at, fmt.Sprintf("%#v", got), fmt.Sprintf("%#v", wanted))
	}
}

// wantWhole tells what Next answered at the begin of text, if it was not a token that is all of it.
func wantWhole(t *testing.T, text string, kind api.WordKind, s string, n int64) {
	t.Helper()
	wantNext(t, text, 0, told(kind, s, n, 1, 0, len(text)))
}

// wantNone tells what Next answered at the begin of text, if it was not that there is no token, in line 1.
func wantNone(t *testing.T, text string) {
	t.Helper()
	wantNext(t, text, 0, fails(api.ErrToken, 1))
}

// The chapter's tokens as patterns: what the tests hold Next against.
var (
	passed  = regexp.MustCompile(`^(?:[\t\n\r ]|#[^\n]*(?:\n|$))*`)
	anInt   = regexp.MustCompile(`^[0-9]+`)
	aName   = regexp.MustCompile(`^[A-Za-z_][A-Za-z_0-9]*`)
	aText   = regexp.MustCompile(`^"(?:[^\x00-\x1f"\\]|\\["\\n]|\\x[0-9a-f]{2})*"`)
	aSign   = regexp.MustCompile(`^(?:&&|\|\||[=!<>]=|\+\+|[-<>+*/%!()\[\]{},;=])`)
	escapes = regexp.MustCompile(`\\(?:["\\n]|x[0-9a-f]{2})`)
)

// said is what a text says, of which these are the bytes between its quotes.
func said(inner string) string {
	return escapes.ReplaceAllStringFunc(inner, func(e string) string {
		switch e[1] {
		case 'n':
			return "\n"
		case 'x':
			n, _ := new(big.Int).SetString(e[2:], 16)
			return string([]byte{byte(n.Int64())})
		}
		return e[1:]
	})
}

// second is what Next is to answer at a place of text: another way to tell it.
func second(text string, at int) answer {
	at += len(passed.FindString(text[at:]))
	rest, line := text[at:], len(strings.Split(text[:at], "\n"))
	if rest == "" {
		return told(api.WEnd, "", 0, line, at, at)
	}
	if s := anInt.FindString(rest); s != "" {
		n, _ := new(big.Int).SetString(s, 10)
		if !n.IsInt64() {
			return fails(api.ErrToken, line)
		}
		return told(api.WInt, "", n.Int64(), line, at, at+len(s))
	}
	if s := aName.FindString(rest); s != "" {
		kind := api.WName
		for _, key := range allKeys {
			if s == key {
				kind = api.WKey
			}
		}
		return told(kind, s, 0, line, at, at+len(s))
	}
	if s := aText.FindString(rest); s != "" {
		return told(api.WText, said(s[1:len(s)-1]), 0, line, at, at+len(s))
	}
	if s := aSign.FindString(rest); s != "" {
		return told(api.WSign, s, 0, line, at, at+len(s))
	}
	return fails(api.ErrToken, line)
}

// The chapter's examples.
func TestExamples(t *testing.T) {
	wantNext(t, "let x", 0, told(api.WKey, "let", 0, 1, 0, 3))
	wantNext(t, "a++b", 1, told(api.WSign, "++", 0, 1, 1, 3))
	wantNext(t, "12", 1, told(api.WInt, "", 2, 1, 1, 2))
	wantNext(t, "9223372036854775808", 0, fails(api.ErrToken, 1))
	wantNext(t, `"a\x00"`, 0, told(api.WText, "a\x00", 0, 1, 0, 7))
	if q := words.Quote("a\xff"); q != `"a\xff"` {
		t.Errorf("Quote = %s", q)
	}
}

// P8.1: what is refused ahead of all, and in which order.
func TestRefused(t *testing.T) {
	longest := strings.Repeat(" ", mostSource)
	long := longest + " "
	for _, at := range []int{math.MinInt, -1, 0, 1, mostSource, mostSource + 1, mostSource + 2, math.MaxInt} {
		wantNext(t, long, at, fails(api.ErrLong, 0))
		wantNext(t, "\n\n"+longest, at, fails(api.ErrLong, 0))
		wantNext(t, strings.Repeat("@", mostSource+1), at, fails(api.ErrLong, 0))
	}
	for _, text := range []string{"", "a", "\n\n@", "\"", longest, longest[1:]} {
		for _, at := range []int{math.MinInt, math.MinInt + 1, -2, -1, len(text) + 1, len(text) + 2, math.MaxInt - 1, math.MaxInt} {
			wantNext(t, text, at, fails(api.ErrArg, 0))
		}
	}
	for _, at := range []int{0, 1, mostSource - 1, mostSource} {
		wantNext(t, longest, at, told(api.WEnd, "", 0, 1, mostSource, mostSource))
	}
}

// P8.1: tokens that are as long as a program may be.
func TestLongest(t *testing.T) {
	name := strings.Repeat("a", mostSource)
	wantWhole(t, name, api.WName, name, 0)
	wantWhole(t, strings.Repeat("0", mostSource), api.WInt, "", 0)
	wantWhole(t, strings.Repeat("0", mostSource-19)+"9223372036854775807", api.WInt, "", math.MaxInt64)
	wantNone(t, strings.Repeat("0", mostSource-19)+"9223372036854775808")
	wantNone(t, strings.Repeat("9", mostSource))
	inner := strings.Repeat("z", mostSource-2)
	wantWhole(t, `"`+inner+`"`, api.WText, inner, 0)
	wantNone(t, `"`+inner+"z")
	wantWhole(t, `"`+strings.Repeat(`\x80`, mostSource/4-1)+`~~"`, api.WText, strings.Repeat("\x80", mostSource/4-1)+"~~", 0)
	wantNext(t, "#"+strings.Repeat("#", mostSource-1), 0, told(api.WEnd, "", 0, 1, mostSource, mostSource))
	wantNext(t, strings.Repeat("\n", mostSource), 0, told(api.WEnd, "", 0, mostSource+1, mostSource, mostSource))
	wantNext(t, strings.Repeat("\n", mostSource-1)+"@", 0, fails(api.ErrToken, mostSource))
	wantNext(t, strings.Repeat("\n", mostSource-1)+"9", 0, told(api.WInt, "", 9, mostSource, mostSource-1, mostSource))
}

// P8.1: the end of a program.
func TestEnd(t *testing.T) {
	for _, text := range []string{"", " ", "\t\r ", "#", "# a", "#\"", "#a#b", "a #\r", "a"} {
		wantNext(t, text, len(text), told(api.WEnd, "", 0, 1, len(text), len(text)))
	}
	for _, text := range []string{"", " ", "\t\r ", "#", "# a", "#\"", "#a#b"} {
		wantNext(t, text, 0, told(api.WEnd, "", 0, 1, len(text), len(text)))
	}
	for _, text := range []string{"\n", "#\n", "# a\n", " \n ", "\n#", "\r\n", "\n\r"} {
		wantNext(t, text, 0, told(api.WEnd, "", 0, 2, len(text), len(text)))
		wantNext(t, text, len(text), told(api.WEnd, "", 0, 2, len(text), len(text)))
	}
}

// P8.1: each byte by itself, and that nothing but these four and # is passed over.
func TestBytes(t *testing.T) {
	for i := range 256 {
		x := string([]byte{byte(i)})
		switch {
		case strings.Contains("\t\r ", x):
			wantNext(t, x, 0, told(api.WEnd, "", 0, 1, 1, 1))
			wantNext(t, x+"q", 0, told(api.WName, "q", 0, 1, 1, 2))
		case x == "\n":
			wantNext(t, x, 0, told(api.WEnd, "", 0, 2, 1, 1))
			wantNext(t, x+"q", 0, told(api.WName, "q", 0, 2, 1, 2))
		case x == "#":
			wantNext(t, x, 0, told(api.WEnd, "", 0, 1, 1, 1))
			wantNext(t, x+"q", 0, told(api.WEnd, "", 0, 1, 2, 2))
		case strings.Contains("0123456789", x):
			wantWhole(t, x, api.WInt, "", int64(i-'0'))
			wantNext(t, x+"q", 0, told(api.WInt, "", int64(i-'0'), 1, 0, 1))
		case strings.Contains("abcdefghijklmnopqrstuvwxyzABCDEFGHIJKLMNOPQRSTUVWXYZ_", x):
			wantWhole(t, x, api.WName, x, 0)
			wantWhole(t, x+"q", api.WName, x+"q", 0)
		case strings.Contains("<>+-*/%!()[]{},;=", x):
			wantWhole(t, x, api.WSign, x, 0)
			wantNext(t, x+"q", 0, told(api.WSign, x, 0, 1, 0, 1))
		default:
			wantNone(t, x)
			wantNone(t, x+"q")
		}
	}
}

// P8.1: ints, up to the greatest, as many digits as stand there.
func TestInts(t *testing.T) {
	for text, n := range map[string]int64{
		"0": 0, "00": 0, "7": 7, "007": 7, "10": 10, "1234567890": 1234567890, "9999999999": 9999999999,
		"9223372036854775806": math.MaxInt64 - 1, "9223372036854775807": math.MaxInt64, "000009223372036854775807": math.MaxInt64,
		"4294967296": 1 << 32, "999999999999999999": 999999999999999999,
	} {
		wantWhole(t, text, api.WInt, "", n)
		for _, behind := range []string{"a", "_", "_1", "x1", ".", "e9", "-1", " 1", "\n1", "\"", "#1", "@", "\xff", "n"} {
			wantNext(t, text+behind, 0, told(api.WInt, "", n, 1, 0, len(text)))
		}
	}
	for _, text := range []string{"9223372036854775808", "9223372036854775810", "09223372036854775808", "18446744073709551615", "18446744073709551616", "18446744073709551617", "36893488147419103232", "99999999999999999999", "1" + strings.Repeat("0", 100)} {
		wantNone(t, text)
		wantNone(t, text+"a")
		wantNone(t, text+" 1")
		wantNext(t, "a\n "+text, 1, fails(api.ErrToken, 2))
	}
	wantNext(t, "9223372036854775808", 1, told(api.WInt, "", 223372036854775808, 1, 1, 19))
	wantNext(t, "-1", 0, told(api.WSign, "-", 0, 1, 0, 1))
}

// P8.1: names, and that the keys, and no other names, are keys.
func TestNames(t *testing.T) {
	for _, key := range allKeys {
		wantWhole(t, key, api.WKey, key, 0)
		for _, behind := range []string{" ", "(", "\xe4", "\"", "#", "-", "\n", "\x00"} {
			wantNext(t, key+behind, 0, told(api.WKey, key, 0, 1, 0, len(key)))
		}
		names := []string{key + "x", key + "_", key + "0", "_" + key, "x" + key, key + key, strings.ToUpper(key), strings.ToUpper(key[:1]) + key[1:], key[:1] + strings.ToUpper(key[1:2]) + key[2:]}
		for _, name := range names {
			wantWhole(t, name, api.WName, name, 0)
		}
	}
	for _, name := range []string{"_", "__", "_0", "a", "z", "A", "Z", "a0", "a9_Z", "fn", "role", "actors", "retur", "eturn", "nil", "not", "and", "or", "var", "for", "fun", "function", "elif", "elseif", "spaw", "sen", "i", "le", "o", "tru", "fals", "whil", "become1", "bool", "int", "sends"} {
		wantWhole(t, name, api.WName, name, 0)
		for _, behind := range []string{" a", "(", "\xe4a", "\"", "#a", "-a", "\na", "\x00", "@", "`", "{", "[", "/", ":", "."} {
			wantNext(t, name+behind, 0, told(api.WName, name, 0, 1, 0, len(name)))
		}
	}
	for _, none := range []string{"\xe4", "\xc3\xa4", "\xc3\xa4a", "$a", "'a'", "`a`", "?", ".a", ":", "~", "^", "\\", "\x7f", "\x00", "\x0b", "\x0c", "\xa0", "\xc2\xa0a", "\xef\xbb\xbfa", "\u2028"} {
		wantNone(t, none)
	}
}

// P8.1: signs, the longest of those that stand there.
func TestSigns(t *testing.T) {
	for _, sign := range allSigns {
		wantWhole(t, sign, api.WSign, sign, 0)
		for _, behind := range []string{" ", "a", "0", "\"", "#", "\n", "@", "\xff", " ="} {
			wantNext(t, sign+behind, 0, told(api.WSign, sign, 0, 1, 0, len(sign)))
		}
	}
	for _, row := range []struct{ text, signs string }{
		{"+++", "++ +"}, {"++++", "++ ++"}, {"+ +", "+ +"}, {"===", "== ="}, {"====", "== =="}, {"= =", "= ="}, {"=!=", "= !="}, {"!==", "!= ="}, {"!!=", "! !="},
		{"<==", "<= ="}, {"<<=", "< <="}, {">>=", "> >="}, {">==", ">= ="}, {"<>", "< >"}, {"=<", "= <"}, {"=>", "= >"}, {"--", "- -"}, {"-=", "- ="}, {"+=", "+ ="}, {"**", "* *"}, {"//", "/ /"}, {"/*", "/ *"},
		{"&&&&", "&& &&"}, {"||||", "|| ||"}, {"&&||", "&& ||"}, {"()", "( )"}, {"[[", "[ ["}, {"]]", "] ]"}, {"{{}}", "{ { } }"}, {",,;;", ", , ; ;"}, {"%=", "% ="}, {"!-", "! -"},
	} {
		at := 0
		for _, sign := range strings.Fields(row.signs) {
			w := next(row.text, at).word
			if w.Kind != api.WSign || w.S != sign {
				t.Errorf("%q at %d: %#v; want %s", row.text, at, w, sign)
				break
			}
			at = w.End
		}
	}
	for _, none := range []string{"&", "|", "& &", "| |", "&a", "|a", "&|", "|&", "&=", "|=", "&\n&", "|#\n|"} {
		wantNone(t, none)
	}
	wantNext(t, "&&&", 2, fails(api.ErrToken, 1))
	wantNext(t, "|||", 2, fails(api.ErrToken, 1))
}

// P8.1: texts: each byte between quotes by itself, and behind a \.
func TestTextsByteByByte(t *testing.T) {
	for i := range 256 {
		x := string([]byte{byte(i)})
		switch {
		case x == `"`:
			wantNext(t, `"""`, 0, told(api.WText, "", 0, 1, 0, 2))
		case i < 32 || x == `\`:
			wantNone(t, `"`+x+`"`)
			wantNone(t, `"ab`+x+`cd"`)
		default:
			wantWhole(t, `"`+x+`"`, api.WText, x, 0)
			wantWhole(t, `"ab`+x+`cd"`, api.WText, "ab"+x+"cd", 0)
		}
		switch x {
		case `"`, `\`:
			wantWhole(t, `"\`+x+`"`, api.WText, x, 0)
			wantWhole(t, `"n\`+x+`n"`, api.WText, "n"+x+"n", 0)
		case "n":
			wantWhole(t, `"\n"`, api.WText, "\n", 0)
			wantWhole(t, `"n\nn"`, api.WText, "n\nn", 0)
		default:
			wantNone(t, `"\`+x+`"`)
			wantNone(t, `"ab\`+x+`"`)
		}
	}
}

// P8.1: texts: each \xHH, and that no other digits do.
func TestTextsInHex(t *testing.T) {
	for i := range 256 {
		for j := range 256 {
			text := `"\x` + string([]byte{byte(i), byte(j)}) + `"`
			high, low := strings.IndexByte("0123456789abcdef", byte(i)), strings.IndexByte("0123456789abcdef", byte(j))
			if high >= 0 && low >= 0 {
				wantWhole(t, text, api.WText, string([]byte{byte(16*high + low)}), 0)
			} else {
				wantNone(t, text)
			}
		}
	}
	for _, none := range []string{`"\x"`, `"\x0"`, `"\x0`, `"\x`, `"\x00`, `"\X00"`, `"\xAb"`, `"\xaB"`, `"\xg0"`, `"\x0g"`, `"\x 0"`, `"\x-1"`, `"\x+1"`, `"\u0041"`, `"\101"`, `"\0"`, `"\t"`, `"\r"`, `"\N"`, `"\'"`, `"\a"`} {
		wantNone(t, none)
	}
	wantWhole(t, `"\x000"`, api.WText, "\x000", 0)
	wantWhole(t, `"\x0aa"`, api.WText, "\na", 0)
}

// P8.1: texts, from one " to the next one that is not said.
func TestTexts(t *testing.T) {
	for text, says := range map[string]string{
		`""`: "", `"a"`: "a", `" "`: " ", `"a b"`: "a b", `"# no remark"`: "# no remark", `"let"`: "let", `"'"`: "'", `"1"`: "1",
		`"\"\\\n"`: "\"\\\n", `"\\\\"`: `\\`, `"\\n"`: `\n`, `"\\x41"`: `\x41`, `"\\\""`: `\"`, `"\x41\x42"`: "AB", `"\x22"`: `"`, `"\x5c"`: `\`, `"\x5cn"`: `\n`, `"\x0a\x00\xff"`: "\n\x00\xff",
		"\"\x7f\x80\xff\"": "\x7f\x80\xff", "\"\xc3\xa4\"": "\xc3\xa4", "\"\xc3\"": "\xc3",
	} {
		wantWhole(t, text, api.WText, says, 0)
		for _, behind := range []string{`"`, `""`, "a", " ", "\n", "1", "+", "#", "@", `\`} {
			wantNext(t, text+behind, 0, told(api.WText, says, 0, 1, 0, len(text)))
		}
		wantNone(t, text[:len(text)-1])
		wantNone(t, text[:len(text)-1]+"\n\"")
		wantNext(t, "\n #\n "+text, 0, told(api.WText, says, 0, 3, 5, 5+len(text)))
		wantNext(t, "\n #\n "+text[:len(text)-1], 0, fails(api.ErrToken, 3))
	}
	for _, none := range []string{`"`, `"\`, `"\"`, `"\\\"`, `"a`, `"\n`, `"ab\"`, "\"a\nb\"", "\"\\\n\"", "\"\ta\"", "\"a\x00\"", "\"\r\"", "\"\x1f\""} {
		wantNone(t, none)
	}
}

// P8.1: the line is that of the token's, or the fault's, begin, counted from the program's begin.
func TestLines(t *testing.T) {
	for _, row := range []struct {
		text           string
		at, line, from int
	}{
		{"a", 0, 1, 0}, {"\na", 0, 2, 1}, {"\na", 1, 2, 1}, {"\n\n\na", 0, 4, 3}, {"\n\n\na", 2, 4, 3}, {"b\na", 1, 2, 2}, {"b\nb\na", 4, 3, 4},
		{"\r\na", 0, 2, 2}, {"\ra", 0, 1, 1}, {"\x0d\x0d\x0aa", 0, 2, 3}, {"#\na", 0, 2, 2}, {"##\n#\n\na", 0, 4, 6}, {"# x\ta\r\na", 0, 2, 7}, {" \t# \"\n\t a", 0, 2, 8},
		{"\"\n\"\na", 3, 3, 4}, {"b # x\n # y\n a", 1, 3, 12}, {"#\n#\n#\na", 1, 4, 6}, {"# a", 1, 1, 2}, {"# a\na", 2, 1, 2}, {"\n# a", 2, 2, 3}, {"\na\n\n", 0, 2, 1}, {"#\x00\xff\x01\na", 0, 2, 5},
	} {
		end := row.from + 1
		wantNext(t, row.text, row.at, told(api.WName, "a", 0, row.line, row.from, end))
		faulty := row.text[:row.from] + "@" + row.text[end:]
		wantNext(t, faulty, row.at, fails(api.ErrToken, row.line))
		wantNext(t, row.text[:row.from], row.at, told(api.WEnd, "", 0, row.line, row.from, row.from))
		open := row.text[:row.from] + "\"" + row.text[end:]
		wantNext(t, open, row.at, fails(api.ErrToken, row.line))
	}
}

// P8.1: a place within something is a begin like any other.
func TestWithin(t *testing.T) {
	text := "abc 123 \"d e\\\"\" ++ # f \"g\"\nlet"
	for at, wanted := range map[int]answer{
		0: told(api.WName, "abc", 0, 1, 0, 3), 1: told(api.WName, "bc", 0, 1, 1, 3), 2: told(api.WName, "c", 0, 1, 2, 3), 3: told(api.WInt, "", 123, 1, 4, 7),
		5: told(api.WInt, "", 23, 1, 5, 7), 6: told(api.WInt, "", 3, 1, 6, 7), 7: told(api.WText, "d e\"", 0, 1, 8, 15), 9: told(api.WName, "d", 0, 1, 9, 10),
		10: told(api.WName, "e", 0, 1, 11, 12), 12: fails(api.ErrToken, 1), 13: told(api.WText, "", 0, 1, 13, 15), 14: told(api.WText, " ++ # f ", 0, 1, 14, 24), 15: told(api.WSign, "++", 0, 1, 16, 18),
		17: told(api.WSign, "+", 0, 1, 17, 18), 18: told(api.WKey, "let", 0, 2, 27, 30), 19: told(api.WKey, "let", 0, 2, 27, 30), 20: told(api.WName, "f", 0, 1, 21, 22),
		22: told(api.WText, "g", 0, 1, 23, 26), 25: fails(api.ErrToken, 1), 26: told(api.WKey, "let", 0, 2, 27, 30), 28: told(api.WName, "et", 0, 2, 28, 30), 30: told(api.WEnd, "", 0, 2, 30, 30),
	} {
		wantNext(t, text, at, wanted)
	}
}

// wantSecond tells at which place of text Next did not answer what the tests' own way says.
func wantSecond(t *testing.T, text string) {
	t.Helper()
	for at := range len(text) + 1 {
		if got, wanted := next(text, at), second(text, at); got != wanted {
			t.Fatalf("Next(%q, %d) = %#v; want %#v", text, at, got, wanted)
		}
	}
}

// P8.1: all short texts of bytes that tokens turn on.
func TestAllShortTexts(t *testing.T) {
	const of = "anx09f\"\\\n #+=&\x00\xff"
	var all func(text string, more int)
	all = func(text string, more int) {
		wantSecond(t, text)
		for i := 0; more > 0 && i < len(of); i++ {
			all(text+of[i:i+1], more-1)
		}
	}
	all("", 4)
}

// P8.1: all pairs of bytes.
func TestAllPairs(t *testing.T) {
	for i := range 1 << 16 {
		wantSecond(t, string([]byte{byte(i >> 8), byte(i)}))
	}
}

// P8.1: texts by chance, of pieces with and without anything between them.
func TestTextsByChance(t *testing.T) {
	pieces := append(append([]string{
		" ", "\t", "\n", "\r", "#", "# x\n", "\"", "\\", "\\n", "\\\"", "\\\\", "\\x", "\\x0", "\\x4f", "\"\"", "\"a b\"", "\"\\\"", "a", "b9", "_", "0", "7", "922337203685477580", "9223372036854775807",
		"&", "|", "@", "\x00", "\x1f", "\x7f", "\x80", "\xff", "\xc3\xa4", "'", "$", "~",
	}, allKeys...), allSigns...)
	r := rand.New(rand.NewPCG(8, 1))
	for range 5000 {
		var text strings.Builder
		for range r.IntN(30) {
			text.WriteString(pieces[r.IntN(len(pieces))])
		}
		wantSecond(t, text.String())
	}
	for range 5000 {
		bytes := make([]byte, r.IntN(40))
		for i := range bytes {
			bytes[i] = byte(r.IntN(256))
		}
		wantSecond(t, string(bytes))
	}
}

// P8.1: whole programs, put together of tokens that are known: each of them is told, one by one.
func TestPrograms(t *testing.T) {
	r := rand.New(rand.NewPCG(8, 2))
	gaps := []string{" ", "\n", "\t", "\r\n", " # r\n", "#\n", "  \n\n", "# \"x\" 1 += \xff\x00\n "}
	for range 300 {
		var text strings.Builder
		var wanted []answer
		gap := func() {
			text.WriteString(gaps[r.IntN(len(gaps))])
		}
		put := func(shape string, kind api.WordKind, s string, n int64) {
			gap()
			at, line := text.Len(), 1+strings.Count(text.String(), "\n")
			text.WriteString(shape)
			wanted = append(wanted, told(kind, s, n, line, at, text.Len()))
		}
		for range 100 {
			switch r.IntN(5) {
			case 0:
				n := r.Int64() >> r.IntN(63)
				put(fmt.Sprint(n), api.WInt, "", n)
			case 1:
				s := fmt.Sprintf("%c%x", 'g'+rune(r.IntN(20)), r.Uint32())
				put(s, api.WName, s, 0)
			case 2:
				key := allKeys[r.IntN(len(allKeys))]
				put(key, api.WKey, key, 0)
			case 3:
				sign := allSigns[r.IntN(len(allSigns))]
				put(sign, api.WSign, sign, 0)
			case 4:
				s := fmt.Sprintf("t%d \xff", r.IntN(1000))
				put(`"`+s+`\n\x07"`, api.WText, s+"\n\a", 0)
			}
		}
		gap()
		all := text.String()
		wanted = append(wanted, told(api.WEnd, "", 0, 1+strings.Count(all, "\n"), len(all), len(all)))
		at := 0
		for _, w := range wanted {
			wantNext(t, all, at, w)
			at = w.word.End
		}
		wantNext(t, all, at, wanted[len(wanted)-1])
	}
}

// R4: an answer hangs on its arguments alone, whatever was asked ahead of it.
func TestAgain(t *testing.T) {
	texts := []string{"let x = 1;", "\"a\\n\"", "@", "", strings.Repeat("a", mostSource+1), "# x\n+"}
	ask := func() []answer {
		var all []answer
		for _, text := range texts {
			for at := -1; at < 12; at++ {
				all = append(all, next(text, at))
			}
		}
		return all
	}
	first := fmt.Sprint(ask())
	for range 3 {
		if again := fmt.Sprint(ask()); again != first {
			t.Fatalf("at first %s, then %s", first, again)
		}
	}
}

// P8.2: each byte as it is quoted.
func TestQuoteByteByByte(t *testing.T) {
	for i := range 256 {
		x := string([]byte{byte(i)})
		shape := x
		switch {
		case x == `"`:
			shape = `\"`
		case x == `\`:
			shape = `\\`
		case x == "\n":
			shape = `\n`
		case i < 32 || i > 126:
			shape = fmt.Sprintf(`\x%02x`, i)
		}
		for s, q := range map[string]string{x: `"` + shape + `"`, x + x: `"` + shape + shape + `"`, "a" + x + "0": `"a` + shape + `0"`} {
			if got := words.Quote(s); got != q {
				t.Errorf("Quote(%q) = %s; want %s", s, got, q)
			}
		}
	}
}

// P8.2: some texts as they are quoted.
func TestQuote(t *testing.T) {
	for s, q := range map[string]string{
		"": `""`, "a": `"a"`, "a b": `"a b"`, "\n\"\\\x7f~": `"\n\"\\\x7f~"`, "\t\r\x00\x1f ": `"\x09\x0d\x00\x1f "`, "\xc3\xa4": `"\xc3\xa4"`, "\xff\xfe": `"\xff\xfe"`, `\n`: `"\\n"`, `\x41`: `"\\x41"`, "#'": `"#'"`, "\u2028": `"\xe2\x80\xa8"`,
	} {
		if got := words.Quote(s); got != q {
			t.Errorf("Quote(%q) = %s; want %s", s, got, q)
		}
	}
	many := strings.Repeat("\x01", 1<<20)
	if q := words.Quote(many); q != `"`+strings.Repeat(`\x01`, 1<<20)+`"` {
		t.Errorf("Quote of 2^20 bytes 1 has %d bytes", len(q))
	}
}

// wantBack tells what Next makes of s, quoted, if it is not s.
func wantBack(t *testing.T, s string) {
	t.Helper()
	q := words.Quote(s)
	if len(q) > mostSource {
		wantNext(t, q, 0, fails(api.ErrLong, 0))
		return
	}
	if got, wanted := next(q, 0), told(api.WText, s, 0, 1, 0, len(q)); got != wanted {
		t.Fatalf("Next(%.80q, 0) = %.300s; want %.80q", q, fmt.Sprintf("%#v", got), s)
	}
}

// P8.3: what is quoted says what it was.
func TestQuoteBack(t *testing.T) {
	wantBack(t, "")
	for i := range 1 << 16 {
		wantBack(t, string([]byte{byte(i >> 8), byte(i)}))
	}
	r := rand.New(rand.NewPCG(8, 3))
	for range 2000 {
		s := make([]byte, r.IntN(200))
		for i := range s {
			s[i] = "\"\\nx0a\n\x00\xff\x7f #"[r.IntN(12)]
		}
		wantBack(t, string(s))
		for i := range s {
			s[i] = byte(r.IntN(256))
		}
		wantBack(t, string(s))
	}
	for _, piece := range []string{"a", "\"", "\\", "\n", "\x00", "\xff"} {
		size := len(words.Quote(piece)) - 2
		most := (mostSource - 2) / size
		for _, n := range []int{most - 1, most, most + 1, most + 2} {
			wantBack(t, strings.Repeat(piece, n))
		}
	}
}
