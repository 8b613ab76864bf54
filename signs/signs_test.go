package signs

import (
	"math"
	"strings"
	"testing"
	"unicode/utf8"
)

// mixedTexts has texts of up to three pieces, of signs of one to four bytes, the edges of their numbers, and bytes that belong to no sign.
func mixedTexts() []string {
	pieces := []string{"a", "b", "%", "_", "\x00", "\x7f", "\u0080", "é", "\u07ff", "\u0800", "日", "\ud7ff", "\ue000", "\ufffd", "\uffff", "\U00010000", "\U0010ffff", "\x80", "\xff", "\xed\xa0\x80", "\xe6\x97", "\xf4\x90"}
	out := []string{""}
	last := out
	for range 3 {
		var longer []string
		for _, s := range last {
			for _, p := range pieces {
				longer = append(longer, s+p)
			}
		}
		out = append(out, longer...)
		last = longer
	}
	return out
}

func TestP21Count(t *testing.T) {
	for s, want := range map[string]int{
		"": 0, "a": 1, "aé": 2, "日本x": 3, "\x00\x00": 2, "\U0010ffff": 1, "e\u0301": 2,
		"\xff": 1, "a\xff": 2, "\xffa": 2, "a\xffb": 3, "\xff\xfe": 2, "\xe6\x97": 2, "\xe6\x97a": 3, "a\xe6\x97": 3,
		"\xed\xa0\x80": 3, "\xf4\x90\x80\x80": 4, "\xc0\x80": 2, "\xff\ufffd": 2, "aé日\U0001f600\xff": 5,
	} {
		if got := Count(s); got != want {
			t.Errorf("Count(%q) = %d; want %d", s, got, want)
		}
	}
	for _, s := range mixedTexts() {
		if got := Count(s); got != utf8.RuneCountInString(s) {
			t.Fatalf("Count(%q) = %d", s, got)
		}
	}
}

func TestP21Clean(t *testing.T) {
	for s, want := range map[string]bool{
		"": true, "a": true, "aé日\U0001f600": true, "\x00": true, "\ud7ff\ue000": true, "\U0010ffff": true, "\ufffd": true, "a\ufffdb\ufffd": true,
		"\xff": false, "a\xff": false, "\xffa": false, "a\xffb": false, "\x80": false, "\xe6\x97": false, "a\xe6\x97": false, "\xe6\x97a": false,
		"\xed\xa0\x80": false, "\xed\xbf\xbf": false, "\xf4\x90\x80\x80": false, "\xc0\x80": false, "\ufffd\xff": false, "\xff\ufffd": false, "\xef\xbf": false, "\xef": false,
	} {
		if got := Clean(s); got != want {
			t.Errorf("Clean(%q) = %v; want %v", s, got, want)
		}
	}
	for _, s := range mixedTexts() {
		if got := Clean(s); got != utf8.ValidString(s) {
			t.Fatalf("Clean(%q) = %v", s, got)
		}
	}
}

func TestP21First(t *testing.T) {
	for _, c := range []struct {
		s    string
		n    int
		want string
	}{
		{"", 0, ""}, {"", 1, ""}, {"", -1, ""}, {"", math.MaxInt, ""}, {"", math.MinInt, ""},
		{"日本x", math.MinInt, ""}, {"日本x", -1, ""}, {"日本x", 0, ""}, {"日本x", 1, "日"}, {"日本x", 2, "日本"}, {"日本x", 3, "日本x"}, {"日本x", 4, "日本x"}, {"日本x", math.MaxInt, "日本x"},
		{"aé日\U0001f600z", 1, "a"}, {"aé日\U0001f600z", 2, "aé"}, {"aé日\U0001f600z", 3, "aé日"}, {"aé日\U0001f600z", 4, "aé日\U0001f600"},
		{"\xff", 0, ""}, {"\xff", 1, "\xff"}, {"a\xff", 1, "a"}, {"a\xff", 2, "a\xff"}, {"a\xffb", 2, "a\xff"}, {"\xe6\x97b", 1, "\xe6"}, {"\xe6\x97b", 2, "\xe6\x97"},
		{"\xed\xa0\x80", 2, "\xed\xa0"}, {"\ufffdb", 1, "\ufffd"},
	} {
		if got := First(c.s, c.n); got != c.want {
			t.Errorf("First(%q, %d) = %q; want %q", c.s, c.n, got, c.want)
		}
	}
	for _, s := range mixedTexts() {
		for n := -1; n <= 10; n++ {
			got := First(s, n)
			if !strings.HasPrefix(s, got) || Count(got) != min(max(n, 0), Count(s)) {
				t.Fatalf("First(%q, %d) = %q", s, n, got)
			}
		}
	}
}

func TestP22Above(t *testing.T) {
	const top = "\U0010ffff"
	for _, c := range []struct {
		s    string
		n    int
		want string
		ok   bool
	}{
		{"abc", 1, "b", true}, {"abc", 2, "ac", true}, {"a日x", 2, "a\u65e6", true}, {"ééé", 1, "ê", true}, {"\U0001f600\U0001f600", 1, "\U0001f601", true},
		{"abc", 3, "abc", true}, {"abc", 4, "abc", true}, {"abc", math.MaxInt, "abc", true}, {"a", 1, "a", true}, {"a", 2, "a", true},
		{"", 0, "", true}, {"", 1, "", true}, {"", -1, "", false}, {"a", 0, "", false}, {"a", -1, "", false}, {"abc", math.MinInt, "", false},
		{"\x00\x00", 1, "\x01", true}, {"\x7fx", 1, "\u0080", true}, {"\u07ffx", 1, "\u0800", true}, {"\uffffx", 1, "\U00010000", true}, {"\ufffdx", 1, "\ufffe", true}, {"\U0010fffex", 1, top, true},
		{"\ud7ffx", 1, "\ue000", true}, {"a\ud7ffx", 2, "a\ue000", true}, {"\ud7fe\ud7ff", 1, "\ud7ff", true}, {"\ue000x", 1, "\ue001", true},
		{top + "x", 1, "", false}, {top + top + top, 2, "", false}, {top, 1, top, true}, {top + top, 2, top + top, true},
		{"a" + top + "b", 2, "b", true}, {"a" + top + top + "b", 3, "b", true}, {"ab" + top + "c", 3, "ac", true}, {top + "a" + top + "b", 3, top + "b", true}, {top + "ab", 1, "", false},
		{"\xff", 0, "", false}, {"\xff", 1, "", false}, {"\xff", 9, "", false}, {"a\xff", 1, "", false}, {"a\xff", 2, "", false}, {"a\xff", 3, "", false}, {"a\xffb", 1, "", false}, {"a\xffb", 9, "", false}, {"\xffab", 2, "", false}, {"\xed\xa0\x80", 3, "", false}, {"ab\xe6\x97", 1, "", false},
	} {
		if got, ok := Above(c.s, c.n); got != c.want || ok != c.ok {
			t.Errorf("Above(%q, %d) = %q, %v; want %q, %v", c.s, c.n, got, ok, c.want, c.ok)
		}
	}
}

func TestP23Like(t *testing.T) {
	for _, c := range []struct {
		s, pattern string
		want       bool
	}{
		{"", "", true}, {"a", "", false}, {"", "a", false}, {"a", "a", true}, {"a", "b", false}, {"ab", "a", false}, {"a", "ab", false},
		{"", "%", true}, {"", "%%", true}, {"a", "%", true}, {"日本", "%", true}, {"ab", "%%%", true}, {"", "%a", false}, {"", "a%", false},
		{"", "_", false}, {"a", "_", true}, {"日", "_", true}, {"\U0001f600", "_", true}, {"ab", "_", false}, {"ab", "__", true}, {"a", "__", false},
		{"abc", "a%", true}, {"abc", "%c", true}, {"abc", "%b%", true}, {"abc", "%bc%", true}, {"abc", "b%", false}, {"abc", "%b", false}, {"abc", "a%c", true}, {"ac", "a%c", true}, {"abcd", "a%c", false},
		{"abc", "_b_", true}, {"abc", "a_", false}, {"日本", "_本", true}, {"éa", "é_", true}, {"éa", "e_", false},
		{"abab", "%ab", true}, {"aba", "%ab", false}, {"aabab", "a%ab", true}, {"abcabd", "%ab_", true}, {"abcabd", "%abd", true}, {"abcabc", "%abd", false}, {"aaab", "%a_b", true}, {"mississippi", "m%iss%ip%i", true}, {"mississippi", "m%iss%iss%iss%", false},
		{"abcbd", "a%b%d", true}, {"abcbd", "a%c%c%", false}, {"abc", "%_", true}, {"", "%_", false}, {"a", "_%", true}, {"ab", "_%_", true}, {"a", "_%_", false}, {"ab", "%_%_%", true},
		{"a%", "a%", true}, {"%", "%", true}, {"%b", "%", true}, {"a_", "a_", true}, {"a%c", "a_c", true}, {"a_c", "a%c", true}, {"%%", "_", false}, {"A", "a", false}, {"a%b%c", "a%c", true},
		{"\xff", "_", true}, {"\xff", "%", true}, {"\xff", "\ufffd", true}, {"\ufffd", "\xff", true}, {"\xff", "\xfe", true}, {"\xff", "a", false}, {"\xff\xff", "_", false}, {"\xff\xff", "__", true}, {"\xe6\x97", "__", true}, {"\xe6\x97", "_", false}, {"a\xffb", "a_b", true}, {"a\xff", "a_", true}, {"\xffa", "%a", true}, {"a\xff", "a\xff%", true}, {"\ufffd", "\xef\xbf", false},
	} {
		if got := Like(c.s, c.pattern); got != c.want {
			t.Errorf("Like(%q, %q) = %v; want %v", c.s, c.pattern, got, c.want)
		}
	}
}

// stands is the promise of Like word by word, without any cleverness.
func stands(text, pattern []rune) bool {
	if len(pattern) == 0 {
		return len(text) == 0
	}
	if pattern[0] == '%' {
		return stands(text, pattern[1:]) || len(text) > 0 && stands(text[1:], pattern)
	}
	return len(text) > 0 && (pattern[0] == '_' || pattern[0] == text[0]) && stands(text[1:], pattern[1:])
}

// wordsOf has all texts of at most n signs out of an alphabet.
func wordsOf(alphabet string, n int) []string {
	out := []string{""}
	for i := 0; i < len(out); i++ {
		if Count(out[i]) == n {
			break
		}
		for _, r := range alphabet {
			out = append(out, out[i]+string(r))
		}
	}
	return out
}

func TestP23LikeOfAllShortPatterns(t *testing.T) {
	texts := append(wordsOf("ab", 5), wordsOf("日%_", 3)...)
	for _, s := range texts {
		for _, p := range append(wordsOf("ab%_", 5), wordsOf("日%_", 3)...) {
			if got, want := Like(s, p), stands([]rune(s), []rune(p)); got != want {
				t.Fatalf("Like(%q, %q) = %v; want %v", s, p, got, want)
			}
		}
	}
}

func TestP23LikeOfManyAnySignsEnds(t *testing.T) {
	text := strings.Repeat("a", 2000)
	if Like(text, strings.Repeat("%a", 500)+"b") {
		t.Error("a pattern that ends with b stands for a text of a alone")
	}
	if !Like(text, strings.Repeat("a%", 500)) {
		t.Error("a pattern of a and % doesn't stand for a text of a alone")
	}
}

func TestP24Turn(t *testing.T) {
	for s, want := range map[string]string{
		"": "", "a": "a", "ab": "ba", "aé日": "日éa", "日本x": "x本日", "\U0001f600a": "a\U0001f600", "e\u0301": "\u0301e", "\x00a": "a\x00", "\ufffda": "a\ufffd",
		"\xff": "\ufffd", "a\xff": "\ufffda", "\xffa": "a\ufffd", "a\xffb": "b\ufffda", "\xe6\x97a": "a\ufffd\ufffd", "a\xe6\x97": "\ufffd\ufffda", "\xed\xa0\x80": "\ufffd\ufffd\ufffd", "\x97\xe6": "\ufffd\ufffd",
	} {
		if got := Turn(s); got != want {
			t.Errorf("Turn(%q) = %q; want %q", s, got, want)
		}
	}
	for _, s := range mixedTexts() {
		if got := Turn(s); Count(got) != Count(s) || !Clean(got) {
			t.Fatalf("Turn(%q) = %q", s, got)
		}
	}
}

func TestP25AboveIsAheadOfNothingThatBeginsSo(t *testing.T) {
	const top = "\U0010ffff"
	endings := []string{"", "\x00", "a", top, strings.Repeat(top, 5)}
	for _, s := range mixedTexts() {
		for n := -1; n <= 4; n++ {
			above, ok := Above(s, n)
			if !ok {
				if above != "" {
					t.Fatalf("Above(%q, %d) = %q beside false", s, n, above)
				}
				continue
			}
			if above < s || Count(above) > max(n, 0) || !Clean(above) {
				t.Fatalf("Above(%q, %d) = %q", s, n, above)
			}
			if Count(s) <= n {
				continue
			}
			for _, e := range endings {
				if begun := First(s, n) + e; above < begun {
					t.Fatalf("Above(%q, %d) = %q, ahead of %q", s, n, above, begun)
				}
			}
		}
	}
}

func TestP25AboveIsMissingOnlyWhereNoSignHasANextOne(t *testing.T) {
	for _, s := range mixedTexts() {
		for n := 1; n <= 4; n++ {
			some := Count(s) <= n || strings.Trim(First(s, n), "\U0010ffff") != ""
			if _, ok := Above(s, n); ok != (some && utf8.ValidString(s)) {
				t.Fatalf("Above(%q, %d): %v", s, n, ok)
			}
		}
	}
}

func TestP25WhatHasNoAnySignsIsLikeItselfAlone(t *testing.T) {
	texts := append(wordsOf("ab日", 3), wordsOf("%_a", 3)...)
	for _, p := range texts {
		if strings.ContainsAny(p, "%_") {
			continue
		}
		for _, s := range texts {
			if Like(s, p) != (s == p) {
				t.Fatalf("Like(%q, %q) = %v", s, p, s != p)
			}
		}
	}
}

func TestP25TurnOfTurn(t *testing.T) {
	for _, s := range mixedTexts() {
		if got := Turn(Turn(s)); utf8.ValidString(s) && got != s {
			t.Fatalf("Turn of Turn of %q is %q", s, got)
		}
	}
}

func TestExamplesOfTheChapter(t *testing.T) {
	if Count("aé") != 2 || First("日本x", 2) != "日本" {
		t.Error("Count or First")
	}
	for _, c := range []struct {
		s    string
		want string
	}{{"abc", "ac"}, {"a", "a"}, {"a\U0010ffffb", "b"}} {
		if got, ok := Above(c.s, 2); got != c.want || !ok {
			t.Errorf("Above(%q, 2) = %q, %v", c.s, got, ok)
		}
	}
	if !Like("abc", "a%") || !Like("abc", "_b_") || !Like("a%", "a%") || Like("abc", "a_") {
		t.Error("Like")
	}
}
