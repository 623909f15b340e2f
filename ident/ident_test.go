package ident_test

import (
	"fmt"
	"math"
	"math/rand"
	"strings"
	"testing"

	"examboard/api"
	"examboard/ident"
)

// prefixes are those of the kinds 1 to 6, in their order.
var prefixes = []string{"ITM", "FRM", "CAN", "SES", "RAT", "AST"}

// digitPlaces are where the nine digits of an identifier stand.
var digitPlaces = []int{4, 5, 6, 7, 8, 9, 10, 12, 13}

// remainder is the reference: it divides the decimal digits by 97 by hand.
func remainder(decimal string) int {
	rest := 0
	for _, digit := range decimal {
		rest = (rest*10 + int(digit-'0')) % 97
	}
	return rest
}

// checkOf is the reference: the check digits of a kind and a number.
func checkOf(kind, n int) int {
	return 98 - remainder(fmt.Sprintf("%d%07d00", kind, n))
}

// textOf is the reference: the identifier of a kind and a number.
func textOf(kind, n int) string {
	return fmt.Sprintf("%s-%07d-%02d", prefixes[kind-1], n, checkOf(kind, n))
}

// numbers returns edges and random numbers, the same ones in every run.
func numbers(seed int64, count int) []int {
	all := []int{1, 2, 9, 10, 11, 96, 97, 98, 99, 100, 101, 999, 1000, 9999, 10000, 99999, 100000, 999999, 1000000, 1000001, 1234567, 7654321, 9000000, 9999998, api.MaxNumber}
	source := rand.New(rand.NewSource(seed))
	for range count {
		all = append(all, 1+source.Intn(api.MaxNumber))
	}
	return all
}

// fixed are identifiers that were computed apart from the program, among them
// the least numbers of each kind with the least and the greatest check digits
// and with those around 10.
var fixed = []struct {
	kind, n int
	text    string
	check   int
}{
	{api.IdItem, 1, "ITM-0000001-61", 61}, {api.IdItem, 9999999, "ITM-9999999-33", 33}, {api.IdItem, 7767976, "ITM-7767976-95", 95},
	{api.IdForm, 1, "FRM-0000001-27", 27}, {api.IdForm, 9999999, "FRM-9999999-96", 96}, {api.IdForm, 6263136, "FRM-6263136-07", 7},
	{api.IdCandidate, 1, "CAN-0000001-90", 90}, {api.IdCandidate, 9999999, "CAN-9999999-62", 62}, {api.IdCandidate, 4481773, "CAN-4481773-41", 41},
	{api.IdSession, 1, "SES-0000001-56", 56}, {api.IdSession, 9999999, "SES-9999999-28", 28}, {api.IdSession, 2324307, "SES-2324307-80", 80},
	{api.IdRater, 1, "RAT-0000001-22", 22}, {api.IdRater, 9999999, "RAT-9999999-91", 91}, {api.IdRater, 3122996, "RAT-3122996-73", 73},
	{api.IdAsset, 1, "AST-0000001-85", 85}, {api.IdAsset, 9999999, "AST-9999999-57", 57}, {api.IdAsset, 107964, "AST-0107964-79", 79},
	{1, 53, "ITM-0000053-02", 2}, {2, 74, "FRM-0000074-02", 2}, {3, 95, "CAN-0000095-02", 2}, {4, 19, "SES-0000019-02", 2}, {5, 40, "RAT-0000040-02", 2}, {6, 61, "AST-0000061-02", 2},
	{1, 85, "ITM-0000085-03", 3}, {2, 9, "FRM-0000009-03", 3}, {3, 30, "CAN-0000030-03", 3}, {4, 51, "SES-0000051-03", 3}, {5, 72, "RAT-0000072-03", 3}, {6, 93, "AST-0000093-03", 3},
	{1, 83, "ITM-0000083-09", 9}, {2, 7, "FRM-0000007-09", 9}, {3, 28, "CAN-0000028-09", 9}, {4, 49, "SES-0000049-09", 9}, {5, 70, "RAT-0000070-09", 9}, {6, 91, "AST-0000091-09", 9},
	{1, 18, "ITM-0000018-10", 10}, {2, 39, "FRM-0000039-10", 10}, {3, 60, "CAN-0000060-10", 10}, {4, 81, "SES-0000081-10", 10}, {5, 5, "RAT-0000005-10", 10}, {6, 26, "AST-0000026-10", 10},
	{1, 86, "ITM-0000086-97", 97}, {2, 10, "FRM-0000010-97", 97}, {3, 31, "CAN-0000031-97", 97}, {4, 52, "SES-0000052-97", 97}, {5, 73, "RAT-0000073-97", 97}, {6, 94, "AST-0000094-97", 97},
	{1, 21, "ITM-0000021-98", 98}, {2, 42, "FRM-0000042-98", 98}, {3, 63, "CAN-0000063-98", 98}, {4, 84, "SES-0000084-98", 98}, {5, 8, "RAT-0000008-98", 98}, {6, 29, "AST-0000029-98", 98},
}

// expectPrint checks Print and Check, which have the same errors.
func expectPrint(t *testing.T, kind, n int, text string, check int, want api.Errno) {
	t.Helper()
	if got, e := ident.Print(kind, n); got != text || e != want {
		t.Errorf("Print(%d, %d): %q, %d, expected %q, %d", kind, n, got, e, text, want)
	}
	if got, e := ident.Check(kind, n); got != check || e != want {
		t.Errorf("Check(%d, %d): %d, %d, expected %d, %d", kind, n, got, e, check, want)
	}
}

func expectParse(t *testing.T, s string, kind, n int, want api.Errno) {
	t.Helper()
	if gotKind, gotN, e := ident.Parse(s); gotKind != kind || gotN != n || e != want {
		t.Errorf("Parse(%q): %d, %d, %d, expected %d, %d, %d", s, gotKind, gotN, e, kind, n, want)
	}
}

// replaced returns s with another byte at a place.
func replaced(s string, place int, b byte) string {
	return s[:place] + string([]byte{b}) + s[place+1:]
}

func TestExamplesOfTheChapter(t *testing.T) {
	expectPrint(t, api.IdItem, 1, "ITM-0000001-61", 61, api.OK)
	expectParse(t, "ITM-0000001-61", 1, 1, api.OK)
	expectParse(t, "ITM-0000001-62", 0, 0, api.ErrDigest)
	expectPrint(t, api.IdCandidate, 9999999, "CAN-9999999-62", 62, api.OK)
	expectPrint(t, 7, 0, "", 0, api.ErrInvalid)
	expectPrint(t, 1, 0, "", 0, api.ErrRange)
	expectPrint(t, 1, 10000000, "", 0, api.ErrRange)
	for _, s := range []string{"itm-0000001-61", "ITM 0000001-61", "ITM-000001-61", "ITM-0000001-6"} {
		expectParse(t, s, 0, 0, api.ErrSyntax)
	}
	expectParse(t, "ITM-0000000-00", 0, 0, api.ErrRange)
}

func TestP9_1PrintAndCheck(t *testing.T) {
	for _, c := range fixed {
		expectPrint(t, c.kind, c.n, c.text, c.check, api.OK)
	}
	for kind := range prefixes {
		for _, n := range numbers(1, 2000) {
			expectPrint(t, kind+1, n, textOf(kind+1, n), checkOf(kind+1, n), api.OK)
		}
	}
}

// Every number is checked: one more adds 100 to v * 100, which is 3 modulo 97.
func TestP9_1CheckOfEveryNumber(t *testing.T) {
	for kind := 1; kind <= 6; kind++ {
		rest := remainder(fmt.Sprintf("%d000000000", kind))
		for n := 1; n <= api.MaxNumber; n++ {
			rest = (rest + 3) % 97
			if check, e := ident.Check(kind, n); check != 98-rest || e != api.OK {
				t.Fatalf("Check(%d, %d): %d, %d, expected %d", kind, n, check, e, 98-rest)
			}
		}
	}
}

func TestP9_1ErrorsOfPrintAndCheck(t *testing.T) {
	kinds := []int{math.MinInt, math.MinInt + 1, math.MinInt32, -7, -6, -1, 0, 7, 8, 49, 1 << 8, 1<<8 + 1, 1 << 32, 1<<32 + 1, 1<<62 + 6, math.MaxInt - 1, math.MaxInt}
	wrong := []int{math.MinInt, math.MinInt + 1, math.MinInt32, -api.MaxNumber, -2, -1, 0, api.MaxNumber + 1, api.MaxNumber + 2, 2*api.MaxNumber + 2, 1 << 32, 1<<32 + 1, 1<<62 + 1, math.MaxInt - 1, math.MaxInt}
	right := []int{1, 2, 5000000, api.MaxNumber}
	for _, kind := range kinds {
		for _, n := range append(right, wrong...) {
			expectPrint(t, kind, n, "", 0, api.ErrInvalid)
		}
	}
	for kind := 1; kind <= 6; kind++ {
		for _, n := range wrong {
			expectPrint(t, kind, n, "", 0, api.ErrRange)
		}
	}
}

func TestP9_1Parse(t *testing.T) {
	for _, c := range fixed {
		expectParse(t, c.text, c.kind, c.n, api.OK)
	}
}

func TestP9_1ParseOfOtherLengths(t *testing.T) {
	expectParse(t, "", 0, 0, api.ErrSyntax)
	expectParse(t, strings.Repeat("ITM-0000001-61", 100000), 0, 0, api.ErrSyntax)
	for _, c := range fixed {
		for end := range c.text {
			expectParse(t, c.text[:end], 0, 0, api.ErrSyntax)
			expectParse(t, c.text[end+1:], 0, 0, api.ErrSyntax)
			expectParse(t, c.text[:end]+c.text[end+1:], 0, 0, api.ErrSyntax)
			expectParse(t, c.text[:end]+c.text[end:end+1]+c.text[end:], 0, 0, api.ErrSyntax)
			expectParse(t, c.text[:end]+"0"+c.text[end:], 0, 0, api.ErrSyntax)
		}
		for _, more := range []string{"0", "-", " ", "\n", "\x00", "\xff"} {
			expectParse(t, c.text+more, 0, 0, api.ErrSyntax)
			expectParse(t, more+c.text, 0, 0, api.ErrSyntax)
		}
	}
}

func TestP9_1ParseOfOtherPrefixes(t *testing.T) {
	valid := map[string]bool{}
	for _, prefix := range prefixes {
		valid[prefix] = true
	}
	// Every first, second and third letter of the six prefixes, in both cases.
	for _, first := range "IFCSRAifcsra " {
		for _, second := range "TRAESatres\x00" {
			for _, third := range "MNSTmnst-" {
				prefix := string(first) + string(second) + string(third)
				for kind := 1; !valid[prefix] && kind <= 6; kind++ {
					expectParse(t, prefix+textOf(kind, 1)[3:], 0, 0, api.ErrSyntax)
				}
			}
		}
	}
	for _, prefix := range []string{"ABC", "   ", "---", "000", "\x00\x00\x00", "\xff\xff\xff", "É ", "MTI", "TMI"} {
		expectParse(t, prefix+"-0000001-61", 0, 0, api.ErrSyntax)
	}
	// The form is looked at before the number, and both before the check digits.
	for _, rest := range []string{"-0000000-00", "-0000001-00", "-0000000-61"} {
		expectParse(t, "ITN"+rest, 0, 0, api.ErrSyntax)
		expectParse(t, "itm"+rest, 0, 0, api.ErrSyntax)
	}
	expectParse(t, strings.ToLower(textOf(6, api.MaxNumber)), 0, 0, api.ErrSyntax)
}

func TestP9_1ParseOfOtherBytes(t *testing.T) {
	for kind := 1; kind <= 6; kind++ {
		for _, n := range []int{1, 1000000, api.MaxNumber, 5306070} {
			text := textOf(kind, n)
			for b := range 256 {
				for _, place := range []int{3, 11} {
					if b != '-' {
						expectParse(t, replaced(text, place, byte(b)), 0, 0, api.ErrSyntax)
						expectParse(t, replaced("ITM-0000000-00", place, byte(b)), 0, 0, api.ErrSyntax)
					}
				}
				for _, place := range digitPlaces {
					if b < '0' || b > '9' {
						expectParse(t, replaced(text, place, byte(b)), 0, 0, api.ErrSyntax)
						expectParse(t, replaced("ITM-0000000-00", place, byte(b)), 0, 0, api.ErrSyntax)
					}
				}
			}
		}
	}
	// Digits and signs of other notations.
	for _, s := range []string{"ITM-+000001-61", "ITM--000001-61", "ITM- 000001-61", "ITM-000_001-61", "ITM-0x00001-61", "ITM-000001.-61", "ITM-1e00000-61", "ITM-0000001-+1", "ITM-0000001--1", "ITM-0000001- 2", "ITM-00000٣-61", "ITM-0000001-٣"} {
		expectParse(t, s, 0, 0, api.ErrSyntax)
	}
}

func TestP9_1ParseOfTheNumberZero(t *testing.T) {
	for _, prefix := range prefixes {
		for check := range 100 {
			expectParse(t, fmt.Sprintf("%s-0000000-%02d", prefix, check), 0, 0, api.ErrRange)
		}
	}
}

func TestP9_1ParseOfOtherCheckDigits(t *testing.T) {
	for kind := 1; kind <= 6; kind++ {
		for _, n := range append(numbers(2, 50), 53, 74, 95, 19, 40, 61, 85, 21, 42, 63, 84, 8, 29) {
			for check := range 100 {
				if check != checkOf(kind, n) {
					expectParse(t, fmt.Sprintf("%s-%07d-%02d", prefixes[kind-1], n, check), 0, 0, api.ErrDigest)
				}
			}
			for other := 1; other <= 6; other++ {
				if other != kind {
					expectParse(t, prefixes[other-1]+textOf(kind, n)[3:], 0, 0, api.ErrDigest)
				}
			}
		}
	}
	// 00 and 01 leave the remainders that 97 and 98 leave, and are wrong.
	for _, s := range []string{"ITM-0000086-00", "AST-0000094-00", "ITM-0000021-01", "AST-0000029-01", "SES-0000019-99", "ITM-0000053-99"} {
		expectParse(t, s, 0, 0, api.ErrDigest)
	}
	for other := 2; other <= 97; other++ {
		expectParse(t, fmt.Sprintf("ITM-%07d-61", other), 0, 0, api.ErrDigest)
	}
	expectParse(t, "ITM-0000098-61", 1, 98, api.OK)
}

func TestP9_2ParseInvertsPrint(t *testing.T) {
	for kind := 1; kind <= 6; kind++ {
		for _, n := range numbers(3, 20000) {
			s, e := ident.Print(kind, n)
			if e != api.OK {
				t.Fatalf("Print(%d, %d): %d", kind, n, e)
			}
			expectParse(t, s, kind, n, api.OK)
		}
	}
}

// No string but an identifier is accepted: the strings differ from identifiers
// in one to three bytes of their alphabet.
func TestP9_2WhatParseAccepts(t *testing.T) {
	const alphabet = "0123456789-ITMFRCANSE"
	source := rand.New(rand.NewSource(4))
	accepted := 0
	for range 300000 {
		text := []byte(textOf(1+source.Intn(6), 1+source.Intn(api.MaxNumber)))
		for range 1 + source.Intn(3) {
			text[source.Intn(len(text))] = alphabet[source.Intn(len(alphabet))]
		}
		expectPrintedIfAccepted(t, string(text), &accepted)
	}
	for _, prefix := range prefixes {
		for range 100000 {
			expectPrintedIfAccepted(t, fmt.Sprintf("%s-%07d-%02d", prefix, source.Intn(300), source.Intn(100)), &accepted)
		}
	}
	if accepted < 1000 {
		t.Errorf("only %d strings were accepted", accepted)
	}
}

func expectPrintedIfAccepted(t *testing.T, s string, accepted *int) {
	t.Helper()
	kind, n, e := ident.Parse(s)
	if e != api.OK {
		return
	}
	*accepted++
	if text, e := ident.Print(kind, n); text != s || e != api.OK {
		t.Errorf("Parse(%q): %d, %d, for which Print returns %q, %d", s, kind, n, text, e)
	}
}

// expectRefused checks that Parse answers with no error of the form, since the
// form is right.
func expectRefused(t *testing.T, s, original string) {
	t.Helper()
	want := api.ErrDigest
	if s[4:11] == "0000000" {
		want = api.ErrRange
	}
	if kind, n, e := ident.Parse(s); kind != 0 || n != 0 || e != want {
		t.Errorf("Parse(%q), made of %q: %d, %d, %d, expected %d", s, original, kind, n, e, want)
	}
}

func TestP9_3AReplacedDigit(t *testing.T) {
	for kind := 1; kind <= 6; kind++ {
		for _, n := range numbers(5, 300) {
			text, _ := ident.Print(kind, n)
			for _, place := range digitPlaces {
				for digit := byte('0'); digit <= '9'; digit++ {
					if digit != text[place] {
						expectRefused(t, replaced(text, place, digit), text)
					}
				}
			}
		}
	}
}

func TestP9_3TwoExchangedDigits(t *testing.T) {
	exchanged := make([]int, len(digitPlaces))
	for kind := 1; kind <= 6; kind++ {
		for _, n := range numbers(6, 3000) {
			text, _ := ident.Print(kind, n)
			for i, place := range digitPlaces[1:] {
				before := digitPlaces[i]
				if text[before] != text[place] {
					exchanged[i]++
					expectRefused(t, replaced(replaced(text, before, text[place]), place, text[before]), text)
				}
			}
		}
	}
	for i, count := range exchanged[:len(digitPlaces)-1] {
		if count < 1000 {
			t.Errorf("the digits at %d and %d were exchanged only %d times", digitPlaces[i], digitPlaces[i+1], count)
		}
	}
}

func TestP9_4Remainder(t *testing.T) {
	for kind := 1; kind <= 6; kind++ {
		for _, n := range numbers(7, 20000) {
			text, e := ident.Print(kind, n)
			if e != api.OK || len(text) != 14 {
				t.Fatalf("Print(%d, %d): %q, %d", kind, n, text, e)
			}
			// v * 100 plus the check digits, in decimal.
			if rest := remainder(fmt.Sprint(kind) + text[4:11] + text[12:]); rest != 1 {
				t.Errorf("%q leaves %d", text, rest)
			}
		}
	}
}

// P2: the same arguments have the same results, whatever was called before.
func TestP2SameResults(t *testing.T) {
	for range 3 {
		for _, c := range fixed {
			expectPrint(t, c.kind, c.n, c.text, c.check, api.OK)
			expectParse(t, c.text, c.kind, c.n, api.OK)
			expectParse(t, c.text+"0", 0, 0, api.ErrSyntax)
			expectPrint(t, c.kind, -c.n, "", 0, api.ErrRange)
		}
	}
}
