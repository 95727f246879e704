package eval_test

import (
	"strings"
	"testing"

	"tillage/api"
	"tillage/eval"
)

// times: n things that are alike.
func times[T any](n int, x T) []T {
	var l []T
	for range n {
		l = append(l, x)
	}
	return l
}

func file(name string, lines ...string) api.File { return api.File{Name: name, Lines: lines} }

// named: files without lines, one for each letter.
func named(letters string) []api.File {
	var l []api.File
	for _, c := range letters {
		l = append(l, file(string(c)))
	}
	return l
}

var (
	full = strings.Repeat("x", api.MaxText)
	over = full + "x"
)

// P3.1: which files and lines may be.
func TestCheckWorld(t *testing.T) {
	for _, c := range []struct {
		what  string
		files []api.File
		lines []string
		want  api.Errno
	}{
		{"nothing", nil, nil, api.OK},
		{"empty lists", []api.File{}, []string{}, api.OK},
		{"one of each", []api.File{file("tab", "one", "two")}, []string{"1", "x"}, api.OK},
		{"empty texts", []api.File{file("", "")}, []string{""}, api.OK},
		{"names that are no names of programs", []api.File{file("A\n1"), file("\xff")}, nil, api.OK},
		{"other bytes", []api.File{file("a", "\x00\r\t\xff")}, []string{"\x00\r\t\xff\v"}, api.OK},
		{"lines that are alike", []api.File{file("a", "x", "x"), file("b", "x", "x")}, []string{"x", "x"}, api.OK},
		{"as many as may be", named("abcdefgh"), times(api.MaxLines, ""), api.OK},
		{"as long as may be", []api.File{file(full, times(api.MaxKeys, full)...)}, []string{full}, api.OK},

		{"too many files", named("abcdefghi"), nil, api.ErrSize},
		{"too many lines", nil, times(api.MaxLines+1, ""), api.ErrSize},
		{"too many lines of a file", []api.File{file("a", times(api.MaxKeys+1, "")...)}, nil, api.ErrSize},
		{"too long a name", []api.File{file(over)}, nil, api.ErrSize},
		{"two of a name", []api.File{file("a"), file("b"), file("a")}, nil, api.ErrTwice},
		{"two without a name", []api.File{file(""), file("")}, nil, api.ErrTwice},
		{"too long a line of a file", []api.File{file("a", "", over)}, nil, api.ErrForm},
		{"a line feed in a file", []api.File{file("a", "", "x\ny")}, nil, api.ErrForm},
		{"too long a line", nil, []string{"", over}, api.ErrForm},
		{"a line feed in a line", nil, []string{"", "\n"}, api.ErrForm},

		{"too many files, two of a name", times(api.MaxFiles+1, file("a", "\n")), nil, api.ErrSize},
		{"too many lines, two of a name", times(2, file("a", "\n")), times(api.MaxLines+1, ""), api.ErrSize},
		{"too many lines, that are too long", nil, times(api.MaxLines+1, over), api.ErrSize},
		{"too many lines in one of two of a name", []api.File{file("a"), file("a", times(101, "")...)}, nil, api.ErrSize},
		{"two of a name that is too long", times(2, file(over)), nil, api.ErrSize},
		{"too long a name, a line feed", []api.File{file(over, "\n")}, nil, api.ErrSize},
		{"too many lines, that are too long, of a file", []api.File{file("a", times(101, over)...)}, nil, api.ErrSize},
		{"two of a name, a line feed in the second one", []api.File{file("a"), file("a", "\n")}, nil, api.ErrTwice},
		{"two of a name, a line feed in the first one", []api.File{file("a", "\n"), file("a")}, nil, api.ErrForm},
		{"a line feed, then too long a name", []api.File{file("a", "\n"), file(over)}, nil, api.ErrForm},
		{"a line feed in a line, too long a name", []api.File{file(over)}, []string{"\n"}, api.ErrSize},
		{"a line feed in a line, two of a name", named("aa"), []string{"\n"}, api.ErrTwice},
	} {
		if e := eval.CheckWorld(c.files, c.lines); e != c.want {
			t.Errorf("%s: %v, want %v", c.what, e, c.want)
		}
	}
}
