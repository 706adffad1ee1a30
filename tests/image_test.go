package tests

import (
	"bytes"
	"encoding/binary"
	"fmt"
	"maps"
	"path"
	"regexp"
	"slices"
	"strings"
	"testing"

	"loop.example/g00777/impl"
)

var plainPath = regexp.MustCompile(`^/[a-z0-9._/-]*$`)

// plainFilesOk tells whether files are right, by the words of the document.
func plainFilesOk(l []impl.File) bool {
	for i, f := range l {
		isPath := plainPath.MatchString(f.Path) && len(f.Path) <= impl.MaxPath
		if !isPath || f.Path == "/" || path.Clean(f.Path) != f.Path || len(f.Text) > impl.MaxText {
			return false
		}
		if i > 0 && bytes.Compare([]byte(l[i-1].Path), []byte(f.Path)) >= 0 {
			return false
		}
	}
	return len(l) <= impl.MaxFiles
}

// plainImage is the image of any files, be they right or not.
func plainImage(l []impl.File) string {
	image := binary.AppendUvarint([]byte("f"), uint64(len(l)))
	for _, f := range l {
		for _, part := range []string{f.Path, f.Text} {
			image = append(binary.AppendUvarint(image, uint64(len(part))), part...)
		}
	}
	return string(image)
}

// plainRead reads an image freely, and takes it where the files are right and their image is that very one.
func plainRead(s string) ([]impl.File, bool) {
	if s == "" {
		return nil, false
	}
	count, used := binary.Uvarint([]byte(s[1:]))
	if used <= 0 || count > impl.MaxFiles {
		return nil, false
	}
	rest := s[1+used:]
	parts := []string{}
	for range 2 * count {
		n, used := binary.Uvarint([]byte(rest))
		if used <= 0 || n > uint64(len(rest)-used) {
			return nil, false
		}
		parts, rest = append(parts, rest[used:used+int(n)]), rest[used+int(n):]
	}
	l := []impl.File{}
	for i := 0; i < len(parts); i += 2 {
		l = append(l, impl.File{Path: parts[i], Text: parts[i+1]})
	}
	if !plainFilesOk(l) || plainImage(l) != s {
		return nil, false
	}
	return l, true
}

// textsByPath and filesByPath turn right files into a map and back.
func textsByPath(l []impl.File) map[string]string {
	texts := map[string]string{}
	for _, f := range l {
		texts[f.Path] = f.Text
	}
	return texts
}

func filesByPath(texts map[string]string) []impl.File {
	l := []impl.File{}
	for _, p := range slices.Sorted(maps.Keys(texts)) {
		l = append(l, impl.File{Path: p, Text: texts[p]})
	}
	return l
}

func plainPut(l []impl.File, x impl.File) ([]impl.File, bool) {
	if !plainFilesOk(l) {
		return nil, false
	}
	texts := textsByPath(l)
	texts[x.Path] = x.Text
	if put := filesByPath(texts); plainFilesOk(put) {
		return put, true
	}
	return l, false
}

func plainDrop(l []impl.File, p string) ([]impl.File, bool) {
	if !plainFilesOk(l) {
		return nil, false
	}
	texts := textsByPath(l)
	delete(texts, p)
	return filesByPath(texts), len(texts) < len(l)
}

func plainChanged(a, b []impl.File) []string {
	if !plainFilesOk(a) || !plainFilesOk(b) {
		return nil
	}
	was, is := textsByPath(a), textsByPath(b)
	both := maps.Clone(was)
	maps.Copy(both, is)
	maps.DeleteFunc(both, func(p, _ string) bool {
		before, had := was[p]
		after, has := is[p]
		return had && has && before == after
	})
	return slices.Sorted(maps.Keys(both))
}

// short is what is told of files in a message.
func short(l []impl.File) string {
	return fmt.Sprintf("%.400s", fmt.Sprintf("%q", l))
}

// wantImage asks that right files have that image, and that it is read as them.
func wantImage(t *testing.T, l []impl.File, want string) {
	t.Helper()
	s := impl.ShowFiles(l)
	if s != want {
		t.Errorf("ShowFiles(%s) is %.400q, not %.400q", short(l), s, want)
	}
	read, ok := impl.ReadFiles(want)
	if !ok || !slices.Equal(read, l) {
		t.Errorf("ReadFiles(%.400q) is %s, %v, not %s", want, short(read), ok, short(l))
	}
	if again := impl.ShowFiles(read); again != want {
		t.Errorf("ShowFiles of ReadFiles(%.400q) is %.400q", want, again)
	}
}

func wantNoImage(t *testing.T, s string) {
	t.Helper()
	if l, ok := impl.ReadFiles(s); ok || len(l) != 0 {
		t.Errorf("ReadFiles(%.400q) is %s, %v, but no files have that image", s, short(l), ok)
	}
}

// wantReadAs holds ReadFiles of any text against the plain rules; it tells whether there are files.
func wantReadAs(t *testing.T, s string) bool {
	t.Helper()
	l, ok := impl.ReadFiles(s)
	if want, isOk := plainRead(s); ok != isOk || !slices.Equal(l, want) {
		t.Fatalf("ReadFiles(%.400q) is %s, %v, not %s, %v", s, short(l), ok, short(want), isOk)
	}
	if again := impl.ShowFiles(l); ok && again != s {
		t.Fatalf("ReadFiles(%.400q) is %s, whose image is %.400q", s, short(l), again)
	}
	return ok
}

// wantPut holds PutFile against the plain rules, and what it tells against Find and Changed; it tells whether it was put.
func wantPut(t *testing.T, l []impl.File, x impl.File) bool {
	t.Helper()
	put, ok := impl.PutFile(l, x)
	if want, isOk := plainPut(l, x); ok != isOk || !slices.Equal(put, want) {
		t.Fatalf("PutFile(%s, %.60q) is %s, %v, not %s, %v", short(l), x, short(put), ok, short(want), isOk)
	}
	if !ok {
		return false
	}
	if text, found := impl.Find(put, x.Path); !found || text != x.Text {
		t.Fatalf("behind PutFile(%s, %.60q) Find tells %.60q, %v", short(l), x, text, found)
	}
	wantOthers(t, l, put, x.Path)
	before, had := impl.Find(l, x.Path)
	wantChange(t, l, put, x.Path, !had || before != x.Text)
	return true
}

// wantDrop is the same of DropFile.
func wantDrop(t *testing.T, l []impl.File, p string) bool {
	t.Helper()
	left, ok := impl.DropFile(l, p)
	if want, isOk := plainDrop(l, p); ok != isOk || !slices.Equal(left, want) {
		t.Fatalf("DropFile(%s, %.60q) is %s, %v, not %s, %v", short(l), p, short(left), ok, short(want), isOk)
	}
	if text, found := impl.Find(left, p); found || text != "" {
		t.Fatalf("behind DropFile(%s, %.60q) Find tells %.60q, %v", short(l), p, text, found)
	}
	if impl.FilesOk(l) {
		wantOthers(t, l, left, p)
		wantChange(t, l, left, p, ok)
	}
	return ok
}

// wantOthers asks that all files but that of one path are the same in both.
func wantOthers(t *testing.T, a, b []impl.File, but string) {
	t.Helper()
	for _, f := range slices.Concat(a, b) {
		was, had := impl.Find(a, f.Path)
		is, has := impl.Find(b, f.Path)
		if f.Path != but && (was != is || !had || !has) {
			t.Fatalf("%q is not the same in %s and %s", f.Path, short(a), short(b))
		}
	}
}

// wantChange asks that Changed tells one path, or none, both ways.
func wantChange(t *testing.T, a, b []impl.File, p string, isChanged bool) {
	t.Helper()
	want := []string{}
	if isChanged {
		want = append(want, p)
	}
	wantChanged(t, a, b, want...)
}

func wantChanged(t *testing.T, a, b []impl.File, want ...string) {
	t.Helper()
	if got := impl.Changed(a, b); !slices.Equal(got, want) {
		t.Fatalf("Changed(%s, %s) is %q, not %q", short(a), short(b), got, want)
	}
	if got := impl.Changed(b, a); !slices.Equal(got, want) {
		t.Fatalf("Changed(%s, %s) is %q, not %q", short(b), short(a), got, want)
	}
}

// fullFiles are as many files as there may be, with room for paths ahead of them, between them and behind them.
func fullFiles() []impl.File {
	l := []impl.File{}
	for i := range impl.MaxFiles {
		l = append(l, impl.File{Path: fmt.Sprintf("/f%d", i), Text: strings.Repeat("x", i)})
	}
	return l
}

// greatFiles have the longest paths and texts that there may be.
func greatFiles() []impl.File {
	l := []impl.File{}
	for i := range impl.MaxFiles {
		text := strings.Repeat(string([]byte{byte(255 - i)}), impl.MaxText)
		l = append(l, impl.File{Path: longPath(impl.MaxPath-1) + string(rune('a'+i)), Text: text})
	}
	return l
}

// wrongFiles are files that are not right, each for another reason.
func wrongFiles() map[string][]impl.File {
	a, b := impl.File{Path: "/a", Text: "one"}, impl.File{Path: "/b", Text: "two"}
	long := strings.Repeat("x", impl.MaxText+1)
	wrong := map[string][]impl.File{
		"two of one path": {a, a}, "two of one path and texts": {a, {Path: "/a", Text: "two"}}, "two of one path behind": {a, b, b}, "two of one path apart": {a, b, a},
		"falling": {b, a}, "falling by a beginning": {{Path: "/a/b"}, a}, "falling behind": {a, {Path: "/c"}, b}, "falling by a byte": {{Path: "/a/b"}, {Path: "/a-"}},
		"too many": append(fullFiles(), impl.File{Path: "/z"}), "one of an empty path": {{}}, "an empty path ahead": {{Text: "x"}, a}, "an empty path behind": {a, {}},
		"the root": {{Path: "/"}}, "the root ahead": {{Path: "/"}, a}, "a long text": {{Path: "/a", Text: long}}, "a long text behind": {a, {Path: "/b", Text: long}},
		"a path too long": {{Path: longPath(impl.MaxPath + 1)}}, "a path too long behind": {a, {Path: longPath(impl.MaxPath + 1)}},
	}
	for _, p := range slices.Concat(noPaths(), uncleanPaths()) {
		wrong[fmt.Sprintf("the path %.60q", p)] = []impl.File{{Path: p, Text: "x"}}
	}
	return wrong
}

// uncleanPaths are paths that no file may have.
func uncleanPaths() []string {
	return []string{"/", "//", "/a/", "//a", "/a//b", "/.", "/./a", "/a/.", "/a/./b", "/..", "/../a", "/a/..", "/a/../b", "/a/b/../c", "/f0/", "//f0", "/f0/../f0"}
}

func TestShowFilesTexts(t *testing.T) {
	each := ""
	for i := range 256 {
		each += string([]byte{byte(i)})
	}
	for _, c := range []struct {
		pairs []string
		want  string
	}{
		{nil, "f\x00"},
		{[]string{"/a", "hi"}, "f\x01\x02/a\x02hi"},
		{[]string{"/a", ""}, "f\x01\x02/a\x00"},
		{[]string{"/a", "", "/b", ""}, "f\x02\x02/a\x00\x02/b\x00"},
		{[]string{"/a", "hi", "/b", ""}, "f\x02\x02/a\x02hi\x02/b\x00"},
		// A path that begins as another one does, and texts that look like images.
		{[]string{"/a", "f\x01\x02/a\x00", "/a/b", "f\x00", "/aa", "\x00"}, "f\x03\x02/a\x06f\x01\x02/a\x00\x04/a/b\x02f\x00\x03/aa\x01\x00"},
		{[]string{"/a-", "1", "/a.", "2", "/a/b", "3", "/a0", "4", "/a_", "5"}, "f\x05\x03/a-\x011\x03/a.\x012\x04/a/b\x013\x03/a0\x014\x03/a_\x015"},
		// Where the Var of a length has one byte more.
		{[]string{"/a", strings.Repeat("x", 127)}, "f\x01\x02/a\x7f" + strings.Repeat("x", 127)},
		{[]string{"/a", strings.Repeat("x", 128)}, "f\x01\x02/a\x80\x01" + strings.Repeat("x", 128)},
		{[]string{"/a", each, "/b", each}, "f\x02\x02/a\x80\x02" + each + "\x02/b\x80\x02" + each},
		{[]string{"/a", strings.Repeat("ä", 2)}, "f\x01\x02/a\x04\xc3\xa4\xc3\xa4"},
		// The limits, met exactly.
		{[]string{"/a", strings.Repeat("\x00", 1500)}, "f\x01\x02/a\xdc\x0b" + strings.Repeat("\x00", 1500)},
		{[]string{longPath(40), "x"}, "f\x01\x28" + longPath(40) + "\x01x"},
		{[]string{"/a", "", "/b", "", "/c", "", "/d", "", "/e", "", "/f", "", "/g", "", "/h", ""}, "f\x08\x02/a\x00\x02/b\x00\x02/c\x00\x02/d\x00\x02/e\x00\x02/f\x00\x02/g\x00\x02/h\x00"},
	} {
		wantImage(t, filesOf(c.pairs...), c.want)
	}
	for _, l := range [][]impl.File{fullFiles(), greatFiles(), memoryFiles()} {
		wantImage(t, l, plainImage(l))
	}
}

func TestShowFilesOfFilesThatAreNotRight(t *testing.T) {
	for what, l := range wrongFiles() {
		if plainFilesOk(l) {
			t.Fatalf("%s: these are right", what)
		}
		if s := impl.ShowFiles(l); s != "" {
			t.Errorf("%s: ShowFiles is %.400q", what, s)
		}
		// What would be their image is none.
		wantNoImage(t, plainImage(l))
		wantReadAs(t, plainImage(l))
	}
}

func TestReadFilesRefuses(t *testing.T) {
	most := "\xff\xff\xff\xff\xff\xff\x7f"
	for _, s := range []string{
		"", "f", "\x00", "\x00\x00", "F\x00", "g\x00", "e\x00", " f\x00", "ff\x00", "\xe6\x00", "c\x00", "f\x00f", "f\x00\x00", "f\x00\n",
		// Vars with a byte that is not needed: of the count, of a Path, of a Text.
		"f\x80\x00", "f\x80\x80\x00", "f\x81\x00\x02/a\x00", "f\x88\x80\x00", "f\x01\x82\x00/a\x00", "f\x01\x82\x80\x00/a\x00", "f\x01\x02/a\x80\x00", "f\x01\x02/a\x82\x00hi",
		// A Var that has no end, or is none.
		"f\x80", "f\xff", "f\x01\x82", "f\x01\x02/a\x80", "f\x01\x02/a\xff\xff\xff", "f" + strings.Repeat("\x80", 7) + "\x01", "f\x01" + strings.Repeat("\xff", 20),
		// A count below and above what stands there.
		"f\x00\x02/a\x00", "f\x01", "f\x02\x02/a\x00", "f\x01\x02/a\x00\x02/b\x00", "f\x03\x02/a\x00\x02/b\x00", "f\x08\x02/a\x00", "f\x09", "f\xff\x01", "f" + most, "f" + most + "\x02/a\x00",
		// A length below and above what stands there.
		"f\x01\x01/a\x00", "f\x01\x03/a\x00", "f\x01\x02/a\x01", "f\x01\x02/a\x01hi", "f\x01\x02/a\x03hi", "f\x01\x02/a\x00hi", "f\x01\x02/a", "f\x01\x02/", "f\x01\x02",
		"f\x01" + most + "/a\x00", "f\x01\x02/a" + most, "f\x01\x02/a" + most + "hi", "f\x02\x02/a" + most + "\x02/b\x00",
		// Files that are not right.
		"f\x02\x02/a\x00\x02/a\x00", "f\x02\x02/a\x01x\x02/a\x01y", "f\x02\x02/b\x00\x02/a\x00", "f\x01\x01/\x00", "f\x01\x00\x00", "f\x01\x01a\x00", "f\x01\x02/A\x00", "f\x01\x03/a/\x00", "f\x01\x03//a\x00",
		"f\x02\x04/a/b\x00\x02/a\x00", "f\x01\x29" + longPath(41) + "\x00", "f\x01\x02/a\xdd\x0b" + strings.Repeat("x", 1501), "f\x09\x02/a\x00\x02/b\x00\x02/c\x00\x02/d\x00\x02/e\x00\x02/f\x00\x02/g\x00\x02/h\x00\x02/i\x00",
		strings.Repeat("f", 1<<16), strings.Repeat("\xff", 1<<16), strings.Repeat("\x00", 1<<16), "f\x01\x02/a" + impl.Var(1<<16) + strings.Repeat("x", 1<<16),
	} {
		wantNoImage(t, s)
		wantReadAs(t, s)
	}
}

func TestReadFilesOfImagesCutShort(t *testing.T) {
	for _, l := range [][]impl.File{nil, filesOf("/a", "hi"), filesOf("/a", "hi", "/b", ""), fullFiles(), greatFiles(), memoryFiles()} {
		s := impl.ShowFiles(l)
		for n := range len(s) {
			wantNoImage(t, s[:n])
			wantNoImage(t, s[n+1:])
		}
		for c := range 256 {
			wantNoImage(t, s+string([]byte{byte(c)}))
		}
		wantNoImage(t, s+s)
		wantNoImage(t, s+"f\x00")
	}
}

func TestReadFilesOfImagesWithAnotherByte(t *testing.T) {
	images := 0
	for _, l := range [][]impl.File{nil, filesOf("/a", "hi"), filesOf("/a", "hi", "/b", ""), filesOf("/a", "f\x00", "/a/b", "\x80", "/aa", "/b"), filesOf("/b", strings.Repeat("x", 130)), fullFiles()} {
		s := impl.ShowFiles(l)
		for at := range len(s) {
			for c := range 256 {
				one := string([]byte{byte(c)})
				for _, text := range []string{s[:at] + one + s[at+1:], s[:at] + one + s[at:]} {
					if wantReadAs(t, text) && text != s {
						images++
					}
				}
			}
		}
	}
	// Another byte of a Text, and some of a Path, make another image.
	if images < 1000 {
		t.Errorf("%d images alone are read: that tells too little", images)
	}
}

func TestReadFilesOfAllShortTexts(t *testing.T) {
	texts, last, images := []string{}, []string{"f\x00", "f\x01", "f\x02\x02/a", "f\x02\x02/a\x00", "", "g"}, 0
	for range 6 {
		longer := []string{}
		for _, s := range last {
			for _, c := range "\x00\x01\x02\x03/ab" {
				longer = append(longer, s+string(c))
			}
		}
		texts, last = append(texts, last...), longer
	}
	for _, s := range texts {
		if wantReadAs(t, s) {
			images++
		}
	}
	if images < 10 {
		t.Errorf("%d of the texts alone are images: that tells too little", images)
	}
}

func TestPutFilePlaces(t *testing.T) {
	l := filesOf("/a", "1", "/b", "2", "/d", "3")
	for _, c := range []struct {
		files []impl.File
		x     impl.File
		want  []impl.File
	}{
		{nil, impl.File{Path: "/a", Text: "x"}, filesOf("/a", "x")},
		{nil, impl.File{Path: "/a"}, filesOf("/a", "")},
		// Ahead of all, between two, behind all.
		{l, impl.File{Path: "/0", Text: "x"}, filesOf("/0", "x", "/a", "1", "/b", "2", "/d", "3")},
		{l, impl.File{Path: "/c", Text: "x"}, filesOf("/a", "1", "/b", "2", "/c", "x", "/d", "3")},
		{l, impl.File{Path: "/aa", Text: "x"}, filesOf("/a", "1", "/aa", "x", "/b", "2", "/d", "3")},
		{l, impl.File{Path: "/e", Text: "x"}, filesOf("/a", "1", "/b", "2", "/d", "3", "/e", "x")},
		// In the place of another one; with the same text, and with none.
		{l, impl.File{Path: "/a", Text: "x"}, filesOf("/a", "x", "/b", "2", "/d", "3")},
		{l, impl.File{Path: "/b", Text: "x"}, filesOf("/a", "1", "/b", "x", "/d", "3")},
		{l, impl.File{Path: "/d", Text: "x"}, filesOf("/a", "1", "/b", "2", "/d", "x")},
		{l, impl.File{Path: "/b", Text: "2"}, l},
		{l, impl.File{Path: "/b"}, filesOf("/a", "1", "/b", "", "/d", "3")},
		// A path that begins as another one does.
		{l, impl.File{Path: "/b/a"}, filesOf("/a", "1", "/b", "2", "/b/a", "", "/d", "3")},
		{filesOf("/b/a", "1"), impl.File{Path: "/b"}, filesOf("/b", "", "/b/a", "1")},
		{filesOf("/b/a", "1"), impl.File{Path: "/b-"}, filesOf("/b-", "", "/b/a", "1")},
		{filesOf("/b/a", "1"), impl.File{Path: "/b0"}, filesOf("/b/a", "1", "/b0", "")},
	} {
		if got, ok := impl.PutFile(c.files, c.x); !ok || !slices.Equal(got, c.want) {
			t.Errorf("PutFile(%q, %q) is %q, %v, not %q", c.files, c.x, got, ok, c.want)
		}
		wantPut(t, c.files, c.x)
	}
}

func TestPutFileAtTheLimits(t *testing.T) {
	full, text := fullFiles(), strings.Repeat("y", impl.MaxText)
	for _, p := range []string{"/a", "/f", "/f00", "/f3/a", "/z"} {
		if got, ok := impl.PutFile(full, impl.File{Path: p, Text: "x"}); ok || !slices.Equal(got, full) {
			t.Errorf("PutFile of %q is %s, %v, but there are as many as may be", p, short(got), ok)
		}
		if !wantPut(t, full[1:], impl.File{Path: p, Text: "x"}) {
			t.Errorf("%q is not put, but there are fewer than may be", p)
		}
	}
	for i, f := range full {
		got, ok := impl.PutFile(full, impl.File{Path: f.Path, Text: text})
		if !ok || len(got) != len(full) || got[i] != (impl.File{Path: f.Path, Text: text}) {
			t.Errorf("PutFile of %q is %s, %v, but it makes no file more", f.Path, short(got), ok)
		}
		wantPut(t, full, impl.File{Path: f.Path, Text: text})
	}
	for _, l := range [][]impl.File{nil, full[:3], full} {
		for _, p := range []string{"/a", "/f0", "/f2", "/z"} {
			if got, ok := impl.PutFile(l, impl.File{Path: p, Text: text + "y"}); ok || !slices.Equal(got, l) {
				t.Errorf("PutFile of %q with a text too long is %s, %v", p, short(got), ok)
			}
			wantPut(t, l, impl.File{Path: p, Text: text + "y"})
		}
	}
	for _, p := range []string{longPath(impl.MaxPath), "/" + strings.Repeat("z", impl.MaxPath-1), "/" + strings.Repeat("-", impl.MaxPath-1)} {
		if !wantPut(t, full[1:], impl.File{Path: p, Text: text}) {
			t.Errorf("%q is not put", p)
		}
		if wantPut(t, full[1:], impl.File{Path: p + "z", Text: text}) {
			t.Errorf("%q is put", p+"z")
		}
	}
}

func TestPutFileOfWrongPaths(t *testing.T) {
	for _, p := range slices.Concat(noPaths(), uncleanPaths()) {
		for _, l := range [][]impl.File{nil, fullFiles()[:3], fullFiles(), greatFiles()} {
			if got, ok := impl.PutFile(l, impl.File{Path: p, Text: "x"}); ok || !slices.Equal(got, l) {
				t.Errorf("PutFile(%s) of the path %.60q is %s, %v", short(l), p, short(got), ok)
			}
			wantPut(t, l, impl.File{Path: p})
		}
	}
}

func TestDropFilePlaces(t *testing.T) {
	l := filesOf("/a", "1", "/a/b", "", "/aa", "3", "/b", "3")
	for i, f := range l {
		want := slices.Concat(l[:i], l[i+1:])
		if got, ok := impl.DropFile(l, f.Path); !ok || !slices.Equal(got, want) {
			t.Errorf("DropFile of %q is %q, %v, not %q", f.Path, got, ok, want)
		}
	}
	if got, ok := impl.DropFile(filesOf("/a", "x"), "/a"); !ok || len(got) != 0 {
		t.Errorf("DropFile of the only one is %q, %v", got, ok)
	}
	for _, files := range [][]impl.File{nil, l, fullFiles(), greatFiles()} {
		for _, f := range files {
			if !wantDrop(t, files, f.Path) {
				t.Errorf("%q is not dropped", f.Path)
			}
		}
		for _, p := range slices.Concat(noPaths(), uncleanPaths(), []string{"/c", "/a/", "/a/b/", "/a/bb", "/aaa", "/A", longPath(impl.MaxPath)[:impl.MaxPath-1]}) {
			if got, ok := impl.DropFile(files, p); ok || !slices.Equal(got, files) {
				t.Errorf("DropFile(%s) of %.60q is %s, %v, but there is none", short(files), p, short(got), ok)
			}
			wantDrop(t, files, p)
		}
	}
}

func TestChangedTells(t *testing.T) {
	l := filesOf("/a", "1", "/b", "", "/d", "1")
	for _, c := range []struct {
		a, b []impl.File
		want []string
	}{
		{nil, nil, nil}, {l, l, nil}, {l, slices.Clone(l), nil}, {nil, l, []string{"/a", "/b", "/d"}},
		{l, filesOf("/a", "2", "/b", "", "/d", "1"), []string{"/a"}}, {l, filesOf("/a", "1", "/b", "2", "/d", "1"), []string{"/b"}}, {l, filesOf("/a", "1", "/b", "", "/d", ""), []string{"/d"}},
		{l, filesOf("/a", "2", "/b", "2", "/d", "2"), []string{"/a", "/b", "/d"}}, {l, filesOf("/a", "1", "/b", ""), []string{"/d"}}, {l, filesOf("/b", "", "/d", "1"), []string{"/a"}},
		// Files that one has and the other one has not, on both sides, and the same texts at other paths.
		{l, filesOf("/0", "1", "/c", "", "/e", "1"), []string{"/0", "/a", "/b", "/c", "/d", "/e"}},
		{l, filesOf("/a", "1", "/b", "", "/c", "1"), []string{"/c", "/d"}}, {l, filesOf("/a", "", "/b", "1", "/d", "1"), []string{"/a", "/b"}},
		{l, filesOf("/0", "1", "/a", "2", "/b", "", "/e", ""), []string{"/0", "/a", "/d", "/e"}},
		// Paths of which one begins as another one does.
		{filesOf("/a", "1", "/aa", "1"), filesOf("/a", "1", "/a/b", "1"), []string{"/a/b", "/aa"}}, {filesOf("/a", "1"), filesOf("/a/b", "1"), []string{"/a", "/a/b"}},
		{filesOf("/a/b", "1"), filesOf("/a-", "1", "/a0", "1"), []string{"/a-", "/a/b", "/a0"}},
		{filesOf("/a", "1 "), filesOf("/a", "1"), []string{"/a"}}, {filesOf("/a", "\x00"), filesOf("/a", ""), []string{"/a"}},
	} {
		wantChanged(t, c.a, c.b, c.want...)
	}
	// As many as there may be on both sides, all unlike.
	first, second, want := fullFiles(), greatFiles(), []string{}
	for _, f := range slices.Concat(second, first) {
		want = append(want, f.Path)
	}
	wantChanged(t, first, second, want...)
}

func TestFilesThatAreNotRightArePutNowhere(t *testing.T) {
	right := filesOf("/a", "one", "/b", "two")
	for what, l := range wrongFiles() {
		for _, p := range []string{"/a", "/b", "/c", "/z", "/", "", l[0].Path, l[len(l)-1].Path} {
			if got, ok := impl.PutFile(l, impl.File{Path: p, Text: "x"}); ok || len(got) != 0 {
				t.Errorf("%s: PutFile of %.60q is %s, %v", what, p, short(got), ok)
			}
			if got, ok := impl.DropFile(l, p); ok || len(got) != 0 {
				t.Errorf("%s: DropFile of %.60q is %s, %v", what, p, short(got), ok)
			}
		}
		for _, other := range [][]impl.File{nil, right, l, fullFiles()} {
			wantChanged(t, l, other)
		}
	}
}
