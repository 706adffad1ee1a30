package tests

import (
	"math/rand"
	"slices"
	"strings"
	"testing"

	"loop.example/g00777/impl"
)

// smallFiles are all files of four paths, each lacking or with one of three texts.
func smallFiles() [][]impl.File {
	all := [][]impl.File{{}}
	for _, p := range []string{"/a", "/a/b", "/aa", "/b"} {
		more := [][]impl.File{}
		for _, l := range all {
			more = append(more, l)
			for _, text := range []string{"", "x", "/a"} {
				more = append(more, append(slices.Clone(l), impl.File{Path: p, Text: text}))
			}
		}
		all = more
	}
	return all
}

func TestImagesOfAllSmallFiles(t *testing.T) {
	seen := map[string]int{}
	for _, l := range smallFiles() {
		wantImage(t, l, plainImage(l))
		seen[impl.ShowFiles(l)]++
	}
	if len(seen) != len(smallFiles()) {
		t.Errorf("%d files have %d images", len(smallFiles()), len(seen))
	}
}

func TestPutAndDropOfAllSmallFiles(t *testing.T) {
	for _, l := range smallFiles() {
		for _, p := range []string{"/a", "/a/b", "/aa", "/b", "/0", "/a-", "/a0", "/c", "/", "", "/a/", "b"} {
			for _, text := range []string{"", "x", "/a", "y"} {
				wantPut(t, l, impl.File{Path: p, Text: text})
			}
			wantDrop(t, l, p)
		}
	}
}

func TestChangedOfAllSmallFiles(t *testing.T) {
	for _, a := range smallFiles() {
		for _, b := range smallFiles() {
			wantChanged(t, a, b, plainChanged(a, b)...)
		}
	}
}

// anyFiles are lists of up to n of some files, in any order, right ones and wrong ones.
func anyFiles(n int) [][]impl.File {
	some := []impl.File{{Path: "/a"}, {Path: "/a", Text: "x"}, {Path: "/a/b"}, {Path: "/aa", Text: "x"}, {Path: "/b"}, {Path: "/"}, {}}
	all, last := [][]impl.File{nil}, [][]impl.File{nil}
	for range n {
		longer := [][]impl.File{}
		for _, l := range last {
			for _, f := range some {
				longer = append(longer, append(slices.Clone(l), f))
			}
		}
		all, last = append(all, longer...), longer
	}
	return all
}

func TestImagesOfAnyFiles(t *testing.T) {
	right := 0
	for _, l := range anyFiles(4) {
		want := ""
		if plainFilesOk(l) {
			want = plainImage(l)
			right++
		}
		if got := impl.ShowFiles(l); got != want {
			t.Fatalf("ShowFiles(%q) is %q, not %q", l, got, want)
		}
		wantReadAs(t, plainImage(l))
		for _, f := range []impl.File{{Path: "/a", Text: "y"}, {Path: "/aa"}, {Path: "/c"}, {Path: "/"}} {
			wantPut(t, l, f)
			wantDrop(t, l, f.Path)
		}
	}
	if right < 20 {
		t.Errorf("%d of the files alone are right: that tells too little", right)
	}
}

func TestChangedOfAnyFiles(t *testing.T) {
	for _, a := range anyFiles(2) {
		for _, b := range anyFiles(2) {
			wantChanged(t, a, b, plainChanged(a, b)...)
		}
	}
}

// oddFile is a file that is often right, and often one of a path that was put already.
func oddFile(r *rand.Rand) impl.File {
	paths := []string{"/a", "/a/b", "/a-", "/aa", "/b", "/b.js", "/c", "/c/d/e", "/lib/x", "/lib/y", "/m", "/z", longPath(impl.MaxPath), longPath(impl.MaxPath + 1), "/", "", "/a/", "c"}
	lengths := []int{0, 0, 1, 2, 127, 128, 129, impl.MaxText - 1, impl.MaxText, impl.MaxText + 1}
	text := make([]byte, lengths[r.Intn(len(lengths))])
	r.Read(text)
	return impl.File{Path: paths[r.Intn(len(paths))], Text: string(text)}
}

func TestFilesAlongManyPutsAndDrops(t *testing.T) {
	r := rand.New(rand.NewSource(31))
	put, refused, dropped, full := 0, 0, 0, 0
	for range 60 {
		l, kept := []impl.File{}, map[string]string{}
		first := l
		for step := range 200 {
			x := oddFile(r)
			switch {
			case r.Intn(100) < 30 && wantDrop(t, l, x.Path):
				l, _ = impl.DropFile(l, x.Path)
				delete(kept, x.Path)
				dropped++
			case wantPut(t, l, x):
				l, _ = impl.PutFile(l, x)
				kept[x.Path] = x.Text
				put++
			default:
				refused++
			}
			if len(l) == impl.MaxFiles {
				full++
			}
			if want := filesByPath(kept); !slices.Equal(l, want) {
				t.Fatalf("the files are %s, not %s", short(l), short(want))
			}
			wantImage(t, l, plainImage(l))
			wantChanged(t, first, l, plainChanged(first, l)...)
			if step%50 == 0 {
				first = l
			}
		}
	}
	if put < 1000 || refused < 1000 || dropped < 1000 || full < 1000 {
		t.Errorf("%d are put, %d refused, %d dropped, %d times there were as many as may be: that tells too little", put, refused, dropped, full)
	}
}

func TestReadFilesOfManyTexts(t *testing.T) {
	r := rand.New(rand.NewSource(32))
	read, refused := 0, 0
	count := func(ok bool) {
		if ok {
			read++
		} else {
			refused++
		}
	}
	for range 20000 {
		l := []impl.File{}
		for range r.Intn(4) {
			l, _ = impl.PutFile(l, oddFile(r))
		}
		s := impl.ShowFiles(l)
		for range r.Intn(3) {
			at := r.Intn(len(s) + 1)
			end := min(len(s), at+r.Intn(3))
			s = s[:at] + []string{"", "\x00", "\x01", "\x02", "\x80", "\xff", "/a", "f", "x"}[r.Intn(9)] + s[end:]
		}
		count(wantReadAs(t, s))
		odd := make([]byte, r.Intn(12))
		r.Read(odd)
		wantReadAs(t, string(odd))
		wantReadAs(t, "f"+string(odd))
	}
	if read < 1000 || refused < 1000 {
		t.Errorf("%d texts are read, %d refused: that tells too little", read, refused)
	}
}

// ownFiles are files whose texts stand in memory of their own.
func ownFiles(l []impl.File) []impl.File {
	own := []impl.File{}
	for _, f := range l {
		own = append(own, impl.File{Path: strings.Clone(f.Path), Text: strings.Clone(f.Text)})
	}
	return own
}

func textsOfFiles(l []impl.File) []string {
	texts := []string{}
	for _, f := range l {
		texts = append(texts, f.Path, f.Text)
	}
	return texts
}

// wantOwnFiles asks that files share no memory with each other, with other files, or with other texts.
func wantOwnFiles(t *testing.T, what string, l, other []impl.File, texts ...string) {
	t.Helper()
	a, b := spanOf(l), spanOf(other)
	if a.from < b.end && b.from < a.end {
		t.Errorf("%s: the list stands in the memory of another one", what)
	}
	own := textsOfFiles(l)
	for i, text := range own {
		wantOwnText(t, text, slices.Concat(own[:i], textsOfFiles(other), texts)...)
	}
}

func TestImagesAreNewMemory(t *testing.T) {
	for _, files := range [][]impl.File{nil, filesOf("/aa", "text"), filesOf("/aa", "one", "/bb", "", "/cc", "three"), fullFiles()} {
		l := ownFiles(files)
		s, again := impl.ShowFiles(l), impl.ShowFiles(l)
		wantOwnText(t, s, append(textsOfFiles(l), again)...)
		read, _ := impl.ReadFiles(s)
		wantOwnFiles(t, "ReadFiles", read, l, s)
		second, _ := impl.ReadFiles(s)
		wantOwnFiles(t, "ReadFiles twice", read, second)
		for _, p := range []string{"/aa", "/bb", "/f0", "/f3", "/zz", "no path"} {
			x := impl.File{Path: strings.Clone(p), Text: strings.Clone("new text")}
			put, _ := impl.PutFile(l, x)
			wantOwnFiles(t, "PutFile of "+p, put, l, x.Path, x.Text)
			left, _ := impl.DropFile(l, x.Path)
			wantOwnFiles(t, "DropFile of "+p, left, l, x.Path)
		}
		paths := impl.Changed(l, ownFiles(filesOf("/aa", "changed", "/new", "")))
		paths = append(paths, impl.Changed(nil, l)...)
		for i, p := range paths {
			wantOwnText(t, p, slices.Concat(paths[:i], textsOfFiles(l))...)
		}
	}
}

// Each argument is the beginning of a longer list: neither it nor what stands behind it is written into.
func TestImagesDoNotWriteIntoFiles(t *testing.T) {
	for _, files := range append([][]impl.File{fullFiles(), greatFiles(), filesOf("/b", "1", "/d", "2", "/f", "3")}, anyFiles(3)...) {
		for n := range len(files) + 1 {
			before, spare := slices.Clone(files), slices.Clone(files)
			l := spare[:n]
			impl.ShowFiles(l)
			for _, p := range []string{"/a", "/b", "/c", "/f0", "/f3", "/z", "/", ""} {
				impl.PutFile(l, impl.File{Path: p, Text: "new"})
				impl.DropFile(l, p)
			}
			impl.Changed(l, spare)
			impl.Changed(spare, l)
			impl.Changed(l, nil)
			if !slices.Equal(spare, before) {
				t.Fatalf("the files were %s and are %s", short(before), short(spare))
			}
		}
	}
}

// What comes of one call is not changed by what is done with it, nor by another call.
func TestAnswersOfImagesAreApart(t *testing.T) {
	l := filesOf("/a", "1", "/c", "3")
	first, _ := impl.PutFile(l, impl.File{Path: "/b", Text: "2"})
	second, _ := impl.PutFile(first, impl.File{Path: "/d", Text: "4"})
	third, _ := impl.PutFile(first, impl.File{Path: "/e", Text: "5"})
	fourth, _ := impl.DropFile(first, "/a")
	refused, _ := impl.PutFile(first, impl.File{Path: "no path"})
	absent, _ := impl.DropFile(first, "/z")
	for i := range first {
		first[i] = impl.File{Path: "/x", Text: "gone"}
	}
	want := filesOf("/a", "1", "/b", "2", "/c", "3")
	if !slices.Equal(second, append(slices.Clone(want), impl.File{Path: "/d", Text: "4"})) || !slices.Equal(third, append(slices.Clone(want), impl.File{Path: "/e", Text: "5"})) {
		t.Errorf("PutFile told %q and %q", second, third)
	}
	if !slices.Equal(fourth, want[1:]) || !slices.Equal(refused, want) || !slices.Equal(absent, want) || !slices.Equal(l, filesOf("/a", "1", "/c", "3")) {
		t.Errorf("what was told has become %q, %q, %q, and what was given %q", fourth, refused, absent, l)
	}
}
