package tests

import (
	"math/rand"
	"path"
	"slices"
	"strings"
	"testing"

	"loop.example/g00777/impl"
)

func plainIsPath(s string) bool {
	return len(s) <= impl.MaxPath && plainPath.MatchString(s)
}

// plainUp goes up by the library's own means.
func plainUp(p string) []string {
	up := []string{}
	if !plainIsPath(p) {
		return up
	}
	for at := path.Clean(p); at != "/"; {
		at = path.Dir(at)
		up = append(up, at)
	}
	return up
}

// plainCandidates writes all candidates down, and then leaves out those that may not stand.
func plainCandidates(from, spec string) []string {
	if !plainIsPath(from) {
		return nil
	}
	joined := []string{}
	switch first, _, cut := strings.Cut(spec, "/"); {
	case cut && first == "":
		joined = append(joined, spec)
	case cut && (first == "." || first == ".."):
		folder, _ := path.Split(from)
		joined = append(joined, folder+spec)
	default:
		for _, folder := range plainUp(from) {
			joined = append(joined, folder+"/lib/"+spec)
		}
	}
	all := []string{}
	for _, s := range joined {
		if plainIsPath(s) {
			clean := path.Clean(s)
			all = append(all, clean, clean+".js", clean+"/index.js")
		}
	}
	kept := []string{}
	for i, s := range all {
		if len(s) <= impl.MaxPath && slices.Index(all, s) == i {
			kept = append(kept, s)
		}
	}
	return kept
}

// plainProbe asks the last candidate first.
func plainProbe(l []impl.File, from, spec string) (found string, ok bool) {
	for _, s := range slices.Backward(plainCandidates(from, spec)) {
		if plainFilesOk(l) && slices.ContainsFunc(l, func(f impl.File) bool { return f.Path == s }) {
			found, ok = s, true
		}
	}
	return found, ok
}

// wantUpwards holds each of Up against the one ahead of it.
func wantUpwards(t *testing.T, p string) {
	t.Helper()
	up := impl.Up(p)
	if want := plainUp(p); !slices.Equal(up, want) {
		t.Fatalf("Up(%.60q) is %q, not %q", p, up, want)
	}
	last := impl.Clean(p)
	for i, at := range up {
		if name, below := strings.CutPrefix(last, strings.TrimSuffix(at, "/")+"/"); !below || name == "" || strings.Contains(name, "/") {
			t.Fatalf("Up(%.60q) is %q, but %q is not right above %q", p, up, at, last)
		}
		if impl.Clean(at) != at || !slices.Equal(impl.Up(at), up[i+1:]) {
			t.Fatalf("Up(%.60q) is %q, but of %q it is %q", p, up, at, impl.Up(at))
		}
		last = at
	}
	if last != "/" && last != "" {
		t.Fatalf("Up(%.60q) is %q: it does not end with /", p, up)
	}
}

// wantFirst holds Probe against Candidates and Find, and tells how many are asked ahead of the one that is found (-1: none is).
func wantFirst(t *testing.T, l []impl.File, from, spec string) int {
	t.Helper()
	want, wantOk := "", false
	ahead := -1
	for i, c := range impl.Candidates(from, spec) {
		if _, ok := impl.Find(l, c); ok {
			want, wantOk, ahead = c, true, i
			break
		}
	}
	got, ok := impl.Probe(l, from, spec)
	if got != want || ok != wantOk {
		t.Fatalf("Probe(%s, %q, %.60q) = %q, %v, but the first candidate that is a file is %q", short(l), from, spec, got, ok, want)
	}
	if plain, plainOk := plainProbe(l, from, spec); got != plain || ok != plainOk {
		t.Fatalf("Probe(%s, %q, %.60q) = %q, %v, not %q", short(l), from, spec, got, ok, plain)
	}
	return ahead
}

func TestUpOfAllShortPaths(t *testing.T) {
	for _, p := range slices.Concat(shortPaths(7), noPaths(), uncleanPaths()) {
		wantUpwards(t, p)
	}
}

func TestUpOfAllLengths(t *testing.T) {
	for n := range impl.MaxPath + 4 {
		for _, part := range []string{"/", "/a", "/ab", "/abcdefg", "a/", "./", "../", "/a/..", "/ab/."} {
			s := strings.Repeat(part, impl.MaxPath+4)
			wantUpwards(t, s[:n])
			wantUpwards(t, "/"+s[:n])
			wantUpwards(t, "/a/b"+s[:n])
		}
	}
}

func TestCandidatesOfAllShortTexts(t *testing.T) {
	specs := slices.DeleteFunc(someSpecs(), func(s string) bool { return len(s) > 10*impl.MaxPath })
	for _, from := range slices.Concat(shortPaths(3), uncleanPaths(), noPaths()) {
		for _, spec := range specs {
			if got, want := impl.Candidates(from, spec), plainCandidates(from, spec); !slices.Equal(got, want) {
				t.Fatalf("Candidates(%.60q, %.60q) are %q, not %q", from, spec, got, want)
			}
		}
	}
}

// Whatever the lengths of both are: what is told is as long as a path may be, and no longer.
func TestCandidatesOfAllLengths(t *testing.T) {
	longest := 0
	for n := range impl.MaxPath + 3 {
		for _, folders := range []string{"/", "/a", "/dd", "/abcdefghi"} {
			from := strings.Repeat(folders, impl.MaxPath+3)[:n]
			for k := range impl.MaxPath + 3 {
				for _, ahead := range []string{"", "/", "./", "../", "c/", "c/../../", "./../"} {
					spec := ahead + letters(k)
					got := impl.Candidates(from, spec)
					if want := plainCandidates(from, spec); !slices.Equal(got, want) {
						t.Fatalf("Candidates(%q, %q) are %q, not %q", from, spec, got, want)
					}
					for _, c := range got {
						longest = max(longest, len(c))
					}
				}
			}
		}
	}
	if longest != impl.MaxPath {
		t.Errorf("the longest candidate has %d bytes", longest)
	}
}

// Of the candidates of some requests all choices are files in turn.
func TestProbeOfAllChoicesOfCandidates(t *testing.T) {
	for _, c := range []struct{ from, spec string }{
		{"/a/m", "c"}, {"/a/m", "./c"}, {"/m", "/c/d"}, {"/a/b/m", "../c"}, {"/index.js/m", "c/../../index.js"}, {"/a/m", ".."}, {"/m", ""}, {"/a/b/m", "c/../../d"}, {"/m", letters(impl.MaxPath - 6)},
	} {
		candidates := impl.Candidates(c.from, c.spec)
		firsts := make([]int, len(candidates)+1)
		for choice := range 1 << len(candidates) {
			l := []impl.File{}
			for i, p := range candidates {
				if choice>>i&1 == 1 && impl.Clean(p) == p && p != "/" {
					l = append(l, impl.File{Path: p, Text: c.spec})
				}
			}
			slices.SortFunc(l, func(a, b impl.File) int { return strings.Compare(a.Path, b.Path) })
			if len(l) > impl.MaxFiles {
				continue
			}
			firsts[wantFirst(t, l, c.from, c.spec)+1]++
		}
		if len(candidates) == 0 || firsts[0] == 0 || firsts[len(candidates)]+firsts[len(candidates)-1]+firsts[1] == 0 {
			t.Errorf("%q: the files found are %v of %q: that tells too little", c.spec, firsts, candidates)
		}
	}
}

// probePart is a part of a path out of few, so that files are found now and then.
func probePart(r *rand.Rand) string {
	return []string{"a", "b", "lib", "index.js", "a.js", ".", "..", ""}[r.Intn(8)]
}

func probePath(r *rand.Rand) string {
	s := ""
	for range 1 + r.Intn(5) {
		s += "/" + probePart(r)
	}
	return s
}

func TestProbeOfManyFiles(t *testing.T) {
	r := rand.New(rand.NewSource(13))
	found, none, wrong := map[int]int{}, 0, 0
	for range 40000 {
		from, spec := probePath(r), probePath(r)[1:]
		switch r.Intn(8) {
		case 0:
			spec = "/" + spec
		case 1:
			spec = "./" + spec
		case 2:
			spec = "../" + spec
		case 3:
			from += strings.Repeat("/a", r.Intn(20))
		}
		l := []impl.File{}
		candidates := append(impl.Candidates(from, spec), probePath(r))
		for range r.Intn(impl.MaxFiles + 1) {
			p := probePath(r)
			if r.Intn(4) == 0 {
				p = candidates[r.Intn(len(candidates))]
			}
			l, _ = impl.PutFile(l, impl.File{Path: impl.Clean(p), Text: "x"})
		}
		if len(l) > 0 && r.Intn(20) == 0 {
			l = append(l, l[r.Intn(len(l))])
			wrong++
		}
		wantUpwards(t, from)
		if ahead := wantFirst(t, l, from, spec); ahead >= 0 {
			found[ahead]++
		} else {
			none++
		}
	}
	if none < 1000 || wrong < 1000 || found[0] < 1000 || found[1] < 100 || found[2] < 100 || found[3] < 100 || found[4] < 30 || found[5] < 30 || len(found) < 20 {
		t.Errorf("%v were found, %d were not, %d files were wrong: that tells too little", found, none, wrong)
	}
}

func TestProbesAreNewMemory(t *testing.T) {
	for _, c := range []struct{ from, spec string }{
		{"/aa/bb/mm", "cc"}, {"/aa/bb/mm", "/cc"}, {"/aa/bb/mm", "./cc"}, {"/mm", "../cc"}, {"/mm", ""}, {"/aa", "./"}, {"/aa/mm", "/aa/mm"}, {"/aa/mm", ".."},
	} {
		from, spec := strings.Clone(c.from), strings.Clone(c.spec)
		files := ownFiles(filesOf("/aa/bb/cc", "text", "/aa/mm", "more", "/cc.js", "", "/lib/cc/index.js", "text", "/lib/index.js", ""))
		args := append(textsOfFiles(files), from, spec)
		up, told := impl.Up(from), impl.Candidates(from, spec)
		for _, text := range slices.Concat(up, told) {
			wantOwnText(t, text, args...)
		}
		found, _ := impl.Probe(files, from, spec)
		wantOwnText(t, found, args...)
		want := impl.Candidates(from, spec)
		for i := range told {
			told[i] = "gone"
		}
		for i := range up {
			up[i] = "gone"
		}
		if again := impl.Candidates(from, spec); !slices.Equal(again, want) || slices.Contains(impl.Up(from), "gone") {
			t.Errorf("Candidates(%q, %q) were %q and are %q", from, spec, want, again)
		}
	}
}

func TestProbeDoesNotWriteIntoFiles(t *testing.T) {
	for _, files := range append([][]impl.File{fullFiles(), greatFiles(), filesOf("/a", "1", "/b.js", "2", "/lib/c/index.js", "3")}, anyFiles(3)...) {
		for n := range len(files) + 1 {
			before, spare := slices.Clone(files), slices.Clone(files)
			for _, spec := range []string{"/a", "./b", "c", "../f3", "C", ""} {
				impl.Probe(spare[:n], "/m", spec)
			}
			if !slices.Equal(spare, before) {
				t.Fatalf("the files were %s and are %s", short(before), short(spare))
			}
		}
	}
}
