package tests

import (
	"fmt"
	"math/rand"
	"slices"
	"testing"

	"loop.example/g00777/impl"
)

// plainLayers takes lists away, time after time, from which no Link leads to one that is still there.
func plainLayers(g impl.Graph) []int {
	comes := comesTo(g)
	isTogether := func(a, b int) bool { return a == b || comes[a][b] && comes[b][a] }
	layers := slices.Repeat([]int{-1}, len(g.Mods))
	for layer := 0; slices.Contains(layers, -1); layer++ {
		next := slices.Clone(layers)
		for m := range g.Mods {
			leadsOn := func(l impl.Link) bool {
				return isTogether(l.From, m) && !isTogether(l.From, l.To) && layers[l.To] == -1
			}
			if layers[m] == -1 && !slices.ContainsFunc(g.Links, leadsOn) {
				next[m] = layer
			}
		}
		layers = next
	}
	return layers
}

// wantCyclesHeld asks for promise 15 of a right graph, and holds all that is told against plain ways.
func wantCyclesHeld(t *testing.T, g impl.Graph) {
	t.Helper()
	reach := wantReachHeld(t, g)
	lists := wantTogetherHeld(t, g, reach)
	wantAcyclicHeld(t, g, reach, lists)
	wantLayersHeld(t, g, lists)
}

// wantReachHeld tells ReachOf of each module.
func wantReachHeld(t *testing.T, g impl.Graph) [][]int {
	t.Helper()
	comes := comesTo(g)
	reach, askers := [][]int{}, [][]int{}
	for m := range g.Mods {
		reach, askers = append(reach, impl.ReachOf(g, m)), append(askers, impl.Askers(g, m))
		wantReach, wantAskers := []int{}, []int{}
		for other := range g.Mods {
			if other == m || comes[m][other] {
				wantReach = append(wantReach, other)
			}
			if other == m || comes[other][m] {
				wantAskers = append(wantAskers, other)
			}
		}
		if !slices.Equal(reach[m], wantReach) || !slices.Equal(askers[m], wantAskers) {
			t.Fatalf("of %v ReachOf %d is %v, not %v, Askers is %v, not %v", g.Links, m, reach[m], wantReach, askers[m], wantAskers)
		}
	}
	for m := range g.Mods {
		for other := range g.Mods {
			if slices.Contains(reach[m], other) != slices.Contains(askers[other], m) {
				t.Fatalf("of %v ReachOf %d is %v, but Askers %d is %v", g.Links, m, reach[m], other, askers[other])
			}
		}
	}
	// All is come to from the first one.
	if len(reach[0]) != len(g.Mods) {
		t.Fatalf("of %v ReachOf 0 is %v", g.Links, reach[0])
	}
	return reach
}

// wantTogetherHeld tells the lists of Together.
func wantTogetherHeld(t *testing.T, g impl.Graph, reach [][]int) [][]int {
	t.Helper()
	lists, of := impl.Together(g), map[int]int{}
	first := -1
	for i, l := range lists {
		if len(l) == 0 || !slices.IsSorted(l) || l[0] <= first {
			t.Fatalf("Together of %v is %v: they do not rise", g.Links, lists)
		}
		first = l[0]
		for _, m := range l {
			if _, twice := of[m]; twice || m < 0 || m >= len(g.Mods) {
				t.Fatalf("Together of %v is %v: %d is there twice, or is none", g.Links, lists, m)
			}
			of[m] = i
		}
	}
	if len(of) != len(g.Mods) {
		t.Fatalf("Together of %v is %v: not all are there", g.Links, lists)
	}
	for m := range g.Mods {
		for other := range g.Mods {
			each := slices.Contains(reach[m], other) && slices.Contains(reach[other], m)
			if each != (of[m] == of[other]) {
				t.Fatalf("Together of %v is %v: what of %d and %d?", g.Links, lists, m, other)
			}
		}
	}
	return lists
}

func wantAcyclicHeld(t *testing.T, g impl.Graph, reach, lists [][]int) {
	t.Helper()
	alone := true
	for _, l := range lists {
		alone = alone && len(l) == 1
	}
	itself := slices.ContainsFunc(g.Links, func(l impl.Link) bool { return l.From == l.To })
	round := slices.ContainsFunc(g.Links, func(l impl.Link) bool { return slices.Contains(reach[l.To], l.From) })
	if got := impl.Acyclic(g); got != (alone && !itself) || got != !round {
		t.Fatalf("Acyclic of %v is %v: each is alone: %v; one asks for itself: %v; a Link leads back: %v", g.Links, got, alone, itself, round)
	}
}

// wantLayersHeld asks for each Link, and that a layer is not greater than a way is long.
func wantLayersHeld(t *testing.T, g impl.Graph, lists [][]int) {
	t.Helper()
	layers := impl.Layer(g)
	if plain := plainLayers(g); !slices.Equal(layers, plain) {
		t.Fatalf("Layer of %v is %v, not %v", g.Links, layers, plain)
	}
	for _, list := range lists {
		out := []int{}
		for _, l := range g.Links {
			switch {
			case !slices.Contains(list, l.From):
			case slices.Contains(list, l.To):
				if layers[l.From] != layers[l.To] {
					t.Fatalf("Layer of %v is %v: %v stays in its list", g.Links, layers, l)
				}
			default:
				if layers[l.From] <= layers[l.To] {
					t.Fatalf("Layer of %v is %v: %v leaves its list", g.Links, layers, l)
				}
				out = append(out, layers[l.To]+1)
			}
		}
		if want := slices.Max(append(out, 0)); layers[list[0]] != want {
			t.Fatalf("Layer of %v is %v: that of %v is not %d", g.Links, layers, list, want)
		}
	}
}

// turned has each Link the other way round.
func turned(g impl.Graph) impl.Graph {
	links := []impl.Link{}
	for i, l := range g.Links {
		links = append(links, link(l.To, fmt.Sprint("t", i), l.From))
	}
	return graphOf(len(g.Mods), links...)
}

// wantTurnedHeld asks the same of the graph that is turned, where that is right: it tells whether it is.
func wantTurnedHeld(t *testing.T, g impl.Graph) bool {
	t.Helper()
	back := turned(g)
	if !impl.GraphOk(back) {
		return false
	}
	for m := range g.Mods {
		if !slices.Equal(impl.ReachOf(back, m), impl.Askers(g, m)) || !slices.Equal(impl.Askers(back, m), impl.ReachOf(g, m)) {
			t.Fatalf("ReachOf %d or Askers of %v is another thing when it is turned", m, g.Links)
		}
	}
	if digitLists(impl.Together(back)) != digitLists(impl.Together(g)) || impl.Acyclic(back) != impl.Acyclic(g) {
		t.Fatalf("Together or Acyclic of %v is another thing when it is turned", g.Links)
	}
	return true
}

// allLinks hands out each choice of Links among n modules, from a module to itself only where itself is true.
func allLinks(n int, itself bool, take func(links string)) {
	pairs := []string{}
	for from := range n {
		for to := range n {
			if itself || from != to {
				pairs = append(pairs, fmt.Sprintf("%d%d", from, to))
			}
		}
	}
	for choice := range 1 << len(pairs) {
		links := ""
		for i, pair := range pairs {
			if choice>>i&1 == 1 {
				links += pair + " "
			}
		}
		take(links)
	}
}

func TestCyclesOfAllSmallGraphs(t *testing.T) {
	for _, c := range []struct {
		n                       int
		itself                  bool
		right, acyclic, turning int
	}{
		{1, true, 2, 1, 2},
		{2, true, 8, 1, 4},
		// Three modules that come to each other do so in 18 ways, each with 8 choices of what asks for itself.
		{3, true, 256, 5, 144},
		{4, false, 2432, 79, 1606},
	} {
		right, acyclic, turning := 0, 0, 0
		allLinks(c.n, c.itself, func(links string) {
			g := cycleGraph(c.n, links)
			if !plainGraphOk(g) {
				wantNoCycles(t, links, g)
				return
			}
			right++
			wantCyclesHeld(t, g)
			if impl.Acyclic(g) {
				acyclic++
			}
			if wantTurnedHeld(t, g) {
				turning++
			}
		})
		if right != c.right || acyclic != c.acyclic || turning != c.turning {
			t.Errorf("of graphs of %d modules %d are right, %d of them acyclic, %d right when turned", c.n, right, acyclic, turning)
		}
	}
}

// someLinks are a graph of n modules, of few Links or of many, all of which the first one comes to.
func someLinks(r *rand.Rand, n int) impl.Graph {
	names := r.Perm(n - 1)
	number := func(m int) int {
		if m == 0 {
			return 0
		}
		return 1 + names[m-1]
	}
	links := []impl.Link{}
	add := func(from, to int) {
		links = append(links, link(number(from), fmt.Sprint("x", len(links)), number(to)))
	}
	for m := 1; m < n; m++ {
		add(max(0, m-1-r.Intn(3)), m)
	}
	// Most lead on, so that not all is one list.
	for range r.Intn(2 * n) {
		a, b := r.Intn(n), r.Intn(n)
		if r.Intn(4) > 0 && a > b {
			a, b = b, a
		}
		add(a, b)
	}
	r.Shuffle(len(links), func(i, j int) { links[i], links[j] = links[j], links[i] })
	g := graphOf(n, links...)
	r.Shuffle(len(g.Links), func(i, j int) { g.Links[i], g.Links[j] = g.Links[j], g.Links[i] })
	return g
}

func TestCyclesOfManyGraphs(t *testing.T) {
	r := rand.New(rand.NewSource(15))
	acyclic, layers, lists := 0, map[int]int{}, map[int]int{}
	for i := range 4000 {
		g := someLinks(r, 1+i%impl.MaxFiles)
		wantCyclesHeld(t, g)
		wantTurnedHeld(t, g)
		if impl.Acyclic(g) {
			acyclic++
		}
		layers[slices.Max(impl.Layer(g))]++
		lists[len(impl.Together(g))]++
	}
	for n := range 6 {
		if layers[n] < 50 || lists[n+1] < 50 {
			t.Errorf("%d have the layer %d, %d as many lists and one: that tells too little", layers[n], n, lists[n+1])
		}
	}
	if acyclic < 500 || acyclic > 3000 {
		t.Errorf("%d are acyclic: that tells too little", acyclic)
	}
}

func TestCyclesOfManyFiles(t *testing.T) {
	r := rand.New(rand.NewSource(16))
	for i := range 600 {
		files := someFiles(r, false)
		if i%2 == 0 {
			files = exportFiles(r, 1+i%impl.MaxFiles)
		}
		for _, file := range files[:1+i%2*(len(files)-1)] {
			g := mustLoad(t, files, file.Path)
			wantCyclesHeld(t, g)
			// In an acyclic graph each runs behind all that it asks for, which then has a lower layer.
			if order, layers := impl.Order(g), impl.Layer(g); impl.Acyclic(g) {
				for _, l := range g.Links {
					if slices.Index(order, l.To) > slices.Index(order, l.From) || layers[l.To] >= layers[l.From] {
						t.Fatalf("of %v Order is %v, Layer is %v", g.Links, order, layers)
					}
				}
			}
		}
	}
}

func TestCyclesOfMeddledGraphs(t *testing.T) {
	k, r := newMaker(false), rand.New(rand.NewSource(17))
	right, wrong := 0, 0
	for range 3000 {
		files := someFiles(r, false)
		g := cloneGraph(mustLoad(t, files, files[r.Intn(len(files))].Path))
		for range 1 + k.Intn(3) {
			meddleGraph(k, &g)
		}
		if plainGraphOk(g) {
			wantCyclesHeld(t, g)
			right++
		} else {
			wantNoCycles(t, "meddled", g)
			wrong++
		}
	}
	if right < 300 || wrong < 300 {
		t.Errorf("%d are right, %d are wrong: that tells too little", right, wrong)
	}
}

// cycleLists are all lists of all answers about a graph.
func cycleLists(g impl.Graph) [][]int {
	lists := append(impl.Together(g), impl.Layer(g))
	for m := range g.Mods {
		lists = append(lists, impl.ReachOf(g, m), impl.Askers(g, m))
	}
	return lists
}

func TestCyclesAreNewMemory(t *testing.T) {
	for _, links := range []string{"01 10 12 23 32", "01 12 23", "01 12 23 30", "01 02 03 33", "01 10 02 20 23"} {
		g := cycleGraph(4, links)
		first, second := cycleLists(g), cycleLists(g)
		before := digitLists(second)
		if digitLists(first) != before {
			t.Fatalf("of %q it is %v and %v", links, first, second)
		}
		all := slices.Concat(first, second)
		for i, a := range all {
			for _, b := range all[:i] {
				if x, y := spanOf(a), spanOf(b); x.from < y.end && y.from < x.end {
					t.Fatalf("of %q the lists %v and %v share memory", links, a, b)
				}
			}
		}
		together, again := impl.Together(g), impl.Together(g)
		if &together[0] == &again[0] {
			t.Errorf("of %q two answers of Together share memory", links)
		}
		// What is written into an answer, or into the room behind it, is seen in no other one.
		for _, l := range first {
			l = l[:cap(l)]
			for i := range l {
				l[i] = -7
			}
		}
		clear(together)
		if digitLists(second) != before || digitLists(cycleLists(g)) != before || digitLists(again) != digitLists(impl.Together(g)) {
			t.Errorf("of %q an answer is kept", links)
		}
	}
}

func TestCyclesDoNotWriteIntoGraphs(t *testing.T) {
	k, r := newMaker(false), rand.New(rand.NewSource(18))
	for i := range 600 {
		g := someLinks(r, 1+i%impl.MaxFiles)
		if i%2 == 0 {
			files := exportFiles(r, 1+i%impl.MaxFiles)
			g = mustLoad(t, files, files[0].Path)
		}
		g = cloneGraph(g)
		if i%3 == 0 {
			meddleGraph(k, &g)
		}
		spare := graphWithSpare(g)
		for m := -1; m <= len(g.Mods); m++ {
			impl.ReachOf(spare, m)
			impl.Askers(spare, m)
		}
		impl.Together(spare)
		impl.Acyclic(spare)
		impl.Layer(spare)
		wantGraphSpare(t, spare, g)
	}
}
