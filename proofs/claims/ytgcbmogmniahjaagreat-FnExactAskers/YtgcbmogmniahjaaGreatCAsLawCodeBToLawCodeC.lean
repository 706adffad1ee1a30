/-
  What the laws' size counter and maker of code answer: the walks.
  Rows of files of the call's own that grow. No program is spoken of.
  Rows of texts of the call's own that are marked cell by cell,without a program's rows. No program is spoken of but for markText.
  What the laws' markers and askers of lists of texts and of files answer: the walks.
  What the laws' comparer and marker of code answer: the walks.
-/
import Derived.Test.YtgcbmogmniahjaaGreatCAsLawCodeA
import Derived.Test.YtgcbmogmniahjaaGreatCAsImplAskToLawMarkGr
namespace Go.Proofs.YtgcbmogmniahjaaGreat
open Go.RowKit Go.PlainAid Go.Sort
def SzO (left:Int) (c:Nat) (e:Ending):Prop:=∃z:Int,e= .returned (.int .i64 z)∧ -1≤z∧z≤left∧(0≤z→z+(c:Int)≤left)
def zyk (l:List ByteArray):Nat:=(l.map ByteArray.size).sum
def zyl (c:Cd):Prop:=c.ins.length≤9223372036854775807∧c.cells.length≤9223372036854775807∧c.ent.length≤9223372036854775807∧∀x∈c.cells,x.size≤9223372036854775807
def zym (c:Cd):Prop:=c.ins.length≤1048576∧c.cells.length≤1048576∧c.ent.length≤1048576∧∀x∈c.cells,x.size≤1048576
def zyn (c:Cd) (g0 g1 g2:Nat):CA:=⟨some ⟨g0,0,none⟩,c.ins.length,some ⟨g1,0,none⟩,c.cells.length,some ⟨g2,0,none⟩,c.ent.length⟩
abbrev Fl:=ByteArray×ByteArray
def flL (x:Fl):List Value:=[.string x.1,.string x.2]
def zn3:Fl:=({data:=#[]},{data:=#[]})
def zyo (fs:List Fl) (j:Nat):ByteArray:=(fs.getD j zn3).1
def zyp (fs:List Fl) (j:Nat):ByteArray:=(fs.getD j zn3).2
def zyq (len:Nat) (Pt Tx:Nat→ByteArray):List Fl:=(List.range len).map fun j=>(Pt j,Tx j)
def zyr (w:World) (base:Nat) (e:TypeId) (g n cap:Nat) (fs:List Fl):Prop:=w.ownsRow base e 2 (.slice (some ⟨g,0,none⟩) n cap) n (fs.flatMap flL)∧n=fs.length
def OwnM (w:World) (base:Nat) (e:TypeId) (size g n cap k0 c:Nat):Prop:=∃xs,w.ownsRow base e size (.slice (some ⟨g,0,none⟩) n cap) n xs∧∀i,i<c→xs[i]? =some (.string (mtS (k0+i)))
theorem OwnM.start {w:World} {base size g n q:Nat} {e:TypeId} {xs:List Value} (h:w.ownsRow base e size (.slice (some ⟨g,0,none⟩) n q) n xs) (A:Nat):OwnM w base e size g n q A 0:=⟨xs,h,fun i z=>absurd z (Nat.not_lt_zero i)⟩
theorem OwnM.blk {w:World} {base size g n z E c:Nat} {e:TypeId} (h:OwnM w base e size g n z E c):base≤g∧g<w.heap.size:=by
 obtain⟨K,H,_⟩:=h
 rcases H.2 with ⟨q,_⟩|⟨L,A,D,q,I,J,_⟩
 ·simp at q
 ·simp only[Value.slice.injEq,Option.some.injEq,Addr.mk.injEq,and_true,true_and] at q
  obtain⟨rfl,rfl⟩:=q
  exact⟨I,(Array.getElem?_eq_some_iff.1 J).1⟩
theorem OwnM.keep {w W:World} {base size g n q E c:Nat} {e:TypeId} (h:OwnM w base e size g n q E c) (J:W.heap[g]? =w.heap[g]?):OwnM W base e size g n q E c:=by
 obtain⟨M,H,K⟩:=h
 refine⟨M,⟨H.1,?_⟩,K⟩
 rcases H.2 with ⟨z,_⟩|⟨O,I,A,z,D,N,L⟩
 ·simp at z
 ·simp only[Value.slice.injEq,Option.some.injEq,Addr.mk.injEq,and_true,true_and] at z
  obtain⟨rfl,rfl⟩:=z
  exact .inr ⟨g,q,A,rfl,D,J.trans N,L⟩
theorem OwnM.later {w W:World} {base size g n q z c:Nat} {e:TypeId} (h:OwnM w base e size g n q z c) (A:Below w.heap.size w W):OwnM W base e size g n q z c:=h.keep (A.block g h.blk.2)
theorem OwnM.has {w:World} {base size g n q D c:Nat} {e:TypeId} (h:OwnM w base e size g n q D c) (i:Nat) (A:i<n*size): ∃v,w.cell? ⟨g,i,none⟩=some v:=by
 obtain⟨E,z,_⟩:=h
 rw[z.cellAt i A]
 exact⟨_,List.getElem?_eq_getElem (by rw[z.1];exact A)⟩
theorem OwnM.cell {w:World} {base size g n z A c:Nat} {e:TypeId} (h:OwnM w base e size g n z A c) (i q:Nat) (J:i<n*size) (I:i<c) (D:q=A+i):w.cell? ⟨g,i,none⟩=some (.string (mtS q)):=by
 obtain⟨K,H,E⟩:=h
 rw[H.cellAt i J,D]
 exact E i I
theorem OwnM.free {w:World} {base size g n q A c:Nat} {e:TypeId} (h:OwnM w base e size g n q A c) (i:Nat):w.frozen? ⟨g,i,none⟩=false:=by
 obtain⟨D,z,_⟩:=h
 exact z.frozenAt i
theorem OwnM.put {w:World} {base size g n z A c q:Nat} {e:TypeId} (h:OwnM w base e size g n z A c) (K:c<n*size) (E:q=A+c):OwnM (w.setCell ⟨g,c,none⟩ (.string (mtS q))) base e size g n z A (c+1):=by
 subst E
 obtain⟨I,D,H⟩:=h
 have J:=D.1
 refine⟨I.set c (.string (mtS (A+c))),(D.stored c _).1,fun i L=>?_⟩
 by_cases e:i=c
 ·subst e
  exact List.getElem?_set_self (by omega)
 ·rw[List.getElem?_set_ne (by omega)]
  exact H i (by omega)
theorem OwnM.nil {w:World} {base size g q z c:Nat} {e:TypeId} (h:OwnM w base e size g 0 q z 0) (A:c=0):OwnM w base e size g 0 q z c:=by rw[A];exact h
structure Kept3 (g0 g1 g2:Nat) (w W:World):Prop where
 os:W.os=w.os
 tape:W.tape=w.tape
 output:W.output=w.output
 size:w.heap.size≤W.heap.size
 block: ∀k,k<w.heap.size→k≠g0→k≠g1→k≠g2→W.heap[k]? =w.heap[k]?
theorem Kept3.below {A z q b:Nat} {w W:World} (h:Kept3 A z q w W) (I:b≤A) (H:b≤z) (E:b≤q) (J:b≤w.heap.size):Below b w W:=⟨h.os,h.tape,h.output,h.size,fun k D=>h.block k (by omega) (by omega) (by omega) (by omega)⟩
end Go.Proofs.YtgcbmogmniahjaaGreat
