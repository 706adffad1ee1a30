/-
 A program in memory beside a block that is written. No program is spoken of but for the numbers of its types.
-/
import Derived.Test.YtjdddblpfbmpaaaGreatCmImplParseJToEqRow
import Derived.Laws.OwnMore
namespace Go.Proofs.YtjdddblpfbmpaaaGreat
open Go.RowKit Go.PlainAid Go.Sort
theorem OwnMd.low {w:World} {b q:Nat} {S:Sv} {m:Md} (h:OwnMd w b S m) (j:q≤b):OwnMd w q S m:=⟨h.rq.low j,h.im.low j,h.ep.low j,h.st.low j,h.ex.low j⟩
theorem OwnR.aside {w:World} {j size n c i:Nat} {e t:TypeId} {r:Rw} {xs:List Value} {u:Value} {I:Array Value} (h:OwnR w j e size r n xs) (J:w.heap[c]? =some (.cells I t (0,0))) (H:e≠t):OwnR (w.setCell ⟨c,i,none⟩ u) j e size r n xs:=
 h.keep fun k g=>heap_setCell_other w ⟨c,i,none⟩ k u fun z=>by
  obtain⟨_,_,A,q⟩:=h.typed g
  simp only at z
  rw[z,J] at q
  simp only[Option.some.injEq,Obj.cells.injEq] at q
  exact H q.2.1.symm
theorem OwnMd.aside {w:World} {b c i:Nat} {S:Sv} {m:Md} {t:TypeId} {u:Value} {z:Array Value} (h:OwnMd w b S m) (q:w.heap[c]? =some (.cells z t (0,0))) (j:t≠9∧t≠84∧t≠86∧t≠107∧t≠109):OwnMd (w.setCell ⟨c,i,none⟩ u) b S m:=
 ⟨h.rq.aside q j.1.symm,h.im.aside q j.2.1.symm,h.ep.aside q j.2.2.1.symm,h.st.aside q j.2.2.2.1.symm,h.ex.aside q j.2.2.2.2.symm⟩
theorem zfK {w:World} {b g o:Nat} {S:Sv} {m:Md} {x0 x1 x2 x3 x4:Value} (h:OwnMd w b S m) (L: ∃j,w.heap[g]? =some (.cells j 36 (0,0))):
  OwnMd (((((w.setCell ⟨g,o,none⟩ x0).setCell ⟨g,o+1,none⟩ x1).setCell ⟨g,o+2,none⟩ x2).setCell ⟨g,o+3,none⟩ x3).setCell ⟨g,o+4,none⟩ x4) b S m:=by
 obtain⟨j,H⟩:=L
 have A:=zaz (i:=o) (u:=x0) H
 have z:=zaz (i:=o+1) (u:=x1) A
 have I:=zaz (i:=o+2) (u:=x2) z
 have J:=zaz (i:=o+3) (u:=x3) I
 have q:(36:TypeId)≠9∧(36:TypeId)≠84∧(36:TypeId)≠86∧(36:TypeId)≠107∧(36:TypeId)≠109:=by decide
 exact ((((h.aside H q).aside A q).aside z q).aside I q).aside J q
theorem zkL {α:Type} {f:α→List Value} {m:Nat} (j: ∀x,(f x).length=m) (l:List α): ∀(k c:Nat) (x y:α) (v:Value),l[k]? =some x→c<m→f y=(f x).set c v→(l.flatMap f).set (k*m+c) v=(l.set k y).flatMap f:=by
 induction l with
 |nil=>intro k c x y v h;cases h
 |cons z l H=>
  intro k c x y v h q A
  cases k with
  |zero=>
   cases h
   rw[List.set_cons_zero,List.flatMap_cons,List.flatMap_cons,Nat.zero_mul,Nat.zero_add,List.set_append_left _ _ (by rw[j];exact q),A]
  |succ k=>
   rw[List.set_cons_succ,List.flatMap_cons,List.flatMap_cons,List.set_append_right _ _ (by rw[j,Nat.succ_mul];omega),j,show (k+1)*m+c-m=k*m+c by rw[Nat.succ_mul];omega,H k c x y v h q A]
theorem OwnR.addrA {w:World} {j size n:Nat} {e:TypeId} {r:Rw} {xs:List Value} (h:OwnR w j e size r n xs) (z:0<n): ∃g,r.a=some ⟨g,0,none⟩:=by
 rcases h.nil_or with ⟨_,_,q⟩|h
 ·omega
 ·exact h
theorem OwnR.put {w:World} {q size n g:Nat} {e:TypeId} {r:Rw} {xs:List Value} (h:OwnR w q e size r n xs) (z:r.a=some ⟨g,0,none⟩) (j:Nat) (u:Value):OwnR (w.setCell ⟨g,j,none⟩ u) q e size r n (xs.set j u):=by
 obtain⟨a,A⟩:=r
 simp only at z
 subst z
 exact (World.ownsRow.stored h j u).1
theorem OwnR.blkOf {r:Rw} {g:Nat} (j:r.a=some ⟨g,0,none⟩):r.blk=some g:=by rw[Rw.blk,j];rfl
theorem OwnR.free {w:World} {q size n g:Nat} {e:TypeId} {r:Rw} {xs:List Value} (h:OwnR w q e size r n xs) (A:r.a=some ⟨g,0,none⟩) (j:Nat):w.frozen? ⟨g,j,none⟩=false:=by
 obtain⟨_,_,z,H⟩:=h.typed (OwnR.blkOf A)
 simp[World.frozen?,H]
theorem OwnMd.put_im {w:World} {j i g:Nat} {S:Sv} {m:Md} {x:Im} (h:OwnMd w j S m) (H:m.im[i]? =some x) (z:S.im.a=some ⟨g,0,none⟩) (s:ByteArray):OwnMd (w.setCell ⟨g,i*3,none⟩ (.string s)) j S {m with im:=m.im.set i ⟨s,x.first,x.loc⟩}:=by
 obtain⟨_,_,A,q⟩:=h.im.typed (OwnR.blkOf z)
 refine⟨h.rq.aside q (by decide),?_,h.ep.aside q (by decide),h.st.aside q (by decide),h.ex.aside q (by decide)⟩
 have e:=zkL (f:=imL) (m:=3) (fun _=>rfl) m.im i 0 x ⟨s,x.first,x.loc⟩ (.string s) H (by decide) rfl
 rw[Nat.add_zero] at e
 have:=h.im.put z (i*3) (.string s)
 rw[e] at this
 show OwnR _ _ _ _ _ (m.im.set i _).length _
 rw[List.length_set]
 exact this
theorem OwnMd.put_ep {w:World} {j i g:Nat} {S:Sv} {m:Md} {x:Ep} (h:OwnMd w j S m) (H:m.ep[i]? =some x) (z:S.ep.a=some ⟨g,0,none⟩) (s:ByteArray):OwnMd (w.setCell ⟨g,i*4+3,none⟩ (.string s)) j S {m with ep:=m.ep.set i ⟨x.kind,x.name,x.loc,s⟩}:=by
 obtain⟨_,_,A,q⟩:=h.ep.typed (OwnR.blkOf z)
 refine⟨h.rq.aside q (by decide),h.im.aside q (by decide),?_,h.st.aside q (by decide),h.ex.aside q (by decide)⟩
 have e:=zkL (f:=epL) (m:=4) (fun _=>rfl) m.ep i 3 x ⟨x.kind,x.name,x.loc,s⟩ (.string s) H (by decide) rfl
 have:=h.ep.put z (i*4+3) (.string s)
 rw[e] at this
 show OwnR _ _ _ _ _ (m.ep.set i _).length _
 rw[List.length_set]
 exact this
end Go.Proofs.YtjdddblpfbmpaaaGreat