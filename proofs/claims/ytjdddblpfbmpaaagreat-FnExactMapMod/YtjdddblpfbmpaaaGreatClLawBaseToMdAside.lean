/-
  What the laws' helpers over rows lean on. No program is spoken of.
  Rows of the call's own that are marked cell by cell. No program is spoken of.
  What the laws' markers of lists answer: the walks.
  What the laws' askers of marked lists answer: the walks.
  Rows beside a row that is marked. No program is spoken of but for the numbers of its types.
  What the laws' marker and asker of programs answer,from any mark on: the walks.
  A program in memory beside a block that is written. No program is spoken of but for the numbers of its types.
-/
import Derived.Laws.OwnMore
import Derived.Test.YtjdddblpfbmpaaaGreatClTwoModToLawMark
namespace Go.Proofs.YtjdddblpfbmpaaaGreat
set_option maxRecDepth 100000
set_option maxHeartbeats 3200000
open Go.RowKit Go.PlainAid Go.Sort
theorem zfq {α:Type} {l:List α} {j:Nat} (h:j<l.length): ∃x,l[j]? =some x:=⟨_,List.getElem?_eq_getElem h⟩
def FK (kd:Nat→Bool) (m k i:Nat):Value:=if kd (i%m) then .string (mtS (k+i)) else .int .i64 ((k+i:Nat):Int)
theorem zbt {h:Nat→Bool} {m k i c q:Nat} (j:i%m=c) (w:h c=true) (z:q=k+i):FK h m k i= .string (mtS q):=by rw[FK,j,w,z];rfl
theorem zco {h:Nat→Bool} {m k i c q:Nat} (j:i%m=c) (w:h c=false) (z:q=k+i):FK h m k i= .int .i64 (q:Int):=by rw[FK,j,w,z];rfl
def OwnG (w:World) (base:Nat) (e:TypeId) (size:Nat) (r:Rw) (n:Nat) (F:Nat→Value) (c:Nat):Prop:=∃xs,OwnR w base e size r n xs∧∀i,i<c→xs[i]? =some (F i)
theorem OwnG.start {w:World} {j size n:Nat} {e:TypeId} {r:Rw} {xs:List Value} (h:OwnR w j e size r n xs) (F:Nat→Value):OwnG w j e size r n F 0:=⟨xs,h,fun i z=>absurd z (Nat.not_lt_zero i)⟩
theorem OwnG.keep {w w':World} {j size n c:Nat} {e:TypeId} {r:Rw} {F:Nat→Value} (h:OwnG w j e size r n F c) (z: ∀k,r.blk=some k→w'.heap[k]? =w.heap[k]?):OwnG w' j e size r n F c:=by
 obtain⟨I,H,A⟩:=h
 exact⟨I,H.keep z,A⟩
theorem OwnG.typed {w:World} {j size n c:Nat} {e:TypeId} {r:Rw} {F:Nat→Value} (h:OwnG w j e size r n F c) {k:Nat} (A:r.blk=some k):j≤k∧k<w.heap.size∧∃z,w.heap[k]? =some (.cells z e (0,0)):=by
 obtain⟨I,H,_⟩:=h
 exact H.typed A
theorem OwnG.later {w w':World} {j size n c:Nat} {e:TypeId} {r:Rw} {F:Nat→Value} (h:OwnG w j e size r n F c) (z:Below w.heap.size w w'):OwnG w' j e size r n F c:=h.keep fun k g=>z.block k (h.typed g).2.1
theorem OwnR.at {w:World} {j size n g:Nat} {e:TypeId} {r:Rw} {xs:List Value} (h:OwnR w j e size r n xs) (z:r.a=some ⟨g,0,none⟩):w.ownsRow j e size (.slice (some ⟨g,0,none⟩) n r.cap) n xs:=by
 unfold OwnR at h
 rw[z] at h
 exact h
theorem OwnG.has {w:World} {j size n c g:Nat} {e:TypeId} {r:Rw} {F:Nat→Value} (h:OwnG w j e size r n F c) (H:r.a=some ⟨g,0,none⟩) (i:Nat) (A:i<n*size): ∃v,w.cell? ⟨g,i,none⟩=some v:=by
 obtain⟨I,z,_⟩:=h
 rw[(z.at H).cellAt i A]
 exact⟨_,List.getElem?_eq_getElem (by rw[z.1];exact A)⟩
theorem OwnG.cell {w:World} {j size n c g:Nat} {e:TypeId} {r:Rw} {F:Nat→Value} (h:OwnG w j e size r n F c) (H:r.a=some ⟨g,0,none⟩) (i:Nat) (J:i<n*size) (I:i<c):w.cell? ⟨g,i,none⟩=some (F i):=by
 obtain⟨L,A,z⟩:=h
 rw[(A.at H).cellAt i J]
 exact z i I
theorem OwnG.free {w:World} {j size n c g:Nat} {e:TypeId} {r:Rw} {F:Nat→Value} (h:OwnG w j e size r n F c) (A:r.a=some ⟨g,0,none⟩) (i:Nat):w.frozen? ⟨g,i,none⟩=false:=by
 obtain⟨H,z,_⟩:=h
 exact (z.at A).frozenAt i
theorem zbc {r:Rw} {g:Nat} (h:r.a=some ⟨g,0,none⟩):r.blk=some g:=by rw[Rw.blk,h];rfl
theorem OwnG.put {w:World} {j size n c g:Nat} {e:TypeId} {r:Rw} {F:Nat→Value} (h:OwnG w j e size r n F c) (A:r.a=some ⟨g,0,none⟩) (M:c<n*size) {v:Value} (H:F c=v):OwnG (w.setCell ⟨g,c,none⟩ v) j e size r n F (c+1):=by
 subst H
 obtain⟨J,z,I⟩:=h
 have L:=z.1
 refine⟨J.set c (F c),?_,fun i N=>?_⟩
 ·unfold OwnR
  rw[A]
  exact ((z.at A).stored c (F c)).1
 ·by_cases e:i=c
  ·subst e
   exact List.getElem?_set_self (by omega)
  ·rw[List.getElem?_set_ne (by omega)]
   exact I i (by omega)
theorem zdm (w:World) (b:Option Nat):w.grownBy w b:=⟨rfl,rfl,rfl,Nat.le_refl _,fun _ _ _=>rfl⟩
theorem zj2 {w A H:World} {b:Option Nat} (h:w.grownBy A b) (k:A.grownBy H b):w.grownBy H b:=
 ⟨k.os.trans h.os,k.tape.trans h.tape,k.output.trans h.output,Nat.le_trans h.size k.size,fun i z j=>(k.block i (Nat.lt_of_lt_of_le z h.size) j).trans (h.block i z j)⟩
theorem zdn {w j z:World} {b:Option Nat} (h:w.grownBy j b) (k:Below j.heap.size j z):w.grownBy z b:=
 zj2 h ⟨k.os,k.tape,k.output,k.size,fun i A _=>k.block i A⟩
theorem zbO {w j:World} {g i:Nat} {u:Value} {b:Option Nat} (h:w.grownBy j b) (A:b=some g):w.grownBy (j.setCell ⟨g,i,none⟩ u) b:=
 zj2 h ⟨rfl,rfl,rfl,by show _≤(j.heap.modify _ _).size;simp,fun k _ z=>Below.heap_setCell j ⟨g,i,none⟩ u k (fun e=>z (by rw[A,e]))⟩
theorem zor (j:Option Addr) (z h:Nat) (w:World):Calls Tryz.prog 53 #[.slice j 0 z,.int .i64 h] w fun e w'=>e= .returned (.int .i64 h)∧w'=w:=by
 go_enter Tryz.func53,Tryz.ntmps53
 go_wp2
 go_loopg [1,5] 1 (fun k q i wr=>k=1∧q= .int .i64 h∧i= .int .i64 0∧wr=w)
 case atStart=>exact⟨rfl,rfl,rfl,rfl⟩
 case round=>
  obtain⟨rfl,rfl,rfl,rfl⟩:=hrel
  go_wp2
  go_ret
  exact⟨rfl,rfl⟩
theorem zos (h g n z:Nat) (r:Rw) (w:World) (h1:OwnG w h 9 1 r n (FK (fun _=>true) 1 z) 0) (e1:r.a=some ⟨g,0,none⟩) (hn:n≤1048576) (al:0<z) (hk:z+n*1≤7900000):
  Calls Tryz.prog 53 #[.slice (some ⟨g,0,none⟩) n r.cap,.int .i64 z] w fun e w'=>e= .returned (.int .i64 ((z+n:Nat):Int))∧OwnG w' h 9 1 r n (FK (fun _=>true) 1 z) (n)∧w.grownBy w' r.blk:=by
 have H1:=zc h1
 have O:=zc e1
 clear h1 e1
 go_enter Tryz.func53,Tryz.ntmps53
 go_wp2
 go_loopg [1,5] n (fun k q i wr=>∃j:Nat,i= .int .i64 j∧j+k=n∧q= .int .i64 ((z+j:Nat):Int)∧OwnG wr h 9 1 r n (FK (fun _=>true) 1 z) (j)∧w.grownBy wr r.blk)
 case atStart=>exact⟨0,rfl,by omega,by simp,by exact H1.out,zdm _ _⟩
 case round=>
  obtain⟨j,rfl,hj,hq,ho,hg⟩:=hrel
  have H:=zc ho
  have X:=zc hg
  clear ho hg
  by_cases ak:j<n
  ·have Y:(j:Int)<(n:Int):=by omega
   obtain⟨A,V⟩: ∃A:Nat,A=z+(j):=⟨_,rfl⟩
   rw[←V] at hq
   subst hq
   obtain⟨J,ad⟩: ∃J:Nat,J=A+1:=⟨_,rfl⟩
   have an:(A:Int)+1=(J:Int):=by omega
   have ae:Hid (FK (fun _=>true) 1 z (j)= .string (mtS A)):=zbt (c:=0) (by omega) (by decide) (by omega)
   have HQ:Hid (J=z+(j+1)):=by show J=_;omega
   have am:J≤7950000:=by omega
   have ai:0<A:=by omega
   have I:Hid (0<A∧A≤8000000):=⟨by omega,by omega⟩
   obtain⟨N,U⟩: ∃N,N=j+1:=⟨_,rfl⟩
   have ej:(j:Int)+1=(N:Int):=by omega
   have HJ:=zc U
   clear U V ad
   obtain⟨ao,aj⟩:=H.out.has O.out (j) (by omega)
   have ah:=H.out.free O.out (j)
   go_wp2_with fail
   refine (zc1 A _ I.out.1 I.out.2).mono ?_
   rintro e w0 ⟨rfl,L⟩
   have M:=zc (H.out.later L)
   have ag:=zc (zdn X.out L)
   clear L
   obtain⟨af,ab⟩:=M.out.has O.out (j) (by omega)
   have ac:=M.out.free O.out (j)
   have aa:Hid (OwnG (w0.setCell ⟨g,j,none⟩ (.string (mtS A))) h 9 1 r n (FK (fun _=>true) 1 z) (j+1)):=M.out.put O.out (by omega) ae.out
   have Z:Hid (w.grownBy (w0.setCell ⟨g,j,none⟩ (.string (mtS A))) r.blk):=zbO ag.out (zbc O.out)
   go_wp2
   go_roundg (gk-1)
   case rel=>exact⟨N,rfl,by have:=HJ.out;omega,by have:=HJ.out;have:=HQ.out;rw[show J=z+N from by omega],by have:=aa.out;rw[show N=j+1 from by have:=HJ.out;omega];exact this,Z.out⟩
   case measure=>omega
  ·have Y: ¬(j:Int)<(n:Int):=by omega
   obtain rfl:j=n:=by omega
   subst hq
   go_wp2
   go_ret
   exact⟨rfl,H.out,X.out⟩
theorem zot (h n j:Nat) (r:Rw) (w:World) (I:OwnG w h 9 1 r n (FK (fun _=>true) 1 j) 0) (O:n≤1048576) (z:0<j) (L:j+n*1≤7900000):
  Calls Tryz.prog 53 #[.slice r.a n r.cap,.int .i64 j] w fun e w'=>e= .returned (.int .i64 ((j+n:Nat):Int))∧OwnG w' h 9 1 r n (FK (fun _=>true) 1 j) (n)∧w.grownBy w' r.blk:=by
 by_cases J:n=0
 ·subst J
  refine (zor _ _ j w).mono ?_
  rintro e U ⟨rfl,rfl⟩
  exact⟨by simp,by exact I,zdm _ _⟩
 ·obtain⟨M,H,N⟩:=I
  rcases H.nil_or with ⟨_,_,e⟩|⟨g,A⟩
  ·exact absurd e J
  ·rw[A]
   exact zos h g n j r w ⟨M,H,N⟩ A O z L
theorem zou (j:Option Addr) (z h:Nat) (w:World):Calls Tryz.prog 54 #[.slice j 0 z,.int .i64 h] w fun e w'=>e= .returned (.int .i64 h)∧w'=w:=by
 go_enter Tryz.func54,Tryz.ntmps54
 go_wp2
 go_loopg [1,5] 1 (fun k q i wr=>k=1∧q= .int .i64 h∧i= .int .i64 0∧wr=w)
 case atStart=>exact⟨rfl,rfl,rfl,rfl⟩
 case round=>
  obtain⟨rfl,rfl,rfl,rfl⟩:=hrel
  go_wp2
  go_ret
  exact⟨rfl,rfl⟩
theorem zov (z g n H:Nat) (r:Rw) (w:World) (h1:OwnG w z 84 3 r n (FK (fun _=>true) 3 H) 0) (e1:r.a=some ⟨g,0,none⟩) (hn:n≤1048576) (aY:0<H) (hk:H+n*3≤7900000):
  Calls Tryz.prog 54 #[.slice (some ⟨g,0,none⟩) n r.cap,.int .i64 H] w fun e w'=>e= .returned (.int .i64 ((H+n*3:Nat):Int))∧OwnG w' z 84 3 r n (FK (fun _=>true) 3 H) (n*3)∧w.grownBy w' r.blk:=by
 have H1:=zc h1
 have h:=zc e1
 clear h1 e1
 go_enter Tryz.func54,Tryz.ntmps54
 go_wp2
 go_loopg [1,5] n (fun k q i wr=>∃j:Nat,i= .int .i64 j∧j+k=n∧q= .int .i64 ((H+j*3:Nat):Int)∧OwnG wr z 84 3 r n (FK (fun _=>true) 3 H) (j*3)∧w.grownBy wr r.blk)
 case atStart=>exact⟨0,rfl,by omega,by simp,by rw[Nat.zero_mul];exact H1.out,zdm _ _⟩
 case round=>
  obtain⟨j,rfl,hj,hq,ho,hg⟩:=hrel
  have A:=zc ho
  have ac:=zc hg
  clear ho hg
  by_cases aX:j<n
  ·have ag:(j:Int)<(n:Int):=by omega
   obtain⟨M,af⟩: ∃M:Nat,M=H+(j*3):=⟨_,rfl⟩
   rw[←af] at hq
   subst hq
   obtain⟨N,aJ⟩: ∃N:Nat,N=M+1:=⟨_,rfl⟩
   have a4:(M:Int)+1=(N:Int):=by omega
   obtain⟨L,aE⟩: ∃L:Nat,L=N+1:=⟨_,rfl⟩
   have aW:(N:Int)+1=(L:Int):=by omega
   obtain⟨X,aA⟩: ∃X:Nat,X=L+1:=⟨_,rfl⟩
   have aZ:(L:Int)+1=(X:Int):=by omega
   have aF:Hid (FK (fun _=>true) 3 H (j*3)= .string (mtS M)):=zbt (c:=0) (by omega) (by decide) (by omega)
   have aB:Hid (FK (fun _=>true) 3 H (j*3+1)= .string (mtS N)):=zbt (c:=1) (by omega) (by decide) (by omega)
   have aM:Hid (FK (fun _=>true) 3 H (j*3+2)= .string (mtS L)):=zbt (c:=2) (by omega) (by decide) (by omega)
   have HQ:Hid (X=H+(j*3+3)):=by show X=_;omega
   have a1:X≤7950000:=by omega
   have aT:0<M:=by omega
   have V:Hid (0<M∧M≤8000000):=⟨by omega,by omega⟩
   have U:Hid (0<N∧N≤8000000):=⟨by omega,by omega⟩
   have O:Hid (0<L∧L≤8000000):=⟨by omega,by omega⟩
   obtain⟨j1,ae⟩: ∃j1,j1=j+1:=⟨_,rfl⟩
   have ej:(j:Int)+1=(j1:Int):=by omega
   have HJ:=zc ae
   clear ae af aJ aE aA
   obtain⟨a2,aQ⟩:=A.out.has h.out (j*3) (by omega)
   have aP:=A.out.free h.out (j*3)
   obtain⟨a0,aR⟩:=A.out.has h.out (j*3+1) (by omega)
   have aS:=A.out.free h.out (j*3+1)
   obtain⟨a3,aV⟩:=A.out.has h.out (j*3+2) (by omega)
   have aU:=A.out.free h.out (j*3+2)
   go_wp2_with fail
   refine (zc1 M _ V.out.1 V.out.2).mono ?_
   rintro e w0 ⟨rfl,Z⟩
   have I:=zc (A.out.later Z)
   have aI:=zc (zdn ac.out Z)
   clear Z
   obtain⟨aH,ar⟩:=I.out.has h.out (j*3) (by omega)
   have ay:=I.out.free h.out (j*3)
   obtain⟨aN,az⟩:=I.out.has h.out (j*3+1) (by omega)
   have ap:=I.out.free h.out (j*3+1)
   obtain⟨aC,ao⟩:=I.out.has h.out (j*3+2) (by omega)
   have au:=I.out.free h.out (j*3+2)
   have ah:Hid (OwnG (w0.setCell ⟨g,j*3,none⟩ (.string (mtS M))) z 84 3 r n (FK (fun _=>true) 3 H) (j*3+1)):=I.out.put h.out (by omega) aF.out
   have ad:Hid (w.grownBy (w0.setCell ⟨g,j*3,none⟩ (.string (mtS M))) r.blk):=zbO aI.out (zbc h.out)
   go_wp2_with fail
   refine (zc1 N _ U.out.1 U.out.2).mono ?_
   rintro e w1 ⟨rfl,ab⟩
   have J:=zc (ah.out.later ab)
   have aO:=zc (zdn ad.out ab)
   clear ab
   obtain⟨aD,aq⟩:=J.out.has h.out (j*3+1) (by omega)
   have av:=J.out.free h.out (j*3+1)
   obtain⟨aK,ax⟩:=J.out.has h.out (j*3+2) (by omega)
   have am:=J.out.free h.out (j*3+2)
   have aj:Hid (OwnG (w1.setCell ⟨g,j*3+1,none⟩ (.string (mtS N))) z 84 3 r n (FK (fun _=>true) 3 H) (j*3+1+1)):=J.out.put h.out (by omega) aB.out
   have ai:Hid (w.grownBy (w1.setCell ⟨g,j*3+1,none⟩ (.string (mtS N))) r.blk):=zbO aO.out (zbc h.out)
   go_wp2_with fail
   refine (zc1 L _ O.out.1 O.out.2).mono ?_
   rintro e w2 ⟨rfl,aa⟩
   have Y:=zc (aj.out.later aa)
   have aG:=zc (zdn ai.out aa)
   clear aa
   obtain⟨aL,aw⟩:=Y.out.has h.out (j*3+2) (by omega)
   have an:=Y.out.free h.out (j*3+2)
   have al:Hid (OwnG (w2.setCell ⟨g,j*3+2,none⟩ (.string (mtS L))) z 84 3 r n (FK (fun _=>true) 3 H) (j*3+2+1)):=Y.out.put h.out (by omega) aM.out
   have ak:Hid (w.grownBy (w2.setCell ⟨g,j*3+2,none⟩ (.string (mtS L))) r.blk):=zbO aG.out (zbc h.out)
   go_wp2
   go_roundg (gk-1)
   case rel=>exact⟨j1,rfl,by have:=HJ.out;omega,by have:=HJ.out;have:=HQ.out;rw[show X=H+j1*3 from by omega],by have:=al.out;rw[show j1*3=j*3+2+1 from by have:=HJ.out;omega];exact this,ak.out⟩
   case measure=>omega
  ·have ag: ¬(j:Int)<(n:Int):=by omega
   obtain rfl:j=n:=by omega
   subst hq
   go_wp2
   go_ret
   exact⟨rfl,A.out,ac.out⟩
theorem zow (h n j:Nat) (r:Rw) (w:World) (I:OwnG w h 84 3 r n (FK (fun _=>true) 3 j) 0) (O:n≤1048576) (z:0<j) (L:j+n*3≤7900000):
  Calls Tryz.prog 54 #[.slice r.a n r.cap,.int .i64 j] w fun e w'=>e= .returned (.int .i64 ((j+n*3:Nat):Int))∧OwnG w' h 84 3 r n (FK (fun _=>true) 3 j) (n*3)∧w.grownBy w' r.blk:=by
 by_cases J:n=0
 ·subst J
  refine (zou _ _ j w).mono ?_
  rintro e U ⟨rfl,rfl⟩
  exact⟨by simp,by rw[Nat.zero_mul];exact I,zdm _ _⟩
 ·obtain⟨M,H,N⟩:=I
  rcases H.nil_or with ⟨_,_,e⟩|⟨g,A⟩
  ·exact absurd e J
  ·rw[A]
   exact zov h g n j r w ⟨M,H,N⟩ A O z L
theorem zox (j:Option Addr) (z h:Nat) (w:World):Calls Tryz.prog 55 #[.slice j 0 z,.int .i64 h] w fun e w'=>e= .returned (.int .i64 h)∧w'=w:=by
 go_enter Tryz.func55,Tryz.ntmps55
 go_wp2
 go_loopg [1,5] 1 (fun k q i wr=>k=1∧q= .int .i64 h∧i= .int .i64 0∧wr=w)
 case atStart=>exact⟨rfl,rfl,rfl,rfl⟩
 case round=>
  obtain⟨rfl,rfl,rfl,rfl⟩:=hrel
  go_wp2
  go_ret
  exact⟨rfl,rfl⟩
theorem zoy (z g n H:Nat) (r:Rw) (w:World) (h1:OwnG w z 86 4 r n (FK (fun i=> !decide (i=0)) 4 H) 0) (e1:r.a=some ⟨g,0,none⟩) (hn:n≤1048576) (a5:0<H) (hk:H+n*4≤7900000):
  Calls Tryz.prog 55 #[.slice (some ⟨g,0,none⟩) n r.cap,.int .i64 H] w fun e w'=>e= .returned (.int .i64 ((H+n*4:Nat):Int))∧OwnG w' z 86 4 r n (FK (fun i=> !decide (i=0)) 4 H) (n*4)∧w.grownBy w' r.blk:=by
 have H1:=zc h1
 have h:=zc e1
 clear h1 e1
 go_enter Tryz.func55,Tryz.ntmps55
 go_wp2
 go_loopg [1,5] n (fun k q i wr=>∃j:Nat,i= .int .i64 j∧j+k=n∧q= .int .i64 ((H+j*4:Nat):Int)∧OwnG wr z 86 4 r n (FK (fun i=> !decide (i=0)) 4 H) (j*4)∧w.grownBy wr r.blk)
 case atStart=>exact⟨0,rfl,by omega,by simp,by rw[Nat.zero_mul];exact H1.out,zdm _ _⟩
 case round=>
  obtain⟨j,rfl,hj,hq,ho,hg⟩:=hrel
  have A:=zc ho
  have ad:=zc hg
  clear ho hg
  by_cases a4:j<n
  ·have ah:(j:Int)<(n:Int):=by omega
   obtain⟨X,ag⟩: ∃X:Nat,X=H+(j*4):=⟨_,rfl⟩
   rw[←ag] at hq
   subst hq
   obtain⟨N,aL⟩: ∃N:Nat,N=X+1:=⟨_,rfl⟩
   have bc:(X:Int)+1=(N:Int):=by omega
   obtain⟨M,aH⟩: ∃M:Nat,M=N+1:=⟨_,rfl⟩
   have a3:(N:Int)+1=(M:Int):=by omega
   obtain⟨J,aD⟩: ∃J:Nat,J=M+1:=⟨_,rfl⟩
   have a6:(M:Int)+1=(J:Int):=by omega
   obtain⟨q4,aF⟩: ∃q4:Nat,q4=J+1:=⟨_,rfl⟩
   have a2:(J:Int)+1=(q4:Int):=by omega
   have aJ:Hid (FK (fun i=> !decide (i=0)) 4 H (j*4)= .int .i64 (X:Int)):=zco (c:=0) (by omega) (by decide) (by omega)
   have aE:Hid (FK (fun i=> !decide (i=0)) 4 H (j*4+1)= .string (mtS N)):=zbt (c:=1) (by omega) (by decide) (by omega)
   have aP:Hid (FK (fun i=> !decide (i=0)) 4 H (j*4+2)= .string (mtS M)):=zbt (c:=2) (by omega) (by decide) (by omega)
   have aQ:Hid (FK (fun i=> !decide (i=0)) 4 H (j*4+3)= .string (mtS J)):=zbt (c:=3) (by omega) (by decide) (by omega)
   have HQ:Hid (q4=H+(j*4+4)):=by show q4=_;omega
   have a9:q4≤7950000:=by omega
   have aZ:0<X:=by omega
   have U:Hid (0<N∧N≤8000000):=⟨by omega,by omega⟩
   have O:Hid (0<M∧M≤8000000):=⟨by omega,by omega⟩
   have V:Hid (0<J∧J≤8000000):=⟨by omega,by omega⟩
   obtain⟨j1,af⟩: ∃j1,j1=j+1:=⟨_,rfl⟩
   have ej:(j:Int)+1=(j1:Int):=by omega
   have HJ:=zc af
   clear af ag aL aH aD aF
   obtain⟨ba,aU⟩:=A.out.has h.out (j*4) (by omega)
   have aT:=A.out.free h.out (j*4)
   obtain⟨a8,aV⟩:=A.out.has h.out (j*4+1) (by omega)
   have aY:=A.out.free h.out (j*4+1)
   obtain⟨bb,a1⟩:=A.out.has h.out (j*4+2) (by omega)
   have a0:=A.out.free h.out (j*4+2)
   obtain⟨a7,aX⟩:=A.out.has h.out (j*4+3) (by omega)
   have aW:=A.out.free h.out (j*4+3)
   have ai:Hid (OwnG (wr.setCell ⟨g,j*4,none⟩ (.int .i64 (X:Int))) z 86 4 r n (FK (fun i=> !decide (i=0)) 4 H) (j*4+1)):=A.out.put h.out (by omega) aJ.out
   have ae:Hid (w.grownBy (wr.setCell ⟨g,j*4,none⟩ (.int .i64 (X:Int))) r.blk):=zbO ad.out (zbc h.out)
   go_wp2_with fail
   refine (zc1 N _ U.out.1 U.out.2).mono ?_
   rintro e w1 ⟨rfl,ab⟩
   have I:=zc (ai.out.later ab)
   have aS:=zc (zdn ae.out ab)
   clear ab
   obtain⟨aG,ax⟩:=I.out.has h.out (j*4+1) (by omega)
   have ay:=I.out.free h.out (j*4+1)
   obtain⟨aM,aA⟩:=I.out.has h.out (j*4+2) (by omega)
   have ao:=I.out.free h.out (j*4+2)
   obtain⟨aR,ar⟩:=I.out.has h.out (j*4+3) (by omega)
   have aq:=I.out.free h.out (j*4+3)
   have ak:Hid (OwnG (w1.setCell ⟨g,j*4+1,none⟩ (.string (mtS N))) z 86 4 r n (FK (fun i=> !decide (i=0)) 4 H) (j*4+1+1)):=I.out.put h.out (by omega) aE.out
   have aj:Hid (w.grownBy (w1.setCell ⟨g,j*4+1,none⟩ (.string (mtS N))) r.blk):=zbO aS.out (zbc h.out)
   go_wp2_with fail
   refine (zc1 M _ O.out.1 O.out.2).mono ?_
   rintro e w2 ⟨rfl,Y⟩
   have L:=zc (ak.out.later Y)
   have aK:=zc (zdn aj.out Y)
   clear Y
   obtain⟨aN,az⟩:=L.out.has h.out (j*4+2) (by omega)
   have ap:=L.out.free h.out (j*4+2)
   obtain⟨aI,av⟩:=L.out.has h.out (j*4+3) (by omega)
   have aB:=L.out.free h.out (j*4+3)
   have an:Hid (OwnG (w2.setCell ⟨g,j*4+2,none⟩ (.string (mtS M))) z 86 4 r n (FK (fun i=> !decide (i=0)) 4 H) (j*4+2+1)):=L.out.put h.out (by omega) aP.out
   have al:Hid (w.grownBy (w2.setCell ⟨g,j*4+2,none⟩ (.string (mtS M))) r.blk):=zbO aK.out (zbc h.out)
   go_wp2_with fail
   refine (zc1 J _ V.out.1 V.out.2).mono ?_
   rintro e w3 ⟨rfl,Z⟩
   have aa:=zc (an.out.later Z)
   have aO:=zc (zdn al.out Z)
   clear Z
   obtain⟨aC,aw⟩:=aa.out.has h.out (j*4+3) (by omega)
   have au:=aa.out.free h.out (j*4+3)
   have am:Hid (OwnG (w3.setCell ⟨g,j*4+3,none⟩ (.string (mtS J))) z 86 4 r n (FK (fun i=> !decide (i=0)) 4 H) (j*4+3+1)):=aa.out.put h.out (by omega) aQ.out
   have ac:Hid (w.grownBy (w3.setCell ⟨g,j*4+3,none⟩ (.string (mtS J))) r.blk):=zbO aO.out (zbc h.out)
   go_wp2
   go_roundg (gk-1)
   case rel=>exact⟨j1,rfl,by have:=HJ.out;omega,by have:=HJ.out;have:=HQ.out;rw[show q4=H+j1*4 from by omega],by have:=am.out;rw[show j1*4=j*4+3+1 from by have:=HJ.out;omega];exact this,ac.out⟩
   case measure=>omega
  ·have ah: ¬(j:Int)<(n:Int):=by omega
   obtain rfl:j=n:=by omega
   subst hq
   go_wp2
   go_ret
   exact⟨rfl,A.out,ad.out⟩
theorem zoz (h n j:Nat) (r:Rw) (w:World) (I:OwnG w h 86 4 r n (FK (fun i=> !decide (i=0)) 4 j) 0) (O:n≤1048576) (z:0<j) (L:j+n*4≤7900000):
  Calls Tryz.prog 55 #[.slice r.a n r.cap,.int .i64 j] w fun e w'=>e= .returned (.int .i64 ((j+n*4:Nat):Int))∧OwnG w' h 86 4 r n (FK (fun i=> !decide (i=0)) 4 j) (n*4)∧w.grownBy w' r.blk:=by
 by_cases J:n=0
 ·subst J
  refine (zox _ _ j w).mono ?_
  rintro e U ⟨rfl,rfl⟩
  exact⟨by simp,by rw[Nat.zero_mul];exact I,zdm _ _⟩
 ·obtain⟨M,H,N⟩:=I
  rcases H.nil_or with ⟨_,_,e⟩|⟨g,A⟩
  ·exact absurd e J
  ·rw[A]
   exact zoy h g n j r w ⟨M,H,N⟩ A O z L
theorem zo0 (j:Option Addr) (z h:Nat) (w:World):Calls Tryz.prog 56 #[.slice j 0 z,.int .i64 h] w fun e w'=>e= .returned (.int .i64 h)∧w'=w:=by
 go_enter Tryz.func56,Tryz.ntmps56
 go_wp2
 go_loopg [1,5] 1 (fun k q i wr=>k=1∧q= .int .i64 h∧i= .int .i64 0∧wr=w)
 case atStart=>exact⟨rfl,rfl,rfl,rfl⟩
 case round=>
  obtain⟨rfl,rfl,rfl,rfl⟩:=hrel
  go_wp2
  go_ret
  exact⟨rfl,rfl⟩
theorem zo1 (h g n A:Nat) (r:Rw) (w:World) (h1:OwnG w h 107 3 r n (FK (fun i=>decide (i=1)) 3 A) 0) (e1:r.a=some ⟨g,0,none⟩) (hn:n≤1048576) (aG:0<A) (hk:A+n*3≤7900000):
  Calls Tryz.prog 56 #[.slice (some ⟨g,0,none⟩) n r.cap,.int .i64 A] w fun e w'=>e= .returned (.int .i64 ((A+n*3:Nat):Int))∧OwnG w' h 107 3 r n (FK (fun i=>decide (i=1)) 3 A) (n*3)∧w.grownBy w' r.blk:=by
 have H1:=zc h1
 have H:=zc e1
 clear h1 e1
 go_enter Tryz.func56,Tryz.ntmps56
 go_wp2
 go_loopg [1,5] n (fun k q i wr=>∃j:Nat,i= .int .i64 j∧j+k=n∧q= .int .i64 ((A+j*3:Nat):Int)∧OwnG wr h 107 3 r n (FK (fun i=>decide (i=1)) 3 A) (j*3)∧w.grownBy wr r.blk)
 case atStart=>exact⟨0,rfl,by omega,by simp,by rw[Nat.zero_mul];exact H1.out,zdm _ _⟩
 case round=>
  obtain⟨j,rfl,hj,hq,ho,hg⟩:=hrel
  have z:=zc ho
  have ad:=zc hg
  clear ho hg
  by_cases aD:j<n
  ·have ae:(j:Int)<(n:Int):=by omega
   obtain⟨L,aa⟩: ∃L:Nat,L=A+(j*3):=⟨_,rfl⟩
   rw[←aa] at hq
   subst hq
   obtain⟨I,al⟩: ∃I:Nat,I=L+1:=⟨_,rfl⟩
   have aK:(L:Int)+1=(I:Int):=by omega
   obtain⟨N,av⟩: ∃N:Nat,N=I+1:=⟨_,rfl⟩
   have aI:(I:Int)+1=(N:Int):=by omega
   obtain⟨O,aq⟩: ∃O:Nat,O=N+1:=⟨_,rfl⟩
   have aH:(N:Int)+1=(O:Int):=by omega
   have am:Hid (FK (fun i=>decide (i=1)) 3 A (j*3)= .int .i64 (L:Int)):=zco (c:=0) (by omega) (by decide) (by omega)
   have au:Hid (FK (fun i=>decide (i=1)) 3 A (j*3+1)= .string (mtS I)):=zbt (c:=1) (by omega) (by decide) (by omega)
   have ao:Hid (FK (fun i=>decide (i=1)) 3 A (j*3+2)= .int .i64 (N:Int)):=zco (c:=2) (by omega) (by decide) (by omega)
   have HQ:Hid (O=A+(j*3+3)):=by show O=_;omega
   have aJ:O≤7950000:=by omega
   have aA:0<L:=by omega
   have M:Hid (0<I∧I≤8000000):=⟨by omega,by omega⟩
   obtain⟨V,X⟩: ∃V,V=j+1:=⟨_,rfl⟩
   have ej:(j:Int)+1=(V:Int):=by omega
   have HJ:=zc X
   clear X aa al av aq
   obtain⟨aL,aB⟩:=z.out.has H.out (j*3) (by omega)
   have ax:=z.out.free H.out (j*3)
   obtain⟨aF,ay⟩:=z.out.has H.out (j*3+1) (by omega)
   have aw:=z.out.free H.out (j*3+1)
   obtain⟨aE,aC⟩:=z.out.has H.out (j*3+2) (by omega)
   have az:=z.out.free H.out (j*3+2)
   have ag:Hid (OwnG (wr.setCell ⟨g,j*3,none⟩ (.int .i64 (L:Int))) h 107 3 r n (FK (fun i=>decide (i=1)) 3 A) (j*3+1)):=z.out.put H.out (by omega) am.out
   have af:Hid (w.grownBy (wr.setCell ⟨g,j*3,none⟩ (.int .i64 (L:Int))) r.blk):=zbO ad.out (zbc H.out)
   go_wp2_with fail
   refine (zc1 I _ M.out.1 M.out.2).mono ?_
   rintro e w1 ⟨rfl,U⟩
   have J:=zc (ag.out.later U)
   have ar:=zc (zdn af.out U)
   clear U
   obtain⟨ap,ah⟩:=J.out.has H.out (j*3+1) (by omega)
   have ai:=J.out.free H.out (j*3+1)
   obtain⟨an,ak⟩:=J.out.has H.out (j*3+2) (by omega)
   have aj:=J.out.free H.out (j*3+2)
   have ab:Hid (OwnG (w1.setCell ⟨g,j*3+1,none⟩ (.string (mtS I))) h 107 3 r n (FK (fun i=>decide (i=1)) 3 A) (j*3+1+1)):=J.out.put H.out (by omega) au.out
   have Z:Hid (w.grownBy (w1.setCell ⟨g,j*3+1,none⟩ (.string (mtS I))) r.blk):=zbO ar.out (zbc H.out)
   have Y:Hid (OwnG ((w1.setCell ⟨g,j*3+1,none⟩ (.string (mtS I))).setCell ⟨g,j*3+2,none⟩ (.int .i64 (N:Int))) h 107 3 r n (FK (fun i=>decide (i=1)) 3 A) (j*3+2+1)):=ab.out.put H.out (by omega) ao.out
   have ac:Hid (w.grownBy ((w1.setCell ⟨g,j*3+1,none⟩ (.string (mtS I))).setCell ⟨g,j*3+2,none⟩ (.int .i64 (N:Int))) r.blk):=zbO Z.out (zbc H.out)
   go_wp2
   go_roundg (gk-1)
   case rel=>exact⟨V,rfl,by have:=HJ.out;omega,by have:=HJ.out;have:=HQ.out;rw[show O=A+V*3 from by omega],by have:=Y.out;rw[show V*3=j*3+2+1 from by have:=HJ.out;omega];exact this,ac.out⟩
   case measure=>omega
  ·have ae: ¬(j:Int)<(n:Int):=by omega
   obtain rfl:j=n:=by omega
   subst hq
   go_wp2
   go_ret
   exact⟨rfl,z.out,ad.out⟩
theorem zo2 (h n j:Nat) (r:Rw) (w:World) (I:OwnG w h 107 3 r n (FK (fun i=>decide (i=1)) 3 j) 0) (O:n≤1048576) (z:0<j) (L:j+n*3≤7900000):
  Calls Tryz.prog 56 #[.slice r.a n r.cap,.int .i64 j] w fun e w'=>e= .returned (.int .i64 ((j+n*3:Nat):Int))∧OwnG w' h 107 3 r n (FK (fun i=>decide (i=1)) 3 j) (n*3)∧w.grownBy w' r.blk:=by
 by_cases J:n=0
 ·subst J
  refine (zo0 _ _ j w).mono ?_
  rintro e U ⟨rfl,rfl⟩
  exact⟨by simp,by rw[Nat.zero_mul];exact I,zdm _ _⟩
 ·obtain⟨M,H,N⟩:=I
  rcases H.nil_or with ⟨_,_,e⟩|⟨g,A⟩
  ·exact absurd e J
  ·rw[A]
   exact zo1 h g n j r w ⟨M,H,N⟩ A O z L
theorem zo3 (j:Option Addr) (z h:Nat) (w:World):Calls Tryz.prog 57 #[.slice j 0 z,.int .i64 h] w fun e w'=>e= .returned (.int .i64 h)∧w'=w:=by
 go_enter Tryz.func57,Tryz.ntmps57
 go_wp2
 go_loopg [1,5] 1 (fun k q i wr=>k=1∧q= .int .i64 h∧i= .int .i64 0∧wr=w)
 case atStart=>exact⟨rfl,rfl,rfl,rfl⟩
 case round=>
  obtain⟨rfl,rfl,rfl,rfl⟩:=hrel
  go_wp2
  go_ret
  exact⟨rfl,rfl⟩
theorem zo4 (A g n H:Nat) (r:Rw) (w:World) (h1:OwnG w A 109 6 r n (FK (fun i=>decide (i=2)||decide (i=3)) 6 H) 0) (e1:r.a=some ⟨g,0,none⟩) (hn:n≤1048576) (bk:0<H) (hk:H+n*6≤7900000):
  Calls Tryz.prog 57 #[.slice (some ⟨g,0,none⟩) n r.cap,.int .i64 H] w fun e w'=>e= .returned (.int .i64 ((H+n*6:Nat):Int))∧OwnG w' A 109 6 r n (FK (fun i=>decide (i=2)||decide (i=3)) 6 H) (n*6)∧w.grownBy w' r.blk:=by
 have H1:=zc h1
 have h:=zc e1
 clear h1 e1
 go_enter Tryz.func57,Tryz.ntmps57
 go_wp2
 go_loopg [1,5] n (fun k q i wr=>∃j:Nat,i= .int .i64 j∧j+k=n∧q= .int .i64 ((H+j*6:Nat):Int)∧OwnG wr A 109 6 r n (FK (fun i=>decide (i=2)||decide (i=3)) 6 H) (j*6)∧w.grownBy wr r.blk)
 case atStart=>exact⟨0,rfl,by omega,by simp,by rw[Nat.zero_mul];exact H1.out,zdm _ _⟩
 case round=>
  obtain⟨j,rfl,hj,hq,ho,hg⟩:=hrel
  have z:=zc ho
  have ae:=zc hg
  clear ho hg
  by_cases bj:j<n
  ·have aj:(j:Int)<(n:Int):=by omega
   obtain⟨N,ah⟩: ∃N:Nat,N=H+(j*6):=⟨_,rfl⟩
   rw[←ah] at hq
   subst hq
   obtain⟨Y,aW⟩: ∃Y:Nat,Y=N+1:=⟨_,rfl⟩
   have bt:(N:Int)+1=(Y:Int):=by omega
   obtain⟨M,aQ⟩: ∃M:Nat,M=Y+1:=⟨_,rfl⟩
   have bi:(Y:Int)+1=(M:Int):=by omega
   obtain⟨J,aN⟩: ∃J:Nat,J=M+1:=⟨_,rfl⟩
   have bl:(M:Int)+1=(J:Int):=by omega
   obtain⟨O,aP⟩: ∃O:Nat,O=J+1:=⟨_,rfl⟩
   have bh:(J:Int)+1=(O:Int):=by omega
   obtain⟨X,a1⟩: ∃X:Nat,X=O+1:=⟨_,rfl⟩
   have bo:(O:Int)+1=(X:Int):=by omega
   obtain⟨Z,a2⟩: ∃Z:Nat,Z=X+1:=⟨_,rfl⟩
   have bv:(X:Int)+1=(Z:Int):=by omega
   have aT:Hid (FK (fun i=>decide (i=2)||decide (i=3)) 6 H (j*6)= .int .i64 (N:Int)):=zco (c:=0) (by omega) (by decide) (by omega)
   have aO:Hid (FK (fun i=>decide (i=2)||decide (i=3)) 6 H (j*6+1)= .int .i64 (Y:Int)):=zco (c:=1) (by omega) (by decide) (by omega)
   have aZ:Hid (FK (fun i=>decide (i=2)||decide (i=3)) 6 H (j*6+2)= .string (mtS M)):=zbt (c:=2) (by omega) (by decide) (by omega)
   have a0:Hid (FK (fun i=>decide (i=2)||decide (i=3)) 6 H (j*6+3)= .string (mtS J)):=zbt (c:=3) (by omega) (by decide) (by omega)
   have aS:Hid (FK (fun i=>decide (i=2)||decide (i=3)) 6 H (j*6+4)= .int .i64 (O:Int)):=zco (c:=4) (by omega) (by decide) (by omega)
   have aV:Hid (FK (fun i=>decide (i=2)||decide (i=3)) 6 H (j*6+5)= .int .i64 (X:Int)):=zco (c:=5) (by omega) (by decide) (by omega)
   have HQ:Hid (Z=H+(j*6+6)):=by show Z=_;omega
   have bp:Z≤7950000:=by omega
   have bc:0<N:=by omega
   have U:Hid (0<M∧M≤8000000):=⟨by omega,by omega⟩
   have V:Hid (0<J∧J≤8000000):=⟨by omega,by omega⟩
   obtain⟨j1,ag⟩: ∃j1,j1=j+1:=⟨_,rfl⟩
   have ej:(j:Int)+1=(j1:Int):=by omega
   have HJ:=zc ag
   clear ag ah aW aQ aN aP a1 a2
   obtain⟨bq,a4⟩:=z.out.has h.out (j*6) (by omega)
   have a3:=z.out.free h.out (j*6)
   obtain⟨bn,a6⟩:=z.out.has h.out (j*6+1) (by omega)
   have ba:=z.out.free h.out (j*6+1)
   obtain⟨br,bg⟩:=z.out.has h.out (j*6+2) (by omega)
   have be:=z.out.free h.out (j*6+2)
   obtain⟨bm,a9⟩:=z.out.has h.out (j*6+3) (by omega)
   have a7:=z.out.free h.out (j*6+3)
   obtain⟨bu,bf⟩:=z.out.has h.out (j*6+4) (by omega)
   have a8:=z.out.free h.out (j*6+4)
   obtain⟨bs,a5⟩:=z.out.has h.out (j*6+5) (by omega)
   have bb:=z.out.free h.out (j*6+5)
   have ak:Hid (OwnG (wr.setCell ⟨g,j*6,none⟩ (.int .i64 (N:Int))) A 109 6 r n (FK (fun i=>decide (i=2)||decide (i=3)) 6 H) (j*6+1)):=z.out.put h.out (by omega) aT.out
   have af:Hid (w.grownBy (wr.setCell ⟨g,j*6,none⟩ (.int .i64 (N:Int))) r.blk):=zbO ae.out (zbc h.out)
   have am:Hid (OwnG ((wr.setCell ⟨g,j*6,none⟩ (.int .i64 (N:Int))).setCell ⟨g,j*6+1,none⟩ (.int .i64 (Y:Int))) A 109 6 r n (FK (fun i=>decide (i=2)||decide (i=3)) 6 H) (j*6+1+1)):=ak.out.put h.out (by omega) aO.out
   have al:Hid (w.grownBy ((wr.setCell ⟨g,j*6,none⟩ (.int .i64 (N:Int))).setCell ⟨g,j*6+1,none⟩ (.int .i64 (Y:Int))) r.blk):=zbO af.out (zbc h.out)
   go_wp2_with fail
   refine (zc1 M _ U.out.1 U.out.2).mono ?_
   rintro e w2 ⟨rfl,aa⟩
   have I:=zc (am.out.later aa)
   have aU:=zc (zdn al.out aa)
   clear aa
   obtain⟨aX,aF⟩:=I.out.has h.out (j*6+2) (by omega)
   have au:=I.out.free h.out (j*6+2)
   obtain⟨aR,aC⟩:=I.out.has h.out (j*6+3) (by omega)
   have aH:=I.out.free h.out (j*6+3)
   obtain⟨aL,az⟩:=I.out.has h.out (j*6+4) (by omega)
   have ax:=I.out.free h.out (j*6+4)
   obtain⟨aJ,aE⟩:=I.out.has h.out (j*6+5) (by omega)
   have aw:=I.out.free h.out (j*6+5)
   have ar:Hid (OwnG (w2.setCell ⟨g,j*6+2,none⟩ (.string (mtS M))) A 109 6 r n (FK (fun i=>decide (i=2)||decide (i=3)) 6 H) (j*6+2+1)):=I.out.put h.out (by omega) aZ.out
   have an:Hid (w.grownBy (w2.setCell ⟨g,j*6+2,none⟩ (.string (mtS M))) r.blk):=zbO aU.out (zbc h.out)
   go_wp2_with fail
   refine (zc1 J _ V.out.1 V.out.2).mono ?_
   rintro e w3 ⟨rfl,ab⟩
   have L:=zc (ar.out.later ab)
   have aY:=zc (zdn an.out ab)
   clear ab
   obtain⟨aK,aD⟩:=L.out.has h.out (j*6+3) (by omega)
   have aA:=L.out.free h.out (j*6+3)
   obtain⟨aM,av⟩:=L.out.has h.out (j*6+4) (by omega)
   have ay:=L.out.free h.out (j*6+4)
   obtain⟨aI,aB⟩:=L.out.has h.out (j*6+5) (by omega)
   have aG:=L.out.free h.out (j*6+5)
   have aq:Hid (OwnG (w3.setCell ⟨g,j*6+3,none⟩ (.string (mtS J))) A 109 6 r n (FK (fun i=>decide (i=2)||decide (i=3)) 6 H) (j*6+3+1)):=L.out.put h.out (by omega) a0.out
   have ac:Hid (w.grownBy (w3.setCell ⟨g,j*6+3,none⟩ (.string (mtS J))) r.blk):=zbO aY.out (zbc h.out)
   have ai:Hid (OwnG ((w3.setCell ⟨g,j*6+3,none⟩ (.string (mtS J))).setCell ⟨g,j*6+4,none⟩ (.int .i64 (O:Int))) A 109 6 r n (FK (fun i=>decide (i=2)||decide (i=3)) 6 H) (j*6+4+1)):=aq.out.put h.out (by omega) aS.out
   have ad:Hid (w.grownBy ((w3.setCell ⟨g,j*6+3,none⟩ (.string (mtS J))).setCell ⟨g,j*6+4,none⟩ (.int .i64 (O:Int))) r.blk):=zbO ac.out (zbc h.out)
   have ap:Hid (OwnG (((w3.setCell ⟨g,j*6+3,none⟩ (.string (mtS J))).setCell ⟨g,j*6+4,none⟩ (.int .i64 (O:Int))).setCell ⟨g,j*6+5,none⟩ (.int .i64 (X:Int))) A 109 6 r n (FK (fun i=>decide (i=2)||decide (i=3)) 6 H) (j*6+5+1)):=ai.out.put h.out (by omega) aV.out
   have ao:Hid (w.grownBy (((w3.setCell ⟨g,j*6+3,none⟩ (.string (mtS J))).setCell ⟨g,j*6+4,none⟩ (.int .i64 (O:Int))).setCell ⟨g,j*6+5,none⟩ (.int .i64 (X:Int))) r.blk):=zbO ad.out (zbc h.out)
   go_wp2
   go_roundg (gk-1)
   case rel=>exact⟨j1,rfl,by have:=HJ.out;omega,by have:=HJ.out;have:=HQ.out;rw[show Z=H+j1*6 from by omega],by have:=ap.out;rw[show j1*6=j*6+5+1 from by have:=HJ.out;omega];exact this,ao.out⟩
   case measure=>omega
  ·have aj: ¬(j:Int)<(n:Int):=by omega
   obtain rfl:j=n:=by omega
   subst hq
   go_wp2
   go_ret
   exact⟨rfl,z.out,ae.out⟩
theorem zo5 (h n j:Nat) (r:Rw) (w:World) (I:OwnG w h 109 6 r n (FK (fun i=>decide (i=2)||decide (i=3)) 6 j) 0) (O:n≤1048576) (z:0<j) (L:j+n*6≤7900000):
  Calls Tryz.prog 57 #[.slice r.a n r.cap,.int .i64 j] w fun e w'=>e= .returned (.int .i64 ((j+n*6:Nat):Int))∧OwnG w' h 109 6 r n (FK (fun i=>decide (i=2)||decide (i=3)) 6 j) (n*6)∧w.grownBy w' r.blk:=by
 by_cases J:n=0
 ·subst J
  refine (zo3 _ _ j w).mono ?_
  rintro e U ⟨rfl,rfl⟩
  exact⟨by simp,by rw[Nat.zero_mul];exact I,zdm _ _⟩
 ·obtain⟨M,H,N⟩:=I
  rcases H.nil_or with ⟨_,_,e⟩|⟨g,A⟩
  ·exact absurd e J
  ·rw[A]
   exact zo4 h g n j r w ⟨M,H,N⟩ A O z L
theorem zo6 (j:Option Addr) (z h:Nat) (w:World):Calls Tryz.prog 58 #[.slice j 0 z,.int .i64 h] w fun e w'=>e= .returned (.int .i64 h)∧w'=w:=by
 go_enter Tryz.func58,Tryz.ntmps58
 go_wp2
 go_loopg [1,5] 1 (fun k q i wr=>k=1∧q= .int .i64 h∧i= .int .i64 0∧wr=w)
 case atStart=>exact⟨rfl,rfl,rfl,rfl⟩
 case round=>
  obtain⟨rfl,rfl,rfl,rfl⟩:=hrel
  go_wp2
  go_ret
  exact⟨rfl,rfl⟩
theorem zo7 (V g n H:Nat) (r:Rw) (w:World) (h1:OwnG w V 9 1 r n (FK (fun _=>true) 1 H) (n)) (e1:r.a=some ⟨g,0,none⟩) (hn:n≤4000) (ah:0<H) (hk:H≤50000):
  Calls Tryz.prog 58 #[.slice (some ⟨g,0,none⟩) n r.cap,.int .i64 H] w fun e w'=>e= .returned (.int .i64 ((H+n:Nat):Int))∧Below w.heap.size w w':=by
 have H1:=zc h1
 have E1:=zc e1
 clear h1 e1
 go_enter Tryz.func58,Tryz.ntmps58
 go_wp2
 go_loopg [1,5] n (fun k q i wr=>∃j:Nat,i= .int .i64 j∧j+k=n∧q= .int .i64 ((H+j:Nat):Int)∧Below w.heap.size w wr)
 case atStart=>exact⟨0,rfl,by omega,by simp,Below.refl _ _⟩
 case round=>
  obtain⟨j,rfl,hj,hq,hb⟩:=hrel
  have X:=zc hb
  clear hb
  by_cases af:j<n
  ·have Z:(j:Int)<(n:Int):=by omega
   obtain⟨h,Y⟩: ∃h:Nat,h=H+(j):=⟨_,rfl⟩
   rw[←Y] at hq
   subst hq
   obtain⟨L,ab⟩: ∃L:Nat,L=h+1:=⟨_,rfl⟩
   have aj:(h:Int)+1=(L:Int):=by omega
   have ae:Hid (wr.cell? ⟨g,j,none⟩=some (.string (mtS h))):=by have:=(H1.out.later X.out).cell E1.out (j) (by omega) (by omega);rw[zbt (c:=0) (q:=h) (by omega) (by decide) (by omega)] at this;exact this
   have HQ:Hid (L=H+(j+1)):=by show L=_;omega
   have z:=((H1.out.later X.out).typed (zbc E1.out)).2.1
   have ai:L≤99000:=by omega
   have I:Hid (0<h∧h≤100000):=⟨by omega,by omega⟩
   obtain⟨N,U⟩: ∃N,N=j+1:=⟨_,rfl⟩
   have ej:(j:Int)+1=(N:Int):=by omega
   have HJ:=zc U
   clear U Y ab
   have O: ∀d os,Calls Tryz.prog 52 #[.int .i64 (h:Int)] (grow (redrawn wr d) os) fun e ad=>e= .returned (.string (mtS h))∧∃p:Regrown,ad=grow (redrawn wr p.d) p.os:=fun d os=>Calls.regrown_of (zdl h _ I.out.1 I.out.2)
   go_wp2_with fail
   have H:=cell_regrown ae.out
   refine wp_region_quiet_below (by kernel_rfl) (by kernel_rfl) ?_
   repeat (go_big_quiet_step (exact O _ _))
   refine wpQuiet_nil ?_
   intro w0 aa
   obtain⟨⟨dq,ag⟩,J⟩:=aa
   have M:Below wr.heap.size wr w0:=by rw[J];exact below_regrown _ _ _
   have ac:=zc (X.out.trans (M.mono X.out.size))
   have A:=Nat.lt_of_lt_of_le z M.size
   clear J H O M z
   have z:=A
   clear A
   go_wp2
   go_roundg (gk-1)
   case rel=>exact⟨N,rfl,by have:=HJ.out;omega,by have:=HJ.out;have:=HQ.out;rw[show L=H+N from by omega],ac.out⟩
   case measure=>omega
  ·have Z: ¬(j:Int)<(n:Int):=by omega
   obtain rfl:j=n:=by omega
   subst hq
   go_wp2
   go_ret
   exact⟨rfl,X.out⟩
theorem zo8 (h n j:Nat) (r:Rw) (w:World) (L:OwnG w h 9 1 r n (FK (fun _=>true) 1 j) (n)) (O:n≤4000) (z:0<j) (J:j≤50000):
  Calls Tryz.prog 58 #[.slice r.a n r.cap,.int .i64 j] w fun e w'=>e= .returned (.int .i64 ((j+n:Nat):Int))∧Below w.heap.size w w':=by
 by_cases I:n=0
 ·subst I
  refine (zo6 _ _ j w).mono ?_
  rintro e U ⟨rfl,rfl⟩
  exact⟨by simp,Below.refl _ _⟩
 ·obtain⟨M,H,N⟩:=L
  rcases H.nil_or with ⟨_,_,e⟩|⟨g,A⟩
  ·exact absurd e I
  ·rw[A]
   exact zo7 h g n j r w ⟨M,H,N⟩ A O z J
theorem zo9 (j:Option Addr) (z h:Nat) (w:World):Calls Tryz.prog 59 #[.slice j 0 z,.int .i64 h] w fun e w'=>e= .returned (.int .i64 h)∧w'=w:=by
 go_enter Tryz.func59,Tryz.ntmps59
 go_wp2
 go_loopg [1,5] 1 (fun k q i wr=>k=1∧q= .int .i64 h∧i= .int .i64 0∧wr=w)
 case atStart=>exact⟨rfl,rfl,rfl,rfl⟩
 case round=>
  obtain⟨rfl,rfl,rfl,rfl⟩:=hrel
  go_wp2
  go_ret
  exact⟨rfl,rfl⟩
theorem zoA (al g n M:Nat) (r:Rw) (w:World) (h1:OwnG w al 84 3 r n (FK (fun _=>true) 3 M) (n*3)) (e1:r.a=some ⟨g,0,none⟩) (hn:n≤4000) (aA:0<M) (hk:M≤50000):
  Calls Tryz.prog 59 #[.slice (some ⟨g,0,none⟩) n r.cap,.int .i64 M] w fun e w'=>e= .returned (.int .i64 ((M+n*3:Nat):Int))∧Below w.heap.size w w':=by
 have H1:=zc h1
 have E1:=zc e1
 clear h1 e1
 go_enter Tryz.func59,Tryz.ntmps59
 go_wp2
 go_loopg [1,5] n (fun k q i wr=>∃j:Nat,i= .int .i64 j∧j+k=n∧q= .int .i64 ((M+j*3:Nat):Int)∧Below w.heap.size w wr)
 case atStart=>exact⟨0,rfl,by omega,by simp,Below.refl _ _⟩
 case round=>
  obtain⟨j,rfl,hj,hq,hb⟩:=hrel
  have HB:=zc hb
  clear hb
  by_cases az:j<n
  ·have ap:(j:Int)<(n:Int):=by omega
   obtain⟨J,am⟩: ∃J:Nat,J=M+(j*3):=⟨_,rfl⟩
   rw[←am] at hq
   subst hq
   obtain⟨A,aq⟩: ∃A:Nat,A=J+1:=⟨_,rfl⟩
   have aE:(J:Int)+1=(A:Int):=by omega
   obtain⟨H,aw⟩: ∃H:Nat,H=A+1:=⟨_,rfl⟩
   have aC:(A:Int)+1=(H:Int):=by omega
   obtain⟨q3,ay⟩: ∃q3:Nat,q3=H+1:=⟨_,rfl⟩
   have aB:(H:Int)+1=(q3:Int):=by omega
   have ax:Hid (wr.cell? ⟨g,j*3,none⟩=some (.string (mtS J))):=by have:=(H1.out.later HB.out).cell E1.out (j*3) (by omega) (by omega);rw[zbt (c:=0) (q:=J) (by omega) (by decide) (by omega)] at this;exact this
   have ar:Hid (wr.cell? ⟨g,j*3+1,none⟩=some (.string (mtS A))):=by have:=(H1.out.later HB.out).cell E1.out (j*3+1) (by omega) (by omega);rw[zbt (c:=1) (q:=A) (by omega) (by decide) (by omega)] at this;exact this
   have au:Hid (wr.cell? ⟨g,j*3+2,none⟩=some (.string (mtS H))):=by have:=(H1.out.later HB.out).cell E1.out (j*3+2) (by omega) (by omega);rw[zbt (c:=2) (q:=H) (by omega) (by decide) (by omega)] at this;exact this
   have HQ:Hid (q3=M+(j*3+3)):=by show q3=_;omega
   have h:=((H1.out.later HB.out).typed (zbc E1.out)).2.1
   have aD:q3≤99000:=by omega
   have Y:Hid (0<J∧J≤100000):=⟨by omega,by omega⟩
   have ab:Hid (0<A∧A≤100000):=⟨by omega,by omega⟩
   have aa:Hid (0<H∧H≤100000):=⟨by omega,by omega⟩
   obtain⟨j1,aj⟩: ∃j1,j1=j+1:=⟨_,rfl⟩
   have ej:(j:Int)+1=(j1:Int):=by omega
   have HJ:=zc aj
   clear aj am aq aw ay
   have ai: ∀d Z,Calls Tryz.prog 52 #[.int .i64 (J:Int)] (grow (redrawn wr d) Z) fun e V=>e= .returned (.string (mtS J))∧∃p:Regrown,V=grow (redrawn wr p.d) p.os:=fun d Z=>Calls.regrown_of (zdl J _ Y.out.1 Y.out.2)
   go_wp2_with fail
   have M:=cell_regrown ax.out
   refine wp_region_quiet_below (by kernel_rfl) (by kernel_rfl) ?_
   repeat (go_big_quiet_step (exact ai _ _))
   refine wpQuiet_nil ?_
   intro w0 I
   obtain⟨⟨dq,ak⟩,z⟩:=I
   have U:Below wr.heap.size wr w0:=by rw[z];exact below_regrown _ _ _
   have ag:=zc (HB.out.trans (U.mono HB.out.size))
   have ac:=zc ((U.cell h).trans ar.out)
   have ae:=zc ((U.cell h).trans au.out)
   have N:=Nat.lt_of_lt_of_le h U.size
   clear z M ai U h
   have h:=N
   clear N
   have an: ∀d Z,Calls Tryz.prog 52 #[.int .i64 (A:Int)] (grow (redrawn w0 d) Z) fun e V=>e= .returned (.string (mtS A))∧∃p:Regrown,V=grow (redrawn w0 p.d) p.os:=fun d Z=>Calls.regrown_of (zdl A _ ab.out.1 ab.out.2)
   go_wp2_with fail
   have k1:=cell_regrown ac.out
   refine wp_region_quiet_below (by kernel_rfl) (by kernel_rfl) ?_
   repeat (go_big_quiet_step (exact an _ _))
   refine wpQuiet_nil ?_
   intro w1 I
   obtain⟨⟨dq,ak⟩,z⟩:=I
   have X:Below w0.heap.size w0 w1:=by rw[z];exact below_regrown _ _ _
   have ao:=zc (ag.out.trans (X.mono ag.out.size))
   have af:=zc ((X.cell h).trans ae.out)
   have L:=Nat.lt_of_lt_of_le h X.size
   clear z k1 an X h
   have h:=L
   clear L
   have ah: ∀d Z,Calls Tryz.prog 52 #[.int .i64 (H:Int)] (grow (redrawn w1 d) Z) fun e V=>e= .returned (.string (mtS H))∧∃p:Regrown,V=grow (redrawn w1 p.d) p.os:=fun d Z=>Calls.regrown_of (zdl H _ aa.out.1 aa.out.2)
   go_wp2_with fail
   have k2:=cell_regrown af.out
   refine wp_region_quiet_below (by kernel_rfl) (by kernel_rfl) ?_
   repeat (go_big_quiet_step (exact ah _ _))
   refine wpQuiet_nil ?_
   intro w2 I
   obtain⟨⟨dq,ak⟩,z⟩:=I
   have ad:Below w1.heap.size w1 w2:=by rw[z];exact below_regrown _ _ _
   have av:=zc (ao.out.trans (ad.mono ao.out.size))
   have O:=Nat.lt_of_lt_of_le h ad.size
   clear z k2 ah ad h
   have h:=O
   clear O
   go_wp2
   go_roundg (gk-1)
   case rel=>exact⟨j1,rfl,by have:=HJ.out;omega,by have:=HJ.out;have:=HQ.out;rw[show q3=M+j1*3 from by omega],av.out⟩
   case measure=>omega
  ·have ap: ¬(j:Int)<(n:Int):=by omega
   obtain rfl:j=n:=by omega
   subst hq
   go_wp2
   go_ret
   exact⟨rfl,HB.out⟩
theorem zoB (h n j:Nat) (r:Rw) (w:World) (L:OwnG w h 84 3 r n (FK (fun _=>true) 3 j) (n*3)) (O:n≤4000) (z:0<j) (J:j≤50000):
  Calls Tryz.prog 59 #[.slice r.a n r.cap,.int .i64 j] w fun e w'=>e= .returned (.int .i64 ((j+n*3:Nat):Int))∧Below w.heap.size w w':=by
 by_cases I:n=0
 ·subst I
  refine (zo9 _ _ j w).mono ?_
  rintro e U ⟨rfl,rfl⟩
  exact⟨by simp,Below.refl _ _⟩
 ·obtain⟨M,H,N⟩:=L
  rcases H.nil_or with ⟨_,_,e⟩|⟨g,A⟩
  ·exact absurd e I
  ·rw[A]
   exact zoA h g n j r w ⟨M,H,N⟩ A O z J
theorem zoC (j:Option Addr) (z h:Nat) (w:World):Calls Tryz.prog 60 #[.slice j 0 z,.int .i64 h] w fun e w'=>e= .returned (.int .i64 h)∧w'=w:=by
 go_enter Tryz.func60,Tryz.ntmps60
 go_wp2
 go_loopg [1,5] 1 (fun k q i wr=>k=1∧q= .int .i64 h∧i= .int .i64 0∧wr=w)
 case atStart=>exact⟨rfl,rfl,rfl,rfl⟩
 case round=>
  obtain⟨rfl,rfl,rfl,rfl⟩:=hrel
  go_wp2
  go_ret
  exact⟨rfl,rfl⟩
theorem zoD (al g n V:Nat) (r:Rw) (w:World) (h1:OwnG w al 86 4 r n (FK (fun i=> !decide (i=0)) 4 V) (n*4)) (e1:r.a=some ⟨g,0,none⟩) (hn:n≤4000) (aD:0<V) (hk:V≤50000):
  Calls Tryz.prog 60 #[.slice (some ⟨g,0,none⟩) n r.cap,.int .i64 V] w fun e w'=>e= .returned (.int .i64 ((V+n*4:Nat):Int))∧Below w.heap.size w w':=by
 have H1:=zc h1
 have E1:=zc e1
 clear h1 e1
 go_enter Tryz.func60,Tryz.ntmps60
 go_wp2
 go_loopg [1,5] n (fun k q i wr=>∃j:Nat,i= .int .i64 j∧j+k=n∧q= .int .i64 ((V+j*4:Nat):Int)∧Below w.heap.size w wr)
 case atStart=>exact⟨0,rfl,by omega,by simp,Below.refl _ _⟩
 case round=>
  obtain⟨j,rfl,hj,hq,hb⟩:=hrel
  have Z:=zc hb
  clear hb
  by_cases aC:j<n
  ·have ap:(j:Int)<(n:Int):=by omega
   obtain⟨q0,am⟩: ∃q0:Nat,q0=V+(j*4):=⟨_,rfl⟩
   rw[←am] at hq
   subst hq
   obtain⟨A,ar⟩: ∃A:Nat,A=q0+1:=⟨_,rfl⟩
   have aI:(q0:Int)+1=(A:Int):=by omega
   obtain⟨I,az⟩: ∃I:Nat,I=A+1:=⟨_,rfl⟩
   have aG:(A:Int)+1=(I:Int):=by omega
   obtain⟨H,aB⟩: ∃H:Nat,H=I+1:=⟨_,rfl⟩
   have aE:(I:Int)+1=(H:Int):=by omega
   obtain⟨q4,au⟩: ∃q4:Nat,q4=H+1:=⟨_,rfl⟩
   have aF:(H:Int)+1=(q4:Int):=by omega
   have aA:Hid (wr.cell? ⟨g,j*4,none⟩=some (.int .i64 (q0:Int))):=by have:=(H1.out.later Z.out).cell E1.out (j*4) (by omega) (by omega);rw[zco (c:=0) (q:=q0) (by omega) (by decide) (by omega)] at this;exact this
   have av:Hid (wr.cell? ⟨g,j*4+1,none⟩=some (.string (mtS A))):=by have:=(H1.out.later Z.out).cell E1.out (j*4+1) (by omega) (by omega);rw[zbt (c:=1) (q:=A) (by omega) (by decide) (by omega)] at this;exact this
   have ay:Hid (wr.cell? ⟨g,j*4+2,none⟩=some (.string (mtS I))):=by have:=(H1.out.later Z.out).cell E1.out (j*4+2) (by omega) (by omega);rw[zbt (c:=2) (q:=I) (by omega) (by decide) (by omega)] at this;exact this
   have ax:Hid (wr.cell? ⟨g,j*4+3,none⟩=some (.string (mtS H))):=by have:=(H1.out.later Z.out).cell E1.out (j*4+3) (by omega) (by omega);rw[zbt (c:=3) (q:=H) (by omega) (by decide) (by omega)] at this;exact this
   have HQ:Hid (q4=V+(j*4+4)):=by show q4=_;omega
   have h:=((H1.out.later Z.out).typed (zbc E1.out)).2.1
   have aH:q4≤99000:=by omega
   have ab:Hid (0<A∧A≤100000):=⟨by omega,by omega⟩
   have aa:Hid (0<I∧I≤100000):=⟨by omega,by omega⟩
   have ac:Hid (0<H∧H≤100000):=⟨by omega,by omega⟩
   obtain⟨j1,ai⟩: ∃j1,j1=j+1:=⟨_,rfl⟩
   have ej:(j:Int)+1=(j1:Int):=by omega
   have HJ:=zc ai
   clear ai am ar az aB au
   have c0:=aA.out
   have aq: ∀d Y,Calls Tryz.prog 52 #[.int .i64 (A:Int)] (grow (redrawn wr d) Y) fun e N=>e= .returned (.string (mtS A))∧∃p:Regrown,N=grow (redrawn wr p.d) p.os:=fun d Y=>Calls.regrown_of (zdl A _ ab.out.1 ab.out.2)
   go_wp2_with fail
   have k1:=cell_regrown av.out
   refine wp_region_quiet_below (by kernel_rfl) (by kernel_rfl) ?_
   repeat (go_big_quiet_step (exact aq _ _))
   refine wpQuiet_nil ?_
   intro w1 J
   obtain⟨⟨dq,ak⟩,z⟩:=J
   have U:Below wr.heap.size wr w1:=by rw[z];exact below_regrown _ _ _
   have an:=zc (Z.out.trans (U.mono Z.out.size))
   have af:=zc ((U.cell h).trans ay.out)
   have ae:=zc ((U.cell h).trans ax.out)
   have L:=Nat.lt_of_lt_of_le h U.size
   clear z k1 aq U h c0
   have h:=L
   clear L
   have ah: ∀d Y,Calls Tryz.prog 52 #[.int .i64 (I:Int)] (grow (redrawn w1 d) Y) fun e N=>e= .returned (.string (mtS I))∧∃p:Regrown,N=grow (redrawn w1 p.d) p.os:=fun d Y=>Calls.regrown_of (zdl I _ aa.out.1 aa.out.2)
   go_wp2_with fail
   have k2:=cell_regrown af.out
   refine wp_region_quiet_below (by kernel_rfl) (by kernel_rfl) ?_
   repeat (go_big_quiet_step (exact ah _ _))
   refine wpQuiet_nil ?_
   intro w2 J
   obtain⟨⟨dq,ak⟩,z⟩:=J
   have X:Below w1.heap.size w1 w2:=by rw[z];exact below_regrown _ _ _
   have ao:=zc (an.out.trans (X.mono an.out.size))
   have ad:=zc ((X.cell h).trans ae.out)
   have M:=Nat.lt_of_lt_of_le h X.size
   clear z k2 ah X h
   have h:=M
   clear M
   have aj: ∀d Y,Calls Tryz.prog 52 #[.int .i64 (H:Int)] (grow (redrawn w2 d) Y) fun e N=>e= .returned (.string (mtS H))∧∃p:Regrown,N=grow (redrawn w2 p.d) p.os:=fun d Y=>Calls.regrown_of (zdl H _ ac.out.1 ac.out.2)
   go_wp2_with fail
   have k3:=cell_regrown ad.out
   refine wp_region_quiet_below (by kernel_rfl) (by kernel_rfl) ?_
   repeat (go_big_quiet_step (exact aj _ _))
   refine wpQuiet_nil ?_
   intro w3 J
   obtain⟨⟨dq,ak⟩,z⟩:=J
   have ag:Below w2.heap.size w2 w3:=by rw[z];exact below_regrown _ _ _
   have aw:=zc (ao.out.trans (ag.mono ao.out.size))
   have O:=Nat.lt_of_lt_of_le h ag.size
   clear z k3 aj ag h
   have h:=O
   clear O
   go_wp2
   go_roundg (gk-1)
   case rel=>exact⟨j1,rfl,by have:=HJ.out;omega,by have:=HJ.out;have:=HQ.out;rw[show q4=V+j1*4 from by omega],aw.out⟩
   case measure=>omega
  ·have ap: ¬(j:Int)<(n:Int):=by omega
   obtain rfl:j=n:=by omega
   subst hq
   go_wp2
   go_ret
   exact⟨rfl,Z.out⟩
theorem zoE (h n j:Nat) (r:Rw) (w:World) (L:OwnG w h 86 4 r n (FK (fun i=> !decide (i=0)) 4 j) (n*4)) (O:n≤4000) (z:0<j) (J:j≤50000):
  Calls Tryz.prog 60 #[.slice r.a n r.cap,.int .i64 j] w fun e w'=>e= .returned (.int .i64 ((j+n*4:Nat):Int))∧Below w.heap.size w w':=by
 by_cases I:n=0
 ·subst I
  refine (zoC _ _ j w).mono ?_
  rintro e U ⟨rfl,rfl⟩
  exact⟨by simp,Below.refl _ _⟩
 ·obtain⟨M,H,N⟩:=L
  rcases H.nil_or with ⟨_,_,e⟩|⟨g,A⟩
  ·exact absurd e I
  ·rw[A]
   exact zoD h g n j r w ⟨M,H,N⟩ A O z J
theorem zoF (j:Option Addr) (z h:Nat) (w:World):Calls Tryz.prog 61 #[.slice j 0 z,.int .i64 h] w fun e w'=>e= .returned (.int .i64 h)∧w'=w:=by
 go_enter Tryz.func61,Tryz.ntmps61
 go_wp2
 go_loopg [1,5] 1 (fun k q i wr=>k=1∧q= .int .i64 h∧i= .int .i64 0∧wr=w)
 case atStart=>exact⟨rfl,rfl,rfl,rfl⟩
 case round=>
  obtain⟨rfl,rfl,rfl,rfl⟩:=hrel
  go_wp2
  go_ret
  exact⟨rfl,rfl⟩
theorem zoG (Z g n H:Nat) (r:Rw) (w:World) (h1:OwnG w Z 107 3 r n (FK (fun i=>decide (i=1)) 3 H) (n*3)) (e1:r.a=some ⟨g,0,none⟩) (hn:n≤4000) (ao:0<H) (hk:H≤50000):
  Calls Tryz.prog 61 #[.slice (some ⟨g,0,none⟩) n r.cap,.int .i64 H] w fun e w'=>e= .returned (.int .i64 ((H+n*3:Nat):Int))∧Below w.heap.size w w':=by
 have H1:=zc h1
 have E1:=zc e1
 clear h1 e1
 go_enter Tryz.func61,Tryz.ntmps61
 go_wp2
 go_loopg [1,5] n (fun k q i wr=>∃j:Nat,i= .int .i64 j∧j+k=n∧q= .int .i64 ((H+j*3:Nat):Int)∧Below w.heap.size w wr)
 case atStart=>exact⟨0,rfl,by omega,by simp,Below.refl _ _⟩
 case round=>
  obtain⟨j,rfl,hj,hq,hb⟩:=hrel
  have M:=zc hb
  clear hb
  by_cases am:j<n
  ·have ac:(j:Int)<(n:Int):=by omega
   obtain⟨V,aa⟩: ∃V:Nat,V=H+(j*3):=⟨_,rfl⟩
   rw[←aa] at hq
   subst hq
   obtain⟨z,ad⟩: ∃z:Nat,z=V+1:=⟨_,rfl⟩
   have au:(V:Int)+1=(z:Int):=by omega
   obtain⟨U,aj⟩: ∃U:Nat,U=z+1:=⟨_,rfl⟩
   have aq:(z:Int)+1=(U:Int):=by omega
   obtain⟨N,al⟩: ∃N:Nat,N=U+1:=⟨_,rfl⟩
   have ap:(U:Int)+1=(N:Int):=by omega
   have ak:Hid (wr.cell? ⟨g,j*3,none⟩=some (.int .i64 (V:Int))):=by have:=(H1.out.later M.out).cell E1.out (j*3) (by omega) (by omega);rw[zco (c:=0) (q:=V) (by omega) (by decide) (by omega)] at this;exact this
   have af:Hid (wr.cell? ⟨g,j*3+1,none⟩=some (.string (mtS z))):=by have:=(H1.out.later M.out).cell E1.out (j*3+1) (by omega) (by omega);rw[zbt (c:=1) (q:=z) (by omega) (by decide) (by omega)] at this;exact this
   have ag:Hid (wr.cell? ⟨g,j*3+2,none⟩=some (.int .i64 (U:Int))):=by have:=(H1.out.later M.out).cell E1.out (j*3+2) (by omega) (by omega);rw[zco (c:=2) (q:=U) (by omega) (by decide) (by omega)] at this;exact this
   have HQ:Hid (N=H+(j*3+3)):=by show N=_;omega
   have h:=((H1.out.later M.out).typed (zbc E1.out)).2.1
   have ar:N≤99000:=by omega
   have L:Hid (0<z∧z≤100000):=⟨by omega,by omega⟩
   obtain⟨X,Y⟩: ∃X,X=j+1:=⟨_,rfl⟩
   have ej:(j:Int)+1=(X:Int):=by omega
   have HJ:=zc Y
   clear Y aa ad aj al
   have c0:=ak.out
   have ab: ∀d os,Calls Tryz.prog 52 #[.int .i64 (z:Int)] (grow (redrawn wr d) os) fun e ai=>e= .returned (.string (mtS z))∧∃p:Regrown,ai=grow (redrawn wr p.d) p.os:=fun d os=>Calls.regrown_of (zdl z _ L.out.1 L.out.2)
   go_wp2_with fail
   have k1:=cell_regrown af.out
   refine wp_region_quiet_below (by kernel_rfl) (by kernel_rfl) ?_
   repeat (go_big_quiet_step (exact ab _ _))
   refine wpQuiet_nil ?_
   intro w1 ae
   obtain⟨⟨dq,an⟩,J⟩:=ae
   have I:Below wr.heap.size wr w1:=by rw[J];exact below_regrown _ _ _
   have ah:=zc (M.out.trans (I.mono M.out.size))
   have O:=zc ((I.cell h).trans ag.out)
   have A:=Nat.lt_of_lt_of_le h I.size
   clear J k1 ab I h c0
   have h:=A
   clear A
   have c2:=O.out
   go_wp2
   go_roundg (gk-1)
   case rel=>exact⟨X,rfl,by have:=HJ.out;omega,by have:=HJ.out;have:=HQ.out;rw[show N=H+X*3 from by omega],ah.out⟩
   case measure=>omega
  ·have ac: ¬(j:Int)<(n:Int):=by omega
   obtain rfl:j=n:=by omega
   subst hq
   go_wp2
   go_ret
   exact⟨rfl,M.out⟩
theorem zoH (h n j:Nat) (r:Rw) (w:World) (L:OwnG w h 107 3 r n (FK (fun i=>decide (i=1)) 3 j) (n*3)) (O:n≤4000) (z:0<j) (J:j≤50000):
  Calls Tryz.prog 61 #[.slice r.a n r.cap,.int .i64 j] w fun e w'=>e= .returned (.int .i64 ((j+n*3:Nat):Int))∧Below w.heap.size w w':=by
 by_cases I:n=0
 ·subst I
  refine (zoF _ _ j w).mono ?_
  rintro e U ⟨rfl,rfl⟩
  exact⟨by simp,Below.refl _ _⟩
 ·obtain⟨M,H,N⟩:=L
  rcases H.nil_or with ⟨_,_,e⟩|⟨g,A⟩
  ·exact absurd e I
  ·rw[A]
   exact zoG h g n j r w ⟨M,H,N⟩ A O z J
theorem zoI (j:Option Addr) (z h:Nat) (w:World):Calls Tryz.prog 62 #[.slice j 0 z,.int .i64 h] w fun e w'=>e= .returned (.int .i64 h)∧w'=w:=by
 go_enter Tryz.func62,Tryz.ntmps62
 go_wp2
 go_loopg [1,5] 1 (fun k q i wr=>k=1∧q= .int .i64 h∧i= .int .i64 0∧wr=w)
 case atStart=>exact⟨rfl,rfl,rfl,rfl⟩
 case round=>
  obtain⟨rfl,rfl,rfl,rfl⟩:=hrel
  go_wp2
  go_ret
  exact⟨rfl,rfl⟩
theorem zoJ (aj g n O:Nat) (r:Rw) (w:World) (h1:OwnG w aj 109 6 r n (FK (fun i=>decide (i=2)||decide (i=3)) 6 O) (n*6)) (e1:r.a=some ⟨g,0,none⟩) (hn:n≤4000) (aF:0<O) (hk:O≤50000):
  Calls Tryz.prog 62 #[.slice (some ⟨g,0,none⟩) n r.cap,.int .i64 O] w fun e w'=>e= .returned (.int .i64 ((O+n*6:Nat):Int))∧Below w.heap.size w w':=by
 have X:=zc h1
 have E1:=zc e1
 clear h1 e1
 go_enter Tryz.func62,Tryz.ntmps62
 go_wp2
 go_loopg [1,5] n (fun k q i wr=>∃j:Nat,i= .int .i64 j∧j+k=n∧q= .int .i64 ((O+j*6:Nat):Int)∧Below w.heap.size w wr)
 case atStart=>exact⟨0,rfl,by omega,by simp,Below.refl _ _⟩
 case round=>
  obtain⟨j,rfl,hj,hq,hb⟩:=hrel
  have N:=zc hb
  clear hb
  by_cases aE:j<n
  ·have ai:(j:Int)<(n:Int):=by omega
   obtain⟨q0,ag⟩: ∃q0:Nat,q0=O+(j*6):=⟨_,rfl⟩
   rw[←ag] at hq
   subst hq
   obtain⟨q1,az⟩: ∃q1:Nat,q1=q0+1:=⟨_,rfl⟩
   have aJ:(q0:Int)+1=(q1:Int):=by omega
   obtain⟨I,av⟩: ∃I:Nat,I=q1+1:=⟨_,rfl⟩
   have aD:(q1:Int)+1=(I:Int):=by omega
   obtain⟨H,an⟩: ∃H:Nat,H=I+1:=⟨_,rfl⟩
   have aG:(I:Int)+1=(H:Int):=by omega
   obtain⟨q4,ap⟩: ∃q4:Nat,q4=H+1:=⟨_,rfl⟩
   have aC:(H:Int)+1=(q4:Int):=by omega
   obtain⟨q5,aA⟩: ∃q5:Nat,q5=q4+1:=⟨_,rfl⟩
   have aH:(q4:Int)+1=(q5:Int):=by omega
   obtain⟨q6,aB⟩: ∃q6:Nat,q6=q5+1:=⟨_,rfl⟩
   have aK:(q5:Int)+1=(q6:Int):=by omega
   have am:Hid (wr.cell? ⟨g,j*6,none⟩=some (.int .i64 (q0:Int))):=by have:=(X.out.later N.out).cell E1.out (j*6) (by omega) (by omega);rw[zco (c:=0) (q:=q0) (by omega) (by decide) (by omega)] at this;exact this
   have aq:Hid (wr.cell? ⟨g,j*6+1,none⟩=some (.int .i64 (q1:Int))):=by have:=(X.out.later N.out).cell E1.out (j*6+1) (by omega) (by omega);rw[zco (c:=1) (q:=q1) (by omega) (by decide) (by omega)] at this;exact this
   have au:Hid (wr.cell? ⟨g,j*6+2,none⟩=some (.string (mtS I))):=by have:=(X.out.later N.out).cell E1.out (j*6+2) (by omega) (by omega);rw[zbt (c:=2) (q:=I) (by omega) (by decide) (by omega)] at this;exact this
   have ar:Hid (wr.cell? ⟨g,j*6+3,none⟩=some (.string (mtS H))):=by have:=(X.out.later N.out).cell E1.out (j*6+3) (by omega) (by omega);rw[zbt (c:=3) (q:=H) (by omega) (by decide) (by omega)] at this;exact this
   have ao:Hid (wr.cell? ⟨g,j*6+4,none⟩=some (.int .i64 (q4:Int))):=by have:=(X.out.later N.out).cell E1.out (j*6+4) (by omega) (by omega);rw[zco (c:=4) (q:=q4) (by omega) (by decide) (by omega)] at this;exact this
   have ay:Hid (wr.cell? ⟨g,j*6+5,none⟩=some (.int .i64 (q5:Int))):=by have:=(X.out.later N.out).cell E1.out (j*6+5) (by omega) (by omega);rw[zco (c:=5) (q:=q5) (by omega) (by decide) (by omega)] at this;exact this
   have HQ:Hid (q6=O+(j*6+6)):=by show q6=_;omega
   have h:=((X.out.later N.out).typed (zbc E1.out)).2.1
   have aI:q6≤99000:=by omega
   have U:Hid (0<I∧I≤100000):=⟨by omega,by omega⟩
   have V:Hid (0<H∧H≤100000):=⟨by omega,by omega⟩
   obtain⟨j1,af⟩: ∃j1,j1=j+1:=⟨_,rfl⟩
   have ej:(j:Int)+1=(j1:Int):=by omega
   have HJ:=zc af
   clear af ag az av an ap aA aB
   have c0:=am.out
   have c1:=aq.out
   have ak: ∀d os,Calls Tryz.prog 52 #[.int .i64 (I:Int)] (grow (redrawn wr d) os) fun e ae=>e= .returned (.string (mtS I))∧∃p:Regrown,ae=grow (redrawn wr p.d) p.os:=fun d os=>Calls.regrown_of (zdl I _ U.out.1 U.out.2)
   go_wp2_with fail
   have k2:=cell_regrown au.out
   refine wp_region_quiet_below (by kernel_rfl) (by kernel_rfl) ?_
   repeat (go_big_quiet_step (exact ak _ _))
   refine wpQuiet_nil ?_
   intro w2 aa
   obtain⟨⟨dq,aw⟩,z⟩:=aa
   have A:Below wr.heap.size wr w2:=by rw[z];exact below_regrown _ _ _
   have ah:=zc (N.out.trans (A.mono N.out.size))
   have ab:=zc ((A.cell h).trans ar.out)
   have ac:=zc ((A.cell h).trans ao.out)
   have Y:=zc ((A.cell h).trans ay.out)
   have J:=Nat.lt_of_lt_of_le h A.size
   clear z k2 ak A h c0 c1
   have h:=J
   clear J
   have al: ∀d os,Calls Tryz.prog 52 #[.int .i64 (H:Int)] (grow (redrawn w2 d) os) fun e ae=>e= .returned (.string (mtS H))∧∃p:Regrown,ae=grow (redrawn w2 p.d) p.os:=fun d os=>Calls.regrown_of (zdl H _ V.out.1 V.out.2)
   go_wp2_with fail
   have k3:=cell_regrown ab.out
   refine wp_region_quiet_below (by kernel_rfl) (by kernel_rfl) ?_
   repeat (go_big_quiet_step (exact al _ _))
   refine wpQuiet_nil ?_
   intro w3 aa
   obtain⟨⟨dq,aw⟩,z⟩:=aa
   have M:Below w2.heap.size w2 w3:=by rw[z];exact below_regrown _ _ _
   have ax:=zc (ah.out.trans (M.mono ah.out.size))
   have ad:=zc ((M.cell h).trans ac.out)
   have Z:=zc ((M.cell h).trans Y.out)
   have L:=Nat.lt_of_lt_of_le h M.size
   clear z k3 al M h
   have h:=L
   clear L
   have c4:=ad.out
   have c5:=Z.out
   go_wp2
   go_roundg (gk-1)
   case rel=>exact⟨j1,rfl,by have:=HJ.out;omega,by have:=HJ.out;have:=HQ.out;rw[show q6=O+j1*6 from by omega],ax.out⟩
   case measure=>omega
  ·have ai: ¬(j:Int)<(n:Int):=by omega
   obtain rfl:j=n:=by omega
   subst hq
   go_wp2
   go_ret
   exact⟨rfl,N.out⟩
theorem zoK (h n j:Nat) (r:Rw) (w:World) (L:OwnG w h 109 6 r n (FK (fun i=>decide (i=2)||decide (i=3)) 6 j) (n*6)) (O:n≤4000) (z:0<j) (J:j≤50000):
  Calls Tryz.prog 62 #[.slice r.a n r.cap,.int .i64 j] w fun e w'=>e= .returned (.int .i64 ((j+n*6:Nat):Int))∧Below w.heap.size w w':=by
 by_cases I:n=0
 ·subst I
  refine (zoI _ _ j w).mono ?_
  rintro e U ⟨rfl,rfl⟩
  exact⟨by simp,Below.refl _ _⟩
 ·obtain⟨M,H,N⟩:=L
  rcases H.nil_or with ⟨_,_,e⟩|⟨g,A⟩
  ·exact absurd e I
  ·rw[A]
   exact zoJ h g n j r w ⟨M,H,N⟩ A O z J
theorem OwnR.asideL {w w':World} {b s n b2 I N:Nat} {e A:TypeId} {r j:Rw} {xs H:List Value} (h:OwnR w b e s r n xs) (L:OwnR w b2 A I j N H) (J:e≠A) (g:w.grownBy w' j.blk):OwnR w' b e s r n xs:=
 h.keep fun k z=>g.block k (h.typed z).2.1 fun M=>h.ne L J z M.symm
theorem OwnG.aside {w w':World} {b s n c b2 H O:Nat} {e z:TypeId} {r j:Rw} {F:Nat→Value} {A:List Value} (h:OwnG w b e s r n F c) (J:OwnR w b2 z H j O A) (I:e≠z) (g:w.grownBy w' j.blk):OwnG w' b e s r n F c:=by
 obtain⟨M,L,N⟩:=h
 exact⟨M,L.asideL J I g,N⟩
theorem zfr {w w':World} {b s n k:Nat} {e:TypeId} {r:Rw} {A:List Value} {o:Obj} (H:OwnR w b e s r n A) (j:w.heap[k]? =some o) (J: ∀h,o≠ .cells h e (0,0)) (g:w.grownBy w' r.blk):w'.heap[k]? =some o:=
 (g.block k (Array.getElem?_eq_some_iff.1 j).1 fun I=>by
  obtain⟨_,_,h,z⟩:=H.typed I.symm
  rw[j] at z
  exact J h (Option.some.inj z)).trans j
theorem zfs {w w':World} {b s n:Nat} {e:TypeId} {r:Rw} {h:List Value} (j:OwnR w b e s r n h) (H:b≤w.heap.size) (g:w.grownBy w' r.blk):Below b w w':=
 ⟨g.os,g.tape,g.output,g.size,fun k A=>g.block k (by omega) fun z=>by have:=(j.typed z.symm).1;omega⟩
def kM (m:Md) (k:Nat):Nat→Nat
 |0=>k
 |1=>k+m.rq.length
 |2=>k+m.rq.length+m.im.length*3
 |3=>k+m.rq.length+m.im.length*3+m.ep.length*4
 |4=>k+m.rq.length+m.im.length*3+m.ep.length*4+m.st.length*3
 |_=>k+m.rq.length+m.im.length*3+m.ep.length*4+m.st.length*3+m.ex.length*6
structure MdMk (w:World) (base:Nat) (S:Sv) (m:Md) (k:Nat):Prop where
 rq:OwnG w base 9 1 S.rq m.rq.length (FK (fun _=>true) 1 (kM m k 0)) (m.rq.length)
 im:OwnG w base 84 3 S.im m.im.length (FK (fun _=>true) 3 (kM m k 1)) (m.im.length*3)
 ep:OwnG w base 86 4 S.ep m.ep.length (FK (fun i=> !decide (i=0)) 4 (kM m k 2)) (m.ep.length*4)
 st:OwnG w base 107 3 S.st m.st.length (FK (fun i=>decide (i=1)) 3 (kM m k 3)) (m.st.length*3)
 ex:OwnG w base 109 6 S.ex m.ex.length (FK (fun i=>decide (i=2)||decide (i=3)) 6 (kM m k 4)) (m.ex.length*6)
theorem MdMk.later {w w':World} {j k:Nat} {S:Sv} {m:Md} (h:MdMk w j S m k) (z:Below w.heap.size w w'):MdMk w' j S m k:=⟨h.rq.later z,h.im.later z,h.ep.later z,h.st.later z,h.ex.later z⟩
def zdF (S:Sv) (k:Nat):Prop:=S.rq.blk=some k∨S.im.blk=some k∨S.ep.blk=some k∨S.st.blk=some k∨S.ex.blk=some k
theorem OwnMd.in {w:World} {b k:Nat} {S:Sv} {m:Md} (h:OwnMd w b S m) (j:zdF S k):b≤k∧k<w.heap.size∧∃z t,w.heap[k]? =some (.cells z t (0,0))∧(t=9∨t=84∨t=86∨t=107∨t=109):=by
 rcases j with e|e|e|e|e
 ·obtain⟨a,b,c,d⟩:=h.rq.typed e;exact⟨a,b,c,_,d,.inl rfl⟩
 ·obtain⟨a,b,c,d⟩:=h.im.typed e;exact⟨a,b,c,_,d,.inr (.inl rfl)⟩
 ·obtain⟨a,b,c,d⟩:=h.ep.typed e;exact⟨a,b,c,_,d,.inr (.inr (.inl rfl))⟩
 ·obtain⟨a,b,c,d⟩:=h.st.typed e;exact⟨a,b,c,_,d,.inr (.inr (.inr (.inl rfl)))⟩
 ·obtain⟨a,b,c,d⟩:=h.ex.typed e;exact⟨a,b,c,_,d,.inr (.inr (.inr (.inr rfl)))⟩
theorem OwnMd.keepB {w w':World} {b:Nat} {S:Sv} {m:Md} (h:OwnMd w b S m) (j: ∀k,b≤k→k<w.heap.size→zdF S k→w'.heap[k]? =w.heap[k]?):OwnMd w' b S m:=
 ⟨h.rq.keep fun k e=>j k (h.rq.typed e).1 (h.rq.typed e).2.1 (.inl e),h.im.keep fun k e=>j k (h.im.typed e).1 (h.im.typed e).2.1 (.inr (.inl e)),h.ep.keep fun k e=>j k (h.ep.typed e).1 (h.ep.typed e).2.1 (.inr (.inr (.inl e))),h.st.keep fun k e=>j k (h.st.typed e).1 (h.st.typed e).2.1 (.inr (.inr (.inr (.inl e)))),h.ex.keep fun k e=>j k (h.ex.typed e).1 (h.ex.typed e).2.1 (.inr (.inr (.inr (.inr e))))⟩
theorem OwnMd.not {w:World} {b k:Nat} {S:Sv} {m:Md} {I:Array Value} {t:TypeId} (h:OwnMd w b S m) (z:w.heap[k]? =some (.cells I t (0,0))) (J: ¬(t=9∨t=84∨t=86∨t=107∨t=109)): ¬zdF S k:=fun e=>by
 obtain⟨_,_,H,L,j,A⟩:=h.in e
 rw[z] at j
 simp only[Option.some.injEq,Obj.cells.injEq] at j
 exact J (j.2.1▸A)
structure KM (m:Md) (k:Nat):Prop where
 pos:0<k
 rq:m.rq.length≤1048576
 im:m.im.length≤1048576
 ep:m.ep.length≤1048576
 st:m.st.length≤1048576
 ex:m.ex.length≤1048576
 all:kM m k 5≤7900000
theorem KM.at {m:Md} {k:Nat} (h:KM m k):kM m k 0=k∧kM m k 0+m.rq.length=kM m k 1∧kM m k 1+m.im.length*3=kM m k 2∧kM m k 2+m.ep.length*4=kM m k 3∧kM m k 3+m.st.length*3=kM m k 4∧kM m k 4+m.ex.length*6=kM m k 5∧0<kM m k 0∧0<kM m k 1∧0<kM m k 2∧0<kM m k 3∧0<kM m k 4∧kM m k 5≤7900000:=by
 have j:=h.pos
 refine⟨rfl,rfl,rfl,rfl,rfl,rfl,?_,?_,?_,?_,?_,h.all⟩<;>simp only[kM]<;>omega
theorem zj3 (z:Nat) (S:Sv) (m:Md) (k:Nat) (w:World) (h:OwnMd w z S m) (hb:z≤w.heap.size) (N:KM m k):
  Calls Tryz.prog 17 #[zh S m,.int .i64 k] w fun e w'=>e= .returned (.int .i64 (kM m k 5))∧MdMk w' z S m k∧Below z w w'∧∀j,j<w.heap.size→¬zdF S j→w'.heap[j]? =w.heap[j]?:=by
 have V:=zc N.at
 obtain⟨_,l1,l2,l3,l4,l5,_⟩:=N
 have O:=zc (h.later ((Below.refl w.heap.size w).alloc (Nat.le_refl _) (.cells #[.slice S.rq.a m.rq.length S.rq.cap,.slice S.im.a m.im.length S.im.cap,.slice S.ep.a m.ep.length S.ep.cap,.slice S.st.a m.st.length S.st.cap,.slice S.ex.a m.ex.length S.ex.cap] 36)))
 have HX:Hid ((w.alloc (.cells #[.slice S.rq.a m.rq.length S.rq.cap,.slice S.im.a m.im.length S.im.cap,.slice S.ep.a m.ep.length S.ep.cap,.slice S.st.a m.st.length S.st.cap,.slice S.ex.a m.ex.length S.ex.cap] 36)).heap[w.heap.size]? =some (.cells #[.slice S.rq.a m.rq.length S.rq.cap,.slice S.im.a m.im.length S.im.cap,.slice S.ep.a m.ep.length S.ep.cap,.slice S.st.a m.st.length S.st.cap,.slice S.ex.a m.ex.length S.ex.cap] 36 (0,0))):=heap_alloc_new w _
 have HU:Hid (Below z w (w.alloc (.cells #[.slice S.rq.a m.rq.length S.rq.cap,.slice S.im.a m.im.length S.im.cap,.slice S.ep.a m.ep.length S.ep.cap,.slice S.st.a m.st.length S.st.cap,.slice S.ex.a m.ex.length S.ex.cap] 36))):=((Below.refl w.heap.size w).alloc (Nat.le_refl _) _).mono hb
 have U:=zc hb
 clear h hb
 unfold zh
 rw[show Value.int .i64 (k:Int)= .int .i64 ((kM m k 0:Nat):Int) from rfl]
 go_enter Tryz.func17,Tryz.ntmps17
 go_wp2_with fail
 refine (zot z m.rq.length (kM m k 0) S.rq _ (OwnG.start (O.out.rq) _) l1 (by have M:=V.out;omega) (by have M:=V.out;omega)).mono ?_
 rintro e w0 ⟨rfl,o0,g0⟩
 have A:=zc ((O.out.im).asideL (O.out.rq) (by decide) g0)
 have ar:=zc ((O.out.ep).asideL (O.out.rq) (by decide) g0)
 have ax:=zc ((O.out.st).asideL (O.out.rq) (by decide) g0)
 have aA:=zc ((O.out.ex).asideL (O.out.rq) (by decide) g0)
 have ac:=zc o0
 have au:=zc (zfr (O.out.rq) HX.out (by intro X e;cases e) g0)
 have af:=zc (HU.out.trans (zfs (O.out.rq) (Nat.le_trans U.out (by have:=HU.out.size;exact this)) g0))
 have aF:=zc (fun (k:Nat) N (L:S.rq.blk≠some k)=>g0.block k N fun e=>L e.symm)
 have aH:=zc g0.size
 clear o0 g0
 obtain⟨c0,c1,c2,c3,c4,cf⟩:=zg au.out
 have e0:kM m k 0+m.rq.length=kM m k 1:=rfl
 rw[e0]
 clear e0
 go_wp2_with fail
 refine (zow z m.im.length (kM m k 1) S.im _ (OwnG.start (A.out) _) l2 (by have M:=V.out;omega) (by have M:=V.out;omega)).mono ?_
 rintro e w1 ⟨rfl,o1,g1⟩
 have J:=zc ((ar.out).asideL (A.out) (by decide) g1)
 have ab:=zc ((ax.out).asideL (A.out) (by decide) g1)
 have an:=zc ((aA.out).asideL (A.out) (by decide) g1)
 have az:=zc ((ac.out).aside (A.out) (by decide) g1)
 have aB:=zc o1
 have al:=zc (zfr (A.out) au.out (by intro X e;cases e) g1)
 have ad:=zc (af.out.trans (zfs (A.out) (Nat.le_trans U.out (by have:=af.out.size;exact this)) g1))
 have aM:=zc (fun (k:Nat) N (L:S.im.blk≠some k)=>g1.block k N fun e=>L e.symm)
 have aG:=zc g1.size
 clear o1 g1 c0 c1 c2 c3 c4 cf
 obtain⟨c0,c1,c2,c3,c4,cf⟩:=zg al.out
 have e1:kM m k 1+m.im.length*3=kM m k 2:=rfl
 rw[e1]
 clear e1
 go_wp2_with fail
 refine (zoz z m.ep.length (kM m k 2) S.ep _ (OwnG.start (J.out) _) l3 (by have M:=V.out;omega) (by have M:=V.out;omega)).mono ?_
 rintro e w2 ⟨rfl,o2,Z⟩
 have H:=zc ((ab.out).asideL (J.out) (by decide) Z)
 have ah:=zc ((an.out).asideL (J.out) (by decide) Z)
 have ag:=zc ((az.out).aside (J.out) (by decide) Z)
 have aD:=zc ((aB.out).aside (J.out) (by decide) Z)
 have ao:=zc o2
 have aC:=zc (zfr (J.out) al.out (by intro X e;cases e) Z)
 have aj:=zc (ad.out.trans (zfs (J.out) (Nat.le_trans U.out (by have:=ad.out.size;exact this)) Z))
 have aI:=zc (fun (k:Nat) N (L:S.ep.blk≠some k)=>Z.block k N fun e=>L e.symm)
 have aL:=zc Z.size
 clear o2 Z c0 c1 c2 c3 c4 cf
 obtain⟨c0,c1,c2,c3,c4,cf⟩:=zg aC.out
 have e2:kM m k 2+m.ep.length*4=kM m k 3:=rfl
 rw[e2]
 clear e2
 go_wp2_with fail
 refine (zo2 z m.st.length (kM m k 3) S.st _ (OwnG.start (H.out) _) l4 (by have M:=V.out;omega) (by have M:=V.out;omega)).mono ?_
 rintro e w3 ⟨rfl,o3,g3⟩
 have I:=zc ((ah.out).asideL (H.out) (by decide) g3)
 have aa:=zc ((ag.out).aside (H.out) (by decide) g3)
 have ak:=zc ((aD.out).aside (H.out) (by decide) g3)
 have aE:=zc ((ao.out).aside (H.out) (by decide) g3)
 have ae:=zc o3
 have ap:=zc (zfr (H.out) aC.out (by intro X e;cases e) g3)
 have am:=zc (aj.out.trans (zfs (H.out) (Nat.le_trans U.out (by have:=aj.out.size;exact this)) g3))
 have aN:=zc (fun (k:Nat) N (L:S.st.blk≠some k)=>g3.block k N fun e=>L e.symm)
 have aO:=zc g3.size
 clear o3 g3 c0 c1 c2 c3 c4 cf
 obtain⟨c0,c1,c2,c3,c4,cf⟩:=zg ap.out
 have e3:kM m k 3+m.st.length*3=kM m k 4:=rfl
 rw[e3]
 clear e3
 go_wp2_with fail
 refine (zo5 z m.ex.length (kM m k 4) S.ex _ (OwnG.start (I.out) _) l5 (by have M:=V.out;omega) (by have M:=V.out;omega)).mono ?_
 rintro e w4 ⟨rfl,o4,Y⟩
 have ay:=zc ((aa.out).aside (I.out) (by decide) Y)
 have aq:=zc ((ak.out).aside (I.out) (by decide) Y)
 have ai:=zc ((aE.out).aside (I.out) (by decide) Y)
 have av:=zc ((ae.out).aside (I.out) (by decide) Y)
 have aw:=zc o4
 have aP:=zc (zfr (I.out) ap.out (by intro X e;cases e) Y)
 have aK:=zc (am.out.trans (zfs (I.out) (Nat.le_trans U.out (by have:=am.out.size;exact this)) Y))
 have aJ:=zc (fun (k:Nat) N (L:S.ex.blk≠some k)=>Y.block k N fun e=>L e.symm)
 have aQ:=zc Y.size
 clear o4 Y c0 c1 c2 c3 c4 cf
 obtain⟨c0,c1,c2,c3,c4,cf⟩:=zg aP.out
 have e4:kM m k 4+m.ex.length*6=kM m k 5:=rfl
 rw[e4]
 clear e4
 go_wp2
 go_ret
 refine⟨rfl,⟨ay.out,aq.out,ai.out,av.out,aw.out⟩,aK.out,fun k N hn=>?_⟩
 have s0:k<(w.alloc (.cells #[.slice S.rq.a m.rq.length S.rq.cap,.slice S.im.a m.im.length S.im.cap,.slice S.ep.a m.ep.length S.ep.cap,.slice S.st.a m.st.length S.st.cap,.slice S.ex.a m.ex.length S.ex.cap] 36)).heap.size:=by rw[zn];omega
 have s1:=Nat.lt_of_lt_of_le s0 aH.out
 have s2:=Nat.lt_of_lt_of_le s1 aG.out
 have s3:=Nat.lt_of_lt_of_le s2 aL.out
 have s4:=Nat.lt_of_lt_of_le s3 aO.out
 exact (aJ.out k s4 fun e=>hn (.inr (.inr (.inr (.inr e))))).trans ((aN.out k s3 fun e=>hn (.inr (.inr (.inr (.inl e))))).trans ((aI.out k s2 fun e=>hn (.inr (.inr (.inl e)))).trans ((aM.out k s1 fun e=>hn (.inr (.inl e))).trans ((aF.out k s0 fun e=>hn (.inl e)).trans (heap_alloc_old w _ N)))))
theorem zj4 (H:Nat) (S:Sv) (m:Md) (k:Nat) (w:World) (h:MdMk w H S m k) (hk:KM m k) (hf:m.rq.length≤4000∧m.im.length≤4000∧m.ep.length≤4000∧m.st.length≤4000∧m.ex.length≤4000∧kM m k 5≤50000):
  Calls Tryz.prog 18 #[zh S m,.int .i64 k] w fun e w'=>e= .returned (.int .i64 (kM m k 5))∧Below w.heap.size w w':=by
 have HM:=zc (h.later ((Below.refl w.heap.size w).alloc (Nat.le_refl _) (.cells #[.slice S.rq.a m.rq.length S.rq.cap,.slice S.im.a m.im.length S.im.cap,.slice S.ep.a m.ep.length S.ep.cap,.slice S.st.a m.st.length S.st.cap,.slice S.ex.a m.ex.length S.ex.cap] 36)))
 have HX:Hid ((w.alloc (.cells #[.slice S.rq.a m.rq.length S.rq.cap,.slice S.im.a m.im.length S.im.cap,.slice S.ep.a m.ep.length S.ep.cap,.slice S.st.a m.st.length S.st.cap,.slice S.ex.a m.ex.length S.ex.cap] 36)).heap[w.heap.size]? =some (.cells #[.slice S.rq.a m.rq.length S.rq.cap,.slice S.im.a m.im.length S.im.cap,.slice S.ep.a m.ep.length S.ep.cap,.slice S.st.a m.st.length S.st.cap,.slice S.ex.a m.ex.length S.ex.cap] 36 (0,0))):=heap_alloc_new w _
 have HU:Hid (Below w.heap.size w (w.alloc (.cells #[.slice S.rq.a m.rq.length S.rq.cap,.slice S.im.a m.im.length S.im.cap,.slice S.ep.a m.ep.length S.ep.cap,.slice S.st.a m.st.length S.st.cap,.slice S.ex.a m.ex.length S.ex.cap] 36))):=(Below.refl w.heap.size w).alloc (Nat.le_refl _) _
 have J:=zc hk.at
 have I:=zc hf
 clear h hk hf
 unfold zh
 rw[show Value.int .i64 (k:Int)= .int .i64 ((kM m k 0:Nat):Int) from rfl]
 go_enter Tryz.func18,Tryz.ntmps18
 go_wp2_with fail
 refine (zo8 H m.rq.length (kM m k 0) S.rq _ HM.out.rq (by have z:=J.out;have j:=I.out;omega) (by have z:=J.out;have j:=I.out;omega) (by have z:=J.out;have j:=I.out;omega)).mono ?_
 rintro e w0 ⟨rfl,A⟩
 have ad:=zc (HM.out.later A)
 have Z:=zc ((A.block _ (Array.getElem?_eq_some_iff.1 HX.out).1).trans HX.out)
 have ah:=zc (HU.out.trans (A.mono HU.out.size))
 clear A
 obtain⟨V,L,M,O,U,N⟩:=zg Z.out
 have e0:kM m k 0+m.rq.length=kM m k 1:=rfl
 rw[e0]
 clear e0
 have aq:decide ((kM m k 1:Int)<0)=false:=decide_eq_false (by omega)
 go_wp2_with fail
 refine (zoB H m.im.length (kM m k 1) S.im _ ad.out.im (by have z:=J.out;have j:=I.out;omega) (by have z:=J.out;have j:=I.out;omega) (by have z:=J.out;have j:=I.out;omega)).mono ?_
 rintro e w1 ⟨rfl,A⟩
 have ag:=zc (ad.out.later A)
 have aa:=zc ((A.block _ (Array.getElem?_eq_some_iff.1 Z.out).1).trans Z.out)
 have af:=zc (ah.out.trans (A.mono ah.out.size))
 clear A V L M O U N
 obtain⟨V,L,M,O,U,N⟩:=zg aa.out
 have e1:kM m k 1+m.im.length*3=kM m k 2:=rfl
 rw[e1]
 clear e1
 have al:decide ((kM m k 2:Int)<0)=false:=decide_eq_false (by omega)
 go_wp2_with fail
 refine (zoE H m.ep.length (kM m k 2) S.ep _ ag.out.ep (by have z:=J.out;have j:=I.out;omega) (by have z:=J.out;have j:=I.out;omega) (by have z:=J.out;have j:=I.out;omega)).mono ?_
 rintro e w2 ⟨rfl,A⟩
 have ab:=zc (ag.out.later A)
 have Y:=zc ((A.block _ (Array.getElem?_eq_some_iff.1 aa.out).1).trans aa.out)
 have ae:=zc (af.out.trans (A.mono af.out.size))
 clear A V L M O U N
 obtain⟨V,L,M,O,U,N⟩:=zg Y.out
 have e2:kM m k 2+m.ep.length*4=kM m k 3:=rfl
 rw[e2]
 clear e2
 have ao:decide ((kM m k 3:Int)<0)=false:=decide_eq_false (by omega)
 go_wp2_with fail
 refine (zoH H m.st.length (kM m k 3) S.st _ ab.out.st (by have z:=J.out;have j:=I.out;omega) (by have z:=J.out;have j:=I.out;omega) (by have z:=J.out;have j:=I.out;omega)).mono ?_
 rintro e w3 ⟨rfl,A⟩
 have ac:=zc (ab.out.later A)
 have X:=zc ((A.block _ (Array.getElem?_eq_some_iff.1 Y.out).1).trans Y.out)
 have ai:=zc (ae.out.trans (A.mono ae.out.size))
 clear A V L M O U N
 obtain⟨V,L,M,O,U,N⟩:=zg X.out
 have e3:kM m k 3+m.st.length*3=kM m k 4:=rfl
 rw[e3]
 clear e3
 have am:decide ((kM m k 4:Int)<0)=false:=decide_eq_false (by omega)
 go_wp2_with fail
 refine (zoK H m.ex.length (kM m k 4) S.ex _ ac.out.ex (by have z:=J.out;have j:=I.out;omega) (by have z:=J.out;have j:=I.out;omega) (by have z:=J.out;have j:=I.out;omega)).mono ?_
 rintro e w4 ⟨rfl,A⟩
 have an:=zc (ac.out.later A)
 have ak:=zc ((A.block _ (Array.getElem?_eq_some_iff.1 X.out).1).trans X.out)
 have aj:=zc (ai.out.trans (A.mono ai.out.size))
 clear A V L M O U N
 obtain⟨V,L,M,O,U,N⟩:=zg ak.out
 have e4:kM m k 4+m.ex.length*6=kM m k 5:=rfl
 rw[e4]
 clear e4
 have ap:decide ((kM m k 5:Int)<0)=false:=decide_eq_false (by omega)
 go_wp2
 go_ret
 exact⟨rfl,aj.out⟩
theorem OwnMd.low {w:World} {b z:Nat} {S:Sv} {m:Md} (h:OwnMd w b S m) (j:z≤b):OwnMd w z S m:=⟨h.rq.low j,h.im.low j,h.ep.low j,h.st.low j,h.ex.low j⟩
theorem OwnR.aside {w:World} {j size n c i:Nat} {e t:TypeId} {r:Rw} {xs:List Value} {u:Value} {J:Array Value} (h:OwnR w j e size r n xs) (L:w.heap[c]? =some (.cells J t (0,0))) (I:e≠t):OwnR (w.setCell ⟨c,i,none⟩ u) j e size r n xs:=
 h.keep fun k g=>heap_setCell_other w ⟨c,i,none⟩ k u fun A=>by
  obtain⟨_,_,H,z⟩:=h.typed g
  simp only at A
  rw[A,L] at z
  simp only[Option.some.injEq,Obj.cells.injEq] at z
  exact I z.2.1.symm
theorem OwnMd.aside {w:World} {b c i:Nat} {S:Sv} {m:Md} {t:TypeId} {u:Value} {A:Array Value} (h:OwnMd w b S m) (z:w.heap[c]? =some (.cells A t (0,0))) (j:t≠9∧t≠84∧t≠86∧t≠107∧t≠109):OwnMd (w.setCell ⟨c,i,none⟩ u) b S m:=
 ⟨h.rq.aside z j.1.symm,h.im.aside z j.2.1.symm,h.ep.aside z j.2.2.1.symm,h.st.aside z j.2.2.2.1.symm,h.ex.aside z j.2.2.2.2.symm⟩
theorem zdZ {w:World} {b g o:Nat} {S:Sv} {m:Md} {x0 x1 x2 x3 x4:Value} (h:OwnMd w b S m) (M: ∃j,w.heap[g]? =some (.cells j 36 (0,0))):
  OwnMd (((((w.setCell ⟨g,o,none⟩ x0).setCell ⟨g,o+1,none⟩ x1).setCell ⟨g,o+2,none⟩ x2).setCell ⟨g,o+3,none⟩ x3).setCell ⟨g,o+4,none⟩ x4) b S m:=by
 obtain⟨j,I⟩:=M
 have H:=zam (i:=o) (u:=x0) I
 have A:=zam (i:=o+1) (u:=x1) H
 have J:=zam (i:=o+2) (u:=x2) A
 have L:=zam (i:=o+3) (u:=x3) J
 have z:(36:TypeId)≠9∧(36:TypeId)≠84∧(36:TypeId)≠86∧(36:TypeId)≠107∧(36:TypeId)≠109:=by decide
 exact ((((h.aside I z).aside H z).aside A z).aside J z).aside L z
theorem zj5 {α:Type} {f:α→List Value} {m:Nat} (j: ∀x,(f x).length=m) (l:List α): ∀(k c:Nat) (x y:α) (v:Value),l[k]? =some x→c<m→f y=(f x).set c v→(l.flatMap f).set (k*m+c) v=(l.set k y).flatMap f:=by
 induction l with
 |nil=>intro k c x y v h;cases h
 |cons z l H=>
  intro k c x y v h w A
  cases k with
  |zero=>
   cases h
   rw[List.set_cons_zero,List.flatMap_cons,List.flatMap_cons,Nat.zero_mul,Nat.zero_add,List.set_append_left _ _ (by rw[j];exact w),A]
  |succ k=>
   rw[List.set_cons_succ,List.flatMap_cons,List.flatMap_cons,List.set_append_right _ _ (by rw[j,Nat.succ_mul];omega),j,show (k+1)*m+c-m=k*m+c by rw[Nat.succ_mul];omega,H k c x y v h w A]
theorem OwnR.addrA {w:World} {j size n:Nat} {e:TypeId} {r:Rw} {xs:List Value} (h:OwnR w j e size r n xs) (A:0<n): ∃g,r.a=some ⟨g,0,none⟩:=by
 rcases h.nil_or with ⟨_,_,z⟩|h
 ·omega
 ·exact h
theorem OwnR.put {w:World} {z size n g:Nat} {e:TypeId} {r:Rw} {xs:List Value} (h:OwnR w z e size r n xs) (A:r.a=some ⟨g,0,none⟩) (j:Nat) (u:Value):OwnR (w.setCell ⟨g,j,none⟩ u) z e size r n (xs.set j u):=by
 obtain⟨a,H⟩:=r
 simp only at A
 subst A
 exact (World.ownsRow.stored h j u).1
theorem OwnR.blkOf {r:Rw} {g:Nat} (h:r.a=some ⟨g,0,none⟩):r.blk=some g:=by rw[Rw.blk,h];rfl
theorem OwnR.free {w:World} {z size n g:Nat} {e:TypeId} {r:Rw} {xs:List Value} (h:OwnR w z e size r n xs) (H:r.a=some ⟨g,0,none⟩) (j:Nat):w.frozen? ⟨g,j,none⟩=false:=by
 obtain⟨_,_,A,I⟩:=h.typed (OwnR.blkOf H)
 simp[World.frozen?,I]
theorem OwnMd.put_im {w:World} {j i g:Nat} {S:Sv} {m:Md} {x:Im} (h:OwnMd w j S m) (I:m.im[i]? =some x) (A:S.im.a=some ⟨g,0,none⟩) (s:ByteArray):OwnMd (w.setCell ⟨g,i*3,none⟩ (.string s)) j S {m with im:=m.im.set i ⟨s,x.first,x.loc⟩}:=by
 obtain⟨_,_,H,z⟩:=h.im.typed (OwnR.blkOf A)
 refine⟨h.rq.aside z (by decide),?_,h.ep.aside z (by decide),h.st.aside z (by decide),h.ex.aside z (by decide)⟩
 have e:=zj5 (f:=imL) (m:=3) (fun _=>rfl) m.im i 0 x ⟨s,x.first,x.loc⟩ (.string s) I (by decide) rfl
 rw[Nat.add_zero] at e
 have:=h.im.put A (i*3) (.string s)
 rw[e] at this
 show OwnR _ _ _ _ _ (m.im.set i _).length _
 rw[List.length_set]
 exact this
theorem OwnMd.put_ep {w:World} {j i g:Nat} {S:Sv} {m:Md} {x:Ep} (h:OwnMd w j S m) (I:m.ep[i]? =some x) (A:S.ep.a=some ⟨g,0,none⟩) (s:ByteArray):OwnMd (w.setCell ⟨g,i*4+3,none⟩ (.string s)) j S {m with ep:=m.ep.set i ⟨x.kind,x.name,x.loc,s⟩}:=by
 obtain⟨_,_,H,z⟩:=h.ep.typed (OwnR.blkOf A)
 refine⟨h.rq.aside z (by decide),h.im.aside z (by decide),?_,h.st.aside z (by decide),h.ex.aside z (by decide)⟩
 have e:=zj5 (f:=epL) (m:=4) (fun _=>rfl) m.ep i 3 x ⟨x.kind,x.name,x.loc,s⟩ (.string s) I (by decide) rfl
 have:=h.ep.put A (i*4+3) (.string s)
 rw[e] at this
 show OwnR _ _ _ _ _ (m.ep.set i _).length _
 rw[List.length_set]
 exact this
end Go.Proofs.YtjdddblpfbmpaaaGreat
