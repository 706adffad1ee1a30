/-
  What impl's arePathsOk,areModsOk,askedBy and areLinksOk answer: the walks.
  What impl's askedBy and areLinksOk answer: the walks.
-/
import Derived.Test.YtcidlffeeninbaaGreatClImplPartsToImplClean
namespace Go.Proofs.YtcidlffeeninbaaGreat
set_option maxRecDepth 100000
set_option maxHeartbeats 12800000
open Go.RowKit Go.PlainAid Go.Sort
theorem OwnR.take {w:World} {q n i:Nat} {e:TypeId} {r:Rw} {xs:List Value} (h:OwnR w q e 1 r n xs) (O:i≤n):OwnR w q e 1 r i (xs.take i):=by
 have M:=h.1
 refine⟨by rw[List.length_take];omega,?_⟩
 rcases h.2 with ⟨z,N⟩|⟨g,D,A,z,E,H,L,I,J,K⟩
 ·left
  simp only[Value.slice.injEq] at z
  obtain rfl:i=0:=by omega
  exact⟨by rw[z.1,z.2.2],rfl⟩
 ·right
  simp only[Value.slice.injEq] at z
  refine⟨g,D,A,by rw[z.1,z.2.2],E,H,by omega,I,J,?_⟩
  rw[←K,List.take_take,Nat.min_eq_left (by omega),Nat.mul_one]
theorem RowS.own {w:World} {q:Nat} {r:Rw} {l:List ByteArray} (h:OwnR w q 9 1 r l.length (l.flatMap fun x=>[Value.string x])):OwnR w q 9 1 r l.length (l.map .string):=by rw[zka];exact h
theorem OwnR.first {w:World} {q i:Nat} {r:Rw} {l:List ByteArray} (h:OwnR w q 9 1 r l.length (l.flatMap fun x=>[Value.string x])) (z:i≤l.length):OwnR w q 9 1 r (l.take i).length ((l.take i).map .string):=by
 have:=(RowS.own h).take z
 rw[←List.map_take] at this
 rw[List.length_take,Nat.min_eq_left z]
 exact this
theorem zvt {h:List ByteArray} {i:Nat} {p:ByteArray} {P:Prop} (q:h.getD i sNone=p) (E: ∀j,j<i→zbX h j) (w: ¬zbX h i→¬P):
  (zaS p=false∧¬P)∨(zaS p=true∧((((zaH p).toList==p.toList)=false∧¬P)∨(((zaH p).toList==p.toList)=true∧((zaQ (h.take i) p=true∧¬P)∨(zaQ (h.take i) p=false∧∀j,j<i+1→zbX h j))))):=by
 cases A:zaS p with
 |false=>exact .inl ⟨rfl,w fun k=>by rw[zbX,q,A] at k;exact absurd k.1 (by decide)⟩
 |true=>
  refine .inr ⟨rfl,?_⟩
  cases D:((zaH p).toList==p.toList) with
  |false=>exact .inl ⟨rfl,w fun k=>by rw[zbX,q,D] at k;exact absurd k.2.1 (by decide)⟩
  |true=>
   refine .inr ⟨rfl,?_⟩
   cases z:zaQ (h.take i) p with
   |true=>exact .inl ⟨rfl,w fun k=>by rw[zbX,q] at k;exact absurd (z.symm.trans k.2.2) (by decide)⟩
   |false=>
    refine .inr ⟨rfl,fun j H=>?_⟩
    by_cases e:j=i
    ·rw[e,zbX,q];exact⟨A,D,z⟩
    ·exact E j (by omega)
theorem zmr (E:Nat) (a:Option Addr) (D:Nat) (q:List ByteArray) (w:World) (h:OwnR w E 9 1 ⟨a,D⟩ q.length (q.flatMap fun x=>[Value.string x])) (hl:q.length≤1000000) (hs: ∀p∈q,p.size≤1048576):
  Calls Tryz.prog 21 #[.slice a q.length D] w fun e w'=>SameOut (∀i,i<q.length→zbX q i) e∧Below w.heap.size w w':=by
 have HO:=zc h
 have HS:=zc hs
 have U:=OwnR.cap h
 simp only at U
 clear h hs
 go_enter Tryz.func21,Tryz.ntmps21
 go_wp2
 go_loopg [7] q.length (fun k s7 wr=>∃i:Nat,s7= .int .i64 i∧i+k=q.length∧(∀j,j<i→zbX q j)∧Below w.heap.size w wr)
 case atStart=>exact⟨0,rfl,by omega,(fun j hj=>absurd hj (Nat.not_lt_zero j)),Below.refl _ _⟩
 case round=>
  obtain⟨i,rfl,hi,ht,J⟩:=hrel
  have TO:=zc ht
  have K:=zc J
  clear ht J
  by_cases L:i<q.length
  ·have N:(i:Int)<(q.length:Int):=by omega
   have ac:(i:Int)≤(D:Int):=by omega
   obtain⟨p,X⟩: ∃p,q[i]? =some p:=⟨_,List.getElem?_eq_getElem L⟩
   have OW:=zc (HO.out.later K.out)
   obtain⟨b1,o1,e1,k1⟩:=(RowAt.of (f:=fun x=>[Value.string x]) (m:=1) (fun _=>rfl) OW.out).get X
   simp only at e1
   subst e1
   have c0:=k1 0 _ rfl
   simp only[Nat.add_zero,Nat.mul_one] at c0
   have ad:=HS.out p (List.mem_of_getElem? X)
   have PD:Hid (q.getD i sNone=p):=by show _=_;rw[List.getD,X];rfl
   have M:p.size≤9223372036854775807:=by omega
   have aa:(q.take i).length=i:=by rw[List.length_take];omega
   clear X k1
   obtain⟨Y,V⟩: ∃Y,Y=i+1:=⟨_,rfl⟩
   have ei:(i:Int)+1=(Y:Int):=by omega
   have O:=zc V
   clear V
   have A:=zvt PD.out TO.out (P:=∀i,i<q.length→zbX q i) (fun k h=>k (h i L))
   go_wp2_with fail
   refine (ziz p _ M).mono ?_
   rintro e w1 ⟨rfl,rfl⟩
   rcases A with ⟨h1,z⟩|⟨h1,A⟩
   ·have H:=zc z
    clear z
    rw[h1]
    go_wp2
    go_ret
    exact⟨zbt H.out rfl,K.out⟩
   rw[h1]
   go_wp2_with fail
   refine (zvs p _ M).mono ?_
   rintro e w2 ⟨rfl,J⟩
   have ab:=zc (OW.out.later J)
   have I:=zc (zar K.out J)
   clear J OW K c0
   rcases A with ⟨h2,z⟩|⟨h2,A⟩
   ·have H:=zc z
    clear z
    go_wp2
    go_ret
    exact⟨zbt H.out rfl,I.out⟩
   have Z:=zgg E ⟨some ⟨b1,o1,none⟩,D⟩ (q.take i) p w2 (ab.out.first (by omega)) (by omega)
   rw[aa] at Z
   have CI:=zc Z
   clear Z
   go_wp2_with fail
   refine CI.out.mono ?_
   rintro e w3 ⟨rfl,rfl⟩
   rcases A with ⟨h3,z⟩|⟨h3,z⟩
   ·have H:=zc z
    clear z
    rw[h3]
    go_wp2
    go_ret
    exact⟨zbt H.out rfl,I.out⟩
   ·have H:=zc z
    clear z
    rw[h3]
    go_wp2
    go_roundg (gk-1)
    case rel=>exact⟨Y,rfl,by have:=O.out;omega,by rw[O.out];exact H.out,I.out⟩
    case measure=>omega
  ·have N: ¬(i:Int)<(q.length:Int):=by omega
   obtain rfl:i=q.length:=by omega
   go_wp2
   go_ret
   exact⟨zhF TO.out rfl,K.out⟩
theorem zvu {h:List Md} {i:Nat} {m:Md} (A:h[i]? =some m) (D: ∀(j:Nat) (x:Md),j<i→h[j]? =some x→MOk x∧zaq x=0):
  (¬MOk m∧¬zcQ h)∨(MOk m∧((¬zaq m=0∧¬zcQ h)∨(zaq m=0∧∀(j:Nat) (x:Md),j<i+1→h[j]? =some x→MOk x∧zaq x=0))):=by
 by_cases q:MOk m
 ·refine .inr ⟨q,?_⟩
  by_cases w:zaq m=0
  ·refine .inr ⟨w,fun j x E z=>?_⟩
   by_cases e:j=i
   ·rw[e,A] at z;cases z;exact⟨q,w⟩
   ·exact D j x (by omega) z
  ·exact .inl ⟨w,fun k=>w (k m (List.mem_of_getElem? A)).2⟩
 ·exact .inl ⟨q,fun k=>q (k m (List.mem_of_getElem? A)).1⟩
theorem zms (I:zf5 42) (H:zf6 43) (q:Nat) (a:Option Addr) (ad:Nat) (U:List Sv) (z:List Md) (w:World) (hu:U.length=z.length) (h:OwnR w q 48 5 ⟨a,ad⟩ z.length ((U.zip z).flatMap mdL)) (ac: ∀x∈U.zip z,OwnMd w q x.1 x.2) (hg: ∀m∈z,GdM m) (hl:z.length≤1000000):
  Calls Tryz.prog 22 #[.slice a z.length ad] w fun e w'=>SameOut (zcQ z) e∧Below w.heap.size w w':=by
 have HO:=zc (RowAt.of (f:=mdL) (m:=5) (fun _=>rfl) (zeK hu h))
 have HM:=zc ac
 have HG:=zc hg
 have HU:=zc hu
 have CM:=zc I
 have CE:=zc H
 clear h ac hg hu I H
 go_enter Tryz.func22,Tryz.ntmps22
 go_wp2
 go_loopg [7] z.length (fun k s7 wr=>∃i:Nat,s7= .int .i64 i∧i+k=z.length∧(∀(j:Nat) (x:Md),j<i→z[j]? =some x→MOk x∧zaq x=0)∧Below w.heap.size w wr)
 case atStart=>exact⟨0,rfl,by omega,(fun j x hj=>absurd hj (Nat.not_lt_zero j)),Below.refl _ _⟩
 case round=>
  obtain⟨i,rfl,hi,ht,A⟩:=hrel
  have TO:=zc ht
  have E:=zc A
  clear ht A
  by_cases ah:i<z.length
  ·have ab:(i:Int)<(z.length:Int):=by omega
   obtain⟨m,V⟩: ∃m,z[i]? =some m:=⟨_,List.getElem?_eq_getElem ah⟩
   obtain⟨S,hS⟩:=zdH HU.out V
   obtain⟨b1,o1,e1,O⟩:=(HO.out.later E.out).get hS
   subst e1
   have Y:=O 0 _ rfl
   have c1:=O 1 _ rfl
   have Z:=O 2 _ rfl
   have c3:=O 3 _ rfl
   have c4:=O 4 _ rfl
   simp only[Nat.add_zero] at Y
   have N:=zc ((HM.out _ (List.mem_of_getElem? hS)).later E.out)
   have GM:=zc (HG.out m (List.mem_of_getElem? V))
   have L:=zvu V TO.out
   clear V hS O
   obtain⟨i1,ae⟩: ∃i1,i1=i+1:=⟨_,rfl⟩
   have ei:(i:Int)+1=(i1:Int):=by omega
   have ag:=zc ae
   clear ae
   go_upto_region 4 with fail
   obtain⟨gl,M⟩: ∃gl,gl=wr.heap.size:=⟨_,rfl⟩
   rw[←M]
   refine zx (R:=fun W=>Bk W gl (mdL (S,m)).toArray 48∧OwnMd W q S m∧Below w.heap.size w W) ⟨by rw[M];exact heap_alloc_new wr _,N.out.later (zaN wr _),zar E.out (zaN wr _)⟩ ?_
   clear M E N Y c1 Z c3 c4
   rintro w1 ⟨D,ho,A⟩
   have X:=zc D
   have N:=zc ho
   have E:=zc A
   clear D ho A
   obtain⟨Y,c1,Z,c3,c4,cf⟩:=zk X.out
   go_wp2_with fail
   refine (CM.out q S m _ N.out GM.out).mono ?_
   rintro e w2 ⟨K,A⟩
   have X2:=zc (X.out.later A)
   have af:=zc (N.out.later A)
   have J:=zc (zar E.out A)
   clear A X N E Y c1 Z c3 c4 cf
   rcases L with ⟨h1,D⟩|⟨h1,L⟩
   ·have HX:=zc D
    clear D
    obtain rfl:=K.of (b:=false) (by simp[h1])
    go_wp2
    go_ret
    exact⟨zbt HX.out rfl,J.out⟩
   obtain rfl:=K.of (b:=true) (by simp[h1])
   clear K
   obtain⟨Y,c1,Z,c3,c4,cf⟩:=zk X2.out
   go_wp2_with fail
   refine (CE.out q S m _ af.out GM.out h1).mono ?_
   rintro e w3 ⟨rfl,A⟩
   have aa:=zc (zar J.out A)
   clear A af J X2 Y c1 Z c3 c4 cf h1
   rcases L with ⟨h2,D⟩|⟨h2,D⟩
   ·have HX:=zc D
    clear D
    go_wp2
    go_ret
    exact⟨zbt HX.out rfl,aa.out⟩
   ·have HX:=zc D
    clear D
    go_wp2
    go_roundg (gk-1)
    case rel=>exact⟨i1,rfl,by have:=ag.out;omega,by rw[ag.out];exact HX.out,aa.out⟩
    case measure=>omega
  ·have ab: ¬(i:Int)<(z.length:Int):=by omega
   obtain rfl:i=z.length:=by omega
   have HY:Hid (zcQ z):=fun m V=>by
    obtain⟨j,hj⟩:=List.mem_iff_getElem?.1 V
    exact TO.out j m (List.getElem?_eq_some_iff.1 hj).1 hj
   go_wp2
   go_ret
   exact⟨zhF HY.out rfl,E.out⟩
theorem zvv (x:Lk) (f:Int) (s:ByteArray):(x.frm=f∧(x.spec.toList==s.toList)=true∧zR x=(f,s.toList))∨(x.frm=f∧(x.spec.toList==s.toList)=false∧zR x≠(f,s.toList))∨(¬x.frm=f∧zR x≠(f,s.toList)):=by
 by_cases h:x.frm=f
 ·cases q:(x.spec.toList==s.toList) with
  |true=>exact .inl ⟨h,rfl,by unfold zR;rw[h,eq_of_beq q]⟩
  |false=>exact .inr (.inl ⟨h,rfl,fun e=>by rw[(Prod.mk.inj e).2] at q;simp at q⟩)
 ·exact .inr (.inr ⟨h,fun e=>h (Prod.mk.inj e).1⟩)
theorem zmt (L:Nat) (G:GS) (g:Gr) (f:Int) (s:ByteArray) (w:World) (ho:GrOwn w L G g) (hl:g.ls.length≤1048576):
  Calls Tryz.prog 44 #[grD G g,.int .i64 f,.string s] w fun e w'=>e= .returned (.int .i64 (zbh g.ls (f,s.toList)))∧Below w.heap.size w w':=by
 have HR:=zc (RowAt.of (f:=lkL) (m:=3) (fun _=>rfl) ho.ls)
 clear ho
 obtain⟨pr,mr,sv,⟨la,lc⟩⟩:=G
 unfold grD
 simp only at HR ⊢
 go_enter Tryz.func44,Tryz.ntmps44
 go_upto_region 1 with fail
 obtain⟨gx,D⟩: ∃gx,gx=w.heap.size:=⟨_,rfl⟩
 rw[←D]
 refine zx (R:=fun W=>Bk W gx #[.slice pr.a g.ps.length pr.cap,.slice mr.a g.ms.length mr.cap,.slice la g.ls.length lc] 32∧Below w.heap.size w W) ⟨by rw[D];exact heap_alloc_new w _,zaN w _⟩ ?_
 rintro W0 ⟨h,q⟩
 have I:=zc q
 obtain⟨O,Y,V,cf⟩:=zq h
 clear D h q
 go_wp2
 clear O Y V cf
 go_loopg [12] g.ls.length (fun k aa wr=>∃i:Nat,aa= .int .i64 i∧i+k=g.ls.length∧(∀(j:Nat) (x:Lk),j<i→g.ls[j]? =some x→zR x≠(f,s.toList))∧Below w.heap.size w wr)
 case atStart=>exact⟨0,rfl,by omega,(fun j x J=>absurd J (Nat.not_lt_zero j)),I.out⟩
 case round=>
  obtain⟨i,rfl,hi,ht,q⟩:=hrel
  have TO:=zc ht
  have z:=zc q
  clear ht q I
  by_cases Z:i<g.ls.length
  ·have K:(i:Int)<(g.ls.length:Int):=by omega
   obtain⟨l,A⟩: ∃l,g.ls[i]? =some l:=⟨_,List.getElem?_eq_getElem Z⟩
   obtain⟨b1,o1,e1,X⟩:=(HR.out.later z.out).get A
   subst e1
   have O:=X 0 _ rfl
   have Y:=X 1 _ rfl
   have V:=X 2 _ rfl
   simp only[Nat.add_zero] at O
   have HL:=zc A
   clear A X
   obtain⟨M,U⟩: ∃M,M=i+1:=⟨_,rfl⟩
   have ei:(i:Int)+1=(M:Int):=by omega
   have N:=zc U
   clear U
   go_upto_region 4 with fail
   obtain⟨gl,E⟩: ∃gl,gl=wr.heap.size:=⟨_,rfl⟩
   rw[←E]
   refine zx (R:=fun W=>Bk W gl #[.int .i64 l.frm,.string l.spec,.int .i64 l.to] 51∧Below w.heap.size w W) ⟨by rw[E];exact heap_alloc_new wr _,zar z.out (zaN wr _)⟩ ?_
   clear E z O Y V
   rintro w1 ⟨h,q⟩
   have z:=zc q
   obtain⟨O,Y,V,cf⟩:=zq h
   clear h q
   rcases zvv l f s with ⟨h1,h2,H⟩|⟨h1,h2,H⟩|⟨h1,H⟩
   ·have HV:=zc (zoC HL.out H TO.out)
    clear H
    go_wp2
    go_ret
    exact⟨by rw[HV.out];rfl,z.out⟩
   all_goals (
    have HK:Hid (∀(j:Nat) (x:Lk),j<M→g.ls[j]? =some x→zR x≠(f,s.toList)):=fun j x J h=>by
     by_cases e:j=i
     ·rw[e,HL.out] at h;cases h;exact H
     ·exact TO.out j x (by have:=N.out;omega) h
    clear H
    go_wp2
    go_roundg (gk-1)
    case rel=>exact⟨M,rfl,by have:=N.out;omega,HK.out,z.out⟩
    case measure=>omega)
  ·have K: ¬(i:Int)<(g.ls.length:Int):=by omega
   obtain rfl:i=g.ls.length:=by omega
   have HV:Hid (zbh g.ls (f,s.toList)= -1):=zoB fun l hl=>by
    obtain⟨j,J⟩:=List.mem_iff_getElem?.1 hl
    exact TO.out j l (List.getElem?_eq_some_iff.1 J).1 J
   go_wp2
   go_ret
   exact⟨by rw[HV.out];rfl,z.out⟩
def RqTo (g:Gr) (i j:Nat):Prop:=∀(f:Nat) (m:Md),g.ms[f]? =some m→∀(k:Nat) (s:ByteArray),m.rq[k]? =some s→f<i∨(f=i∧k<j)→0≤zbh g.ls ((f:Int),s.toList)∧zbh g.ls ((f:Int),s.toList)<(g.ms.length:Int)
theorem RqTo.next {g:Gr} {i j:Nat} {m:Md} {s:ByteArray} (h:RqTo g i j) (D:g.ms[i]? =some m) (z:m.rq[j]? =some s) (A:0≤zbh g.ls ((i:Int),s.toList)∧zbh g.ls ((i:Int),s.toList)<(g.ms.length:Int)):RqTo g i (j+1):=by
 intro f x q k t w E
 by_cases e:f=i∧k=j
 ·obtain⟨rfl,rfl⟩:=e
  rw[D] at q
  cases q
  rw[z] at w
  cases w
  exact A
 ·exact h f x q k t w (by omega)
theorem RqTo.row {g:Gr} {i:Nat} {m:Md} (h:RqTo g i m.rq.length) (z:g.ms[i]? =some m):RqTo g (i+1) 0:=by
 intro f x w k t q A
 by_cases e:f=i
 ·rw[e,z] at w
  cases w
  exact h f m (by rw[e];exact z) k t q (.inr ⟨e,(List.getElem?_eq_some_iff.1 q).1⟩)
 ·exact h f x w k t q (.inl (by omega))
theorem zmu {g:Gr} {i j:Nat} {m:Md} {s:ByteArray} (w:g.ms[i]? =some m) (q:m.rq[j]? =some s) (h: ¬(0≤zbh g.ls ((i:Int),s.toList)∧zbh g.ls ((i:Int),s.toList)<(g.ms.length:Int))): ¬zbI (zC g) g.ls:=fun k=>h (by
 have:=k.2 i m.rq (by rw[zC,List.getElem?_map,w];rfl) s (List.mem_of_getElem? q)
 rw[zcp] at this
 exact this)
theorem zvw {g:Gr} (A:g.ls.length=zao (zC g)) (h:RqTo g g.ms.length 0):zbI (zC g) g.ls:=by
 refine⟨A,fun f E q s z=>?_⟩
 rw[zcp]
 rw[zC,List.getElem?_map] at q
 cases w:g.ms[f]? with
 |none=>rw[w] at q;cases q
 |some m=>
  rw[w] at q
  cases q
  obtain⟨k,D⟩:=List.mem_iff_getElem?.1 z
  exact h f m w k s D (.inl (List.getElem?_eq_some_iff.1 w).1)
theorem zmv (aa:Nat) (G:GS) (g:Gr) (w:World) (ho:GrOwn w aa G g) (hg:GdG g):
  Calls Tryz.prog 23 #[grD G g] w fun e w'=>SameOut (zbI (zC g) g.ls) e∧Below w.heap.size w w':=by
 have HO:=zc ho
 have HG:=zc hg
 have aA:=hg.ml
 have av:=hg.ll
 clear ho hg
 have an:Hid (∀k,zao ((zC g).take k)≤1048576):=fun k=>Nat.le_trans (zhE _ _) HG.out.rq
 obtain⟨M,⟨ma,mc⟩,sv,O⟩:=G
 have HZ:=zc (RowAt.of (f:=mdL) (m:=5) (fun _=>rfl) (zeK HO.out.len HO.out.ms))
 unfold grD
 simp only at HZ ⊢
 go_enter Tryz.func23,Tryz.ntmps23
 go_upto_region 1 with fail
 obtain⟨gx,ad⟩: ∃gx,gx=w.heap.size:=⟨_,rfl⟩
 rw[←ad]
 refine zx (R:=fun W=>Bk W gx #[.slice M.a g.ps.length M.cap,.slice ma g.ms.length mc,.slice O.a g.ls.length O.cap] 32∧Below w.heap.size w W) ⟨by rw[ad];exact heap_alloc_new w _,zaN w _⟩ ?_
 clear ad
 rintro W0 ⟨A,h⟩
 have X0:=zc A
 have af:=zc h
 obtain⟨D,J,H,Z⟩:=zq A
 clear A h
 go_wp2
 clear D J H Z
 go_loopg [3,14] g.ms.length (fun k s3 ar wr=>∃i:Nat,ar= .int .i64 i∧s3= .int .i64 (zao ((zC g).take i):Nat)∧i+k=g.ms.length∧Bk wr gx #[.slice M.a g.ps.length M.cap,.slice ma g.ms.length mc,.slice O.a g.ls.length O.cap] 32∧Below w.heap.size w wr)
 case atStart=>exact⟨0,rfl,rfl,by omega,X0.out,af.out⟩
 case round=>
  obtain⟨i,rfl,rfl,hi,A,h⟩:=hrel
  have X:=zc A
  have q:=zc h
  clear A h X0 af
  have aB:=an.out i
  by_cases ae:i<g.ms.length
  ·have Y:(i:Int)<(g.ms.length:Int):=by omega
   obtain⟨m,hm⟩: ∃m,g.ms[i]? =some m:=⟨_,List.getElem?_eq_getElem ae⟩
   obtain⟨S,hS⟩:=zdH HO.out.len hm
   obtain⟨b1,o1,e1,K⟩:=(HZ.out.later q.out).get hS
   subst e1
   have D:=K 0 _ rfl
   have J:=K 1 _ rfl
   have H:=K 2 _ rfl
   have c3:=K 3 _ rfl
   have c4:=K 4 _ rfl
   simp only[Nat.add_zero] at D
   obtain⟨L,N⟩: ∃L,L=i+1:=⟨_,rfl⟩
   have ei:(i:Int)+1=(L:Int):=by omega
   have V:=zc N
   have aC:(zao ((zC g).take i):Int)+(m.rq.length:Int)=(zao ((zC g).take L):Nat):=by rw[N,zhD (rq:=m.rq) (by rw[zC,List.getElem?_map,hm];rfl)];omega
   have ay:=an.out L
   clear N hm hS K
   go_upto_region 5 with fail
   obtain⟨gl,E⟩: ∃gl,gl=wr.heap.size:=⟨_,rfl⟩
   rw[←E]
   refine zx (R:=fun W=>Bk W gl (mdL (S,m)).toArray 48∧Bk W gx #[.slice M.a g.ps.length M.cap,.slice (some ⟨b1,o1,none⟩) g.ms.length mc,.slice O.a g.ls.length O.cap] 32∧Below w.heap.size w W) ⟨by rw[E];exact heap_alloc_new wr _,X.out.later (zaN wr _),zar q.out (zaN wr _)⟩ ?_
   clear E q X D J H c3 c4
   rintro w1 ⟨hy,A,h⟩
   have q:=zc h
   have X:=zc A
   obtain⟨D,J,H,c3,c4,Z⟩:=zk hy
   clear A h hy
   go_wp2
   go_roundg (gk-1)
   case rel=>exact⟨L,rfl,rfl,by have:=V.out;omega,X.out,q.out⟩
   case measure=>omega
  ·have Y: ¬(i:Int)<(g.ms.length:Int):=by omega
   obtain rfl:i=g.ms.length:=by omega
   have HT:Hid (zao ((zC g).take g.ms.length)=zao (zC g)):=by show _=_;rw[List.take_of_length_le (by rw[zcp];exact Nat.le_refl _)]
   obtain⟨D,J,H,Z⟩:=zq X.out
   by_cases I:g.ls.length=zao ((zC g).take g.ms.length)
   case neg=>
    have HN:Hid (¬zbI (zC g) g.ls):=fun k=>I (k.1.trans HT.out.symm)
    have ao: ¬(g.ls.length:Int)=((zao ((zC g).take g.ms.length):Nat):Int):=by omega
    clear I
    go_wp2
    go_ret
    exact⟨zbt HN.out rfl,q.out⟩
   have ao:(g.ls.length:Int)=((zao ((zC g).take g.ms.length):Nat):Int):=by omega
   have aw:=zc (I.trans HT.out)
   clear I
   go_wp2
   clear D J H Z ao
   have X1:=zc X.out
   have U:=zc q.out
   clear X q
   go_loopg [32] g.ms.length (fun k ap wr=>∃i:Nat,ap= .int .i64 i∧i+k=g.ms.length∧RqTo g i 0∧Bk wr gx #[.slice M.a g.ps.length M.cap,.slice ma g.ms.length mc,.slice O.a g.ls.length O.cap] 32∧Below w.heap.size w wr)
   case atStart=>exact⟨0,rfl,by omega,(fun f m _ k s _ hf=>by omega),X1.out,U.out⟩
   case round=>
    obtain⟨i,rfl,hi,ht,A,h⟩:=hrel
    have X:=zc A
    have q:=zc h
    have TO:=zc ht
    clear A h ht X1 U
    by_cases ae:i<g.ms.length
    ·have Y:(i:Int)<(g.ms.length:Int):=by omega
     obtain⟨m,hm⟩: ∃m,g.ms[i]? =some m:=⟨_,List.getElem?_eq_getElem ae⟩
     obtain⟨S,hS⟩:=zdH HO.out.len hm
     obtain⟨b1,o1,e1,K⟩:=(HZ.out.later q.out).get hS
     subst e1
     have D:=K 0 _ rfl
     have J:=K 1 _ rfl
     have H:=K 2 _ rfl
     have c3:=K 3 _ rfl
     have c4:=K 4 _ rfl
     simp only[Nat.add_zero] at D
     have RS:=zc (RowS.of (HO.out.md _ (List.mem_of_getElem? hS)).rq)
     have HM:=zc hm
     have ax:m.rq.length≤1048576:=by
      have:=(HG.out.ms m (List.mem_of_getElem? hm)).1
      unfold zb4 at this
      omega
     obtain⟨L,N⟩: ∃L,L=i+1:=⟨_,rfl⟩
     have ei:(i:Int)+1=(L:Int):=by omega
     have V:=zc N
     clear N hm hS K
     obtain⟨⟨ra,rc⟩,am,ak,ai,ag,az⟩:=S
     simp only at D J H c3 c4 RS
     go_upto_region 12 with fail
     obtain⟨gl,E⟩: ∃gl,gl=wr.heap.size:=⟨_,rfl⟩
     rw[←E]
     refine zx (R:=fun W=>Bk W gl #[.slice ra m.rq.length rc,.slice am.a m.im.length am.cap,.slice ak.a m.ep.length ak.cap,.slice ai.a m.st.length ai.cap,.slice ag.a m.ex.length ag.cap] 48∧Bk W gx #[.slice M.a g.ps.length M.cap,.slice (some ⟨b1,o1,none⟩) g.ms.length mc,.slice O.a g.ls.length O.cap] 32∧Below w.heap.size w W) ⟨by rw[E];exact heap_alloc_new wr _,X.out.later (zaN wr _),zar q.out (zaN wr _)⟩ ?_
     clear E q X D J H c3 c4
     rintro w1 ⟨hy,A,h⟩
     have U:=zc h
     have X1:=zc A
     obtain⟨D,J,H,c3,c4,Z⟩:=zk hy
     clear A h hy
     go_wp2
     clear D J H c3 c4 Z
     go_loopg [40] m.rq.length (fun k aq wr=>∃j:Nat,aq= .int .i64 j∧j+k=m.rq.length∧RqTo g i j∧Bk wr gx #[.slice M.a g.ps.length M.cap,.slice (some ⟨b1,o1,none⟩) g.ms.length mc,.slice O.a g.ls.length O.cap] 32∧Below w.heap.size w wr)
     case atStart=>exact⟨0,rfl,by omega,TO.out,X1.out,U.out⟩
     case round=>
      obtain⟨j,rfl,hj,ht,A,h⟩:=hrel
      have X:=zc A
      have q:=zc h
      have TJ:=zc ht
      clear A h ht X1 U
      by_cases au:j<m.rq.length
      ·have ah:(j:Int)<(m.rq.length:Int):=by omega
       obtain⟨s,hs⟩: ∃s,m.rq[j]? =some s:=⟨_,List.getElem?_eq_getElem au⟩
       obtain⟨b2,o2,e2,k2⟩:=(RS.out.later q.out).get hs
       subst e2
       have z0:=k2 0 _ rfl
       simp only[Nat.add_zero,Nat.mul_one] at z0
       have HS:=zc hs
       obtain⟨D,J,H,Z⟩:=zq X.out
       obtain⟨j1,aj⟩: ∃j1,j1=j+1:=⟨_,rfl⟩
       have ej:(j:Int)+1=(j1:Int):=by omega
       have al:=zc aj
       clear aj hs k2
       go_wp2_with fail
       refine (zmt aa ⟨M,⟨some ⟨b1,o1,none⟩,mc⟩,sv,O⟩ g i s _ (HO.out.later q.out) av).mono ?_
       rintro e w2 ⟨rfl,h⟩
       obtain⟨z,hz⟩: ∃z,z=zbh g.ls ((i:Int),s.toList):=⟨_,rfl⟩
       rw[←hz]
       have ab:=zc hz
       have X2:=zc (X.out.later h)
       have ac:=zc (zar q.out h)
       clear hz h z0 D J H Z X q
       obtain⟨D,J,H,Z⟩:=zq X2.out
       by_cases h1:z<0
       ·have HN:Hid (¬zbI (zC g) g.ls):=zmu HM.out HS.out fun k=>by rw[←ab.out] at k;omega
        go_wp2
        go_ret
        exact⟨zbt HN.out rfl,ac.out⟩
       ·by_cases h2:z<(g.ms.length:Int)
        ·have HK:Hid (RqTo g i j1):=by
          rw[al.out]
          exact TJ.out.next HM.out HS.out (by rw[←ab.out];omega)
         go_wp2
         go_roundg (gk-1)
         case rel=>exact⟨j1,rfl,by have:=al.out;omega,HK.out,X2.out,ac.out⟩
         case measure=>omega
        ·have HN:Hid (¬zbI (zC g) g.ls):=zmu HM.out HS.out fun k=>by rw[←ab.out] at k;omega
         go_wp2
         go_ret
         exact⟨zbt HN.out rfl,ac.out⟩
      ·have ah: ¬(j:Int)<(m.rq.length:Int):=by omega
       obtain rfl:j=m.rq.length:=by omega
       have HK:Hid (RqTo g L 0):=by rw[V.out];exact TJ.out.row HM.out
       go_wp2
       go_roundg (g.ms.length-L)
       case rel=>exact⟨L,rfl,by have:=V.out;omega,HK.out,X.out,q.out⟩
       case measure=>have:=V.out;omega
    ·have Y: ¬(i:Int)<(g.ms.length:Int):=by omega
     obtain rfl:i=g.ms.length:=by omega
     go_wp2
     go_ret
     exact⟨zhF (zvw aw.out TO.out) rfl,q.out⟩
end Go.Proofs.YtcidlffeeninbaaGreat
