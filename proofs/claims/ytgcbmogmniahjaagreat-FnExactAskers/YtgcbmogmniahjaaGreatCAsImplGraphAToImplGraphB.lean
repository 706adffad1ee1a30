/-
  What impl's arePathsOk,areModsOk,askedBy and areLinksOk answer: the walks.
  What impl's askedBy and areLinksOk answer: the walks.
-/
import Derived.Test.YtgcbmogmniahjaaGreatCAsImplPartsToImplClean
import Derived.Test.YtgcbmogmniahjaaGreatCAsSpecTwiceToSpecEarlyA
namespace Go.Proofs.YtgcbmogmniahjaaGreat
set_option maxRecDepth 100000
set_option maxHeartbeats 12800000
open Go.RowKit Go.PlainAid Go.Sort
theorem OwnR.take {w:World} {base n i:Nat} {e:TypeId} {r:Rw} {xs:List Value} (h:OwnR w base e 1 r n xs) (M:i≤n):OwnR w base e 1 r i (xs.take i):=by
 have K:=h.1
 refine⟨by rw[List.length_take];omega,?_⟩
 rcases h.2 with ⟨q,N⟩|⟨g,A,z,q,I,E,L,H,J,D⟩
 ·left
  simp only[Value.slice.injEq] at q
  obtain rfl:i=0:=by omega
  exact⟨by rw[q.1,q.2.2],rfl⟩
 ·right
  simp only[Value.slice.injEq] at q
  refine⟨g,A,z,by rw[q.1,q.2.2],I,E,by omega,H,J,?_⟩
  rw[←D,List.take_take,Nat.min_eq_left (by omega),Nat.mul_one]
theorem RowS.own {w:World} {base:Nat} {r:Rw} {l:List ByteArray} (h:OwnR w base 9 1 r l.length (l.flatMap fun x=>[Value.string x])):OwnR w base 9 1 r l.length (l.map .string):=by rw[zkK];exact h
theorem OwnR.first {w:World} {base i:Nat} {r:Rw} {l:List ByteArray} (h:OwnR w base 9 1 r l.length (l.flatMap fun x=>[Value.string x])) (q:i≤l.length):OwnR w base 9 1 r (l.take i).length ((l.take i).map .string):=by
 have:=(RowS.own h).take q
 rw[←List.map_take] at this
 rw[List.length_take,Nat.min_eq_left q]
 exact this
theorem zwK {h:List ByteArray} {i:Nat} {p:ByteArray} {P:Prop} (q:h.getD i sNone=p) (E: ∀j,j<i→zch h j) (w: ¬zch h i→¬P):
  (zaW p=false∧¬P)∨(zaW p=true∧((((zaL p).toList==p.toList)=false∧¬P)∨(((zaL p).toList==p.toList)=true∧((zaU (h.take i) p=true∧¬P)∨(zaU (h.take i) p=false∧∀j,j<i+1→zch h j))))):=by
 cases A:zaW p with
 |false=>exact .inl ⟨rfl,w fun k=>by rw[zch,q,A] at k;exact absurd k.1 (by decide)⟩
 |true=>
  refine .inr ⟨rfl,?_⟩
  cases z:((zaL p).toList==p.toList) with
  |false=>exact .inl ⟨rfl,w fun k=>by rw[zch,q,z] at k;exact absurd k.2.1 (by decide)⟩
  |true=>
   refine .inr ⟨rfl,?_⟩
   cases D:zaU (h.take i) p with
   |true=>exact .inl ⟨rfl,w fun k=>by rw[zch,q] at k;exact absurd (D.symm.trans k.2.2) (by decide)⟩
   |false=>
    refine .inr ⟨rfl,fun j H=>?_⟩
    by_cases e:j=i
    ·rw[e,zch,q];exact⟨A,z,D⟩
    ·exact E j (by omega)
theorem znl (base:Nat) (a:Option Addr) (D:Nat) (q:List ByteArray) (w:World) (h:OwnR w base 9 1 ⟨a,D⟩ q.length (q.flatMap fun x=>[Value.string x])) (hl:q.length≤1000000) (hs: ∀p∈q,p.size≤1048576):
  Calls Tryz.prog 34 #[.slice a q.length D] w fun e w'=>SameOut (∀i,i<q.length→zch q i) e∧Below w.heap.size w w':=by
 have HO:=zc h
 have HS:=zc hs
 have M:=OwnR.cap h
 simp only at M
 clear h hs
 go_enter Tryz.func34,Tryz.ntmps34
 go_wp2
 go_loopg [7] q.length (fun k s7 wr=>∃i:Nat,s7= .int .i64 i∧i+k=q.length∧(∀j,j<i→zch q j)∧Below w.heap.size w wr)
 case atStart=>exact⟨0,rfl,by omega,(fun j hj=>absurd hj (Nat.not_lt_zero j)),Below.refl _ _⟩
 case round=>
  obtain⟨i,rfl,hi,ht,I⟩:=hrel
  have TO:=zc ht
  have L:=zc I
  clear ht I
  by_cases K:i<q.length
  ·have U:(i:Int)<(q.length:Int):=by omega
   have ac:(i:Int)≤(D:Int):=by omega
   obtain⟨p,V⟩: ∃p,q[i]? =some p:=⟨_,List.getElem?_eq_getElem K⟩
   have Y:=zc (HO.out.later L.out)
   obtain⟨b1,o1,e1,k1⟩:=(RowAt.of (f:=fun x=>[Value.string x]) (m:=1) (fun _=>rfl) Y.out).get V
   simp only at e1
   subst e1
   have c0:=k1 0 _ rfl
   simp only[Nat.add_zero,Nat.mul_one] at c0
   have ab:=HS.out p (List.mem_of_getElem? V)
   have PD:Hid (q.getD i sNone=p):=by show _=_;rw[List.getD,V];rfl
   have N:p.size≤9223372036854775807:=by omega
   have Z:(q.take i).length=i:=by rw[List.length_take];omega
   clear V k1
   obtain⟨X,J⟩: ∃X,X=i+1:=⟨_,rfl⟩
   have ei:(i:Int)+1=(X:Int):=by omega
   have O:=zc J
   clear J
   have z:=zwK PD.out TO.out (P:=∀i,i<q.length→zch q i) (fun k h=>k (h i K))
   go_wp2_with fail
   refine (zje p _ N).mono ?_
   rintro e w1 ⟨rfl,rfl⟩
   rcases z with ⟨h1,A⟩|⟨h1,z⟩
   ·have H:=zc A
    clear A
    rw[h1]
    go_wp2
    go_ret
    exact⟨zbz H.out rfl,L.out⟩
   rw[h1]
   go_wp2_with fail
   refine (zwJ p _ N).mono ?_
   rintro e w2 ⟨rfl,I⟩
   have aa:=zc (Y.out.later I)
   have E:=zc (zZ L.out I)
   clear I Y L c0
   rcases z with ⟨h2,A⟩|⟨h2,z⟩
   ·have H:=zc A
    clear A
    go_wp2
    go_ret
    exact⟨zbz H.out rfl,E.out⟩
   have cI:=zg1 base ⟨some ⟨b1,o1,none⟩,D⟩ (q.take i) p w2 (aa.out.first (by omega)) (by omega)
   rw[Z] at cI
   have CI:=zc cI
   clear cI
   go_wp2_with fail
   refine CI.out.mono ?_
   rintro e w3 ⟨rfl,rfl⟩
   rcases z with ⟨h3,A⟩|⟨h3,A⟩
   ·have H:=zc A
    clear A
    rw[h3]
    go_wp2
    go_ret
    exact⟨zbz H.out rfl,E.out⟩
   ·have H:=zc A
    clear A
    rw[h3]
    go_wp2
    go_roundg (gk-1)
    case rel=>exact⟨X,rfl,by have:=O.out;omega,by rw[O.out];exact H.out,E.out⟩
    case measure=>omega
  ·have U: ¬(i:Int)<(q.length:Int):=by omega
   obtain rfl:i=q.length:=by omega
   go_wp2
   go_ret
   exact⟨zil TO.out rfl,L.out⟩
theorem zwL {h:List Md} {i:Nat} {m:Md} (z:h[i]? =some m) (D: ∀(j:Nat) (x:Md),j<i→h[j]? =some x→MOk x∧zat x=0):
  (¬MOk m∧¬zda h)∨(MOk m∧((¬zat m=0∧¬zda h)∨(zat m=0∧∀(j:Nat) (x:Md),j<i+1→h[j]? =some x→MOk x∧zat x=0))):=by
 by_cases w:MOk m
 ·refine .inr ⟨w,?_⟩
  by_cases q:zat m=0
  ·refine .inr ⟨q,fun j x E A=>?_⟩
   by_cases e:j=i
   ·rw[e,z] at A;cases A;exact⟨w,q⟩
   ·exact D j x (by omega) A
  ·exact .inl ⟨q,fun k=>q (k m (List.mem_of_getElem? z)).2⟩
 ·exact .inl ⟨w,fun k=>w (k m (List.mem_of_getElem? z)).1⟩
theorem znm (H:zfR 65) (D:zfS 66) (base:Nat) (a:Option Addr) (ab:Nat) (U:List Sv) (q:List Md) (w:World) (hu:U.length=q.length) (h:OwnR w base 54 5 ⟨a,ab⟩ q.length ((U.zip q).flatMap mdL)) (ad: ∀x∈U.zip q,OwnMd w base x.1 x.2) (hg: ∀m∈q,GdM m) (hl:q.length≤1000000):
  Calls Tryz.prog 35 #[.slice a q.length ab] w fun e w'=>SameOut (zda q) e∧Below w.heap.size w w':=by
 have HO:=zc (RowAt.of (f:=mdL) (m:=5) (fun _=>rfl) (zfa hu h))
 have HM:=zc ad
 have HG:=zc hg
 have HU:=zc hu
 have CM:=zc H
 have CE:=zc D
 clear h ad hg hu H D
 go_enter Tryz.func35,Tryz.ntmps35
 go_wp2
 go_loopg [7] q.length (fun k s7 wr=>∃i:Nat,s7= .int .i64 i∧i+k=q.length∧(∀(j:Nat) (x:Md),j<i→q[j]? =some x→MOk x∧zat x=0)∧Below w.heap.size w wr)
 case atStart=>exact⟨0,rfl,by omega,(fun j x hj=>absurd hj (Nat.not_lt_zero j)),Below.refl _ _⟩
 case round=>
  obtain⟨i,rfl,hi,ht,z⟩:=hrel
  have TO:=zc ht
  have E:=zc z
  clear ht z
  by_cases af:i<q.length
  ·have ae:(i:Int)<(q.length:Int):=by omega
   obtain⟨m,O⟩: ∃m,q[i]? =some m:=⟨_,List.getElem?_eq_getElem af⟩
   obtain⟨S,hS⟩:=zec HU.out O
   obtain⟨b1,o1,e1,M⟩:=(HO.out.later E.out).get hS
   subst e1
   have V:=M 0 _ rfl
   have c1:=M 1 _ rfl
   have c2:=M 2 _ rfl
   have c3:=M 3 _ rfl
   have c4:=M 4 _ rfl
   simp only[Nat.add_zero] at V
   have N:=zc ((HM.out _ (List.mem_of_getElem? hS)).later E.out)
   have GM:=zc (HG.out m (List.mem_of_getElem? O))
   have J:=zwL O TO.out
   clear O hS M
   obtain⟨i1,Y⟩: ∃i1,i1=i+1:=⟨_,rfl⟩
   have ei:(i:Int)+1=(i1:Int):=by omega
   have ac:=zc Y
   clear Y
   go_upto_region 4 with fail
   obtain⟨gl,L⟩: ∃gl,gl=wr.heap.size:=⟨_,rfl⟩
   rw[←L]
   refine zu (R:=fun W=>Bk W gl (mdL (S,m)).toArray 54∧OwnMd W base S m∧Below w.heap.size w W) ⟨by rw[L];exact heap_alloc_new wr _,N.out.later (zak wr _),zZ E.out (zak wr _)⟩ ?_
   clear L E N V c1 c2 c3 c4
   rintro w1 ⟨A,ho,z⟩
   have X:=zc A
   have N:=zc ho
   have E:=zc z
   clear A ho z
   obtain⟨V,c1,c2,c3,c4,cf⟩:=zj X.out
   go_wp2_with fail
   refine (CM.out base S m _ N.out GM.out).mono ?_
   rintro e w2 ⟨I,z⟩
   have X2:=zc (X.out.later z)
   have Z:=zc (N.out.later z)
   have K:=zc (zZ E.out z)
   clear z X N E V c1 c2 c3 c4 cf
   rcases J with ⟨h1,A⟩|⟨h1,J⟩
   ·have HX:=zc A
    clear A
    obtain rfl:=I.of (b:=false) (by simp[h1])
    go_wp2
    go_ret
    exact⟨zbz HX.out rfl,K.out⟩
   obtain rfl:=I.of (b:=true) (by simp[h1])
   clear I
   obtain⟨V,c1,c2,c3,c4,cf⟩:=zj X2.out
   go_wp2_with fail
   refine (CE.out base S m _ Z.out GM.out h1).mono ?_
   rintro e w3 ⟨rfl,z⟩
   have aa:=zc (zZ K.out z)
   clear z Z K X2 V c1 c2 c3 c4 cf h1
   rcases J with ⟨h2,A⟩|⟨h2,A⟩
   ·have HX:=zc A
    clear A
    go_wp2
    go_ret
    exact⟨zbz HX.out rfl,aa.out⟩
   ·have HX:=zc A
    clear A
    go_wp2
    go_roundg (gk-1)
    case rel=>exact⟨i1,rfl,by have:=ac.out;omega,by rw[ac.out];exact HX.out,aa.out⟩
    case measure=>omega
  ·have ae: ¬(i:Int)<(q.length:Int):=by omega
   obtain rfl:i=q.length:=by omega
   have HY:Hid (zda q):=fun m O=>by
    obtain⟨j,hj⟩:=List.mem_iff_getElem?.1 O
    exact TO.out j m (List.getElem?_eq_some_iff.1 hj).1 hj
   go_wp2
   go_ret
   exact⟨zil HY.out rfl,E.out⟩
theorem zwM (x:Lk) (f:Int) (s:ByteArray):(x.frm=f∧(x.spec.toList==s.toList)=true∧zU x=(f,s.toList))∨(x.frm=f∧(x.spec.toList==s.toList)=false∧zU x≠(f,s.toList))∨(¬x.frm=f∧zU x≠(f,s.toList)):=by
 by_cases h:x.frm=f
 ·cases q:(x.spec.toList==s.toList) with
  |true=>exact .inl ⟨h,rfl,by unfold zU;rw[h,eq_of_beq q]⟩
  |false=>exact .inr (.inl ⟨h,rfl,fun e=>by rw[(Prod.mk.inj e).2] at q;simp at q⟩)
 ·exact .inr (.inr ⟨h,fun e=>h (Prod.mk.inj e).1⟩)
theorem znn (base:Nat) (G:GS) (g:Gr) (f:Int) (s:ByteArray) (w:World) (ho:GrOwn w base G g) (hl:g.ls.length≤1048576):
  Calls Tryz.prog 67 #[grD G g,.int .i64 f,.string s] w fun e w'=>e= .returned (.int .i64 (zbn g.ls (f,s.toList)))∧Below w.heap.size w w':=by
 have HR:=zc (RowAt.of (f:=lkL) (m:=3) (fun _=>rfl) ho.ls)
 clear ho
 obtain⟨pr,mr,sv,⟨la,lc⟩⟩:=G
 unfold grD
 simp only at HR ⊢
 go_enter Tryz.func67,Tryz.ntmps67
 go_upto_region 1 with fail
 obtain⟨gx,D⟩: ∃gx,gx=w.heap.size:=⟨_,rfl⟩
 rw[←D]
 refine zu (R:=fun W=>Bk W gx #[.slice pr.a g.ps.length pr.cap,.slice mr.a g.ms.length mr.cap,.slice la g.ls.length lc] 32∧Below w.heap.size w W) ⟨by rw[D];exact heap_alloc_new w _,zak w _⟩ ?_
 rintro W0 ⟨h,q⟩
 have J:=zc q
 obtain⟨O,V,X,cf⟩:=zn h
 clear D h q
 go_wp2
 clear O V X cf
 go_loopg [12] g.ls.length (fun k aa wr=>∃i:Nat,aa= .int .i64 i∧i+k=g.ls.length∧(∀(j:Nat) (x:Lk),j<i→g.ls[j]? =some x→zU x≠(f,s.toList))∧Below w.heap.size w wr)
 case atStart=>exact⟨0,rfl,by omega,(fun j x M=>absurd M (Nat.not_lt_zero j)),J.out⟩
 case round=>
  obtain⟨i,rfl,hi,ht,q⟩:=hrel
  have TO:=zc ht
  have z:=zc q
  clear ht q J
  by_cases Z:i<g.ls.length
  ·have N:(i:Int)<(g.ls.length:Int):=by omega
   obtain⟨l,A⟩: ∃l,g.ls[i]? =some l:=⟨_,List.getElem?_eq_getElem Z⟩
   obtain⟨b1,o1,e1,U⟩:=(HR.out.later z.out).get A
   subst e1
   have O:=U 0 _ rfl
   have V:=U 1 _ rfl
   have X:=U 2 _ rfl
   simp only[Nat.add_zero] at O
   have HL:=zc A
   clear A U
   obtain⟨L,I⟩: ∃L,L=i+1:=⟨_,rfl⟩
   have ei:(i:Int)+1=(L:Int):=by omega
   have K:=zc I
   clear I
   go_upto_region 4 with fail
   obtain⟨Y,E⟩: ∃Y,Y=wr.heap.size:=⟨_,rfl⟩
   rw[←E]
   refine zu (R:=fun W=>Bk W Y #[.int .i64 l.frm,.string l.spec,.int .i64 l.to] 57∧Below w.heap.size w W) ⟨by rw[E];exact heap_alloc_new wr _,zZ z.out (zak wr _)⟩ ?_
   clear E z O V X
   rintro w1 ⟨h,q⟩
   have z:=zc q
   obtain⟨O,V,X,cf⟩:=zn h
   clear h q
   rcases zwM l f s with ⟨h1,h2,H⟩|⟨h1,h2,H⟩|⟨h1,H⟩
   ·have HV:=zc (zpO HL.out H TO.out)
    clear H
    go_wp2
    go_ret
    exact⟨by rw[HV.out];rfl,z.out⟩
   all_goals (
    have HK:Hid (∀(j:Nat) (x:Lk),j<L→g.ls[j]? =some x→zU x≠(f,s.toList)):=fun j x M h=>by
     by_cases e:j=i
     ·rw[e,HL.out] at h;cases h;exact H
     ·exact TO.out j x (by have:=K.out;omega) h
    clear H
    go_wp2
    go_roundg (gk-1)
    case rel=>exact⟨L,rfl,by have:=K.out;omega,HK.out,z.out⟩
    case measure=>omega)
  ·have N: ¬(i:Int)<(g.ls.length:Int):=by omega
   obtain rfl:i=g.ls.length:=by omega
   have HV:Hid (zbn g.ls (f,s.toList)= -1):=zpN fun l hl=>by
    obtain⟨j,M⟩:=List.mem_iff_getElem?.1 hl
    exact TO.out j l (List.getElem?_eq_some_iff.1 M).1 M
   go_wp2
   go_ret
   exact⟨by rw[HV.out];rfl,z.out⟩
def RqTo (g:Gr) (i j:Nat):Prop:=∀(f:Nat) (m:Md),g.ms[f]? =some m→∀(k:Nat) (s:ByteArray),m.rq[k]? =some s→f<i∨(f=i∧k<j)→0≤zbn g.ls ((f:Int),s.toList)∧zbn g.ls ((f:Int),s.toList)<(g.ms.length:Int)
theorem RqTo.next {g:Gr} {i j:Nat} {m:Md} {s:ByteArray} (h:RqTo g i j) (z:g.ms[i]? =some m) (D:m.rq[j]? =some s) (A:0≤zbn g.ls ((i:Int),s.toList)∧zbn g.ls ((i:Int),s.toList)<(g.ms.length:Int)):RqTo g i (j+1):=by
 intro f x w k t q E
 by_cases e:f=i∧k=j
 ·obtain⟨rfl,rfl⟩:=e
  rw[z] at w
  cases w
  rw[D] at q
  cases q
  exact A
 ·exact h f x w k t q (by omega)
theorem RqTo.row {g:Gr} {i:Nat} {m:Md} (h:RqTo g i m.rq.length) (z:g.ms[i]? =some m):RqTo g (i+1) 0:=by
 intro f x w k t q A
 by_cases e:f=i
 ·rw[e,z] at w
  cases w
  exact h f m (by rw[e];exact z) k t q (.inr ⟨e,(List.getElem?_eq_some_iff.1 q).1⟩)
 ·exact h f x w k t q (.inl (by omega))
theorem zno {g:Gr} {i j:Nat} {m:Md} {s:ByteArray} (w:g.ms[i]? =some m) (q:m.rq[j]? =some s) (h: ¬(0≤zbn g.ls ((i:Int),s.toList)∧zbn g.ls ((i:Int),s.toList)<(g.ms.length:Int))): ¬zbV (zE g) g.ls:=fun k=>h (by
 have:=k.2 i m.rq (by rw[zE,List.getElem?_map,w];rfl) s (List.mem_of_getElem? q)
 rw[zco] at this
 exact this)
theorem zwN {g:Gr} (A:g.ls.length=zas (zE g)) (h:RqTo g g.ms.length 0):zbV (zE g) g.ls:=by
 refine⟨A,fun f E q s D=>?_⟩
 rw[zco]
 rw[zE,List.getElem?_map] at q
 cases w:g.ms[f]? with
 |none=>rw[w] at q;cases q
 |some m=>
  rw[w] at q
  cases q
  obtain⟨k,z⟩:=List.mem_iff_getElem?.1 D
  exact h f m w k s z (.inl (List.getElem?_eq_some_iff.1 w).1)
theorem znp (base:Nat) (G:GS) (g:Gr) (w:World) (ho:GrOwn w base G g) (hg:GdG g):
  Calls Tryz.prog 36 #[grD G g] w fun e w'=>SameOut (zbV (zE g) g.ls) e∧Below w.heap.size w w':=by
 have HO:=zc ho
 have HG:=zc hg
 have az:=hg.ml
 have av:=hg.ll
 clear ho hg
 have ae:Hid (∀k,zas ((zE g).take k)≤1048576):=fun k=>Nat.le_trans (zik _ _) HG.out.rq
 obtain⟨M,⟨ma,mc⟩,sv,L⟩:=G
 have HZ:=zc (RowAt.of (f:=mdL) (m:=5) (fun _=>rfl) (zfa HO.out.len HO.out.ms))
 unfold grD
 simp only at HZ ⊢
 go_enter Tryz.func36,Tryz.ntmps36
 go_upto_region 1 with fail
 obtain⟨gx,aa⟩: ∃gx,gx=w.heap.size:=⟨_,rfl⟩
 rw[←aa]
 refine zu (R:=fun W=>Bk W gx #[.slice M.a g.ps.length M.cap,.slice ma g.ms.length mc,.slice L.a g.ls.length L.cap] 32∧Below w.heap.size w W) ⟨by rw[aa];exact heap_alloc_new w _,zak w _⟩ ?_
 clear aa
 rintro W0 ⟨A,h⟩
 have X0:=zc A
 have ai:=zc h
 obtain⟨D,I,H,Z⟩:=zn A
 clear A h
 go_wp2
 clear D I H Z
 go_loopg [3,14] g.ms.length (fun k s3 au wr=>∃i:Nat,au= .int .i64 i∧s3= .int .i64 (zas ((zE g).take i):Nat)∧i+k=g.ms.length∧Bk wr gx #[.slice M.a g.ps.length M.cap,.slice ma g.ms.length mc,.slice L.a g.ls.length L.cap] 32∧Below w.heap.size w wr)
 case atStart=>exact⟨0,rfl,rfl,by omega,X0.out,ai.out⟩
 case round=>
  obtain⟨i,rfl,rfl,hi,A,h⟩:=hrel
  have X:=zc A
  have q:=zc h
  clear A h X0 ai
  have aw:=ae.out i
  by_cases ab:i<g.ms.length
  ·have V:(i:Int)<(g.ms.length:Int):=by omega
   obtain⟨m,hm⟩: ∃m,g.ms[i]? =some m:=⟨_,List.getElem?_eq_getElem ab⟩
   obtain⟨S,hS⟩:=zec HO.out.len hm
   obtain⟨b1,o1,e1,O⟩:=(HZ.out.later q.out).get hS
   subst e1
   have D:=O 0 _ rfl
   have I:=O 1 _ rfl
   have H:=O 2 _ rfl
   have c3:=O 3 _ rfl
   have c4:=O 4 _ rfl
   simp only[Nat.add_zero] at D
   obtain⟨N,K⟩: ∃N,N=i+1:=⟨_,rfl⟩
   have ei:(i:Int)+1=(N:Int):=by omega
   have U:=zc K
   have ax:(zas ((zE g).take i):Int)+(m.rq.length:Int)=(zas ((zE g).take N):Nat):=by rw[K,zij (rq:=m.rq) (by rw[zE,List.getElem?_map,hm];rfl)];omega
   have aB:=ae.out N
   clear K hm hS O
   go_upto_region 5 with fail
   obtain⟨gl,E⟩: ∃gl,gl=wr.heap.size:=⟨_,rfl⟩
   rw[←E]
   refine zu (R:=fun W=>Bk W gl (mdL (S,m)).toArray 54∧Bk W gx #[.slice M.a g.ps.length M.cap,.slice (some ⟨b1,o1,none⟩) g.ms.length mc,.slice L.a g.ls.length L.cap] 32∧Below w.heap.size w W) ⟨by rw[E];exact heap_alloc_new wr _,X.out.later (zak wr _),zZ q.out (zak wr _)⟩ ?_
   clear E q X D I H c3 c4
   rintro w1 ⟨hy,A,h⟩
   have q:=zc h
   have X:=zc A
   obtain⟨D,I,H,c3,c4,Z⟩:=zj hy
   clear A h hy
   go_wp2
   go_roundg (gk-1)
   case rel=>exact⟨N,rfl,rfl,by have:=U.out;omega,X.out,q.out⟩
   case measure=>omega
  ·have V: ¬(i:Int)<(g.ms.length:Int):=by omega
   obtain rfl:i=g.ms.length:=by omega
   have HT:Hid (zas ((zE g).take g.ms.length)=zas (zE g)):=by show _=_;rw[List.take_of_length_le (by rw[zco];exact Nat.le_refl _)]
   obtain⟨D,I,H,Z⟩:=zn X.out
   by_cases J:g.ls.length=zas ((zE g).take g.ms.length)
   case neg=>
    have HN:Hid (¬zbV (zE g) g.ls):=fun k=>J (k.1.trans HT.out.symm)
    have af: ¬(g.ls.length:Int)=((zas ((zE g).take g.ms.length):Nat):Int):=by omega
    clear J
    go_wp2
    go_ret
    exact⟨zbz HN.out rfl,q.out⟩
   have af:(g.ls.length:Int)=((zas ((zE g).take g.ms.length):Nat):Int):=by omega
   have ar:=zc (J.trans HT.out)
   clear J
   go_wp2
   clear D I H Z af
   have X1:=zc X.out
   have Y:=zc q.out
   clear X q
   go_loopg [32] g.ms.length (fun k aq wr=>∃i:Nat,aq= .int .i64 i∧i+k=g.ms.length∧RqTo g i 0∧Bk wr gx #[.slice M.a g.ps.length M.cap,.slice ma g.ms.length mc,.slice L.a g.ls.length L.cap] 32∧Below w.heap.size w wr)
   case atStart=>exact⟨0,rfl,by omega,(fun f m _ k s _ hf=>by omega),X1.out,Y.out⟩
   case round=>
    obtain⟨i,rfl,hi,ht,A,h⟩:=hrel
    have X:=zc A
    have q:=zc h
    have TO:=zc ht
    clear A h ht X1 Y
    by_cases ab:i<g.ms.length
    ·have V:(i:Int)<(g.ms.length:Int):=by omega
     obtain⟨m,hm⟩: ∃m,g.ms[i]? =some m:=⟨_,List.getElem?_eq_getElem ab⟩
     obtain⟨S,hS⟩:=zec HO.out.len hm
     obtain⟨b1,o1,e1,O⟩:=(HZ.out.later q.out).get hS
     subst e1
     have D:=O 0 _ rfl
     have I:=O 1 _ rfl
     have H:=O 2 _ rfl
     have c3:=O 3 _ rfl
     have c4:=O 4 _ rfl
     simp only[Nat.add_zero] at D
     have RS:=zc (RowS.of (HO.out.md _ (List.mem_of_getElem? hS)).rq)
     have HM:=zc hm
     have ay:m.rq.length≤1048576:=by
      have:=(HG.out.ms m (List.mem_of_getElem? hm)).1
      unfold zbi at this
      omega
     obtain⟨N,K⟩: ∃N,N=i+1:=⟨_,rfl⟩
     have ei:(i:Int)+1=(N:Int):=by omega
     have U:=zc K
     clear K hm hS O
     obtain⟨⟨ra,rc⟩,an,ak,aj,ah,aA⟩:=S
     simp only at D I H c3 c4 RS
     go_upto_region 12 with fail
     obtain⟨gl,E⟩: ∃gl,gl=wr.heap.size:=⟨_,rfl⟩
     rw[←E]
     refine zu (R:=fun W=>Bk W gl #[.slice ra m.rq.length rc,.slice an.a m.im.length an.cap,.slice ak.a m.ep.length ak.cap,.slice aj.a m.st.length aj.cap,.slice ah.a m.ex.length ah.cap] 54∧Bk W gx #[.slice M.a g.ps.length M.cap,.slice (some ⟨b1,o1,none⟩) g.ms.length mc,.slice L.a g.ls.length L.cap] 32∧Below w.heap.size w W) ⟨by rw[E];exact heap_alloc_new wr _,X.out.later (zak wr _),zZ q.out (zak wr _)⟩ ?_
     clear E q X D I H c3 c4
     rintro w1 ⟨hy,A,h⟩
     have Y:=zc h
     have X1:=zc A
     obtain⟨D,I,H,c3,c4,Z⟩:=zj hy
     clear A h hy
     go_wp2
     clear D I H c3 c4 Z
     go_loopg [40] m.rq.length (fun k ap wr=>∃j:Nat,ap= .int .i64 j∧j+k=m.rq.length∧RqTo g i j∧Bk wr gx #[.slice M.a g.ps.length M.cap,.slice (some ⟨b1,o1,none⟩) g.ms.length mc,.slice L.a g.ls.length L.cap] 32∧Below w.heap.size w wr)
     case atStart=>exact⟨0,rfl,by omega,TO.out,X1.out,Y.out⟩
     case round=>
      obtain⟨j,rfl,hj,ht,A,h⟩:=hrel
      have X:=zc A
      have q:=zc h
      have TJ:=zc ht
      clear A h ht X1 Y
      by_cases ao:j<m.rq.length
      ·have am:(j:Int)<(m.rq.length:Int):=by omega
       obtain⟨s,hs⟩: ∃s,m.rq[j]? =some s:=⟨_,List.getElem?_eq_getElem ao⟩
       obtain⟨b2,o2,e2,k2⟩:=(RS.out.later q.out).get hs
       subst e2
       have z0:=k2 0 _ rfl
       simp only[Nat.add_zero,Nat.mul_one] at z0
       have HS:=zc hs
       obtain⟨D,I,H,Z⟩:=zn X.out
       obtain⟨j1,ag⟩: ∃j1,j1=j+1:=⟨_,rfl⟩
       have ej:(j:Int)+1=(j1:Int):=by omega
       have al:=zc ag
       clear ag hs k2
       go_wp2_with fail
       refine (znn base ⟨M,⟨some ⟨b1,o1,none⟩,mc⟩,sv,L⟩ g i s _ (HO.out.later q.out) av).mono ?_
       rintro e w2 ⟨rfl,h⟩
       obtain⟨z,hz⟩: ∃z,z=zbn g.ls ((i:Int),s.toList):=⟨_,rfl⟩
       rw[←hz]
       have ad:=zc hz
       have X2:=zc (X.out.later h)
       have ac:=zc (zZ q.out h)
       clear hz h z0 D I H Z X q
       obtain⟨D,I,H,Z⟩:=zn X2.out
       by_cases h1:z<0
       ·have HN:Hid (¬zbV (zE g) g.ls):=zno HM.out HS.out fun k=>by rw[←ad.out] at k;omega
        go_wp2
        go_ret
        exact⟨zbz HN.out rfl,ac.out⟩
       ·by_cases h2:z<(g.ms.length:Int)
        ·have HK:Hid (RqTo g i j1):=by
          rw[al.out]
          exact TJ.out.next HM.out HS.out (by rw[←ad.out];omega)
         go_wp2
         go_roundg (gk-1)
         case rel=>exact⟨j1,rfl,by have:=al.out;omega,HK.out,X2.out,ac.out⟩
         case measure=>omega
        ·have HN:Hid (¬zbV (zE g) g.ls):=zno HM.out HS.out fun k=>by rw[←ad.out] at k;omega
         go_wp2
         go_ret
         exact⟨zbz HN.out rfl,ac.out⟩
      ·have am: ¬(j:Int)<(m.rq.length:Int):=by omega
       obtain rfl:j=m.rq.length:=by omega
       have HK:Hid (RqTo g N 0):=by rw[U.out];exact TJ.out.row HM.out
       go_wp2
       go_roundg (g.ms.length-N)
       case rel=>exact⟨N,rfl,by have:=U.out;omega,HK.out,X.out,q.out⟩
       case measure=>have:=U.out;omega
    ·have V: ¬(i:Int)<(g.ms.length:Int):=by omega
     obtain rfl:i=g.ms.length:=by omega
     go_wp2
     go_ret
     exact⟨zil (zwN ar.out TO.out) rfl,q.out⟩
end Go.Proofs.YtgcbmogmniahjaaGreat
