/-
  What impl's arePathsOk,areModsOk,askedBy and areLinksOk answer: the walks.
  What impl's askedBy and areLinksOk answer: the walks.
-/
import Derived.Test.YtgcbmogmniahjaaGreatCAcImplPartsToImplClean
import Derived.Test.YtgcbmogmniahjaaGreatCAcSpecTwiceToSpecEarlyA
namespace Go.Proofs.YtgcbmogmniahjaaGreat
set_option maxRecDepth 100000
set_option maxHeartbeats 12800000
open Go.RowKit Go.PlainAid Go.Sort
theorem OwnR.take {w:World} {base n i:Nat} {e:TypeId} {r:Rw} {xs:List Value} (h:OwnR w base e 1 r n xs) (O:i≤n):OwnR w base e 1 r i (xs.take i):=by
 have M:=h.1
 refine⟨by rw[List.length_take];omega,?_⟩
 rcases h.2 with ⟨q,U⟩|⟨g,A,z,q,K,I,N,J,L,H⟩
 ·left
  simp only[Value.slice.injEq] at q
  obtain rfl:i=0:=by omega
  exact⟨by rw[q.1,q.2.2],rfl⟩
 ·right
  simp only[Value.slice.injEq] at q
  refine⟨g,A,z,by rw[q.1,q.2.2],K,I,by omega,J,L,?_⟩
  rw[←H,List.take_take,Nat.min_eq_left (by omega),Nat.mul_one]
theorem RowS.own {w:World} {base:Nat} {r:Rw} {l:List ByteArray} (h:OwnR w base 9 1 r l.length (l.flatMap fun x=>[Value.string x])):OwnR w base 9 1 r l.length (l.map .string):=by rw[zk5];exact h
theorem OwnR.first {w:World} {base i:Nat} {r:Rw} {l:List ByteArray} (h:OwnR w base 9 1 r l.length (l.flatMap fun x=>[Value.string x])) (q:i≤l.length):OwnR w base 9 1 r (l.take i).length ((l.take i).map .string):=by
 have:=(RowS.own h).take q
 rw[←List.map_take] at this
 rw[List.length_take,Nat.min_eq_left q]
 exact this
theorem zwy {h:List ByteArray} {i:Nat} {p:ByteArray} {P:Prop} (q:h.getD i sNone=p) (I: ∀j,j<i→zcc h j) (w: ¬zcc h i→¬P):
  (zaU p=false∧¬P)∨(zaU p=true∧((((zaK p).toList==p.toList)=false∧¬P)∨(((zaK p).toList==p.toList)=true∧((zaS (h.take i) p=true∧¬P)∨(zaS (h.take i) p=false∧∀j,j<i+1→zcc h j))))):=by
 cases A:zaU p with
 |false=>exact .inl ⟨rfl,w fun k=>by rw[zcc,q,A] at k;exact absurd k.1 (by decide)⟩
 |true=>
  refine .inr ⟨rfl,?_⟩
  cases z:((zaK p).toList==p.toList) with
  |false=>exact .inl ⟨rfl,w fun k=>by rw[zcc,q,z] at k;exact absurd k.2.1 (by decide)⟩
  |true=>
   refine .inr ⟨rfl,?_⟩
   cases H:zaS (h.take i) p with
   |true=>exact .inl ⟨rfl,w fun k=>by rw[zcc,q] at k;exact absurd (H.symm.trans k.2.2) (by decide)⟩
   |false=>
    refine .inr ⟨rfl,fun j J=>?_⟩
    by_cases e:j=i
    ·rw[e,zcc,q];exact⟨A,z,H⟩
    ·exact I j (by omega)
theorem zmX (base:Nat) (a:Option Addr) (H:Nat) (q:List ByteArray) (w:World) (h:OwnR w base 9 1 ⟨a,H⟩ q.length (q.flatMap fun x=>[Value.string x])) (hl:q.length≤1000000) (hs: ∀p∈q,p.size≤1048576):
  Calls Tryz.prog 34 #[.slice a q.length H] w fun e w'=>SameOut (∀i,i<q.length→zcc q i) e∧Below w.heap.size w w':=by
 have HO:=zc h
 have HS:=zc hs
 have O:=OwnR.cap h
 simp only at O
 clear h hs
 go_enter Tryz.func34,Tryz.ntmps34
 go_wp2
 go_loopg [7] q.length (fun k s7 wr=>∃i:Nat,s7= .int .i64 i∧i+k=q.length∧(∀j,j<i→zcc q j)∧Below w.heap.size w wr)
 case atStart=>exact⟨0,rfl,by omega,(fun j hj=>absurd hj (Nat.not_lt_zero j)),Below.refl _ _⟩
 case round=>
  obtain⟨i,rfl,hi,ht,K⟩:=hrel
  have TO:=zc ht
  have N:=zc K
  clear ht K
  by_cases M:i<q.length
  ·have X:(i:Int)<(q.length:Int):=by omega
   have ad:(i:Int)≤(H:Int):=by omega
   obtain⟨p,Y⟩: ∃p,q[i]? =some p:=⟨_,List.getElem?_eq_getElem M⟩
   have OW:=zc (HO.out.later N.out)
   obtain⟨b1,o1,e1,k1⟩:=(RowAt.of (f:=fun x=>[Value.string x]) (m:=1) (fun _=>rfl) OW.out).get Y
   simp only at e1
   subst e1
   have c0:=k1 0 _ rfl
   simp only[Nat.add_zero,Nat.mul_one] at c0
   have ac:=HS.out p (List.mem_of_getElem? Y)
   have PD:Hid (q.getD i sNone=p):=by show _=_;rw[List.getD,Y];rfl
   have U:p.size≤9223372036854775807:=by omega
   have aa:(q.take i).length=i:=by rw[List.length_take];omega
   clear Y k1
   obtain⟨Z,L⟩: ∃Z,Z=i+1:=⟨_,rfl⟩
   have ei:(i:Int)+1=(Z:Int):=by omega
   have V:=zc L
   clear L
   have z:=zwy PD.out TO.out (P:=∀i,i<q.length→zcc q i) (fun k h=>k (h i M))
   go_wp2_with fail
   refine (ziV p _ U).mono ?_
   rintro e w1 ⟨rfl,rfl⟩
   rcases z with ⟨h1,A⟩|⟨h1,z⟩
   ·have J:=zc A
    clear A
    rw[h1]
    go_wp2
    go_ret
    exact⟨zbx J.out rfl,N.out⟩
   rw[h1]
   go_wp2_with fail
   refine (zwx p _ U).mono ?_
   rintro e w2 ⟨rfl,K⟩
   have ab:=zc (OW.out.later K)
   have I:=zc (zaf N.out K)
   clear K OW N c0
   rcases z with ⟨h2,A⟩|⟨h2,z⟩
   ·have J:=zc A
    clear A
    go_wp2
    go_ret
    exact⟨zbx J.out rfl,I.out⟩
   have cI:=zgs base ⟨some ⟨b1,o1,none⟩,H⟩ (q.take i) p w2 (ab.out.first (by omega)) (by omega)
   rw[aa] at cI
   have CI:=zc cI
   clear cI
   go_wp2_with fail
   refine CI.out.mono ?_
   rintro e w3 ⟨rfl,rfl⟩
   rcases z with ⟨h3,A⟩|⟨h3,A⟩
   ·have J:=zc A
    clear A
    rw[h3]
    go_wp2
    go_ret
    exact⟨zbx J.out rfl,I.out⟩
   ·have J:=zc A
    clear A
    rw[h3]
    go_wp2
    go_roundg (gk-1)
    case rel=>exact⟨Z,rfl,by have:=V.out;omega,by rw[V.out];exact J.out,I.out⟩
    case measure=>omega
  ·have X: ¬(i:Int)<(q.length:Int):=by omega
   obtain rfl:i=q.length:=by omega
   go_wp2
   go_ret
   exact⟨zic TO.out rfl,N.out⟩
theorem zwz {h:List Md} {i:Nat} {m:Md} (z:h[i]? =some m) (H: ∀(j:Nat) (x:Md),j<i→h[j]? =some x→MOk x∧zar x=0):
  (¬MOk m∧¬zcV h)∨(MOk m∧((¬zar m=0∧¬zcV h)∨(zar m=0∧∀(j:Nat) (x:Md),j<i+1→h[j]? =some x→MOk x∧zar x=0))):=by
 by_cases w:MOk m
 ·refine .inr ⟨w,?_⟩
  by_cases q:zar m=0
  ·refine .inr ⟨q,fun j x I A=>?_⟩
   by_cases e:j=i
   ·rw[e,z] at A;cases A;exact⟨w,q⟩
   ·exact H j x (by omega) A
  ·exact .inl ⟨q,fun k=>q (k m (List.mem_of_getElem? z)).2⟩
 ·exact .inl ⟨w,fun k=>w (k m (List.mem_of_getElem? z)).1⟩
theorem zmY (J:zfI 65) (H:zfJ 66) (base:Nat) (a:Option Addr) (ad:Nat) (U:List Sv) (q:List Md) (w:World) (hu:U.length=q.length) (h:OwnR w base 54 5 ⟨a,ad⟩ q.length ((U.zip q).flatMap mdL)) (af: ∀x∈U.zip q,OwnMd w base x.1 x.2) (hg: ∀m∈q,GdM m) (hl:q.length≤1000000):
  Calls Tryz.prog 35 #[.slice a q.length ad] w fun e w'=>SameOut (zcV q) e∧Below w.heap.size w w':=by
 have HO:=zc (RowAt.of (f:=mdL) (m:=5) (fun _=>rfl) (zeQ hu h))
 have HM:=zc af
 have HG:=zc hg
 have HU:=zc hu
 have CM:=zc J
 have CE:=zc H
 clear h af hg hu J H
 go_enter Tryz.func35,Tryz.ntmps35
 go_wp2
 go_loopg [7] q.length (fun k s7 wr=>∃i:Nat,s7= .int .i64 i∧i+k=q.length∧(∀(j:Nat) (x:Md),j<i→q[j]? =some x→MOk x∧zar x=0)∧Below w.heap.size w wr)
 case atStart=>exact⟨0,rfl,by omega,(fun j x hj=>absurd hj (Nat.not_lt_zero j)),Below.refl _ _⟩
 case round=>
  obtain⟨i,rfl,hi,ht,z⟩:=hrel
  have TO:=zc ht
  have I:=zc z
  clear ht z
  by_cases ah:i<q.length
  ·have ag:(i:Int)<(q.length:Int):=by omega
   obtain⟨m,Y⟩: ∃m,q[i]? =some m:=⟨_,List.getElem?_eq_getElem ah⟩
   obtain⟨S,hS⟩:=zdS HU.out Y
   obtain⟨b1,o1,e1,O⟩:=(HO.out.later I.out).get hS
   subst e1
   have Z:=O 0 _ rfl
   have c1:=O 1 _ rfl
   have c2:=O 2 _ rfl
   have c3:=O 3 _ rfl
   have c4:=O 4 _ rfl
   simp only[Nat.add_zero] at Z
   have V:=zc ((HM.out _ (List.mem_of_getElem? hS)).later I.out)
   have GM:=zc (HG.out m (List.mem_of_getElem? Y))
   have L:=zwz Y TO.out
   clear Y hS O
   obtain⟨i1,aa⟩: ∃i1,i1=i+1:=⟨_,rfl⟩
   have ei:(i:Int)+1=(i1:Int):=by omega
   have ae:=zc aa
   clear aa
   go_upto_region 4 with fail
   obtain⟨gl,N⟩: ∃gl,gl=wr.heap.size:=⟨_,rfl⟩
   rw[←N]
   refine zx (R:=fun W=>Bk W gl (mdL (S,m)).toArray 54∧OwnMd W base S m∧Below w.heap.size w W) ⟨by rw[N];exact heap_alloc_new wr _,V.out.later (zaB wr _),zaf I.out (zaB wr _)⟩ ?_
   clear N I V Z c1 c2 c3 c4
   rintro w1 ⟨A,ho,z⟩
   have X:=zc A
   have V:=zc ho
   have I:=zc z
   clear A ho z
   obtain⟨Z,c1,c2,c3,c4,cf⟩:=zj X.out
   go_wp2_with fail
   refine (CM.out base S m _ V.out GM.out).mono ?_
   rintro e w2 ⟨K,z⟩
   have X2:=zc (X.out.later z)
   have ab:=zc (V.out.later z)
   have M:=zc (zaf I.out z)
   clear z X V I Z c1 c2 c3 c4 cf
   rcases L with ⟨h1,A⟩|⟨h1,L⟩
   ·have HX:=zc A
    clear A
    obtain rfl:=K.of (b:=false) (by simp[h1])
    go_wp2
    go_ret
    exact⟨zbx HX.out rfl,M.out⟩
   obtain rfl:=K.of (b:=true) (by simp[h1])
   clear K
   obtain⟨Z,c1,c2,c3,c4,cf⟩:=zj X2.out
   go_wp2_with fail
   refine (CE.out base S m _ ab.out GM.out h1).mono ?_
   rintro e w3 ⟨rfl,z⟩
   have ac:=zc (zaf M.out z)
   clear z ab M X2 Z c1 c2 c3 c4 cf h1
   rcases L with ⟨h2,A⟩|⟨h2,A⟩
   ·have HX:=zc A
    clear A
    go_wp2
    go_ret
    exact⟨zbx HX.out rfl,ac.out⟩
   ·have HX:=zc A
    clear A
    go_wp2
    go_roundg (gk-1)
    case rel=>exact⟨i1,rfl,by have:=ae.out;omega,by rw[ae.out];exact HX.out,ac.out⟩
    case measure=>omega
  ·have ag: ¬(i:Int)<(q.length:Int):=by omega
   obtain rfl:i=q.length:=by omega
   have HY:Hid (zcV q):=fun m Y=>by
    obtain⟨j,hj⟩:=List.mem_iff_getElem?.1 Y
    exact TO.out j m (List.getElem?_eq_some_iff.1 hj).1 hj
   go_wp2
   go_ret
   exact⟨zic HY.out rfl,I.out⟩
theorem zw0 (x:Lk) (f:Int) (s:ByteArray):(x.frm=f∧(x.spec.toList==s.toList)=true∧zT x=(f,s.toList))∨(x.frm=f∧(x.spec.toList==s.toList)=false∧zT x≠(f,s.toList))∨(¬x.frm=f∧zT x≠(f,s.toList)):=by
 by_cases h:x.frm=f
 ·cases q:(x.spec.toList==s.toList) with
  |true=>exact .inl ⟨h,rfl,by unfold zT;rw[h,eq_of_beq q]⟩
  |false=>exact .inr (.inl ⟨h,rfl,fun e=>by rw[(Prod.mk.inj e).2] at q;simp at q⟩)
 ·exact .inr (.inr ⟨h,fun e=>h (Prod.mk.inj e).1⟩)
theorem zmZ (base:Nat) (G:GS) (g:Gr) (f:Int) (s:ByteArray) (w:World) (ho:GrOwn w base G g) (hl:g.ls.length≤1048576):
  Calls Tryz.prog 67 #[grD G g,.int .i64 f,.string s] w fun e w'=>e= .returned (.int .i64 (zbk g.ls (f,s.toList)))∧Below w.heap.size w w':=by
 have HR:=zc (RowAt.of (f:=lkL) (m:=3) (fun _=>rfl) ho.ls)
 clear ho
 obtain⟨pr,mr,sv,⟨la,lc⟩⟩:=G
 unfold grD
 simp only at HR ⊢
 go_enter Tryz.func67,Tryz.ntmps67
 go_upto_region 1 with fail
 obtain⟨gx,H⟩: ∃gx,gx=w.heap.size:=⟨_,rfl⟩
 rw[←H]
 refine zx (R:=fun W=>Bk W gx #[.slice pr.a g.ps.length pr.cap,.slice mr.a g.ms.length mr.cap,.slice la g.ls.length lc] 32∧Below w.heap.size w W) ⟨by rw[H];exact heap_alloc_new w _,zaB w _⟩ ?_
 rintro W0 ⟨h,q⟩
 have L:=zc q
 obtain⟨V,Y,Z,cf⟩:=zo h
 clear H h q
 go_wp2
 clear V Y Z cf
 go_loopg [12] g.ls.length (fun k ab wr=>∃i:Nat,ab= .int .i64 i∧i+k=g.ls.length∧(∀(j:Nat) (x:Lk),j<i→g.ls[j]? =some x→zT x≠(f,s.toList))∧Below w.heap.size w wr)
 case atStart=>exact⟨0,rfl,by omega,(fun j x O=>absurd O (Nat.not_lt_zero j)),L.out⟩
 case round=>
  obtain⟨i,rfl,hi,ht,q⟩:=hrel
  have TO:=zc ht
  have z:=zc q
  clear ht q L
  by_cases aa:i<g.ls.length
  ·have U:(i:Int)<(g.ls.length:Int):=by omega
   obtain⟨l,A⟩: ∃l,g.ls[i]? =some l:=⟨_,List.getElem?_eq_getElem aa⟩
   obtain⟨b1,o1,e1,X⟩:=(HR.out.later z.out).get A
   subst e1
   have V:=X 0 _ rfl
   have Y:=X 1 _ rfl
   have Z:=X 2 _ rfl
   simp only[Nat.add_zero] at V
   have HL:=zc A
   clear A X
   obtain⟨N,K⟩: ∃N,N=i+1:=⟨_,rfl⟩
   have ei:(i:Int)+1=(N:Int):=by omega
   have M:=zc K
   clear K
   go_upto_region 4 with fail
   obtain⟨gl,I⟩: ∃gl,gl=wr.heap.size:=⟨_,rfl⟩
   rw[←I]
   refine zx (R:=fun W=>Bk W gl #[.int .i64 l.frm,.string l.spec,.int .i64 l.to] 57∧Below w.heap.size w W) ⟨by rw[I];exact heap_alloc_new wr _,zaf z.out (zaB wr _)⟩ ?_
   clear I z V Y Z
   rintro w1 ⟨h,q⟩
   have z:=zc q
   obtain⟨V,Y,Z,cf⟩:=zo h
   clear h q
   rcases zw0 l f s with ⟨h1,h2,J⟩|⟨h1,h2,J⟩|⟨h1,J⟩
   ·have HV:=zc (zp2 HL.out J TO.out)
    clear J
    go_wp2
    go_ret
    exact⟨by rw[HV.out];rfl,z.out⟩
   all_goals (
    have HK:Hid (∀(j:Nat) (x:Lk),j<N→g.ls[j]? =some x→zT x≠(f,s.toList)):=fun j x O h=>by
     by_cases e:j=i
     ·rw[e,HL.out] at h;cases h;exact J
     ·exact TO.out j x (by have:=M.out;omega) h
    clear J
    go_wp2
    go_roundg (gk-1)
    case rel=>exact⟨N,rfl,by have:=M.out;omega,HK.out,z.out⟩
    case measure=>omega)
  ·have U: ¬(i:Int)<(g.ls.length:Int):=by omega
   obtain rfl:i=g.ls.length:=by omega
   have HV:Hid (zbk g.ls (f,s.toList)= -1):=zp1 fun l hl=>by
    obtain⟨j,O⟩:=List.mem_iff_getElem?.1 hl
    exact TO.out j l (List.getElem?_eq_some_iff.1 O).1 O
   go_wp2
   go_ret
   exact⟨by rw[HV.out];rfl,z.out⟩
def RqTo (g:Gr) (i j:Nat):Prop:=∀(f:Nat) (m:Md),g.ms[f]? =some m→∀(k:Nat) (s:ByteArray),m.rq[k]? =some s→f<i∨(f=i∧k<j)→0≤zbk g.ls ((f:Int),s.toList)∧zbk g.ls ((f:Int),s.toList)<(g.ms.length:Int)
theorem RqTo.next {g:Gr} {i j:Nat} {m:Md} {s:ByteArray} (h:RqTo g i j) (z:g.ms[i]? =some m) (H:m.rq[j]? =some s) (A:0≤zbk g.ls ((i:Int),s.toList)∧zbk g.ls ((i:Int),s.toList)<(g.ms.length:Int)):RqTo g i (j+1):=by
 intro f x w k t q I
 by_cases e:f=i∧k=j
 ·obtain⟨rfl,rfl⟩:=e
  rw[z] at w
  cases w
  rw[H] at q
  cases q
  exact A
 ·exact h f x w k t q (by omega)
theorem RqTo.row {g:Gr} {i:Nat} {m:Md} (h:RqTo g i m.rq.length) (z:g.ms[i]? =some m):RqTo g (i+1) 0:=by
 intro f x w k t q A
 by_cases e:f=i
 ·rw[e,z] at w
  cases w
  exact h f m (by rw[e];exact z) k t q (.inr ⟨e,(List.getElem?_eq_some_iff.1 q).1⟩)
 ·exact h f x w k t q (.inl (by omega))
theorem zna {g:Gr} {i j:Nat} {m:Md} {s:ByteArray} (w:g.ms[i]? =some m) (q:m.rq[j]? =some s) (h: ¬(0≤zbk g.ls ((i:Int),s.toList)∧zbk g.ls ((i:Int),s.toList)<(g.ms.length:Int))): ¬zbQ (zC g) g.ls:=fun k=>h (by
 have:=k.2 i m.rq (by rw[zC,List.getElem?_map,w];rfl) s (List.mem_of_getElem? q)
 rw[zck] at this
 exact this)
theorem zw1 {g:Gr} (A:g.ls.length=zaq (zC g)) (h:RqTo g g.ms.length 0):zbQ (zC g) g.ls:=by
 refine⟨A,fun f I q s H=>?_⟩
 rw[zck]
 rw[zC,List.getElem?_map] at q
 cases w:g.ms[f]? with
 |none=>rw[w] at q;cases q
 |some m=>
  rw[w] at q
  cases q
  obtain⟨k,z⟩:=List.mem_iff_getElem?.1 H
  exact h f m w k s z (.inl (List.getElem?_eq_some_iff.1 w).1)
theorem znb (base:Nat) (G:GS) (g:Gr) (w:World) (ho:GrOwn w base G g) (hg:GdG g):
  Calls Tryz.prog 36 #[grD G g] w fun e w'=>SameOut (zbQ (zC g) g.ls) e∧Below w.heap.size w w':=by
 have HO:=zc ho
 have HG:=zc hg
 have aA:=hg.ml
 have aw:=hg.ll
 clear ho hg
 have af:Hid (∀k,zaq ((zC g).take k)≤1048576):=fun k=>Nat.le_trans (zib _ _) HG.out.rq
 obtain⟨O,⟨ma,mc⟩,sv,N⟩:=G
 have HZ:=zc (RowAt.of (f:=mdL) (m:=5) (fun _=>rfl) (zeQ HO.out.len HO.out.ms))
 unfold grD
 simp only at HZ ⊢
 go_enter Tryz.func36,Tryz.ntmps36
 go_upto_region 1 with fail
 obtain⟨gx,ab⟩: ∃gx,gx=w.heap.size:=⟨_,rfl⟩
 rw[←ab]
 refine zx (R:=fun W=>Bk W gx #[.slice O.a g.ps.length O.cap,.slice ma g.ms.length mc,.slice N.a g.ls.length N.cap] 32∧Below w.heap.size w W) ⟨by rw[ab];exact heap_alloc_new w _,zaB w _⟩ ?_
 clear ab
 rintro W0 ⟨A,h⟩
 have X0:=zc A
 have aj:=zc h
 obtain⟨H,K,J,cf⟩:=zo A
 clear A h
 go_wp2
 clear H K J cf
 go_loopg [3,14] g.ms.length (fun k s3 av wr=>∃i:Nat,av= .int .i64 i∧s3= .int .i64 (zaq ((zC g).take i):Nat)∧i+k=g.ms.length∧Bk wr gx #[.slice O.a g.ps.length O.cap,.slice ma g.ms.length mc,.slice N.a g.ls.length N.cap] 32∧Below w.heap.size w wr)
 case atStart=>exact⟨0,rfl,rfl,by omega,X0.out,aj.out⟩
 case round=>
  obtain⟨i,rfl,rfl,hi,A,h⟩:=hrel
  have X:=zc A
  have q:=zc h
  clear A h X0 aj
  have ax:=af.out i
  by_cases ac:i<g.ms.length
  ·have Z:(i:Int)<(g.ms.length:Int):=by omega
   obtain⟨m,hm⟩: ∃m,g.ms[i]? =some m:=⟨_,List.getElem?_eq_getElem ac⟩
   obtain⟨S,hS⟩:=zdS HO.out.len hm
   obtain⟨b1,o1,e1,V⟩:=(HZ.out.later q.out).get hS
   subst e1
   have H:=V 0 _ rfl
   have K:=V 1 _ rfl
   have J:=V 2 _ rfl
   have c3:=V 3 _ rfl
   have c4:=V 4 _ rfl
   simp only[Nat.add_zero] at H
   obtain⟨U,M⟩: ∃U,U=i+1:=⟨_,rfl⟩
   have ei:(i:Int)+1=(U:Int):=by omega
   have Y:=zc M
   have ay:(zaq ((zC g).take i):Int)+(m.rq.length:Int)=(zaq ((zC g).take U):Nat):=by rw[M,zia (rq:=m.rq) (by rw[zC,List.getElem?_map,hm];rfl)];omega
   have aC:=af.out U
   clear M hm hS V
   go_upto_region 5 with fail
   obtain⟨gl,I⟩: ∃gl,gl=wr.heap.size:=⟨_,rfl⟩
   rw[←I]
   refine zx (R:=fun W=>Bk W gl (mdL (S,m)).toArray 54∧Bk W gx #[.slice O.a g.ps.length O.cap,.slice (some ⟨b1,o1,none⟩) g.ms.length mc,.slice N.a g.ls.length N.cap] 32∧Below w.heap.size w W) ⟨by rw[I];exact heap_alloc_new wr _,X.out.later (zaB wr _),zaf q.out (zaB wr _)⟩ ?_
   clear I q X H K J c3 c4
   rintro w1 ⟨hy,A,h⟩
   have q:=zc h
   have X:=zc A
   obtain⟨H,K,J,c3,c4,cf⟩:=zj hy
   clear A h hy
   go_wp2
   go_roundg (gk-1)
   case rel=>exact⟨U,rfl,rfl,by have:=Y.out;omega,X.out,q.out⟩
   case measure=>omega
  ·have Z: ¬(i:Int)<(g.ms.length:Int):=by omega
   obtain rfl:i=g.ms.length:=by omega
   have HT:Hid (zaq ((zC g).take g.ms.length)=zaq (zC g)):=by show _=_;rw[List.take_of_length_le (by rw[zck];exact Nat.le_refl _)]
   obtain⟨H,K,J,cf⟩:=zo X.out
   by_cases L:g.ls.length=zaq ((zC g).take g.ms.length)
   case neg=>
    have HN:Hid (¬zbQ (zC g) g.ls):=fun k=>L (k.1.trans HT.out.symm)
    have ag: ¬(g.ls.length:Int)=((zaq ((zC g).take g.ms.length):Nat):Int):=by omega
    clear L
    go_wp2
    go_ret
    exact⟨zbx HN.out rfl,q.out⟩
   have ag:(g.ls.length:Int)=((zaq ((zC g).take g.ms.length):Nat):Int):=by omega
   have au:=zc (L.trans HT.out)
   clear L
   go_wp2
   clear H K J cf ag
   have X1:=zc X.out
   have aa:=zc q.out
   clear X q
   go_loopg [32] g.ms.length (fun k ar wr=>∃i:Nat,ar= .int .i64 i∧i+k=g.ms.length∧RqTo g i 0∧Bk wr gx #[.slice O.a g.ps.length O.cap,.slice ma g.ms.length mc,.slice N.a g.ls.length N.cap] 32∧Below w.heap.size w wr)
   case atStart=>exact⟨0,rfl,by omega,(fun f m _ k s _ hf=>by omega),X1.out,aa.out⟩
   case round=>
    obtain⟨i,rfl,hi,ht,A,h⟩:=hrel
    have X:=zc A
    have q:=zc h
    have TO:=zc ht
    clear A h ht X1 aa
    by_cases ac:i<g.ms.length
    ·have Z:(i:Int)<(g.ms.length:Int):=by omega
     obtain⟨m,hm⟩: ∃m,g.ms[i]? =some m:=⟨_,List.getElem?_eq_getElem ac⟩
     obtain⟨S,hS⟩:=zdS HO.out.len hm
     obtain⟨b1,o1,e1,V⟩:=(HZ.out.later q.out).get hS
     subst e1
     have H:=V 0 _ rfl
     have K:=V 1 _ rfl
     have J:=V 2 _ rfl
     have c3:=V 3 _ rfl
     have c4:=V 4 _ rfl
     simp only[Nat.add_zero] at H
     have RS:=zc (RowS.of (HO.out.md _ (List.mem_of_getElem? hS)).rq)
     have HM:=zc hm
     have az:m.rq.length≤1048576:=by
      have:=(HG.out.ms m (List.mem_of_getElem? hm)).1
      unfold zbv at this
      omega
     obtain⟨U,M⟩: ∃U,U=i+1:=⟨_,rfl⟩
     have ei:(i:Int)+1=(U:Int):=by omega
     have Y:=zc M
     clear M hm hS V
     obtain⟨⟨ra,rc⟩,ao,al,ak,ai,aB⟩:=S
     simp only at H K J c3 c4 RS
     go_upto_region 12 with fail
     obtain⟨gl,I⟩: ∃gl,gl=wr.heap.size:=⟨_,rfl⟩
     rw[←I]
     refine zx (R:=fun W=>Bk W gl #[.slice ra m.rq.length rc,.slice ao.a m.im.length ao.cap,.slice al.a m.ep.length al.cap,.slice ak.a m.st.length ak.cap,.slice ai.a m.ex.length ai.cap] 54∧Bk W gx #[.slice O.a g.ps.length O.cap,.slice (some ⟨b1,o1,none⟩) g.ms.length mc,.slice N.a g.ls.length N.cap] 32∧Below w.heap.size w W) ⟨by rw[I];exact heap_alloc_new wr _,X.out.later (zaB wr _),zaf q.out (zaB wr _)⟩ ?_
     clear I q X H K J c3 c4
     rintro w1 ⟨hy,A,h⟩
     have aa:=zc h
     have X1:=zc A
     obtain⟨H,K,J,c3,c4,cf⟩:=zj hy
     clear A h hy
     go_wp2
     clear H K J c3 c4 cf
     go_loopg [40] m.rq.length (fun k aq wr=>∃j:Nat,aq= .int .i64 j∧j+k=m.rq.length∧RqTo g i j∧Bk wr gx #[.slice O.a g.ps.length O.cap,.slice (some ⟨b1,o1,none⟩) g.ms.length mc,.slice N.a g.ls.length N.cap] 32∧Below w.heap.size w wr)
     case atStart=>exact⟨0,rfl,by omega,TO.out,X1.out,aa.out⟩
     case round=>
      obtain⟨j,rfl,hj,ht,A,h⟩:=hrel
      have X:=zc A
      have q:=zc h
      have TJ:=zc ht
      clear A h ht X1 aa
      by_cases ap:j<m.rq.length
      ·have an:(j:Int)<(m.rq.length:Int):=by omega
       obtain⟨s,hs⟩: ∃s,m.rq[j]? =some s:=⟨_,List.getElem?_eq_getElem ap⟩
       obtain⟨b2,o2,e2,k2⟩:=(RS.out.later q.out).get hs
       subst e2
       have z0:=k2 0 _ rfl
       simp only[Nat.add_zero,Nat.mul_one] at z0
       have HS:=zc hs
       obtain⟨H,K,J,cf⟩:=zo X.out
       obtain⟨j1,ah⟩: ∃j1,j1=j+1:=⟨_,rfl⟩
       have ej:(j:Int)+1=(j1:Int):=by omega
       have am:=zc ah
       clear ah hs k2
       go_wp2_with fail
       refine (zmZ base ⟨O,⟨some ⟨b1,o1,none⟩,mc⟩,sv,N⟩ g i s _ (HO.out.later q.out) aw).mono ?_
       rintro e w2 ⟨rfl,h⟩
       obtain⟨z,hz⟩: ∃z,z=zbk g.ls ((i:Int),s.toList):=⟨_,rfl⟩
       rw[←hz]
       have ae:=zc hz
       have X2:=zc (X.out.later h)
       have ad:=zc (zaf q.out h)
       clear hz h z0 H K J cf X q
       obtain⟨H,K,J,cf⟩:=zo X2.out
       by_cases h1:z<0
       ·have HN:Hid (¬zbQ (zC g) g.ls):=zna HM.out HS.out fun k=>by rw[←ae.out] at k;omega
        go_wp2
        go_ret
        exact⟨zbx HN.out rfl,ad.out⟩
       ·by_cases h2:z<(g.ms.length:Int)
        ·have HK:Hid (RqTo g i j1):=by
          rw[am.out]
          exact TJ.out.next HM.out HS.out (by rw[←ae.out];omega)
         go_wp2
         go_roundg (gk-1)
         case rel=>exact⟨j1,rfl,by have:=am.out;omega,HK.out,X2.out,ad.out⟩
         case measure=>omega
        ·have HN:Hid (¬zbQ (zC g) g.ls):=zna HM.out HS.out fun k=>by rw[←ae.out] at k;omega
         go_wp2
         go_ret
         exact⟨zbx HN.out rfl,ad.out⟩
      ·have an: ¬(j:Int)<(m.rq.length:Int):=by omega
       obtain rfl:j=m.rq.length:=by omega
       have HK:Hid (RqTo g U 0):=by rw[Y.out];exact TJ.out.row HM.out
       go_wp2
       go_roundg (g.ms.length-U)
       case rel=>exact⟨U,rfl,by have:=Y.out;omega,HK.out,X.out,q.out⟩
       case measure=>have:=Y.out;omega
    ·have Z: ¬(i:Int)<(g.ms.length:Int):=by omega
     obtain rfl:i=g.ms.length:=by omega
     go_wp2
     go_ret
     exact⟨zic (zw1 au.out TO.out) rfl,q.out⟩
end Go.Proofs.YtgcbmogmniahjaaGreat
