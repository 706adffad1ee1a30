/-
 What areExprsUsedOnce answers: the walk.
-/
import Derived.Test.YticdggnnpjachaaGreatCbSpecTreeToImplPrintA
namespace Go.Proofs.YticdggnnpjachaaGreat
set_option maxRecDepth 100000
set_option maxHeartbeats 6400000
open Go.RowKit Go.PlainAid Go.Sort
def UM (w0:World) (base:Nat) (S:Sv) (m:Md) (gu:Nat) (f:Nat→Nat) (w:World):Prop:=
 (w.heap[gu]? =some (.cells #[.slice (some ⟨w0.heap.size+1,0,none⟩) m.ex.length m.ex.length] 151 (0,0))∧w0.heap.size+1<gu)∧
 w.ownsRow (w0.heap.size+1) 3 1 (.slice (some ⟨w0.heap.size+1,0,none⟩) m.ex.length m.ex.length) m.ex.length (zal m.ex.length f)∧OwnMd w base S m∧
 w.heap[w0.heap.size]? =some (.cells #[.slice S.rq.a m.rq.length S.rq.cap,.slice S.im.a m.im.length S.im.cap,.slice S.ep.a m.ep.length S.ep.cap,.slice S.st.a m.st.length S.st.cap,.slice S.ex.a m.ex.length S.ex.cap] 28 (0,0))∧Below w0.heap.size w0 w
theorem UM.later {w0 w A:World} {j:Nat} {S:Sv} {m:Md} {o:Nat} {f:Nat→Nat} (h:UM w0 j S m o f w) (n:Below w.heap.size w A):UM w0 j S m o f A:=by
 obtain⟨⟨z,H⟩,E,I,D,q⟩:=h
 exact⟨⟨(n.block _ (Array.getElem?_eq_some_iff.1 z).1).trans z,H⟩,zfb E n,I.later n,(n.block _ (Array.getElem?_eq_some_iff.1 D).1).trans D,q.trans (n.mono q.size)⟩
theorem UM.used {w0 w:World} {j:Nat} {S:Sv} {m:Md} {n:Nat} {f:Nat→Nat} (h:UM w0 j S m n f w) (i:Nat):UM w0 j S m n (zaF f i) (w.setCell ⟨w0.heap.size+1,i,none⟩ (.int .i64 (f i+1:Nat))):=by
 obtain⟨⟨D,q⟩,o,z,E,A⟩:=h
 exact⟨⟨(zi (by omega)).trans D,q⟩,zfE o i _ rfl,zfF z (zfH o),(zi (by omega)).trans E,A.setCell (Nat.le_succ _) _⟩
theorem UM.congr {w0 w:World} {j:Nat} {S:Sv} {m:Md} {n:Nat} {f g:Nat→Nat} (h:UM w0 j S m n f w) (e: ∀k,k<m.ex.length→f k=g k):UM w0 j S m n g w:=by
 obtain⟨A,o,q,D,z⟩:=h
 exact⟨A,by rw[←zdE e];exact o,q,D,z⟩
theorem zhb {w0:World} {b0:Nat} {S:Sv} {m:Md} {j:Nat} {f:Nat→Nat} (i:Nat) (n:Int) (w:World) (h:UM w0 b0 S m j f w) (D:f i≤17179869184) (q:i<m.ex.length) (z:(i:Int)<n):
  Calls Tryz.prog 112 #[.int .i64 (i:Int),.int .i64 n,.pointer (some ⟨j,0,none⟩)] w fun e o=>e= .returned (.bool true)∧UM w0 b0 S m j (zaF f i) o∧∀k,k≠w0.heap.size+1→o.heap[k]? =w.heap[k]?:=by
 refine (zpa i m.ex.length (w0.heap.size+1) (w0.heap.size+1) j n f w h.1.1 h.2.1 D q z).mono ?_
 rintro e o ⟨rfl,rfl⟩
 exact⟨rfl,h.used i,fun k A=>zi A⟩
theorem zjn {n:Nat} {f:Nat→Nat}:odd n f 0=false↔∀k,k<n→f k=1:=by
 rw[Bool.eq_false_iff]
 constructor
 ·intro h k j
  by_cases e:f k=1
  ·exact e
  ·exact absurd (by
    simp only[odd,List.any_eq_true,List.mem_range,Bool.and_eq_true,decide_eq_true_eq]
    exact⟨k,j,Nat.zero_le _,by rw[bne_iff_ne];omega⟩) h
 ·intro h e
  simp only[odd,List.any_eq_true,List.mem_range,Bool.and_eq_true,decide_eq_true_eq] at e
  obtain⟨k,j,_,o⟩:=e
  rw[bne_iff_ne] at o
  have:=h k j
  omega
theorem zpf (n:Nat) (S:Sv) (m:Md) (w:World) (h:OwnMd w n S m) (hl:m.ex.length≤4294967296) (hs:m.st.length≤4294967296):
  Calls Tryz.prog 56 #[zp S m] w fun e w'=>zfG m e∧Below w.heap.size w w':=by
 obtain⟨i0,hi,aD,aA,aE⟩:=info_parts Tryz.infoInt
 have HH:=zc h
 clear h
 unfold zp
 go_enter Tryz.func56,Tryz.ntmps56
 go_wp2_with (first|(at_make;refine wpList_make_full _ rfl _ _ 151 rfl (w.heap.size+1) 3 i0 (.int .i64 0) 1 Tryz.underlying151 hi aD aA .i64 .i64 _ _ m.ex.length (by rfl) (by rfl) rfl rfl (by rw[aE];omega) (by unfold maxLen;omega) (by rw[zk];omega) ?_))
 intro L M H
 rw[zjj] at M
 have bb:Below (w.heap.size+1) (w.alloc _) L:=⟨H.os,H.tape,H.output,H.size,fun k I=>H.block k (by rw[zk];exact I) (by simp)⟩
 have U:Hid (Below w.heap.size w L):=((Below.refl _ _).alloc (Nat.le_refl _) _).trans (bb.mono (by omega))
 have ac:Hid (L.heap[w.heap.size]? =some (.cells #[.slice S.rq.a m.rq.length S.rq.cap,.slice S.im.a m.im.length S.im.cap,.slice S.ep.a m.ep.length S.ep.cap,.slice S.st.a m.st.length S.st.cap,.slice S.ex.a m.ex.length S.ex.cap] 28 (0,0))):=(bb.block _ (by omega)).trans (heap_alloc_new w _)
 have ay:=zc (HH.out.later U.out)
 have ad:Hid (L.ownsRow (w.heap.size+1) 3 1 (.slice (some ⟨w.heap.size+1,0,none⟩) m.ex.length m.ex.length) m.ex.length (zal m.ex.length (cE m.ex 0))):=by show World.ownsRow _ _ _ _ _ _ _;rw[show zal m.ex.length (cE m.ex 0)=zal m.ex.length (fun _=>0) from zdE fun k _=>by simp[cE,zam]];exact M
 clear M H bb
 have ar:=(zgZ ad.out).2
 go_upto_region 3 with fail
 have HA:Hid (Below L.heap.size L (L.alloc (.cells #[.slice (some ⟨w.heap.size+1,0,none⟩) m.ex.length m.ex.length] 151))):=(Below.refl _ _).alloc (Nat.le_refl _) _
 have hz:=(Array.getElem?_eq_some_iff.1 ac.out).1
 refine zau (R:=UM w n S m L.heap.size (cE m.ex 0)) ⟨⟨heap_alloc_new L _,ar⟩,zfb ad.out HA.out,ay.out.later HA.out,(HA.out.block _ hz).trans ac.out,U.out.trans (HA.out.mono U.out.size)⟩ ?_
 obtain⟨gu,ak⟩: ∃gu,gu=L.heap.size:=⟨_,rfl⟩
 rw[←ak]
 rw[←ak] at ar
 clear HA ac U ay ad hz ak L
 intro W o
 have HM:=zc o
 clear o
 obtain⟨X,c1,Y,c3,Z,cf⟩:=zl HM.out.2.2.2.1
 go_wp2
 go_loopg [17] m.ex.length (fun k i wr=>∃j:Nat,i= .int .i64 j∧j+k=m.ex.length∧AheadTo m.ex j∧UM w n S m gu (cE m.ex j) wr)
 case atStart=>exact⟨0,rfl,by omega,fun i x hi=>absurd hi (Nat.not_lt_zero i),HM.out⟩
 case round=>
  obtain⟨j,rfl,hj,ah,o⟩:=hrel
  have AH:=zc ah
  have E:=zc o
  clear ah o
  clear X c1 Y c3 Z cf
  obtain⟨X,c1,Y,c3,Z,cf⟩:=zl E.out.2.2.2.1
  by_cases z:j<m.ex.length
  ·have ax:(j:Int)<(m.ex.length:Int):=by omega
   obtain⟨g,hg,aG,x0,x1,x2,x3,x4,x5⟩:=E.out.2.2.1.expr z
   have HG:Hid (Value.slice S.ex.a m.ex.length S.ex.cap=Value.slice (some ⟨g,0,none⟩) m.ex.length S.ex.cap):=by show _=_;rw[hg]
   clear hg X c1 Y c3 Z cf
   rw[HG.out]
   have az:=zc (zdz z)
   obtain⟨x,af⟩: ∃x,m.ex.getD j zg=x:=⟨_,rfl⟩
   rw[af] at x0 x1 x2 x3 x4 x5
   have K:Hid (m.ex[j]=x):=az.out.symm.trans af
   clear af az
   obtain⟨O,J⟩: ∃O,O=j+1:=⟨_,rfl⟩
   have ej:(j:Int)+1=(O:Int):=by omega
   have Q:=zc J
   clear J
   go_upto_region 6 with fail
   have HW:Hid (Below wr.heap.size wr (wr.alloc (.cells #[.int .i64 x.kind,.int .i64 x.num,.string x.name,.string x.field,.int .i64 x.l,.int .i64 x.r] 108))):=(Below.refl _ _).alloc (Nat.le_refl _) _
   refine zau (R:=fun W=>W.heap[wr.heap.size]? =some (.cells #[.int .i64 x.kind,.int .i64 x.num,.string x.name,.string x.field,.int .i64 x.l,.int .i64 x.r] 108 (0,0))∧UM w n S m gu (cE m.ex j) W) ⟨heap_alloc_new wr _,E.out.later HW.out⟩ ?_
   have aw:wr.heap.size≠w.heap.size+1:=by have:=(zgZ E.out.2.1).2;omega
   obtain⟨gx,am⟩: ∃gx,gx=wr.heap.size:=⟨_,rfl⟩
   rw[←am]
   rw[←am] at aw
   clear x0 x1 x2 x3 x4 x5 HW
   rintro W ⟨xb,o⟩
   clear am E
   have XB:=zc xb
   have E:=zc o
   clear xb o
   obtain⟨x0,x1,x2,x3,x4,x5,xf⟩:=zv XB.out
   go_wp2_with fail
   refine (zjl x.kind _).mono ?_
   rintro e w2 ⟨rfl,N⟩
   rw[N]
   clear N w2
   cases ht:zW x.kind with
   |false=>
    go_wp2
    rw[←HG.out]
    go_roundg (gk-1)
    case rel=>exact⟨O,rfl,by have:=Q.out;omega,by rw[Q.out];exact AH.out.next z (fun k=>by rw[K.out,ht] at k;cases k),by rw[Q.out];exact E.out.congr fun k _=>zje z (by rw[K.out];exact ht) k⟩
    case measure=>omega
   |true=>
    go_wp2_with fail
    by_cases a1:0≤x.l∧x.l<(j:Int)
    ·obtain⟨ln,an⟩: ∃ln:Nat,x.l=(ln:Int):=⟨x.l.toNat,by omega⟩
     have ai:=zfB (m.ex.take j)
     have av:(m.ex.take j).length≤4294967296:=by rw[List.length_take];omega
     rw[an]
     refine (zhb (w0:=w) (b0:=n) (S:=S) (m:=m) (f:=cE m.ex j) ln (j:Int) W E.out (by have:=ai (ln:Int);unfold cE;omega) (by omega) (by omega)).mono ?_
     rintro e W2 ⟨rfl,aa,I⟩
     have q:=zc aa
     have aC:=zc ((I gx aw).trans XB.out)
     clear aa I x0 x1 x2 x3 x4 x5 xf
     obtain⟨x0,x1,x2,x3,x4,x5,xf⟩:=zv aC.out
     go_wp2_with fail
     by_cases a2:0≤x.r∧x.r<(j:Int)
     ·obtain⟨rn,aj⟩: ∃rn:Nat,x.r=(rn:Int):=⟨x.r.toNat,by omega⟩
      rw[aj]
      refine (zhb (w0:=w) (b0:=n) (S:=S) (m:=m) (f:=zaF (cE m.ex j) ln) rn (j:Int) W2 q.out (by have:=ai (rn:Int);unfold zaF cE;split<;>omega) (by omega) (by omega)).mono ?_
      rintro e W3 ⟨rfl,A,I⟩
      have ag:=zc A
      have ap:Hid (∀k:Nat,zaF (zaF (cE m.ex j) ln) rn k=cE m.ex (j+1) k):=fun k=>by have:=zjd z (by rw[K.out];exact ht) (by rw[K.out];omega) (by rw[K.out];omega) k;rw[K.out,an,aj] at this;exact this
      have aB:Hid (AheadTo m.ex (j+1)):=AH.out.next z (fun _=>by rw[K.out];omega)
      clear A I x0 x1 x2 x3 x4 x5 xf an aj a1 a2 ai av
      go_wp2
      rw[←HG.out]
      go_roundg (gk-1)
      case rel=>exact⟨O,rfl,by have:=Q.out;omega,by rw[Q.out];exact aB.out,by rw[Q.out];exact ag.out.congr fun k _=>ap.out k⟩
      case measure=>omega
     ·refine (zha x.r (j:Int) _ W2 a2).mono ?_
      rintro e w3 ⟨rfl,N⟩
      rw[N]
      clear N w3
      go_wp2
      go_ret
      exact⟨zc4 (fun (t:Tree m)=>absurd t.ahead (AheadTo.not z (by rw[K.out];exact ht) (by rw[K.out];omega))),q.out.2.2.2.2⟩
    ·refine (zha x.l (j:Int) _ W a1).mono ?_
     rintro e w2 ⟨rfl,N⟩
     rw[N]
     clear N w2
     go_wp2
     go_ret
     exact⟨zc4 (fun (t:Tree m)=>absurd t.ahead (AheadTo.not z (by rw[K.out];exact ht) (by rw[K.out];omega))),E.out.2.2.2.2⟩
  ·have ax: ¬(j:Int)<(m.ex.length:Int):=by omega
   obtain rfl:j=m.ex.length:=by omega
   have HA:=zc AH.out.all
   have HC:Hid (UM w n S m gu (cS m 0) wr):=E.out.congr fun k _=>by simp[cE,cS,zaG]
   go_wp2
   go_loopg [44] m.st.length (fun k i wr=>∃j:Nat,i= .int .i64 j∧j+k=m.st.length∧(∀s∈m.st.take j,0≤s.expr∧s.expr<(m.ex.length:Int))∧UM w n S m gu (cS m j) wr)
   case atStart=>exact⟨0,rfl,by omega,(fun s hs=>by simp at hs),HC.out⟩
   case round=>
    obtain⟨j,rfl,aF,ah,o⟩:=hrel
    have AS:=zc ah
    have q:=zc o
    clear ah o X c1 Y c3 Z cf
    obtain⟨X,c1,Y,c3,Z,cf⟩:=zl q.out.2.2.2.1
    by_cases D:j<m.st.length
    ·have al:(j:Int)<(m.st.length:Int):=by omega
     obtain⟨s,ao⟩: ∃s,m.st[j]? =some s:=⟨_,List.getElem?_eq_getElem D⟩
     obtain⟨g,hg,V⟩:=OwnR.elem (f:=smL) (m:=3) (fun _=>rfl) q.out.2.2.1.st ao
     have k0:=V 0 (by omega)
     have k1:=V 1 (by omega)
     have k2:=V 2 (by omega)
     simp only[smL,Nat.add_zero,List.getElem?_cons_zero,List.getElem?_cons_succ] at k0 k1 k2
     have HG:Hid (Value.slice S.st.a m.st.length S.st.cap=Value.slice (some ⟨g,0,none⟩) m.st.length S.st.cap):=by show _=_;rw[hg]
     obtain⟨_,ab⟩:=List.getElem?_eq_some_iff.1 ao
     have HS:Hid (m.st[j]=s):=ab
     clear hg V ao ab
     rw[HG.out]
     obtain⟨O,J⟩: ∃O,O=j+1:=⟨_,rfl⟩
     have ej:(j:Int)+1=(O:Int):=by omega
     have Q:=zc J
     clear J
     go_upto_region 12 with fail
     have HW:Hid (Below wr.heap.size wr (wr.alloc (.cells #[.int .i64 s.kind,.string s.name,.int .i64 s.expr] 106))):=(Below.refl _ _).alloc (Nat.le_refl _) _
     refine zau (R:=fun W=>W.heap[wr.heap.size]? =some (.cells #[.int .i64 s.kind,.string s.name,.int .i64 s.expr] 106 (0,0))∧UM w n S m gu (cS m j) W) ⟨heap_alloc_new wr _,q.out.later HW.out⟩ ?_
     clear k0 k1 k2 HW X c1 Y c3 Z cf
     rintro W ⟨xb,o⟩
     have E:=zc o
     obtain⟨k0,k1,k2,kf⟩:=zb2 xb
     clear o xb
     obtain⟨X,c1,Y,c3,Z,cf⟩:=zl E.out.2.2.2.1
     go_wp2_with fail
     by_cases a1:0≤s.expr∧s.expr<(m.ex.length:Int)
     ·obtain⟨en,ae⟩: ∃en:Nat,s.expr=(en:Int):=⟨s.expr.toNat,by omega⟩
      have aq:Hid (∀s∈m.st.take (j+1),0≤s.expr∧s.expr<(m.ex.length:Int)):=by
       intro y hy
       rw[List.take_succ_eq_append_getElem D,List.mem_append] at hy
       rcases hy with hy|hy
       ·exact AS.out y hy
       ·simp only[List.mem_singleton] at hy
        rw[hy,HS.out]
        omega
      have ap:Hid (∀k:Nat,zaF (cS m j) en k=cS m (j+1) k):=fun k=>by have:=zjf (ex:=m.ex) D (by rw[HS.out];omega) k;rw[HS.out,ae] at this;exact this
      rw[ae]
      refine (zhb (w0:=w) (b0:=n) (S:=S) (m:=m) (f:=cS m j) en _ W E.out (by unfold cS;have:=zfB m.ex (en:Int);have:=zjc (m.st.take j) (en:Int);rw[List.length_take] at this;omega) (by omega) (by omega)).mono ?_
      rintro e W2 ⟨rfl,A,I⟩
      have ag:=zc A
      clear A I k0 k1 k2 kf X c1 Y c3 Z cf ae a1
      go_wp2
      rw[←HG.out]
      go_roundg (gk-1)
      case rel=>exact⟨O,rfl,by have:=Q.out;omega,by rw[Q.out];exact aq.out,by rw[Q.out];exact ag.out.congr fun k _=>ap.out k⟩
      case measure=>omega
     ·refine (zha s.expr _ _ W a1).mono ?_
      rintro e w3 ⟨rfl,N⟩
      rw[N]
      clear N w3
      go_wp2
      go_ret
      exact⟨zc4 (fun (t:Tree m)=>by have:=t.stm _ (List.getElem_mem D);rw[HS.out] at this;omega),E.out.2.2.2.2⟩
    ·have al: ¬(j:Int)<(m.st.length:Int):=by omega
     obtain rfl:j=m.st.length:=by omega
     have aq:Hid (∀s∈m.st,0≤s.expr∧s.expr<(m.ex.length:Int)):=by have:=AS.out;rw[List.take_length] at this;exact this
     obtain⟨t0,tf⟩:=zjm q.out.1.1
     go_wp2_with fail
     refine (zpe (w.heap.size+1) (w.heap.size+1) m.ex.length (cS m m.st.length) _ q.out.2.1 hl).mono ?_
     rintro e w3 ⟨rfl,hb⟩
     have au:Hid (Below w.heap.size w w3):=q.out.2.2.2.2.trans (hb.mono q.out.2.2.2.2.size)
     clear hb
     cases ho:odd m.ex.length (cS m m.st.length) 0 with
     |true=>
      go_wp2
      go_ret
      exact⟨zc4 (fun (t:Tree m)=>by
       have:=zjn.2 (fun k I=>by have:=t.once k I;show cS m m.st.length k=1;unfold cS;rw[List.take_length];omega)
       rw[ho] at this
       cases this),au.out⟩
     |false=>
      go_wp2
      go_ret
      exact⟨zjk ⟨HA.out,aq.out,fun k I=>by have:=zjn.1 ho k I;unfold cS at this;rw[List.take_length] at this;exact this⟩,au.out⟩
end Go.Proofs.YticdggnnpjachaaGreat