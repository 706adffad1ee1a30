/-
 What areExprsUsedOnce answers: the walk.
-/
import Derived.Test.YticdggnnpjachaaGreatCcSpecTreeToImplPrintA
namespace Go.Proofs.YticdggnnpjachaaGreat
set_option maxRecDepth 100000
set_option maxHeartbeats 6400000
open Go.RowKit Go.PlainAid Go.Sort
def UM (w0:World) (base:Nat) (S:Sv) (m:Md) (gu:Nat) (f:Nat→Nat) (w:World):Prop:=
 (w.heap[gu]? =some (.cells #[.slice (some ⟨w0.heap.size+1,0,none⟩) m.ex.length m.ex.length] 151 (0,0))∧w0.heap.size+1<gu)∧
 w.ownsRow (w0.heap.size+1) 3 1 (.slice (some ⟨w0.heap.size+1,0,none⟩) m.ex.length m.ex.length) m.ex.length (zai m.ex.length f)∧OwnMd w base S m∧
 w.heap[w0.heap.size]? =some (.cells #[.slice S.rq.a m.rq.length S.rq.cap,.slice S.im.a m.im.length S.im.cap,.slice S.ep.a m.ep.length S.ep.cap,.slice S.st.a m.st.length S.st.cap,.slice S.ex.a m.ex.length S.ex.cap] 28 (0,0))∧Below w0.heap.size w0 w
theorem UM.later {w0 w o:World} {j:Nat} {S:Sv} {m:Md} {z:Nat} {f:Nat→Nat} (h:UM w0 j S m z f w) (n:Below w.heap.size w o):UM w0 j S m z f o:=by
 obtain⟨⟨D,I⟩,E,H,A,q⟩:=h
 exact⟨⟨(n.block _ (Array.getElem?_eq_some_iff.1 D).1).trans D,I⟩,zez E n,H.later n,(n.block _ (Array.getElem?_eq_some_iff.1 A).1).trans A,q.trans (n.mono q.size)⟩
theorem UM.used {w0 w:World} {j:Nat} {S:Sv} {m:Md} {n:Nat} {f:Nat→Nat} (h:UM w0 j S m n f w) (i:Nat):UM w0 j S m n (za9 f i) (w.setCell ⟨w0.heap.size+1,i,none⟩ (.int .i64 (f i+1:Nat))):=by
 obtain⟨⟨D,E⟩,o,A,z,q⟩:=h
 exact⟨⟨(zp (by omega)).trans D,E⟩,zfk o i _ rfl,zfl A (zfn o),(zp (by omega)).trans z,q.setCell (Nat.le_succ _) _⟩
theorem UM.congr {w0 w:World} {j:Nat} {S:Sv} {m:Md} {n:Nat} {f g:Nat→Nat} (h:UM w0 j S m n f w) (e: ∀k,k<m.ex.length→f k=g k):UM w0 j S m n g w:=by
 obtain⟨D,q,A,z,o⟩:=h
 exact⟨D,by rw[←zdq e];exact q,A,z,o⟩
theorem zge {w0:World} {b0:Nat} {S:Sv} {m:Md} {j:Nat} {f:Nat→Nat} (i:Nat) (n:Int) (w:World) (h:UM w0 b0 S m j f w) (D:f i≤17179869184) (q:i<m.ex.length) (z:(i:Int)<n):
  Calls Tryz.prog 112 #[.int .i64 (i:Int),.int .i64 n,.pointer (some ⟨j,0,none⟩)] w fun e o=>e= .returned (.bool true)∧UM w0 b0 S m j (za9 f i) o∧∀k,k≠w0.heap.size+1→o.heap[k]? =w.heap[k]?:=by
 refine (zmg i m.ex.length (w0.heap.size+1) (w0.heap.size+1) j n f w h.1.1 h.2.1 D q z).mono ?_
 rintro e o ⟨rfl,rfl⟩
 exact⟨rfl,h.used i,fun k A=>zp A⟩
theorem zhW {n:Nat} {f:Nat→Nat}:odd n f 0=false↔∀k,k<n→f k=1:=by
 rw[Bool.eq_false_iff]
 constructor
 ·intro h k j
  by_cases e:f k=1
  ·exact e
  ·exact absurd (by
    simp only[odd,List.any_eq_true,List.mem_range,Bool.and_eq_true,decide_eq_true_eq]
    exact⟨k,j,Nat.zero_le _,by rw[bne_iff_ne];omega⟩) h
 ·intro h e
  simp only[odd,List.any_eq_true,List.mem_range,Bool.and_eq_true,decide_eq_true_eq] at e
  obtain⟨k,j,_,o⟩:=e
  rw[bne_iff_ne] at o
  have:=h k j
  omega
theorem zml (n:Nat) (S:Sv) (m:Md) (w:World) (h:OwnMd w n S m) (hl:m.ex.length≤4294967296) (hs:m.st.length≤4294967296):
  Calls Tryz.prog 56 #[zt S m] w fun e w'=>zfm m e∧Below w.heap.size w w':=by
 obtain⟨i0,hi,aA,aD,aB⟩:=info_parts Tryz.infoInt
 have HH:=zc h
 clear h
 unfold zt
 go_enter Tryz.func56,Tryz.ntmps56
 go_wp2_with (first|(at_make;refine wpList_make_full _ rfl _ _ 151 rfl (w.heap.size+1) 3 i0 (.int .i64 0) 1 Tryz.underlying151 hi aA aD .i64 .i64 _ _ m.ex.length (by rfl) (by rfl) rfl rfl (by rw[aB];omega) (by unfold maxLen;omega) (by rw[zj];omega) ?_))
 intro N K H
 rw[zhS] at K
 have bb:Below (w.heap.size+1) (w.alloc _) N:=⟨H.os,H.tape,H.output,H.size,fun k I=>H.block k (by rw[zj];exact I) (by simp)⟩
 have V:Hid (Below w.heap.size w N):=((Below.refl _ _).alloc (Nat.le_refl _) _).trans (bb.mono (by omega))
 have al:Hid (N.heap[w.heap.size]? =some (.cells #[.slice S.rq.a m.rq.length S.rq.cap,.slice S.im.a m.im.length S.im.cap,.slice S.ep.a m.ep.length S.ep.cap,.slice S.st.a m.st.length S.st.cap,.slice S.ex.a m.ex.length S.ex.cap] 28 (0,0))):=(bb.block _ (by omega)).trans (heap_alloc_new w _)
 have ax:=zc (HH.out.later V.out)
 have ad:Hid (N.ownsRow (w.heap.size+1) 3 1 (.slice (some ⟨w.heap.size+1,0,none⟩) m.ex.length m.ex.length) m.ex.length (zai m.ex.length (cE m.ex 0))):=by show World.ownsRow _ _ _ _ _ _ _;rw[show zai m.ex.length (cE m.ex 0)=zai m.ex.length (fun _=>0) from zdq fun k _=>by simp[cE,zaj]];exact K
 clear K H bb
 have aw:=(zgc ad.out).2
 go_upto_region 3 with fail
 have HA:Hid (Below N.heap.size N (N.alloc (.cells #[.slice (some ⟨w.heap.size+1,0,none⟩) m.ex.length m.ex.length] 151))):=(Below.refl _ _).alloc (Nat.le_refl _) _
 have hz:=(Array.getElem?_eq_some_iff.1 al.out).1
 refine zah (R:=UM w n S m N.heap.size (cE m.ex 0)) ⟨⟨heap_alloc_new N _,aw⟩,zez ad.out HA.out,ax.out.later HA.out,(HA.out.block _ hz).trans al.out,V.out.trans (HA.out.mono V.out.size)⟩ ?_
 obtain⟨gu,ae⟩: ∃gu,gu=N.heap.size:=⟨_,rfl⟩
 rw[←ae]
 rw[←ae] at aw
 clear HA al V ax ad hz ae N
 intro W o
 have HM:=zc o
 clear o
 obtain⟨c0,Z,c2,Y,c4,cf⟩:=zk HM.out.2.2.2.1
 go_wp2
 go_loopg [17] m.ex.length (fun k i wr=>∃j:Nat,i= .int .i64 j∧j+k=m.ex.length∧AheadTo m.ex j∧UM w n S m gu (cE m.ex j) wr)
 case atStart=>exact⟨0,rfl,by omega,fun i x hi=>absurd hi (Nat.not_lt_zero i),HM.out⟩
 case round=>
  obtain⟨j,rfl,hj,ah,o⟩:=hrel
  have AH:=zc ah
  have D:=zc o
  clear ah o
  clear c0 Z c2 Y c4 cf
  obtain⟨c0,Z,c2,Y,c4,cf⟩:=zk D.out.2.2.2.1
  by_cases z:j<m.ex.length
  ·have av:(j:Int)<(m.ex.length:Int):=by omega
   obtain⟨g,hg,aG,x0,x1,x2,x3,x4,x5⟩:=D.out.2.2.1.expr z
   have HG:Hid (Value.slice S.ex.a m.ex.length S.ex.cap=Value.slice (some ⟨g,0,none⟩) m.ex.length S.ex.cap):=by show _=_;rw[hg]
   clear hg c0 Z c2 Y c4 cf
   rw[HG.out]
   have ar:=zc (zdf z)
   obtain⟨x,ac⟩: ∃x,m.ex.getD j zf=x:=⟨_,rfl⟩
   rw[ac] at x0 x1 x2 x3 x4 x5
   have L:Hid (m.ex[j]=x):=ar.out.symm.trans ac
   clear ac ar
   obtain⟨O,J⟩: ∃O,O=j+1:=⟨_,rfl⟩
   have ej:(j:Int)+1=(O:Int):=by omega
   have U:=zc J
   clear J
   go_upto_region 6 with fail
   have HW:Hid (Below wr.heap.size wr (wr.alloc (.cells #[.int .i64 x.kind,.int .i64 x.num,.string x.name,.string x.field,.int .i64 x.l,.int .i64 x.r] 108))):=(Below.refl _ _).alloc (Nat.le_refl _) _
   refine zah (R:=fun W=>W.heap[wr.heap.size]? =some (.cells #[.int .i64 x.kind,.int .i64 x.num,.string x.name,.string x.field,.int .i64 x.l,.int .i64 x.r] 108 (0,0))∧UM w n S m gu (cE m.ex j) W) ⟨heap_alloc_new wr _,D.out.later HW.out⟩ ?_
   have au:wr.heap.size≠w.heap.size+1:=by have:=(zgc D.out.2.1).2;omega
   obtain⟨gx,ap⟩: ∃gx,gx=wr.heap.size:=⟨_,rfl⟩
   rw[←ap]
   rw[←ap] at au
   clear x0 x1 x2 x3 x4 x5 HW
   rintro W ⟨xb,o⟩
   clear ap D
   have XB:=zc xb
   have D:=zc o
   clear xb o
   obtain⟨x0,x1,x2,x3,x4,x5,xf⟩:=zu XB.out
   go_wp2_with fail
   refine (zhU x.kind _).mono ?_
   rintro e w2 ⟨rfl,M⟩
   rw[M]
   clear M w2
   cases ht:zT x.kind with
   |false=>
    go_wp2
    rw[←HG.out]
    go_roundg (gk-1)
    case rel=>exact⟨O,rfl,by have:=U.out;omega,by rw[U.out];exact AH.out.next z (fun k=>by rw[L.out,ht] at k;cases k),by rw[U.out];exact D.out.congr fun k _=>zhM z (by rw[L.out];exact ht) k⟩
    case measure=>omega
   |true=>
    go_wp2_with fail
    by_cases a1:0≤x.l∧x.l<(j:Int)
    ·obtain⟨ln,aq⟩: ∃ln:Nat,x.l=(ln:Int):=⟨x.l.toNat,by omega⟩
     have aj:=zfh (m.ex.take j)
     have az:(m.ex.take j).length≤4294967296:=by rw[List.length_take];omega
     rw[aq]
     refine (zge (w0:=w) (b0:=n) (S:=S) (m:=m) (f:=cE m.ex j) ln (j:Int) W D.out (by have:=aj (ln:Int);unfold cE;omega) (by omega) (by omega)).mono ?_
     rintro e W2 ⟨rfl,aa,I⟩
     have q:=zc aa
     have aE:=zc ((I gx au).trans XB.out)
     clear aa I x0 x1 x2 x3 x4 x5 xf
     obtain⟨x0,x1,x2,x3,x4,x5,xf⟩:=zu aE.out
     go_wp2_with fail
     by_cases a2:0≤x.r∧x.r<(j:Int)
     ·obtain⟨rn,ak⟩: ∃rn:Nat,x.r=(rn:Int):=⟨x.r.toNat,by omega⟩
      rw[ak]
      refine (zge (w0:=w) (b0:=n) (S:=S) (m:=m) (f:=za9 (cE m.ex j) ln) rn (j:Int) W2 q.out (by have:=aj (rn:Int);unfold za9 cE;split<;>omega) (by omega) (by omega)).mono ?_
      rintro e W3 ⟨rfl,A,I⟩
      have am:=zc A
      have ao:Hid (∀k:Nat,za9 (za9 (cE m.ex j) ln) rn k=cE m.ex (j+1) k):=fun k=>by have:=zhL z (by rw[L.out];exact ht) (by rw[L.out];omega) (by rw[L.out];omega) k;rw[L.out,aq,ak] at this;exact this
      have aC:Hid (AheadTo m.ex (j+1)):=AH.out.next z (fun _=>by rw[L.out];omega)
      clear A I x0 x1 x2 x3 x4 x5 xf aq ak a1 a2 aj az
      go_wp2
      rw[←HG.out]
      go_roundg (gk-1)
      case rel=>exact⟨O,rfl,by have:=U.out;omega,by rw[U.out];exact aC.out,by rw[U.out];exact am.out.congr fun k _=>ao.out k⟩
      case measure=>omega
     ·refine (zgd x.r (j:Int) _ W2 a2).mono ?_
      rintro e w3 ⟨rfl,M⟩
      rw[M]
      clear M w3
      go_wp2
      go_ret
      exact⟨zcq (fun (t:Tree m)=>absurd t.ahead (AheadTo.not z (by rw[L.out];exact ht) (by rw[L.out];omega))),q.out.2.2.2.2⟩
    ·refine (zgd x.l (j:Int) _ W a1).mono ?_
     rintro e w2 ⟨rfl,M⟩
     rw[M]
     clear M w2
     go_wp2
     go_ret
     exact⟨zcq (fun (t:Tree m)=>absurd t.ahead (AheadTo.not z (by rw[L.out];exact ht) (by rw[L.out];omega))),D.out.2.2.2.2⟩
  ·have av: ¬(j:Int)<(m.ex.length:Int):=by omega
   obtain rfl:j=m.ex.length:=by omega
   have HA:=zc AH.out.all
   have HC:Hid (UM w n S m gu (cS m 0) wr):=D.out.congr fun k _=>by simp[cE,cS,zaB]
   go_wp2
   go_loopg [44] m.st.length (fun k i wr=>∃j:Nat,i= .int .i64 j∧j+k=m.st.length∧(∀s∈m.st.take j,0≤s.expr∧s.expr<(m.ex.length:Int))∧UM w n S m gu (cS m j) wr)
   case atStart=>exact⟨0,rfl,by omega,(fun s hs=>by simp at hs),HC.out⟩
   case round=>
    obtain⟨j,rfl,aF,ah,o⟩:=hrel
    have AS:=zc ah
    have q:=zc o
    clear ah o c0 Z c2 Y c4 cf
    obtain⟨c0,Z,c2,Y,c4,cf⟩:=zk q.out.2.2.2.1
    by_cases E:j<m.st.length
    ·have ai:(j:Int)<(m.st.length:Int):=by omega
     obtain⟨s,an⟩: ∃s,m.st[j]? =some s:=⟨_,List.getElem?_eq_getElem E⟩
     obtain⟨g,hg,X⟩:=OwnR.elem (f:=smL) (m:=3) (fun _=>rfl) q.out.2.2.1.st an
     have k0:=X 0 (by omega)
     have k1:=X 1 (by omega)
     have k2:=X 2 (by omega)
     simp only[smL,Nat.add_zero,List.getElem?_cons_zero,List.getElem?_cons_succ] at k0 k1 k2
     have HG:Hid (Value.slice S.st.a m.st.length S.st.cap=Value.slice (some ⟨g,0,none⟩) m.st.length S.st.cap):=by show _=_;rw[hg]
     obtain⟨_,ab⟩:=List.getElem?_eq_some_iff.1 an
     have HS:Hid (m.st[j]=s):=ab
     clear hg X an ab
     rw[HG.out]
     obtain⟨O,J⟩: ∃O,O=j+1:=⟨_,rfl⟩
     have ej:(j:Int)+1=(O:Int):=by omega
     have U:=zc J
     clear J
     go_upto_region 12 with fail
     have HW:Hid (Below wr.heap.size wr (wr.alloc (.cells #[.int .i64 s.kind,.string s.name,.int .i64 s.expr] 106))):=(Below.refl _ _).alloc (Nat.le_refl _) _
     refine zah (R:=fun W=>W.heap[wr.heap.size]? =some (.cells #[.int .i64 s.kind,.string s.name,.int .i64 s.expr] 106 (0,0))∧UM w n S m gu (cS m j) W) ⟨heap_alloc_new wr _,q.out.later HW.out⟩ ?_
     clear k0 k1 k2 HW c0 Z c2 Y c4 cf
     rintro W ⟨xb,o⟩
     have D:=zc o
     obtain⟨k0,k1,k2,kf⟩:=zbt xb
     clear o xb
     obtain⟨c0,Z,c2,Y,c4,cf⟩:=zk D.out.2.2.2.1
     go_wp2_with fail
     by_cases a1:0≤s.expr∧s.expr<(m.ex.length:Int)
     ·obtain⟨en,ag⟩: ∃en:Nat,s.expr=(en:Int):=⟨s.expr.toNat,by omega⟩
      have af:Hid (∀s∈m.st.take (j+1),0≤s.expr∧s.expr<(m.ex.length:Int)):=by
       intro y hy
       rw[List.take_succ_eq_append_getElem E,List.mem_append] at hy
       rcases hy with hy|hy
       ·exact AS.out y hy
       ·simp only[List.mem_singleton] at hy
        rw[hy,HS.out]
        omega
      have ao:Hid (∀k:Nat,za9 (cS m j) en k=cS m (j+1) k):=fun k=>by have:=zhN (ex:=m.ex) E (by rw[HS.out];omega) k;rw[HS.out,ag] at this;exact this
      rw[ag]
      refine (zge (w0:=w) (b0:=n) (S:=S) (m:=m) (f:=cS m j) en _ W D.out (by unfold cS;have:=zfh m.ex (en:Int);have:=zhK (m.st.take j) (en:Int);rw[List.length_take] at this;omega) (by omega) (by omega)).mono ?_
      rintro e W2 ⟨rfl,A,I⟩
      have am:=zc A
      clear A I k0 k1 k2 kf c0 Z c2 Y c4 cf ag a1
      go_wp2
      rw[←HG.out]
      go_roundg (gk-1)
      case rel=>exact⟨O,rfl,by have:=U.out;omega,by rw[U.out];exact af.out,by rw[U.out];exact am.out.congr fun k _=>ao.out k⟩
      case measure=>omega
     ·refine (zgd s.expr _ _ W a1).mono ?_
      rintro e w3 ⟨rfl,M⟩
      rw[M]
      clear M w3
      go_wp2
      go_ret
      exact⟨zcq (fun (t:Tree m)=>by have:=t.stm _ (List.getElem_mem E);rw[HS.out] at this;omega),D.out.2.2.2.2⟩
    ·have ai: ¬(j:Int)<(m.st.length:Int):=by omega
     obtain rfl:j=m.st.length:=by omega
     have af:Hid (∀s∈m.st,0≤s.expr∧s.expr<(m.ex.length:Int)):=by have:=AS.out;rw[List.take_length] at this;exact this
     obtain⟨t0,tf⟩:=zhV q.out.1.1
     go_wp2_with fail
     refine (zmk (w.heap.size+1) (w.heap.size+1) m.ex.length (cS m m.st.length) _ q.out.2.1 hl).mono ?_
     rintro e w3 ⟨rfl,hb⟩
     have ay:Hid (Below w.heap.size w w3):=q.out.2.2.2.2.trans (hb.mono q.out.2.2.2.2.size)
     clear hb
     cases ho:odd m.ex.length (cS m m.st.length) 0 with
     |true=>
      go_wp2
      go_ret
      exact⟨zcq (fun (t:Tree m)=>by
       have:=zhW.2 (fun k I=>by have:=t.once k I;show cS m m.st.length k=1;unfold cS;rw[List.take_length];omega)
       rw[ho] at this
       cases this),ay.out⟩
     |false=>
      go_wp2
      go_ret
      exact⟨zhT ⟨HA.out,af.out,fun k I=>by have:=zhW.1 ho k I;unfold cS at this;rw[List.take_length] at this;exact this⟩,ay.out⟩
end Go.Proofs.YticdggnnpjachaaGreat